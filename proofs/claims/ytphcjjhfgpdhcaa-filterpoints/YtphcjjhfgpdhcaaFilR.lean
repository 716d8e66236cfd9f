/- The plain mathematics of tables: what the statements on filters say of them. -/
import Derived.Test.YtphcjjhfgpdhcaaFilQ
namespace Rm
open Go Go.RowKit
theorem bitT_or (T U : Nat → Nat) (t n : Int) : bitT (fun k => T k ||| U k) t n = (bitT T t n || bitT U t n) := by
  unfold bitT
  rw [Nat.testBit_or]
  cases pointB t n <;> simp
theorem bitT_and (T U : Nat → Nat) (t n : Int) : bitT (fun k => T k &&& U k) t n = (bitT T t n && bitT U t n) := by
  unfold bitT
  rw [Nat.testBit_and]
  cases pointB t n <;> simp
theorem bitT_less {T U : Nat → Nat} (hT : ∀ t, t < 16 → T t < 2 ^ 32) (hU : ∀ t, t < 16 → U t < 2 ^ 32) (t n : Int) : bitT (fun k => lessM (T k) (U k)) t n = (bitT T t n && !bitT U t n) := by
  unfold bitT
  cases h : pointB t n
  · simp
  · obtain ⟨a, b, ha, hb, rfl, rfl⟩ := point_of h
    simp only [Int.toNat_natCast, Bool.true_and]
    exact lessM_bit _ _ _ (hU a ha) (hT a ha)
theorem sameT_of {T U : Nat → Nat} (h : ∀ t, t < 16 → T t = U t) : sameT T U = true := allT_iff.2 fun t ht => by rw [h t ht]; simp
theorem sameT_iff {T U : Nat → Nat} : sameT T U = true ↔ ∀ t, t < 16 → T t = U t := by
  unfold sameT
  rw [allT_iff]
  simp
theorem withinT_iff {T U : Nat → Nat} : withinT T U = true ↔ ∀ t, t < 16 → lessM (T t) (U t) = 0 := by
  unfold withinT
  rw [allT_iff]
  simp
/-- tables whose sets are of numbers below 32 -/
def OkT (T : Nat → Nat) : Prop := ∀ t, t < 16 → T t < 2 ^ 32
theorem okT_full : OkT Go.Proofs.Ytphcjjhfgpdhcaa.fullT := fun _ _ => by simp [Go.Proofs.Ytphcjjhfgpdhcaa.fullT]
end Rm
namespace Go.Proofs.Ytphcjjhfgpdhcaa
open Go.RowKit Rm
set_option linter.unusedVariables false
theorem fs_of {w : World} {v : Value} {l : List BoxI} (hl : RdF w v l) (h : (chkF l == 0) = true) : ∃ T, FS w v T ∧ OkT T := by
  obtain ⟨F, rfl, hF, hn⟩ := okF_of (by simpa using h)
  exact ⟨tabF F, ⟨F, hl, hF, hn, fun _ _ => rfl⟩, fun t _ => tabF_lt hF t⟩
theorem fs2_of {w : World} {v v' : Value} {l r : List BoxI} (hl : RdF w v l) (hr : RdF w v' r) (h : (chkF2 l r == 0) = true) : ∃ T U, FS w v T ∧ FS w v' U ∧ OkT T ∧ OkT U := by
  unfold chkF2 at h
  split at h
  · rename_i h0
    obtain ⟨T, a, b⟩ := fs_of hl h0
    obtain ⟨U, c, d⟩ := fs_of hr h
    exact ⟨T, U, a, c, b, d⟩
  · rename_i h0
    exact absurd h h0
end Go.Proofs.Ytphcjjhfgpdhcaa
