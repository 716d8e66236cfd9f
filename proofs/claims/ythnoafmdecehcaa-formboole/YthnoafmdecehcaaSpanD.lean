/- The contracts of package span's combine and what stands on it, and of slices.Equal over spans. -/
import Derived.Test.YthnoafmdecehcaaSpanC
namespace Rm
open Go Go.RowKit
def chkS2 (l r : List (Int × Int)) : Int := if chkS l == 0 then chkS r else chkS l
theorem sbne_of {a : Int} (h : (a == 0) = true) : (a != 0) = false := by simp [bne, h]
theorem sbne_of' {a : Int} (h : (a == 0) = false) : (a != 0) = true := by simp [bne, h]
theorem chkGo_valid : ∀ (l : List (Int × Int)) (last : Int), -1 ≤ last → chkGo last l = 0 → ∃ L, l = pairs L ∧ VF (last + 1).toNat L
  | [], _, _, _ => ⟨[], rfl, trivial⟩
  | p :: l, last, hl, h => by
    unfold chkGo at h
    split at h
    · omega
    · split at h
      · omega
      · rename_i h1 h2
        obtain ⟨L, rfl, hv⟩ := chkGo_valid l p.2 (by omega) h
        refine ⟨(p.1.toNat, p.2.toNat) :: L, ?_, ?_⟩
        · simp only [pairs, List.map_cons, List.cons.injEq, and_true]
          ext
          · simp only; omega
          · simp only; omega
        · refine ⟨by simp only; omega, by simp only; omega, by simp only; omega, ?_⟩
          have e : (p.2 + 1).toNat = p.2.toNat + 1 := by omega
          rw [← e]
          exact hv
theorem valid_of {l : List (Int × Int)} (h : chkS l = 0) : ∃ L, l = pairs L ∧ VF 0 L := by
  unfold chkS at h
  split at h
  · omega
  · exact chkGo_valid l (-1) (by omega) h
theorem chkGo_of : ∀ (L : List (Nat × Nat)) (lo : Nat) (last : Int), last < lo → VF lo L → chkGo last (pairs L) = 0
  | [], _, _, _, _ => rfl
  | p :: L, lo, last, hl, h => by
    obtain ⟨h1, h2, h3, h4⟩ := h
    show (if (p.1 : Int) < 0 ∨ 32 < (p.2 : Int) ∨ (p.2 : Int) ≤ (p.1 : Int) then 1 else if (p.1 : Int) ≤ last then 3 else chkGo (p.2 : Int) (pairs L)) = 0
    rw [if_neg (by omega), if_neg (by omega)]
    exact chkGo_of L (p.2 + 1) p.2 (by omega) h4
theorem chkS_of {L : List (Nat × Nat)} (h : VF 0 L) : chkS (pairs L) = 0 := by
  unfold chkS
  rw [if_neg (by rw [pairs_len]; have := h.len16; omega)]
  exact chkGo_of L 0 (-1) (by omega) h
theorem chkS2_of {L R : List (Nat × Nat)} (h : VF 0 L) (h' : VF 0 R) : chkS2 (pairs L) (pairs R) = 0 := by simp [chkS2, chkS_of h, chkS_of h']
theorem valid2_of {l r : List (Int × Int)} (h : chkS2 l r = 0) : ∃ L R, l = pairs L ∧ r = pairs R ∧ VF 0 L ∧ VF 0 R := by
  unfold chkS2 at h
  split at h
  · rename_i h0
    obtain ⟨L, e, hv⟩ := valid_of (by simpa using h0)
    obtain ⟨R, e', hv'⟩ := valid_of h
    exact ⟨L, R, e, e', hv, hv'⟩
  · rename_i h0
    rw [h] at h0
    simp at h0
/-- what Less does to masks -/
def lessM (a b : Nat) : Nat := a &&& (4294967295 - b)
theorem lessM_bit (a b i : Nat) (hb : b < 2 ^ 32) (ha : a < 2 ^ 32) : (lessM a b).testBit i = (a.testBit i && !b.testBit i) := by
  unfold lessM
  have e : 4294967295 - b = 2 ^ 32 - (b + 1) := by omega
  rw [e, Nat.testBit_and, Nat.testBit_two_pow_sub_succ hb]
  by_cases h : i < 32
  · simp [h]
  · have h2 : a.testBit i = false := Nat.testBit_lt_two_pow (Nat.lt_of_lt_of_le ha (Nat.pow_le_pow_right (by omega) (by omega)))
    simp [h2]
theorem lessM_lt (a b : Nat) (ha : a < 2 ^ 32) : lessM a b < 2 ^ 32 := Nat.lt_of_le_of_lt Nat.and_le_left ha
end Rm
namespace Go.Proofs.Ythnoafmdecehcaa
open Go.RowKit Rm
set_option linter.unusedVariables false

/-- a function of two masks -/
def OpIs (f : Nat) (g : Nat → Nat → Nat) : Prop := ∀ (a b : Nat), a < 2 ^ 32 → b < 2 ^ 32 → g a b < 2 ^ 32 ∧ ∀ w : World, Calls Try.prog f #[.int .u32 a, .int .u32 b] w fun e w' => e = .returned (.int .u32 (g a b : Nat)) ∧ w = w'

theorem ListAt.more {w w1 w2 : World} {l : List (Nat × Nat)} {v : Value} (g : Gr w w1) (h : ListAt w1 w2 l v) : ListAt w w2 l v := by
  refine ⟨g.trans h.1, h.2.1, ?_⟩
  rcases h.2.2 with ⟨a, b⟩ | ⟨g', cap, cur, a, b, c⟩
  · exact .inl ⟨a, b⟩
  · exact .inr ⟨g', cap, cur, a, Nat.le_trans g.le b, c⟩
theorem ListAt.rd {w w1 : World} {l : List (Nat × Nat)} {v : Value} (h : ListAt w w1 l v) : Rd2 w1 v (pairs l) := Rd2.own h.2

end Go.Proofs.Ythnoafmdecehcaa
