/- The contracts of the statements' spans and every. -/
import Derived.Test.YthnoafmdecehcaaSpanG
namespace Rm
open Go Go.RowKit
/-- the bits below the k-th -/
def cut (m k i : Nat) : Bool := decide (i < k) && m.testBit i
theorem bArr_ext {s t : Nat → Bool} (h : ∀ i, i < 32 → s i = t i) : bArr s = bArr t := by
  unfold bArr
  congr 1
  apply List.map_congr_left
  intro i hi
  rw [h i (List.mem_range.1 hi)]
theorem bArr_set (s : Nat → Bool) (k : Nat) (b : Bool) (hk : k < 32) : (bArr s).setIfInBounds k (.bool b) = bArr (fun i => if i = k then b else s i) := by
  apply Array.ext
  · simp [bArr]
  · intro i h1 h2
    simp [bArr] at h1 h2 ⊢
    by_cases e : i = k
    · subst e; simp
    · have : ¬ k = i := fun h => e h.symm
      simp [this, e]
theorem cut_step (m k : Nat) (i : Nat) : (if i = k then m.testBit k else cut m k i) = cut m (k + 1) i := by
  unfold cut
  by_cases e : i = k
  · subst e; simp
  · have : (i < k + 1) ↔ i < k := by omega
    simp [e, this]
theorem listTo_congr {s t : Nat → Bool} : ∀ n, (∀ i, i < n → s i = t i) → listTo s n = listTo t n
  | 0, _ => rfl
  | n + 1, h => by simp only [listTo]; rw [listTo_congr n (fun i hi => h i (by omega)), h n (by omega)]
theorem cut_list (m : Nat) : listTo (cut m 32) 32 = canon m := listTo_congr 32 (fun i hi => by simp [cut, hi])
theorem bit1_eq (m k : Nat) (hm : m < 2 ^ 32) : (bits .and .u32 ((m : Int) / 2 ^ k) 1 == 1) = m.testBit k := by
  have e0 : ((m : Int) / 2 ^ k) = ((m / 2 ^ k : Nat) : Int) := by simp
  have hlt : m / 2 ^ k < 2 ^ 32 := Nat.lt_of_le_of_lt (Nat.div_le_self _ _) hm
  have e := u32_and_nat (m / 2 ^ k) 1 hlt (by decide)
  rw [e0]
  rw [show (((1 : Nat) : Int)) = 1 from rfl] at e
  rw [e, Nat.and_one_is_mod]
  rw [Nat.testBit_eq_decide_div_mod_eq, Bool.eq_iff_iff]
  simp only [beq_iff_eq, decide_eq_true_eq]
  omega
end Rm
namespace Go.Proofs.Ythnoafmdecehcaa
open Go.RowKit Rm
set_option linter.unusedVariables false

theorem nums_size : (Try.prog.info? 97).map (·.size) = some 32 := by kernel_rfl

end Go.Proofs.Ythnoafmdecehcaa
