/- The contracts of the statements' spans and every. -/
import Derived.Test.YtphcjjhfgpdhcaaSpanG
namespace Rm
open Go Go.RowKit
/-- the bits below the k-th -/
def cut (m k i : Nat) : Bool := decide (i < k) && m.testBit i
theorem bArr_ext {s t : Nat → Bool} (h : ∀ i, i < 32 → s i = t i) : bArr s = bArr t := by
  unfold bArr
  congr 1
  apply List.map_congr_left
  intro i hi
  rw [h i (List.mem_range.1 hi)]
theorem bArr_set (s : Nat → Bool) (k : Nat) (b : Bool) (hk : k < 32) : (bArr s).setIfInBounds k (.bool b) = bArr (fun i => if i = k then b else s i) := by
  apply Array.ext
  · simp [bArr]
  · intro i h1 h2
    simp [bArr] at h1 h2 ⊢
    by_cases e : i = k
    · subst e; simp
    · have : ¬ k = i := fun h => e h.symm
      simp [this, e]
theorem cut_step (m k : Nat) (i : Nat) : (if i = k then m.testBit k else cut m k i) = cut m (k + 1) i := by
  unfold cut
  by_cases e : i = k
  · subst e; simp
  · have : (i < k + 1) ↔ i < k := by omega
    simp [e, this]
theorem listTo_congr {s t : Nat → Bool} : ∀ n, (∀ i, i < n → s i = t i) → listTo s n = listTo t n
  | 0, _ => rfl
  | n + 1, h => by simp only [listTo]; rw [listTo_congr n (fun i hi => h i (by omega)), h n (by omega)]
theorem cut_list (m : Nat) : listTo (cut m 32) 32 = canon m := listTo_congr 32 (fun i hi => by simp [cut, hi])
theorem bit1_eq (m k : Nat) (hm : m < 2 ^ 32) : (bits .and .u32 ((m : Int) / 2 ^ k) 1 == 1) = m.testBit k := by
  have e0 : ((m : Int) / 2 ^ k) = ((m / 2 ^ k : Nat) : Int) := by simp
  have hlt : m / 2 ^ k < 2 ^ 32 := Nat.lt_of_le_of_lt (Nat.div_le_self _ _) hm
  have e := u32_and_nat (m / 2 ^ k) 1 hlt (by decide)
  rw [e0]
  rw [show (((1 : Nat) : Int)) = 1 from rfl] at e
  rw [e, Nat.and_one_is_mod]
  rw [Nat.testBit_eq_decide_div_mod_eq, Bool.eq_iff_iff]
  simp only [beq_iff_eq, decide_eq_true_eq]
  omega
end Rm
namespace Go.Proofs.Ytphcjjhfgpdhcaa
open Go.RowKit Rm
set_option linter.unusedVariables false

theorem nums_size : (Try.prog.info? 75).map (·.size) = some 32 := by kernel_rfl

set_option maxHeartbeats 1000000 in
set_option maxRecDepth 100000 in
theorem spans_any (m : Nat) (w : World) (hm : m < 2 ^ 32) :
    Calls Try.prog 41 #[.int .u32 m] w fun e w' => ∃ v, e = .returned v ∧ ListAt w w' (canon m) v := by
  have HM := Lib.hid hm
  clear hm
  go_enter Try.func41, Try.ntmps41
  go_wp2
  go_loopw [5] (fun i wr => ∃ k : Nat, k ≤ 32 ∧ i = .int .i64 k ∧ Gr w wr ∧ wr.heap[w.heap.size]? = some (.cells (bArr (cut m k)) 75 (0, 0))) (fun i _ => 32 - (intOf i).toNat)
  case atStart =>
    refine ⟨0, by omega, rfl, (Gr.refl _).alloc _, ?_⟩
    rw [heap_alloc_new]
    rfl
  case round =>
    obtain ⟨k, hk, rfl, hg, hblk⟩ := hrel
    by_cases hlt : k < 32
    · have hcell : wr.cell? ⟨w.heap.size, k, none⟩ = some (.bool (cut m k k)) := by rw [cell_of_row _ _ _ _ _ _ hblk, bArr_at _ k hlt]
      have hfro := frozen_of_row _ _ k _ _ hblk
      have HB := Lib.hid hblk
      have HE := Lib.hid (bit1_eq m k HM.out)
      have hk' : (k : Int) < 32 := by omega
      clear hblk
      go_wp2
      go_roundw
      case rel =>
        refine ⟨k + 1, by omega, by go_num, hg.setCell (by simp) _, ?_⟩
        rw [heap_setCell_same _ _ _ _ _ _ HB.out, HE.out, bArr_set _ _ _ hlt, bArr_ext (fun i _ => cut_step m k i)]
      case measure => simp [intOf]; omega
    · obtain rfl : k = 32 := by omega
      have HS : Hid ((Try.prog.info? 75).map (·.size) = some (bArr (cut m 32)).size) := by rw [bArr_size]; exact nums_size
      go_wp2_with (refine wpList_load_row rfl 75 _ rfl w.heap.size rfl 75 _ (0, 0) _ hblk Try.underlying75 rfl HS.out ?_)
      refine (told_any _ _).mono ?_
      rintro e w1 ⟨v, rfl, hv⟩
      go_wp2_with fail
      go_ret
      refine ⟨v, rfl, ?_⟩
      rw [cut_list] at hv
      exact hv.more hg

end Go.Proofs.Ytphcjjhfgpdhcaa
