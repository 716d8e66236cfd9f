/- The contract of the document's own Each, one for each closure. -/
import Derived.Test.YthnoafmdecehcaaRefB
namespace Rm
open Go Go.RowKit
/-- two sets of points, combined below j -/
def midE (g : Bool → Bool → Bool) (f u : Nat → Bool) (j i : Nat) : Bool := if i < j then g (f i) (u i) else f i
theorem midE_step (g : Bool → Bool → Bool) (f u : Nat → Bool) (j i : Nat) : (if i = j then g (f j) (u j) else midE g f u j i) = midE g f u (j + 1) i := by
  unfold midE
  by_cases e1 : i < j
  · rw [if_neg (by omega), if_pos e1, if_pos (by omega)]
  · by_cases e2 : i < j + 1
    · obtain rfl : i = j := by omega
      rw [if_pos rfl, if_pos e2]
    · rw [if_neg (by omega), if_neg e1, if_neg e2]
end Rm
namespace Go.Proofs.Ythnoafmdecehcaa
open Go.RowKit Rm
set_option linter.unusedVariables false

def OpB (f : Nat) (g : Bool → Bool → Bool) : Prop := ∀ (a b : Bool) (w : World), Calls Try.prog f #[.bool a, .bool b] w fun e w' => e = .returned (.bool (g a b)) ∧ w' = w
/-- where Each's loop stands -/
def EachAt (w wr : World) (f u : Nat → Bool) : Prop :=
  Gr w wr ∧ wr.heap[w.heap.size]? = some (.cells (pArr f) 33 (0, 0)) ∧ wr.heap[w.heap.size + 1]? = some (.cells (pArr u) 33 (0, 0)) ∧ wr.heap[w.heap.size + 1 + 1]? = some (.cells (pArr fun _ => false) 33 (0, 0))
theorem EachAt.set {w wr : World} {f u : Nat → Bool} (h : EachAt w wr f u) (k : Nat) (b : Bool) : EachAt w ((wr.setCell ⟨w.heap.size, k, none⟩ (.bool b)).drew) (fun i => if i = k then b else f i) u := by
  obtain ⟨g, h0, h1, h2⟩ := h
  refine ⟨(g.setCell (by simp) _).drew, ?_, ?_, ?_⟩
  · show (wr.setCell _ _).heap[_]? = _
    rw [heap_setCell_same _ _ _ _ _ _ h0, pArr_set]
  · show (wr.setCell _ _).heap[_]? = _
    rw [heap_setCell_other _ _ _ _ (by simp)]; exact h1
  · show (wr.setCell _ _).heap[_]? = _
    rw [heap_setCell_other _ _ _ _ (by show w.heap.size + 1 + 1 ≠ w.heap.size; omega)]; exact h2
theorem EachAt.ext {w wr : World} {f f' u : Nat → Bool} (h : EachAt w wr f u) (e : ∀ i, i < 512 → f i = f' i) : EachAt w wr f' u := by rw [EachAt, ← pArr_ext e]; exact h
theorem eachAt_start (w : World) (f u : Nat → Bool) : EachAt w (((w.alloc (.cells (pArr f) 33)).alloc (.cells (pArr u) 33)).alloc (.cells (pArr fun _ => false) 33)) f u := by
  refine ⟨(((Gr.refl w).alloc _).alloc _).alloc _, ?_, ?_, ?_⟩
  · rw [Below.heap_alloc _ _ _ (by simp; omega)]; exact heap_alloc2_old _ _ _
  · rw [Below.heap_alloc _ _ _ (by simp)]; exact heap_alloc2_new _ _ _
  · have := heap_alloc_new ((w.alloc (.cells (pArr f) 33)).alloc (.cells (pArr u) 33)) (.cells (pArr fun _ => false) 33)
    rwa [World.size_alloc, World.size_alloc] at this


theorem bop_notR : OpB 52 (fun a b => !a) := by
  intro a b w
  cases a <;> cases b
  all_goals
    go_enter Try.func52, Try.ntmps52
    go_wp2
    go_ret
    exact ⟨rfl, rfl⟩

set_option maxHeartbeats 1000000 in
set_option maxRecDepth 100000 in
theorem each_notR (f u : Nat → Bool) (w : World) :
    Calls Try.prog 51 #[.agg (pArr f), .agg (pArr u), .func (.func 52) #[] #[]] w fun e w' => ∃ p, e = .returned (.agg (pArr p)) ∧ (∀ i, i < 512 → p i = (fun a b => !a) (f i) (u i)) ∧ Gr w w' := by
  have HS := Lib.hid pinfo
  have HPZ := Lib.hid (fun f : Nat → Bool => show (pArr fun _ => false).size = (pArr f).size by rw [pArr_size, pArr_size])
  have HP1 := Lib.hid pArr_one
  have PZ := Lib.hid (fun (ev : Operand → Value) (o : Oper) (ho : o.op = .alloc 33) (wx : World) => run_alloc_zero points_zero ev o ho wx)
  have HOP := Lib.hid bop_notR
  obtain ⟨g, hge⟩ : ∃ g : Bool → Bool → Bool, g = (fun a b => !a) := ⟨_, rfl⟩
  have HOPg : Hid (OpB 52 g) := by rw [hge]; exact HOP.out
  rw [← hge]
  clear hge HOP
  have A0 := Lib.hid (eachAt_start w f u)
  go_enter Try.func51, Try.ntmps51
  go_wp2_with (refine Go.Great.wpList_allocTo rfl _ rfl _ _ (PZ.out _ _ rfl _) ?_)
  go_loopw [8] (fun jj wi => ∃ j : Nat, j ≤ 512 ∧ jj = .int .i64 j ∧ EachAt w wi (midE g f u j) u) (fun jj _ => 512 - (intOf jj).toNat)
  case atStart => exact ⟨0, by omega, rfl, A0.out.ext (fun i _ => by simp [midE])⟩
  case round =>
    clear A0
    obtain ⟨j, hj, rfl, hat⟩ := hrel
    have HA := Lib.hid hat
    by_cases hjt : j < 512
    · have hj' : (j : Int) < 512 := by omega
      have c1 : wr.cell? ⟨w.heap.size, j, none⟩ = some (.bool (f j)) := by
        rw [cell_of_row _ _ _ _ _ _ hat.2.1, pArr_at _ j hjt]
        simp [midE]
      have c2 : wr.cell? ⟨w.heap.size + 1, j, none⟩ = some (.bool (u j)) := by
        rw [cell_of_row _ _ _ _ _ _ hat.2.2.1, pArr_at _ j hjt]
      have hfz := frozen_of_row _ _ j _ _ hat.2.1
      have E := Lib.hid (fun i (_ : i < 512) => midE_step g f u j i)
      clear hat
      go_wp2_with fail
      go_still_tail 10, (by kernel_rfl)
      still_call (HOPg.out _ _ _)
      repeat still_step
      refine wpStill_nil ?_
      change wpList _ _ _ _ _ wr.drew
      go_wp2_with fail
      go_roundw
      case rel => exact ⟨j + 1, by omega, by go_num, (HA.out.set j _).ext E.out⟩
      case measure => simp [intOf]; omega
    · obtain rfl : j = 512 := by omega
      have HE := Lib.hid (fun i (hi : i < 512) => show midE g f u 512 i = g (f i) (u i) by simp [midE, hi])
      have HB := Lib.hid hat.2.1
      have HR := Lib.hid hat.2.2.2
      have hg := hat.1
      clear hat HA
      go_wp2_with (first | (refine wpList_load_row rfl 33 _ rfl w.heap.size rfl 33 _ (0, 0) _ HB.out Try.underlying33 rfl (HS.out _) ?_) | (refine wpList_store_row rfl 33 _ _ rfl (w.heap.size + 1 + 1) _ rfl rfl 33 _ HR.out (HS.out _) (HPZ.out _) (HP1.out _) ?_))
      refine bodyPost_ret (v := .agg (pArr (midE g f u 512))) (results_cell_row Try.results51 _ _ (w.heap.size + 1 + 1) 33 _ (0, 0) _ rfl (setRow_heap _ _ _ _ _ _ HR.out) Try.underlying33 rfl (HS.out _)) rfl ⟨_, rfl, HE.out, ?_⟩
      exact hg.setRow (by omega) _


theorem bop_andR : OpB 53 (fun a b => a && b) := by
  intro a b w
  cases a <;> cases b
  all_goals
    go_enter Try.func53, Try.ntmps53
    go_wp2
    go_ret
    exact ⟨rfl, rfl⟩

set_option maxHeartbeats 1000000 in
set_option maxRecDepth 100000 in
theorem each_andR (f u : Nat → Bool) (w : World) :
    Calls Try.prog 51 #[.agg (pArr f), .agg (pArr u), .func (.func 53) #[] #[]] w fun e w' => ∃ p, e = .returned (.agg (pArr p)) ∧ (∀ i, i < 512 → p i = (fun a b => a && b) (f i) (u i)) ∧ Gr w w' := by
  have HS := Lib.hid pinfo
  have HPZ := Lib.hid (fun f : Nat → Bool => show (pArr fun _ => false).size = (pArr f).size by rw [pArr_size, pArr_size])
  have HP1 := Lib.hid pArr_one
  have PZ := Lib.hid (fun (ev : Operand → Value) (o : Oper) (ho : o.op = .alloc 33) (wx : World) => run_alloc_zero points_zero ev o ho wx)
  have HOP := Lib.hid bop_andR
  obtain ⟨g, hge⟩ : ∃ g : Bool → Bool → Bool, g = (fun a b => a && b) := ⟨_, rfl⟩
  have HOPg : Hid (OpB 53 g) := by rw [hge]; exact HOP.out
  rw [← hge]
  clear hge HOP
  have A0 := Lib.hid (eachAt_start w f u)
  go_enter Try.func51, Try.ntmps51
  go_wp2_with (refine Go.Great.wpList_allocTo rfl _ rfl _ _ (PZ.out _ _ rfl _) ?_)
  go_loopw [8] (fun jj wi => ∃ j : Nat, j ≤ 512 ∧ jj = .int .i64 j ∧ EachAt w wi (midE g f u j) u) (fun jj _ => 512 - (intOf jj).toNat)
  case atStart => exact ⟨0, by omega, rfl, A0.out.ext (fun i _ => by simp [midE])⟩
  case round =>
    clear A0
    obtain ⟨j, hj, rfl, hat⟩ := hrel
    have HA := Lib.hid hat
    by_cases hjt : j < 512
    · have hj' : (j : Int) < 512 := by omega
      have c1 : wr.cell? ⟨w.heap.size, j, none⟩ = some (.bool (f j)) := by
        rw [cell_of_row _ _ _ _ _ _ hat.2.1, pArr_at _ j hjt]
        simp [midE]
      have c2 : wr.cell? ⟨w.heap.size + 1, j, none⟩ = some (.bool (u j)) := by
        rw [cell_of_row _ _ _ _ _ _ hat.2.2.1, pArr_at _ j hjt]
      have hfz := frozen_of_row _ _ j _ _ hat.2.1
      have E := Lib.hid (fun i (_ : i < 512) => midE_step g f u j i)
      clear hat
      go_wp2_with fail
      go_still_tail 10, (by kernel_rfl)
      still_call (HOPg.out _ _ _)
      repeat still_step
      refine wpStill_nil ?_
      change wpList _ _ _ _ _ wr.drew
      go_wp2_with fail
      go_roundw
      case rel => exact ⟨j + 1, by omega, by go_num, (HA.out.set j _).ext E.out⟩
      case measure => simp [intOf]; omega
    · obtain rfl : j = 512 := by omega
      have HE := Lib.hid (fun i (hi : i < 512) => show midE g f u 512 i = g (f i) (u i) by simp [midE, hi])
      have HB := Lib.hid hat.2.1
      have HR := Lib.hid hat.2.2.2
      have hg := hat.1
      clear hat HA
      go_wp2_with (first | (refine wpList_load_row rfl 33 _ rfl w.heap.size rfl 33 _ (0, 0) _ HB.out Try.underlying33 rfl (HS.out _) ?_) | (refine wpList_store_row rfl 33 _ _ rfl (w.heap.size + 1 + 1) _ rfl rfl 33 _ HR.out (HS.out _) (HPZ.out _) (HP1.out _) ?_))
      refine bodyPost_ret (v := .agg (pArr (midE g f u 512))) (results_cell_row Try.results51 _ _ (w.heap.size + 1 + 1) 33 _ (0, 0) _ rfl (setRow_heap _ _ _ _ _ _ HR.out) Try.underlying33 rfl (HS.out _)) rfl ⟨_, rfl, HE.out, ?_⟩
      exact hg.setRow (by omega) _


theorem bop_orR : OpB 54 (fun a b => a || b) := by
  intro a b w
  cases a <;> cases b
  all_goals
    go_enter Try.func54, Try.ntmps54
    go_wp2
    go_ret
    exact ⟨rfl, rfl⟩

set_option maxHeartbeats 1000000 in
set_option maxRecDepth 100000 in
theorem each_orR (f u : Nat → Bool) (w : World) :
    Calls Try.prog 51 #[.agg (pArr f), .agg (pArr u), .func (.func 54) #[] #[]] w fun e w' => ∃ p, e = .returned (.agg (pArr p)) ∧ (∀ i, i < 512 → p i = (fun a b => a || b) (f i) (u i)) ∧ Gr w w' := by
  have HS := Lib.hid pinfo
  have HPZ := Lib.hid (fun f : Nat → Bool => show (pArr fun _ => false).size = (pArr f).size by rw [pArr_size, pArr_size])
  have HP1 := Lib.hid pArr_one
  have PZ := Lib.hid (fun (ev : Operand → Value) (o : Oper) (ho : o.op = .alloc 33) (wx : World) => run_alloc_zero points_zero ev o ho wx)
  have HOP := Lib.hid bop_orR
  obtain ⟨g, hge⟩ : ∃ g : Bool → Bool → Bool, g = (fun a b => a || b) := ⟨_, rfl⟩
  have HOPg : Hid (OpB 54 g) := by rw [hge]; exact HOP.out
  rw [← hge]
  clear hge HOP
  have A0 := Lib.hid (eachAt_start w f u)
  go_enter Try.func51, Try.ntmps51
  go_wp2_with (refine Go.Great.wpList_allocTo rfl _ rfl _ _ (PZ.out _ _ rfl _) ?_)
  go_loopw [8] (fun jj wi => ∃ j : Nat, j ≤ 512 ∧ jj = .int .i64 j ∧ EachAt w wi (midE g f u j) u) (fun jj _ => 512 - (intOf jj).toNat)
  case atStart => exact ⟨0, by omega, rfl, A0.out.ext (fun i _ => by simp [midE])⟩
  case round =>
    clear A0
    obtain ⟨j, hj, rfl, hat⟩ := hrel
    have HA := Lib.hid hat
    by_cases hjt : j < 512
    · have hj' : (j : Int) < 512 := by omega
      have c1 : wr.cell? ⟨w.heap.size, j, none⟩ = some (.bool (f j)) := by
        rw [cell_of_row _ _ _ _ _ _ hat.2.1, pArr_at _ j hjt]
        simp [midE]
      have c2 : wr.cell? ⟨w.heap.size + 1, j, none⟩ = some (.bool (u j)) := by
        rw [cell_of_row _ _ _ _ _ _ hat.2.2.1, pArr_at _ j hjt]
      have hfz := frozen_of_row _ _ j _ _ hat.2.1
      have E := Lib.hid (fun i (_ : i < 512) => midE_step g f u j i)
      clear hat
      go_wp2_with fail
      go_still_tail 10, (by kernel_rfl)
      still_call (HOPg.out _ _ _)
      repeat still_step
      refine wpStill_nil ?_
      change wpList _ _ _ _ _ wr.drew
      go_wp2_with fail
      go_roundw
      case rel => exact ⟨j + 1, by omega, by go_num, (HA.out.set j _).ext E.out⟩
      case measure => simp [intOf]; omega
    · obtain rfl : j = 512 := by omega
      have HE := Lib.hid (fun i (hi : i < 512) => show midE g f u 512 i = g (f i) (u i) by simp [midE, hi])
      have HB := Lib.hid hat.2.1
      have HR := Lib.hid hat.2.2.2
      have hg := hat.1
      clear hat HA
      go_wp2_with (first | (refine wpList_load_row rfl 33 _ rfl w.heap.size rfl 33 _ (0, 0) _ HB.out Try.underlying33 rfl (HS.out _) ?_) | (refine wpList_store_row rfl 33 _ _ rfl (w.heap.size + 1 + 1) _ rfl rfl 33 _ HR.out (HS.out _) (HPZ.out _) (HP1.out _) ?_))
      refine bodyPost_ret (v := .agg (pArr (midE g f u 512))) (results_cell_row Try.results51 _ _ (w.heap.size + 1 + 1) 33 _ (0, 0) _ rfl (setRow_heap _ _ _ _ _ _ HR.out) Try.underlying33 rfl (HS.out _)) rfl ⟨_, rfl, HE.out, ?_⟩
      exact hg.setRow (by omega) _

end Go.Proofs.Ythnoafmdecehcaa
