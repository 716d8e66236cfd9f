/- The contract of package filter's combine over valid filters. -/
import Derived.Test.YthnoafmdecehcaaFilC
namespace Go.Proofs.Ythnoafmdecehcaa
open Go.RowKit Rm
set_option linter.unusedVariables false

/-- two tables, combined below j -/
def midC (g : Nat → Nat → Nat) (T U : Nat → Nat) (j t : Nat) : Nat := if t < j then g (T t) (U t) else T t
/-- where combine's loop stands -/
def CombAt (w wr : World) (b : Nat) (T U : Nat → Nat) : Prop :=
  Gr w wr ∧ w.heap.size < b ∧ wr.heap[w.heap.size]? = some (.cells (tArr fun _ => 0) 104 (0, 0)) ∧ wr.heap[b]? = some (.cells (tArr T) 104 (0, 0)) ∧ wr.heap[b + 1]? = some (.cells (tArr U) 104 (0, 0))
theorem CombAt.set {w wr : World} {b : Nat} {T U : Nat → Nat} (h : CombAt w wr b T U) (k m : Nat) (hk : k < 16) : CombAt w ((wr.setCell ⟨b, k, none⟩ (.int .u64 (m : Nat))).drew) b (fun i => if i = k then m else T i) U := by
  obtain ⟨g, hlt, h0, h1, h2⟩ := h
  refine ⟨(g.setCell (by simp; omega) _).drew, hlt, ?_, ?_, ?_⟩
  · show (wr.setCell _ _).heap[_]? = _
    rw [heap_setCell_other _ _ _ _ (by show w.heap.size ≠ b; omega)]; exact h0
  · show (wr.setCell _ _).heap[_]? = _
    rw [heap_setCell_same _ _ _ _ _ _ h1, tArr_set _ _ _ hk]
  · show (wr.setCell _ _).heap[_]? = _
    rw [heap_setCell_other _ _ _ _ (by simp)]; exact h2
theorem CombAt.ext {w wr : World} {b : Nat} {T T' U : Nat → Nat} (h : CombAt w wr b T U) (e : ∀ i, i < 16 → T i = T' i) : CombAt w wr b T' U := by rw [CombAt, ← tArr_ext e]; exact h
theorem combAt_start {w w4 : World} {A B : Array Value} {T U : Nat → Nat} (g : Gr w w4) (hlt : w.heap.size < w4.heap.size) (h0 : w4.heap[w.heap.size]? = some (.cells (tArr fun _ => 0) 104 (0, 0))) :
    CombAt w ((((w4.alloc (.cells A 104)).alloc (.cells B 104)).setRow w4.heap.size (tArr T)).setRow (w4.heap.size + 1) (tArr U)) w4.heap.size T U := by
  refine ⟨(((g.alloc _).alloc _).setRow g.le _).setRow (by have := g.le; omega) _, hlt, ?_, ?_, ?_⟩
  · rw [setRow_other _ _ _ _ (by omega), setRow_other _ _ _ _ (by omega), Below.heap_alloc _ _ _ (by simp; omega), Below.heap_alloc _ _ _ hlt]; exact h0
  · rw [setRow_other _ _ _ _ (by omega)]
    exact setRow_heap _ _ _ _ _ _ (heap_alloc2_old w4 _ _)
  · refine setRow_heap _ _ B _ _ _ ?_
    rw [setRow_other _ _ _ _ (by omega)]
    exact heap_alloc2_new w4 _ _

end Go.Proofs.Ythnoafmdecehcaa
