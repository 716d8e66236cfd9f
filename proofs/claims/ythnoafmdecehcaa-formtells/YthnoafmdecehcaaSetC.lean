/- Where the loop of SpanSets stands. -/
import Derived.Test.YthnoafmdecehcaaSpanD
import Derived.Test.YthnoafmdecehcaaSetB
import Derived.StillTailTactics
import Derived.BigRegion
namespace Go.Proofs.Ythnoafmdecehcaa
open Go.RowKit Rm
set_option linter.unusedVariables false

theorem MS.of {w : World} {v : Value} {L : List (Nat × Nat)} (h : Rd2 w v (pairs L)) (hv : VF 0 L) : MS w v (maskL L) := ⟨by rw [canon_maskL hv]; exact h, maskL_lt hv.le⟩
theorem mset {a : Nat} {v : Value} {w : World} (h : MS w v a) : Calls Try.prog 61 #[v] w fun e w' => e = .returned (.agg (bArr a.testBit)) ∧ Gr w w' := by
  have := set_any v _ w h.1 (canon_VF a)
  rw [maskL_canon h.2] at this
  exact this
theorem canon2 : canon 2 = [(1, 2)] := by decide +kernel
theorem canon12s : canon 12 = [(2, 4)] := by decide +kernel
theorem canon14s : canon 14 = [(1, 4)] := by decide +kernel
theorem eqJoin : eqM 14 14 = true := by decide +kernel

/-- where the loop stands -/
def SetsAt (A B : Nat) (w wr : World) (b0 b1 : Nat) (k : Nat) : Prop :=
  Gr w wr ∧ wr.heap[b0]? = some (.cells (bArr A.testBit) 97 (0, 0)) ∧ wr.heap[b1]? = some (.cells (bArr B.testBit) 97 (0, 0)) ∧
  wr.heap[b1 + 1]? = some (.cells (bArr (cut (A ||| B) k)) 97 (0, 0)) ∧ wr.heap[b1 + 1 + 1]? = some (.cells (bArr (cut (A &&& B) k)) 97 (0, 0)) ∧ wr.heap[b1 + 1 + 1 + 1]? = some (.cells (bArr (cut (lessM A B) k)) 97 (0, 0))
theorem bz : bArr (fun _ => false) = #[.bool false, .bool false, .bool false, .bool false, .bool false, .bool false, .bool false, .bool false, .bool false, .bool false, .bool false, .bool false, .bool false, .bool false, .bool false, .bool false, .bool false, .bool false, .bool false, .bool false, .bool false, .bool false, .bool false, .bool false, .bool false, .bool false, .bool false, .bool false, .bool false, .bool false, .bool false, .bool false] := rfl
theorem cut0 (m : Nat) : bArr (cut m 0) = bArr (fun _ => false) := bArr_ext (fun i _ => by simp [cut])
theorem setsAt_start (w v : World) (A B : Nat) (g : Gr w v) : SetsAt A B w (((((((v.alloc (.cells #[.bool false, .bool false, .bool false, .bool false, .bool false, .bool false, .bool false, .bool false, .bool false, .bool false, .bool false, .bool false, .bool false, .bool false, .bool false, .bool false, .bool false, .bool false, .bool false, .bool false, .bool false, .bool false, .bool false, .bool false, .bool false, .bool false, .bool false, .bool false, .bool false, .bool false, .bool false, .bool false] 97)).alloc (.cells #[.bool false, .bool false, .bool false, .bool false, .bool false, .bool false, .bool false, .bool false, .bool false, .bool false, .bool false, .bool false, .bool false, .bool false, .bool false, .bool false, .bool false, .bool false, .bool false, .bool false, .bool false, .bool false, .bool false, .bool false, .bool false, .bool false, .bool false, .bool false, .bool false, .bool false, .bool false, .bool false] 97)).setRow v.heap.size (bArr A.testBit)).setRow (v.heap.size + 1) (bArr B.testBit)).alloc (.cells #[.bool false, .bool false, .bool false, .bool false, .bool false, .bool false, .bool false, .bool false, .bool false, .bool false, .bool false, .bool false, .bool false, .bool false, .bool false, .bool false, .bool false, .bool false, .bool false, .bool false, .bool false, .bool false, .bool false, .bool false, .bool false, .bool false, .bool false, .bool false, .bool false, .bool false, .bool false, .bool false] 97)).alloc (.cells #[.bool false, .bool false, .bool false, .bool false, .bool false, .bool false, .bool false, .bool false, .bool false, .bool false, .bool false, .bool false, .bool false, .bool false, .bool false, .bool false, .bool false, .bool false, .bool false, .bool false, .bool false, .bool false, .bool false, .bool false, .bool false, .bool false, .bool false, .bool false, .bool false, .bool false, .bool false, .bool false] 97)).alloc (.cells #[.bool false, .bool false, .bool false, .bool false, .bool false, .bool false, .bool false, .bool false, .bool false, .bool false, .bool false, .bool false, .bool false, .bool false, .bool false, .bool false, .bool false, .bool false, .bool false, .bool false, .bool false, .bool false, .bool false, .bool false, .bool false, .bool false, .bool false, .bool false, .bool false, .bool false, .bool false, .bool false] 97)) v.heap.size (v.heap.size + 1) 0 := by
  rw [← bz]
  unfold SetsAt
  rw [cut0, cut0, cut0]
  have hs : ((((v.alloc (.cells (bArr fun _ => false) 97)).alloc (.cells (bArr fun _ => false) 97)).setRow v.heap.size (bArr A.testBit)).setRow (v.heap.size + 1) (bArr B.testBit)).heap.size = v.heap.size + 1 + 1 := by simp
  have g2 := (((g.alloc (.cells (bArr fun _ => false) 97)).alloc (.cells (bArr fun _ => false) 97)).setRow (g := v.heap.size) g.le (bArr A.testBit)).setRow (g := v.heap.size + 1) (by have := g.le; omega) (bArr B.testBit)
  have b0 : ((((v.alloc (.cells (bArr fun _ => false) 97)).alloc (.cells (bArr fun _ => false) 97)).setRow v.heap.size (bArr A.testBit)).setRow (v.heap.size + 1) (bArr B.testBit)).heap[v.heap.size]? = some (.cells (bArr A.testBit) 97 (0, 0)) := by
    rw [setRow_other _ _ _ _ (by omega)]
    exact setRow_heap _ _ _ _ _ _ (heap_alloc2_old v _ _)
  have b1 : ((((v.alloc (.cells (bArr fun _ => false) 97)).alloc (.cells (bArr fun _ => false) 97)).setRow v.heap.size (bArr A.testBit)).setRow (v.heap.size + 1) (bArr B.testBit)).heap[v.heap.size + 1]? = some (.cells (bArr B.testBit) 97 (0, 0)) := by
    refine setRow_heap _ _ (bArr fun _ => false) _ _ _ ?_
    rw [setRow_other _ _ _ _ (by omega)]
    exact heap_alloc2_new v _ _
  generalize ((((v.alloc (.cells (bArr fun _ => false) 97)).alloc (.cells (bArr fun _ => false) 97)).setRow v.heap.size (bArr A.testBit)).setRow (v.heap.size + 1) (bArr B.testBit)) = u at *
  refine ⟨((g2.alloc _).alloc _).alloc _, ?_, ?_, ?_, ?_, ?_⟩
  · rw [Below.heap_alloc _ _ _ (by simp; omega), Below.heap_alloc _ _ _ (by simp; omega), Below.heap_alloc _ _ _ (by omega)]; exact b0
  · rw [Below.heap_alloc _ _ _ (by simp; omega), Below.heap_alloc _ _ _ (by simp; omega), Below.heap_alloc _ _ _ (by omega)]; exact b1
  · rw [Below.heap_alloc _ _ _ (by simp; omega), Below.heap_alloc _ _ _ (by simp; omega), ← hs]; exact heap_alloc_new _ _
  · rw [Below.heap_alloc _ _ _ (by simp; omega), ← hs]; have := heap_alloc_new (u.alloc (.cells (bArr fun _ => false) 97)) (.cells (bArr fun _ => false) 97); rwa [World.size_alloc] at this
  · rw [← hs]; have := heap_alloc_new ((u.alloc (.cells (bArr fun _ => false) 97)).alloc (.cells (bArr fun _ => false) 97)) (.cells (bArr fun _ => false) 97); rwa [World.size_alloc, World.size_alloc] at this
theorem heap_set_bArr {wr : World} {g k : Nat} {f : Nat → Bool} {b : Bool} (h : wr.heap[g]? = some (.cells (bArr f) 97 (0, 0))) (hk : k < 32) : (wr.setCell ⟨g, k, none⟩ (.bool b)).heap[g]? = some (.cells (bArr fun i => if i = k then b else f i) 97 (0, 0)) := by
  rw [heap_setCell_same _ _ _ _ _ _ h, bArr_set _ _ _ hk]
theorem SetsAt.step {A B : Nat} {w wr : World} {n k : Nat} {b1 b2 b3 : Bool} (h : SetsAt A B w wr n (n + 1) k) (hn : w.heap.size ≤ n) (hk : k < 32) (e1 : (A ||| B).testBit k = b1) (e2 : (A &&& B).testBit k = b2) (e3 : (lessM A B).testBit k = b3) :
    SetsAt A B w ((((wr.setCell ⟨n + 1 + 1, k, none⟩ (.bool b1)).setCell ⟨n + 1 + 1 + 1, k, none⟩ (.bool b2)).setCell ⟨n + 1 + 1 + 1 + 1, k, none⟩ (.bool b3)).drew) n (n + 1) (k + 1) := by
  subst e1 e2 e3
  obtain ⟨g, q1, q2, q3, q4, q5⟩ := h
  refine ⟨(((g.setCell (by simp; omega) _).setCell (by simp; omega) _).setCell (by simp; omega) _).drew, ?_, ?_, ?_, ?_, ?_⟩
  · show (((wr.setCell _ _).setCell _ _).setCell _ _).heap[n]? = _
    rw [heap_setCell_other _ _ _ _ (by show n ≠ n + 1 + 1 + 1 + 1; omega), heap_setCell_other _ _ _ _ (by show n ≠ n + 1 + 1 + 1; omega), heap_setCell_other _ _ _ _ (by show n ≠ n + 1 + 1; omega)]; exact q1
  · show (((wr.setCell _ _).setCell _ _).setCell _ _).heap[n + 1]? = _
    rw [heap_setCell_other _ _ _ _ (by simp), heap_setCell_other _ _ _ _ (by simp), heap_setCell_other _ _ _ _ (by simp)]; exact q2
  · show (((wr.setCell _ _).setCell _ _).setCell _ _).heap[n + 1 + 1]? = _
    rw [heap_setCell_other _ _ _ _ (by simp), heap_setCell_other _ _ _ _ (by simp), heap_set_bArr q3 hk, bArr_ext (fun i _ => cut_step (A ||| B) k i)]
  · show (((wr.setCell _ _).setCell _ _).setCell _ _).heap[n + 1 + 1 + 1]? = _
    rw [heap_setCell_other _ _ _ _ (by simp), heap_set_bArr (f := cut (A &&& B) k) ((heap_setCell_other _ _ _ _ (by simp)).trans q4) hk, bArr_ext (fun i _ => cut_step (A &&& B) k i)]
  · show (((wr.setCell _ _).setCell _ _).setCell _ _).heap[n + 1 + 1 + 1 + 1]? = _
    rw [heap_set_bArr (f := cut (lessM A B) k) ((heap_setCell_other _ _ _ _ (by simp)).trans ((heap_setCell_other _ _ _ _ (by show n + 1 + 1 + 1 + 1 ≠ n + 1 + 1; omega)).trans q5)) hk, bArr_ext (fun i _ => cut_step (lessM A B) k i)]
theorem lt_of_heap {w : World} {g : Nat} {o : Obj} (h : w.heap[g]? = some o) : g < w.heap.size := by
  rcases Nat.lt_or_ge g w.heap.size with c | c
  · exact c
  · rw [Array.getElem?_eq_none c] at h; cases h
/-- is A within B as far as k? -/
def subTo (A B : Nat) : Nat → Bool
  | 0 => true
  | k + 1 => subTo A B k && (!A.testBit k || B.testBit k)

theorem subTo_iff (A B : Nat) : ∀ k, subTo A B k = true ↔ ∀ i, i < k → A.testBit i = true → B.testBit i = true
  | 0 => by simp [subTo]
  | k + 1 => by
    simp only [subTo, Bool.and_eq_true, subTo_iff A B k]
    constructor
    · rintro ⟨h1, h2⟩ i hi ha
      rcases Nat.lt_or_ge i k with c | c
      · exact h1 i c ha
      · have : i = k := by omega
        subst this
        rw [ha] at h2
        simpa using h2
    · intro h
      refine ⟨fun i hi => h i (by omega), ?_⟩
      cases ha : A.testBit k
      · rfl
      · rw [h k (by omega) ha]; rfl
theorem subTo_eq {A B : Nat} (ha : A < 2 ^ 32) (hb : B < 2 ^ 32) : subTo A B 32 = subM A B := by
  rw [Bool.eq_iff_iff, subTo_iff, sub_iff ha hb]

end Go.Proofs.Ythnoafmdecehcaa
