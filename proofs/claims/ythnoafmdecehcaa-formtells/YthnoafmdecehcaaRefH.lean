/- The map of the document's own Says: what is known of each node. -/
import Derived.Test.YthnoafmdecehcaaRefC
import Derived.Test.YthnoafmdecehcaaRefG
import Derived.Maps.OwnOps
namespace Rm
open Go Go.RowKit
/-- a set of points, point by point -/
def ptI (P : Pt) (j : Nat) : Bool := P (j / 32) (j % 32)
/-- what node k says of each point -/
def pv (l : List Nd) (k : Nat) : Nat → Bool := ptI (getP (semL l) k)
end Rm
namespace Go.Proofs.Ythnoafmdecehcaa
open Go.RowKit Rm
set_option linter.unusedVariables false

def ent (l : List Nd) (p : Nat × Nat) : MapEntry := { key := .int .i64 (p.1 : Int), val := .agg (pArr (pv l p.1)), born := p.2 }
theorem find_ent (l : List Nd) (i : Nat) : ∀ (K : List (Nat × Nat)) (s : Nat),
    (∃ (j : Nat) (p : Nat × Nat), K[j]? = some p ∧ p.1 = i ∧ Instr.findNow (.int .i64) (.int .i64 (i : Int)) (K.map (ent l)) s = some (some (s + j, .agg (pArr (pv l i))))) ∨
    Instr.findNow (.int .i64) (.int .i64 (i : Int)) (K.map (ent l)) s = some none
  | [], s => .inr rfl
  | p :: K, s => by
    have hs : Instr.sameNow (.int .i64) (.int .i64 (i : Int)) (ent l p).key = some ((i : Int) == (p.1 : Int)) := by simp [Instr.sameNow, ent]
    by_cases h : p.1 = i
    · refine .inl ⟨0, p, rfl, h, ?_⟩
      subst h
      simp only [List.map_cons, Instr.findNow, hs, Nat.add_zero]
      simp [ent]
    · have h2 : ((i : Int) == (p.1 : Int)) = false := by rw [Bool.eq_false_iff]; intro e; rw [beq_iff_eq] at e; omega
      rw [h2] at hs
      rcases find_ent l i K (s + 1) with ⟨j, q, h3, h4, h5⟩ | h5
      · refine .inl ⟨j + 1, q, by simpa using h3, h4, ?_⟩
        simp only [List.map_cons, Instr.findNow, hs]
        rw [h5]
        have : s + 1 + j = s + (j + 1) := by omega
        rw [this]
      · refine .inr ?_
        simp only [List.map_cons, Instr.findNow, hs]
        exact h5
/-- block r is a map in which what is found at a node is what the node says -/
def MemAt (l : List Nd) (w : World) (r : Nat) : Prop := ∃ (K : List (Nat × Nat)) (c : Nat), w.heap[r]? = some (.map (K.map (ent l)).toArray c)
theorem MemAt.new (l : List Nd) (w : World) : MemAt l (w.alloc (.map #[] 0)) w.heap.size := ⟨[], 0, heap_alloc_new _ _⟩
theorem lookup_run {l : List Nd} {w : World} {r : Nat} (h : MemAt l w r) (i : Nat) :
    ∃ b : Bool, (Instr.lookup 86 (.map (some r)) (.int .i64 (i : Int)) true).run Try.prog w = .ok (.tuple #[.agg (pArr (if b then pv l i else fun _ => false)), .bool b]) w := by
  obtain ⟨K, c, hb⟩ := h
  have hc : ∀ e, (Instr.checkKey e 10000 3 (.int .i64 (i : Int))).run Try.prog w = .ok () w := fun e => MapKept.run_checkKey (k := .int .i64 (i : Int)) Try.underlying3 (by simp [MapKept.IsKey]) e 9999
  rcases find_ent l i K 0 with ⟨j, p, h3, h4, h5⟩ | h5
  · exact ⟨true, by simp [Instr.lookup, run_underlying Try.underlying86, MapKept.run_getObj_map hb, hc, MapKept.run_findKey Try.underlying3 h5, Result.andThen]⟩
  · exact ⟨false, by simp [Instr.lookup, run_underlying Try.underlying86, MapKept.run_getObj_map hb, hc, MapKept.run_findKey Try.underlying3 h5, Result.andThen]; kernel_rfl⟩
theorem update_run {l : List Nd} {w : World} {r : Nat} (h : MemAt l w r) (i : Nat) :
    ∃ w', (Instr.mapUpdate 86 (.map (some r)) (.int .i64 (i : Int)) (.agg (pArr (pv l i)))).run Try.prog w = .ok () w' ∧ MemAt l w' r ∧ w.grownBy w' (some r) := by
  obtain ⟨K, c, hb⟩ := h
  have hc : ∀ e, (Instr.checkKey e 10000 3 (.int .i64 (i : Int))).run Try.prog w = .ok () w := fun e => MapKept.run_checkKey (k := .int .i64 (i : Int)) Try.underlying3 (by simp [MapKept.IsKey]) e 9999
  have hg : ∀ o, w.grownBy { w with heap := w.heap.setIfInBounds r o } (some r) := fun o => ⟨rfl, rfl, rfl, by simp, fun k _ hk => (MapKept.heap_set hb).2 k (fun e => hk (by rw [e]))⟩
  rcases find_ent l i K 0 with ⟨j, p, h3, h4, h5⟩ | h5
  · rw [Nat.zero_add] at h5
    have hj : (K.map (ent l)).toArray[j]? = some (ent l p) := by simp [h3]
    have hm : ((K.map (ent l)).toArray.modify j fun e => { e with key := .int .i64 (i : Int), val := .agg (pArr (pv l i)) }) = (K.map (ent l)).toArray := by
      apply Array.ext_getElem?
      intro k
      rw [Array.getElem?_modify]
      split
      · rename_i e
        subst e
        rw [hj]
        subst h4
        rfl
      · rfl
    have hs : (Instr.keyThatStays (((K.map (ent l)).toArray[j]?.map (·.key)).getD (.int .i64 (i : Int))) (.int .i64 (i : Int))).run Try.prog w = .ok (.int .i64 (i : Int)) w := by
      rw [hj]
      subst h4
      simp [Instr.keyThatStays, ent, Instr.sameBits]
    refine ⟨_, ?_, ?_, hg (.map (K.map (ent l)).toArray c)⟩
    · simp only [Instr.mapUpdate, Sem.run_bind, run_underlying Try.underlying86, Result.andThen_ok, MapKept.run_getObj_map hb, hc, MapKept.run_findKey Try.underlying3 h5, hs, hm, MapKept.run_setObj_map _ hb]
    · exact ⟨K, c, (MapKept.heap_set hb).1⟩
  · refine ⟨_, ?_, ?_, hg (.map ((K.map (ent l)).toArray.push { key := .int .i64 (i : Int), val := .agg (pArr (pv l i)), born := c }) (c + 1))⟩
    · simp only [Instr.mapUpdate, Sem.run_bind, run_underlying Try.underlying86, Result.andThen_ok, MapKept.run_getObj_map hb, hc, MapKept.run_findKey Try.underlying3 h5, MapKept.run_setObj_map _ hb]
    · exact ⟨K ++ [(i, c)], c + 1, by rw [(MapKept.heap_set hb).1]; simp [ent]⟩
theorem wpList_lookup_at {w : World} {ops : Array Oper} {rest : List Oper} {o : Oper} {a : Act} {Q : Exit → Act → World → Prop} (hg : o.guard = none) (m x : Operand) (t : TypeId) (hop : o.op = Op.lookup t m x true)
    (mv xv v : Value) (hm : a.eval m = mv) (hx : a.eval x = xv) (hrun : (Instr.lookup t mv xv true).run Try.prog w = .ok v w) (h : wpList Try.prog ops Q rest (a.put o.dst v) w) : wpList Try.prog ops Q (o :: rest) a w := by
  refine wpList_plain hg fun K' hK' => ?_
  unfold Oper.wp
  simp [execOp, hop, hm, hx, hrun, Result.andThen]
  exact hK' _ _ h
theorem wpList_update_at {w w' : World} {ops : Array Oper} {rest : List Oper} {o : Oper} {a : Act} {Q : Exit → Act → World → Prop} (hg : o.guard = none) (m x y : Operand) (t : TypeId) (hop : o.op = Op.mapUpdate t m x y)
    (mv xv yv : Value) (hm : a.eval m = mv) (hx : a.eval x = xv) (hy : a.eval y = yv) (hrun : (Instr.mapUpdate t mv xv yv).run Try.prog w = .ok () w') (h : wpList Try.prog ops Q rest (a.put o.dst undef) w') : wpList Try.prog ops Q (o :: rest) a w := by
  refine wpList_plain hg fun K' hK' => ?_
  unfold Oper.wp
  simp [execOp, hop, hm, hx, hy, hrun, Result.andThen]
  exact hK' _ _ h
end Go.Proofs.Ythnoafmdecehcaa
