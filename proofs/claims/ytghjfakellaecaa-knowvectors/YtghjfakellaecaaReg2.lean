/- More on drawn regions: three operations at once; stores; rows. -/
import Derived.Test.YtghjfakellaecaaReg
import Derived.Laws.Rows
namespace Go.Proofs.Ytghjfakellaecaa
open Go.RowKit Rm
set_option linter.unusedVariables false
set_option linter.unusedSimpArgs false
section
variable {ops : Array Oper} {Q : Exit → Act → World → Prop} {S : World → Prop}
/-- one of three operations -/
theorem re_tri {i j k : Nat} {oi oj ok : Oper} {fuel : Nat} {listed : Array Bool} {a : Act} {w : World} (hr : Region.ready .any ops listed = [i, j, k]) (hi : ops[i]? = some oi) (hj : ops[j]? = some oj) (hk : ops[k]? = some ok)
    (hw : Region.wanted oi (yielded ops a.tmps) = true) (hw' : Region.wanted oj (yielded ops a.tmps) = true) (hw'' : Region.wanted ok (yielded ops a.tmps) = true)
    (h : ∀ K : Act → World → Prop, (∀ a w, S w → wpAnyH Try.prog .any ops Q S fuel (listed.setIfInBounds i true) a w → K a w) → Oper.wp Try.prog oi a w K Q)
    (h' : ∀ K : Act → World → Prop, (∀ a w, S w → wpAnyH Try.prog .any ops Q S fuel (listed.setIfInBounds j true) a w → K a w) → Oper.wp Try.prog oj a w K Q)
    (h'' : ∀ K : Act → World → Prop, (∀ a w, S w → wpAnyH Try.prog .any ops Q S fuel (listed.setIfInBounds k true) a w → K a w) → Oper.wp Try.prog ok a w K Q) : wpAnyH Try.prog .any ops Q S (fuel + 1) listed a w := by
  refine wpAnyH_ready (rs := [i, j, k]) hr (by simp) (AllReadyH.cons hi (fun K hK => ?_) (AllReadyH.cons hj (fun K hK => ?_) (AllReadyH.cons hk (fun K hK => ?_) AllReadyH.nil)))
  · rw [if_pos hw]
    exact h K (fun a w h1 h2 => hK.out a w h1 (fun _ => h2))
  · rw [if_pos hw']
    exact h' K (fun a w h1 h2 => hK.out a w h1 (fun _ => h2))
  · rw [if_pos hw'']
    exact h'' K (fun a w h1 h2 => hK.out a w h1 (fun _ => h2))
/-- an operation with no slot of its own -/
theorem re_wnone {oi : Oper} {v : Value} {a : Act} {w w' : World} {K : Act → World → Prop} (hd : oi.dst = none) (hrun : (execOp a.eval oi).run Try.prog w = .ok (.value v) w') (h : K a w') : Oper.wp Try.prog oi a w K Q := by
  unfold Oper.wp
  rw [hrun]
  show K (a.put oi.dst v) w'
  rw [hd]
  exact h
/-- a whole row stored -/
theorem re_wrow {oi : Oper} {a : Act} {w : World} {K : Act → World → Prop} (ty : TypeId) (x y : Operand) (ho : oi.op = .store ty x y) (hd : oi.dst = none)
    (g : Nat) (cells : Array Value) (hx : a.eval x = .pointer (some ⟨g, 0, none⟩)) (hy : a.eval y = .agg cells)
    (t : TypeId) (old : Array Value) (hg : w.heap[g]? = some (.cells old t (0, 0))) (hi : (Try.prog.info? ty).map (·.size) = some cells.size)
    (hold : old.size = cells.size) (h1 : cells.all (·.oneCell') = true) (h : K a (w.setRow g cells)) : Oper.wp Try.prog oi a w K Q := by
  refine wp_store_row ty x y ho g cells hx hy t old hg hi hold h1 ?_
  rw [hd]
  exact h
/-- what is to be shown where an operation comes up -/
structure StepW (ops : Array Oper) (Q : Exit → Act → World → Prop) (S : World → Prop) (i : Nat) (oi : Oper) (fuel : Nat) (listed : Array Bool) (a : Act) (w : World) : Prop where
  out : ∀ K : Act → World → Prop, (∀ a w, S w → wpAnyH Try.prog .any ops Q S fuel (listed.setIfInBounds i true) a w → K a w) → Oper.wp Try.prog oi a w K Q
theorem st_one {i : Nat} {oi : Oper} {fuel : Nat} {listed : Array Bool} {a : Act} {w : World} (hr : Region.ready .any ops listed = [i]) (hi : ops[i]? = some oi) (hg : oi.guard = none) (h : StepW ops Q S i oi fuel listed a w) : wpAnyH Try.prog .any ops Q S (fuel + 1) listed a w := re_one hr hi (re_none _ hg) h.out
theorem st_pair {i j : Nat} {oi oj : Oper} {fuel : Nat} {listed : Array Bool} {a : Act} {w : World} (hr : Region.ready .any ops listed = [i, j]) (hi : ops[i]? = some oi) (hj : ops[j]? = some oj) (hg : oi.guard = none) (hg' : oj.guard = none) (h : StepW ops Q S i oi fuel listed a w) (h' : StepW ops Q S j oj fuel listed a w) : wpAnyH Try.prog .any ops Q S (fuel + 1) listed a w := re_pair hr hi hj (re_none _ hg) (re_none _ hg') h.out h'.out
theorem st_tri {i j k : Nat} {oi oj ok : Oper} {fuel : Nat} {listed : Array Bool} {a : Act} {w : World} (hr : Region.ready .any ops listed = [i, j, k]) (hi : ops[i]? = some oi) (hj : ops[j]? = some oj) (hk : ops[k]? = some ok) (hg : oi.guard = none) (hg' : oj.guard = none) (hg'' : ok.guard = none) (h : StepW ops Q S i oi fuel listed a w) (h' : StepW ops Q S j oj fuel listed a w) (h'' : StepW ops Q S k ok fuel listed a w) : wpAnyH Try.prog .any ops Q S (fuel + 1) listed a w := re_tri hr hi hj hk (re_none _ hg) (re_none _ hg') (re_none _ hg'') h.out h'.out h''.out
theorem st_call {i : Nat} {oi : Oper} {fuel : Nat} {listed : Array Bool} {a : Act} {w : World} {f : Nat} {args : Array Value} {A : Ending → World → Prop} {d : Nat} (hd : oi.dst = some d) (hrun : (execOp a.eval oi).run Try.prog w = .ok (.enter f args) w) (hc : Calls Try.prog f args w A)
    (h : ∀ e w', A e w' → ∃ v, e = .returned v ∧ S w' ∧ wpAnyH Try.prog .any ops Q S fuel (listed.setIfInBounds i true) (a.put (some d) v) w') : StepW ops Q S i oi fuel listed a w := by
  refine ⟨fun K hK => ?_⟩
  refine re_wcall hd hrun hc ?_
  intro e w' hA
  obtain ⟨v, h1, h2, h3⟩ := h e w' hA
  exact ⟨v, h1, hK _ _ h2 h3⟩
theorem st_val {i : Nat} {oi : Oper} {fuel : Nat} {listed : Array Bool} {a : Act} {w w' : World} {v : Value} {d : Nat} (hd : oi.dst = some d) (hrun : (execOp a.eval oi).run Try.prog w = .ok (.value v) w') (hS : S w') (h : wpAnyH Try.prog .any ops Q S fuel (listed.setIfInBounds i true) (a.put (some d) v) w') : StepW ops Q S i oi fuel listed a w :=
  ⟨fun K hK => re_wval hd hrun (hK _ _ hS h)⟩
theorem st_row {i : Nat} {oi : Oper} {fuel : Nat} {listed : Array Bool} {a : Act} {w : World} (ty : TypeId) (x y : Operand) (ho : oi.op = .store ty x y) (hd : oi.dst = none)
    (g : Nat) (cells : Array Value) (hx : a.eval x = .pointer (some ⟨g, 0, none⟩)) (hy : a.eval y = .agg cells)
    (t : TypeId) (old : Array Value) (hg : w.heap[g]? = some (.cells old t (0, 0))) (hi : (Try.prog.info? ty).map (·.size) = some cells.size)
    (hold : old.size = cells.size) (h1 : cells.all (·.oneCell') = true) (hS : S (w.setRow g cells)) (h : wpAnyH Try.prog .any ops Q S fuel (listed.setIfInBounds i true) a (w.setRow g cells)) : StepW ops Q S i oi fuel listed a w :=
  ⟨fun K hK => re_wrow ty x y ho hd g cells hx hy t old hg hi hold h1 (hK _ _ hS h)⟩
end
section
variable (ev : Operand → Value) (d : Option Tmp) (ty : TypeId) (p : String) (af : Array Edge) (g : Option (Nat × Bool)) (w : World)
/-- a whole row loaded -/
theorem rr_row (T : TypeId) (x : Operand) (B : Nat) (cs : Array Value) (h : ev x = .pointer (some ⟨B, 0, none⟩)) (hl : (loadVar T ⟨B, 0, none⟩).run Try.prog w = .ok (.agg cs) w) : (execOp ev (Oper.mk d (.load T x) ty p af g)).run Try.prog w = .ok (.value (.agg cs)) w := by
  unfold execOp
  simp only [h, Instr.loadAt, Instr.sureAddr, Sem.run_bind, Sem.run_pure, Result.andThen_ok, hl]
theorem rr_alloc {t : TypeId} {cs : Array Value} (hz : (Try.prog.info? t).bind (·.zero) = some (.agg cs)) : (execOp ev (Oper.mk d (.alloc t) ty p af g)).run Try.prog w = .ok (.value (.pointer (some ⟨w.heap.size, 0, none⟩))) (w.alloc (.cells cs t)) := by
  cases hq : Try.prog.info? t with
  | none => simp [hq] at hz
  | some i =>
    have hz' : i.zero = some (.agg cs) := by simpa [hq] using hz
    simp [execOp, Instr.alloc, zeroValue, typeInfo, hq, hz', newVar, newRow, Value.cells, go_sem]
theorem rr_enter3 (f : Nat) (x y z : Operand) (u v t : Value) (ts : Array TypeId) (h : ev x = u) (h' : ev y = v) (h'' : ev z = t) (hf : ev (.func f) = .func (.func f) #[] #[]) (hcf : (callFunc f #[u, v, t]).run Try.prog w = .ok (.enter f #[u, v, t]) w) : (execOp ev (Oper.mk d (.call (Call.mk (.value (.func f)) #[x, y, z] ts)) ty p af g)).run Try.prog w = .ok (.enter f #[u, v, t]) w := by
  go_simp
end
end Go.Proofs.Ytghjfakellaecaa
