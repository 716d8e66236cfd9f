/- Steps of a region that draws its order, over any state of the frame. -/
import Derived.Test.YtghjfakellaecaaSpanA
import Derived.Deep.RegionHeld3
namespace Go.Proofs.Ytghjfakellaecaa
open Go.RowKit Rm
set_option linter.unusedVariables false
set_option linter.unusedSimpArgs false

theorem re_ne (a : Act) (d : Nat) (v : Value) (t : Nat) (h : t ≠ d) : (a.put (some d) v).eval (.tmp t) = a.eval (.tmp t) := by
  simp only [Act.put, Act.eval, Array.getD_eq_getD_getElem?]
  rw [Array.getElem?_setIfInBounds_ne (Ne.symm h)]
theorem re_eq (a : Act) (d : Nat) (v : Value) (h : d < a.tmps.size) : (a.put (some d) v).eval (.tmp d) = v := by
  simp only [Act.put, Act.eval, Array.getD_eq_getD_getElem?]
  rw [Array.getElem?_setIfInBounds_self_of_lt h]
  rfl
theorem re_size (a : Act) (d : Nat) (v : Value) : (a.put (some d) v).tmps.size = a.tmps.size := by
  simp [Act.put]
theorem re_const (a : Act) (v : Value) : a.eval (.const v) = v := rfl
theorem re_func (a : Act) (f : Nat) : a.eval (.func f) = .func (.func f) #[] #[] := rfl
theorem re_comm (a : Act) (i j : Nat) (x y : Value) (h : i ≠ j) : (a.put (some i) x).put (some j) y = (a.put (some j) y).put (some i) x := by
  simp only [Act.put]
  congr 1
  apply Array.ext_getElem?
  intro k
  simp only [Array.getElem?_setIfInBounds, Array.size_setIfInBounds]
  by_cases h1 : j = k <;> by_cases h2 : i = k <;> simp [h1, h2] <;> omega
section
variable {ops : Array Oper} {Q : Exit → Act → World → Prop} {S : World → Prop}
theorem re_yld (a : Act) (j d : Nat) (b : Bool) (h : (ops[j]?).bind (·.dst) = some d) (hv : a.eval (.tmp d) = .bool b) : yielded ops a.tmps j = some b := by
  unfold yielded
  rw [h]
  simp only [Act.eval, Array.getD_eq_getD_getElem?] at hv
  simp only [Option.bind_some]
  cases hc : a.tmps[d]? with
  | none => rw [hc] at hv; cases hv
  | some u => rw [hc] at hv; simp only [Option.getD_some] at hv; subst hv; rfl
theorem re_none {o : Oper} (f : Nat → Option Bool) (h : o.guard = none) : Region.wanted o f = true := by
  unfold Region.wanted; rw [h]
theorem re_some {o : Oper} (f : Nat → Option Bool) (j : Nat) (w b : Bool) (h : o.guard = some (j, w)) (hf : f j = some b) : Region.wanted o f = (b == w) := by
  unfold Region.wanted; rw [h]; simp only [hf]; cases b <;> cases w <;> rfl
theorem re_tk {i : Nat} {oi : Oper} {v : Value} {fuel : Nat} {listed : Array Bool} {a : Act} {w : World} {d : Nat} (hQ : ∀ c a d v w, Q (.panic c) (Act.put a (some d) v) w → Q (.panic c) a w)
    (hi : ops[i]? = some oi) (hd : oi.dst = some d) (hf : Region.free .any ops listed i = true) (hr : (Region.ready .any ops listed).contains i = true)
    (hs : Region.noSelect ops = true) (hy : YieldsIf Try.prog ops S oi v a) (hS : S w)
    (h : wpAnyH Try.prog .any ops Q S fuel (listed.setIfInBounds i true) (a.put (some d) v) w) : wpAnyH Try.prog .any ops Q S (fuel + 1) listed a w :=
  wpAnyH_take hi hs hf hr (fun c a w h => hQ c a d v w (hd ▸ h)) hy hS (hd ▸ h)
/-- the one operation that may come up -/
theorem re_one {i : Nat} {oi : Oper} {fuel : Nat} {listed : Array Bool} {a : Act} {w : World} (hr : Region.ready .any ops listed = [i]) (hi : ops[i]? = some oi) (hw : Region.wanted oi (yielded ops a.tmps) = true)
    (h : ∀ K : Act → World → Prop, (∀ a w, S w → wpAnyH Try.prog .any ops Q S fuel (listed.setIfInBounds i true) a w → K a w) → Oper.wp Try.prog oi a w K Q) : wpAnyH Try.prog .any ops Q S (fuel + 1) listed a w := by
  refine wpAnyH_ready (rs := [i]) hr (by simp) (AllReadyH.cons hi (fun K hK => ?_) AllReadyH.nil)
  rw [if_pos hw]
  exact h K (fun a w h1 h2 => hK.out a w h1 (fun _ => h2))
/-- one of two operations -/
theorem re_pair {i j : Nat} {oi oj : Oper} {fuel : Nat} {listed : Array Bool} {a : Act} {w : World} (hr : Region.ready .any ops listed = [i, j]) (hi : ops[i]? = some oi) (hj : ops[j]? = some oj)
    (hw : Region.wanted oi (yielded ops a.tmps) = true) (hw' : Region.wanted oj (yielded ops a.tmps) = true)
    (h : ∀ K : Act → World → Prop, (∀ a w, S w → wpAnyH Try.prog .any ops Q S fuel (listed.setIfInBounds i true) a w → K a w) → Oper.wp Try.prog oi a w K Q)
    (h' : ∀ K : Act → World → Prop, (∀ a w, S w → wpAnyH Try.prog .any ops Q S fuel (listed.setIfInBounds j true) a w → K a w) → Oper.wp Try.prog oj a w K Q) : wpAnyH Try.prog .any ops Q S (fuel + 1) listed a w := by
  refine wpAnyH_ready (rs := [i, j]) hr (by simp) (AllReadyH.cons hi (fun K hK => ?_) (AllReadyH.cons hj (fun K hK => ?_) AllReadyH.nil))
  · rw [if_pos hw]
    exact h K (fun a w h1 h2 => hK.out a w h1 (fun _ => h2))
  · rw [if_pos hw']
    exact h' K (fun a w h1 h2 => hK.out a w h1 (fun _ => h2))
theorem re_wcall {oi : Oper} {f : Nat} {args : Array Value} {a : Act} {w : World} {K : Act → World → Prop} {A : Ending → World → Prop} {d : Nat} (hd : oi.dst = some d) (hrun : (execOp a.eval oi).run Try.prog w = .ok (.enter f args) w) (hc : Calls Try.prog f args w A)
    (h : ∀ e w', A e w' → ∃ v, e = .returned v ∧ K (a.put (some d) v) w') : Oper.wp Try.prog oi a w K Q := by
  unfold Oper.wp
  rw [hrun, Oper.upon_enter]
  refine hc.mono ?_
  intro e w' hA
  obtain ⟨v, rfl, hk⟩ := h e w' hA
  rw [hd]
  exact hk
theorem re_wval {oi : Oper} {v : Value} {a : Act} {w w' : World} {K : Act → World → Prop} {d : Nat} (hd : oi.dst = some d) (hrun : (execOp a.eval oi).run Try.prog w = .ok (.value v) w') (h : K (a.put (some d) v) w') : Oper.wp Try.prog oi a w K Q := by
  unfold Oper.wp
  rw [hrun]
  rw [← hd] at h
  exact h
end
section
variable (ev : Operand → Value) (d : Option Tmp) (ty : TypeId) (p : String) (af : Array Edge) (g : Option (Nat × Bool)) (w : World)
theorem rr_move (x : Operand) (v : Value) (h : ev x = v) : (execOp ev (Oper.mk d (.move x) ty p af g)).run Try.prog w = .ok (.value v) w := by
  subst h; rfl
theorem rr_assign (x : Operand) (v : Value) (h : ev x = v) : (execOp ev (Oper.mk d (.assign x) ty p af g)).run Try.prog w = .ok (.value v) w := by
  subst h; rfl
theorem rr_pick (c x y : Operand) (b : Bool) (v : Value) (hc : ev c = .bool b) (h : (if b then ev x else ev y) = v) : (execOp ev (Oper.mk d (.pick c x y) ty p af g)).run Try.prog w = .ok (.value v) w := by
  subst h; cases b <;> go_simp
theorem rr_ext0 (x : Operand) (u v : Value) (h : ev x = .tuple #[u, v]) : (execOp ev (Oper.mk d (.extract x 0) ty p af g)).run Try.prog w = .ok (.value u) w := by
  go_simp
theorem rr_ext1 (x : Operand) (u v : Value) (h : ev x = .tuple #[u, v]) : (execOp ev (Oper.mk d (.extract x 1) ty p af g)).run Try.prog w = .ok (.value v) w := by
  go_simp
theorem rr_enter_of {f : FuncId} {fn : Func} (hf : Try.prog.funcs[f]? = some fn) (hname : (fn.name == "runtime.NumGoroutine") = false) (hb : fn.body.isNone = false) (args : Array Value) (w : World) : (callFunc f args).run Try.prog w = .ok (.enter f args) w := by
  have h1 : ¬ fn.name = "runtime.NumGoroutine" := by simpa using hname
  have h2 : ¬ fn.body = none := by intro e; rw [e] at hb; cases hb
  simp [callFunc, Sem.run_bind, hf, h1, h2]
theorem rr_enter1 (f : Nat) (x : Operand) (v : Value) (ts : Array TypeId) (h : ev x = v) (hf : ev (.func f) = .func (.func f) #[] #[]) (hcf : (callFunc f #[v]).run Try.prog w = .ok (.enter f #[v]) w) : (execOp ev (Oper.mk d (.call (Call.mk (.value (.func f)) #[x] ts)) ty p af g)).run Try.prog w = .ok (.enter f #[v]) w := by
  go_simp
theorem rr_enter2 (f : Nat) (x y : Operand) (u v : Value) (ts : Array TypeId) (h : ev x = u) (h' : ev y = v) (hf : ev (.func f) = .func (.func f) #[] #[]) (hcf : (callFunc f #[u, v]).run Try.prog w = .ok (.enter f #[u, v]) w) : (execOp ev (Oper.mk d (.call (Call.mk (.value (.func f)) #[x, y] ts)) ty p af g)).run Try.prog w = .ok (.enter f #[u, v]) w := by
  go_simp
end
end Go.Proofs.Ytghjfakellaecaa
