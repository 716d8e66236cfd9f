/- Two parts of a tuple are taken and the first is stored: the second may come when it likes. -/
import Derived.Test.YtghjfakellaecaaGx
set_option linter.unusedVariables false
namespace Gx
open Go Go.RowKit Rm
section
variable {P : Program} {ops : Array Oper} {Q : Exit → Act → World → Prop} {N : Nat}
theorem w_val {i : Nat} {o : Oper} {R : Act → World → Prop} {a : Act} {w : World} {d : Nat} {v : Value} (ho : ops[i]? = some o) (hw : Region.wanted o (yielded ops a.tmps) = true) (hd : o.dst = some d)
    (hrun : (execOp a.eval o).run P w = .ok (.value v) w) (h : R (a.put (some d) v) w) : wpOp P ops Q i R a w := by
  unfold wpOp
  rw [ho]
  simp only [hw, if_true]
  refine .inl ?_
  unfold Oper.wp
  rw [hrun]
  show R (a.put o.dst v) w
  rw [hd]
  exact h
theorem w_st {i : Nat} {o : Oper} {R : Act → World → Prop} {a : Act} {w w' : World} (ho : ops[i]? = some o) (hw : Region.wanted o (yielded ops a.tmps) = true) (hd : o.dst = none)
    (hrun : (execOp a.eval o).run P w = .ok .skip w') (h : R a w') : wpOp P ops Q i R a w := by
  unfold wpOp
  rw [ho]
  simp only [hw, if_true]
  refine .inl ?_
  unfold Oper.wp
  rw [hrun]
  show R (a.put o.dst undef) w'
  rw [hd]
  exact h
theorem t_three {i0 i1 j : Nat} {o0 o1 oj : Oper} {fuel : Nat} {L : Array Bool} {a : Act} {w : World} {d0 d1 b : Nat} {v0 v1 : Value} {cs cs' : Array Value} {t : TypeId}
    (hr0 : Region.ready .any ops L = [i0, i1]) (hr1 : Region.ready .any ops (L.setIfInBounds i0 true) = [i1, j]) (hr2 : Region.ready .any ops (L.setIfInBounds i1 true) = [i0])
    (hr3 : Region.ready .any ops ((L.setIfInBounds i0 true).setIfInBounds i1 true) = [j]) (hr4 : Region.ready .any ops ((L.setIfInBounds i0 true).setIfInBounds j true) = [i1])
    (hL1 : (L.setIfInBounds i1 true).setIfInBounds i0 true = (L.setIfInBounds i0 true).setIfInBounds i1 true)
    (hL2 : ((L.setIfInBounds i0 true).setIfInBounds j true).setIfInBounds i1 true = ((L.setIfInBounds i0 true).setIfInBounds i1 true).setIfInBounds j true)
    (ho0 : ops[i0]? = some o0) (ho1 : ops[i1]? = some o1) (hoj : ops[j]? = some oj) (ok : Ok N a) (hd0 : o0.dst = some d0) (hd1 : o1.dst = some d1) (hdj : oj.dst = none)
    (hw0 : ∀ a : Act, Region.wanted o0 (yielded ops a.tmps) = true) (hw1 : ∀ a : Act, Region.wanted o1 (yielded ops a.tmps) = true) (hwj : ∀ a : Act, Region.wanted oj (yielded ops a.tmps) = true)
    (hN0 : Nat.blt d0 N = true) (hN1 : Nat.blt d1 N = true) (h10 : Nat.beq d1 d0 = false) (h01 : Nat.beq d0 d1 = false)
    (run0 : ∀ a' : Act, (∀ t, Nat.beq t d1 = false → a'.eval (.tmp t) = a.eval (.tmp t)) → (execOp a'.eval o0).run P w = .ok (.value v0) w)
    (run1 : ∀ (a' : Act) (w1 : World), (∀ t, Nat.beq t d0 = false → a'.eval (.tmp t) = a.eval (.tmp t)) → (execOp a'.eval o1).run P w1 = .ok (.value v1) w1)
    (runj : ∀ a' : Act, a'.eval (.tmp d0) = v0 → (∀ t, Nat.beq t d0 = false → Nat.beq t d1 = false → a'.eval (.tmp t) = a.eval (.tmp t)) → (execOp a'.eval oj).run P w = .ok .skip (w.setRow b cs'))
    (hb : Bk w b cs t)
    (h : ∀ a1 a' w', Nx N a a1 d0 v0 → Nx N a1 a' d1 v1 → Upd w w' b → Bk w' b cs' t → wpAny P .any ops Q fuel (((L.setIfInBounds i0 true).setIfInBounds i1 true).setIfInBounds j true) a' w') : wpAny P .any ops Q (fuel + 3) L a w := by
  have n0 := Nx.put ok hN0 v0
  have n1 := Nx.put ok hN1 v1
  have n01 := Nx.put n0.ok hN1 v1
  have n10 := Nx.put n1.ok hN0 v0
  have nb : Nx N (a.put (some d0) v0) ((a.put (some d1) v1).put (some d0) v0) d1 v1 := {
    ok := n10.ok
    at_ := n10.ne h10 n1.at_
    oth := fun t q => by
      by_cases e : Nat.beq t d0 = true
      · have e' : t = d0 := Nat.eq_of_beq_eq_true e
        subst e'
        rw [n10.at_, n0.at_]
      · have e' : Nat.beq t d0 = false := (Bool.not_eq_true _).mp e
        rw [n10.oth t e', n1.oth t q, n0.oth t e'] }
  have H := fun a1 a' x y => h a1 a' (w.setRow b cs') x y (upd_row _ _ _) (hb.row _)
  refine wpAny_all hr0 (by simp) fun k hk => ?_
  rcases List.mem_cons.1 hk with rfl | hk
  · refine w_val ho0 (hw0 _) hd0 (run0 _ fun _ _ => rfl) ?_
    refine wpAny_all hr1 (by simp) fun k hk => ?_
    rcases List.mem_cons.1 hk with rfl | hk
    · refine w_val ho1 (hw1 _) hd1 (run1 _ _ fun t q => n0.oth t q) ?_
      refine wpAny_all hr3 (by simp) fun k hk => ?_
      obtain rfl : k = j := by simpa using hk
      exact w_st hoj (hwj _) hdj (runj _ (n01.ne h01 n0.at_) fun t q q' => (n01.oth t q').trans (n0.oth t q)) (H _ _ n0 n01)
    · obtain rfl : k = j := by simpa using hk
      refine w_st hoj (hwj _) hdj (runj _ n0.at_ fun t q _ => n0.oth t q) ?_
      refine wpAny_all hr4 (by simp) fun k hk => ?_
      obtain rfl : k = i1 := by simpa using hk
      refine w_val ho1 (hw1 _) hd1 (run1 _ _ fun t q => n0.oth t q) ?_
      rw [hL2]
      exact H _ _ n0 n01
  · obtain rfl : k = i1 := by simpa using hk
    refine w_val ho1 (hw1 _) hd1 (run1 _ _ fun _ _ => rfl) ?_
    refine wpAny_all hr2 (by simp) fun k hk => ?_
    obtain rfl : k = i0 := by simpa using hk
    refine w_val ho0 (hw0 _) hd0 (run0 _ fun t q => n1.oth t q) ?_
    rw [hL1]
    refine wpAny_all hr3 (by simp) fun k hk => ?_
    obtain rfl : k = j := by simpa using hk
    exact w_st hoj (hwj _) hdj (runj _ n10.at_ fun t q q' => (n10.oth t q).trans (n1.oth t q')) (H _ _ n0 nb)
end
end Gx
