/- Joined: KnD, KnE, Reg, KnF, KnK, KnM, KnN, KnT, KmA, PtB, KmB, KmC, KmD, KmE, OpenA, OpenK, KmF, KmG, KmI, SpanD, CubeA, SetB. -/
import Derived.Test.YthcehgmpajejeaaSy1
import Derived.Deep.RegionHeld3
import Derived.Laws.Rows
import Derived.StillTailTactics
import Derived.Test.YthcehgmpajejeaaProg
import Derived.Deep.SlicePairs
import Derived.ProofKit
import Derived.KernelRfl
import Derived.Lib.BitFns
import Derived.Laws.AppendOwnNone
import Derived.WalkKit
import Derived.WalkSpells
import Derived.WalkLawsBesides
import Derived.Deep.QuietTactic
import Derived.BigQuiet
import Derived.Lib.Hide
/- know.Check, checkBoth, Count. -/
namespace Go.Proofs.Ythcehgmpajejeaa
open Go.RowKit Rm
set_option linter.unusedVariables false
set_option linter.unusedSimpArgs false
theorem chkK_large {V : List Int} {M : List (Int × Int)} (h : 5 < V.length ∨ 60 < M.length) : chkK V M = 2 := by unfold chkK; rw [if_pos h]
theorem chkK_vec {V : List Int} {M : List (Int × Int)} (h : ¬ (5 < V.length ∨ 60 < M.length)) (hv : chkV V ≠ 0) : chkK V M = chkV V := by unfold chkK; rw [if_neg h, if_pos hv]
theorem chkK_more {V : List Int} {M : List (Int × Int)} (h : ¬ (5 < V.length ∨ 60 < M.length)) (hv : chkV V = 0) : chkK V M = chkM (natsI V) M := by unfold chkK; rw [if_neg h, if_neg (by simp [hv])]
set_option maxHeartbeats 4000000 in
set_option maxRecDepth 100000 in
theorem kcheck_any (k : Value) (V : List Int) (M : List (Int × Int)) (w : World) (hk : KnR w k V M) :
    Calls Try.prog 27 #[k] w fun e w' => e = .returned (.int .i64 (chkK V M)) ∧ Gr w w' := by
  obtain ⟨vv, mv, rfl, r1, r2, r3⟩ := id hk
  obtain ⟨va, vc, rfl, hvc, hv⟩ := id r1
  obtain ⟨ma, mc, rfl, hmc, hm⟩ := id r2
  clear hv hm
  have HK := Lib.hid hk
  have R1h := Lib.hid r1
  have R2h := Lib.hid r2
  clear hk r1 r2 r3
  by_cases h5 : 5 < V.length
  · have h5' : (5 : Int) < (V.length : Int) := by omega
    have HR := Lib.hid (chkK_large (M := M) (.inl h5))
    go_enter Try.func27, Try.ntmps27
    go_wp2
    go_ret
    exact ⟨by rw [HR.out]; rfl, (Gr.refl _).alloc _⟩
  · have h5' : decide ((5 : Int) < (V.length : Int)) = false := by simp; omega
    have h5'' : (V.length : Int) ≤ 5 := by omega
    by_cases h6 : 60 < M.length
    · have h6' : (60 : Int) < (M.length : Int) := by omega
      have HR := Lib.hid (chkK_large (V := V) (.inr h6))
      go_enter Try.func27, Try.ntmps27
      go_wp2
      go_ret
      exact ⟨by rw [HR.out]; rfl, (Gr.refl _).alloc _⟩
    · have h6' : decide ((60 : Int) < (M.length : Int)) = false := by simp; omega
      have h6'' : (M.length : Int) ≤ 60 := by omega
      have hno : ¬ (5 < V.length ∨ 60 < M.length) := by omega
      have HV : Hid (∀ w', Gr w w' → Calls Try.prog 47 #[.slice va V.length vc] w' fun e w'' => e = .returned (.int .i64 (chkV V)) ∧ Gr w' w'') := fun w' g => checkVec_any _ V w' (R1h.out.gr g) (by omega)
      by_cases hz : chkV V = 0
      · have HR := Lib.hid (chkK_more hno hz)
        have hin := (chkV_zero hz).1
        have EV := ints_natsI hin
        have hz' : chkV V = 0 := hz
        rw [hz] at HV
        have HC : Hid (∀ w', Gr w w' → Calls Try.prog 49 #[.agg #[.slice va V.length vc, .slice ma M.length mc]] w' fun e w'' => e = .returned (.agg (cArr (natsI V))) ∧ Gr w' w'') := fun w' g => countsOf_any _ (natsI V) M w' (by rw [EV]; exact HK.out.gr g) (by simp [natsI]; omega)
        have HM : Hid (∀ w', Gr w w' → Calls Try.prog 48 #[.slice ma M.length mc, .agg (cArr (natsI V))] w' fun e w'' => e = .returned (.int .i64 (chkM (natsI V) M)) ∧ Gr w' w'') := fun w' g => checkMore_any _ (natsI V) M w' (R2h.out.gr g) (by omega) (fun x hx => by
          obtain ⟨y, hy, rfl⟩ := List.mem_map.1 hx
          have := hin y hy; omega)
        generalize chkM (natsI V) M = R at *
        generalize cArr (natsI V) = A at *
        generalize hN : V.length = N at *
        have HN := Lib.hid hN
        clear hN hz hz' hin EV
        go_enter Try.func27, Try.ntmps27
        go_wp2_with (first | (go_at_call 47; refine (HV.out _ ((Gr.refl w).alloc _)).mono ?_; rintro e w1 ⟨rfl, g1⟩; have G1 := Lib.hid (((Gr.refl w).alloc _).trans g1)))
        have e1 := (g1.cells.1 w.heap.size 0 (by simp)).trans (show (w.alloc (.cells #[.slice va N vc, .slice ma M.length mc] 35)).cell? ⟨w.heap.size, 0, none⟩ = some (.slice va N vc) by simp [go_sem])
        have e2 := (g1.cells.1 w.heap.size 1 (by simp)).trans (show (w.alloc (.cells #[.slice va N vc, .slice ma M.length mc] 35)).cell? ⟨w.heap.size, 1, none⟩ = some (.slice ma M.length mc) by simp [go_sem])
        have hlt : w.heap.size < w1.heap.size := Nat.lt_of_lt_of_le (by simp) g1.le
        clear g1 HV
        go_region_held3 (fun x => x.cell? ⟨w.heap.size, 0, none⟩ = some (.slice va N vc) ∧ x.cell? ⟨w.heap.size, 1, none⟩ = some (.slice ma M.length mc))
          (go_keep)
          (first
            | (go_at_call 49; refine (beside_gr (HC.out w1.drew G1.out.drew) (fun e w' q => q.2) (S := fun x => x.cell? ⟨w.heap.size, 0, none⟩ = some (.slice va N vc) ∧ x.cell? ⟨w.heap.size, 1, none⟩ = some (.slice ma M.length mc)) (fun x gx => ⟨(gx.cells.1 _ 0 hlt).trans e1, (gx.cells.1 _ 1 hlt).trans e2⟩)).mono ?_; rintro e w2 ⟨⟨rfl, g2⟩, k1, k2⟩)
            | (go_at_call 48; refine (beside_gr (HM.out w2 (G1.out.drew.trans g2)) (fun e w' q => q.2) (S := fun x => x.cell? ⟨w.heap.size, 0, none⟩ = some (.slice va N vc) ∧ x.cell? ⟨w.heap.size, 1, none⟩ = some (.slice ma M.length mc)) (fun x gx => ⟨(gx.cells.1 _ 0 (Nat.lt_of_lt_of_le hlt g2.le)).trans k1, (gx.cells.1 _ 1 (Nat.lt_of_lt_of_le hlt g2.le)).trans k2⟩)).mono ?_; rintro e w3 ⟨⟨rfl, g3⟩, k3, k4⟩))
        go_wp2
        go_ret
        exact ⟨by rw [HR.out]; rfl, (G1.out.drew.trans g2).trans g3⟩
      · have HR := Lib.hid (chkK_vec hno hz)
        generalize chkV V = R at *
        go_enter Try.func27, Try.ntmps27
        go_wp2_with (first | (go_at_call 47; refine (HV.out _ ((Gr.refl w).alloc _)).mono ?_; rintro e w1 ⟨rfl, g1⟩; have G1 := Lib.hid (((Gr.refl w).alloc _).trans g1); clear g1))
        go_ret
        exact ⟨by rw [HR.out]; rfl, G1.out⟩
end Go.Proofs.Ythcehgmpajejeaa

/- slices.Index, Contains at dots; know.has, Has. -/
namespace Rm
open Go Go.RowKit
/-- where a dot first lies in a list -/
def idxI (M : List (Int × Int)) (d : Int × Int) (n : Nat) : Int := if d ∈ M then (n : Int) else -1
end Rm
namespace Go.Proofs.Ythcehgmpajejeaa
open Go.RowKit Rm
set_option linter.unusedVariables false
set_option linter.unusedSimpArgs false
set_option maxHeartbeats 2000000 in
set_option maxRecDepth 100000 in
theorem kindex_any (m : Value) (M : List (Int × Int)) (d : Int × Int) (w : World) (hr : Rd2 w m M) (hl : M.length ≤ 1000) :
    Calls Try.prog 71 #[m, .agg #[.int .i64 d.1, .int .i64 d.2]] w fun e w' => (∃ n : Nat, e = .returned (.int .i64 (idxI M d n))) ∧ Gr w w' := by
  obtain ⟨a, c, rfl, hc, hx⟩ := hr
  obtain ⟨x, y⟩ := d
  have G1 := Lib.hid ((Gr.refl w).alloc (.cells #[.int .i64 x, .int .i64 y] 26))
  have T1 := Lib.hid (Two.new w x y 26)
  have HX := Lib.hid hx
  have HLI : (M.length : Int) ≤ 1000 := by omega
  clear hx
  go_enter Try.func71, Try.ntmps71
  go_wp2
  generalize w.alloc (.cells #[.int .i64 x, .int .i64 y] 26) = w1 at *
  go_loopw [4, 5, 8, 9, 10, 11, 12, 13, 14, 15, 16, 17, 18] (fun _ _ i _ _ _ _ _ _ _ _ _ _ wr => ∃ k : Nat, k ≤ M.length ∧ i = .int .i64 k ∧ Gr w1 wr ∧ ∀ j, j < k → M[j]? ≠ some (x, y)) (fun _ _ i _ _ _ _ _ _ _ _ _ _ _ => M.length - (intOf i).toNat)
  case atStart => exact ⟨0, by omega, rfl, Gr.refl _, fun j hj => by omega⟩
  case round =>
    obtain ⟨k, hk, rfl, gr, hz⟩ := hrel
    have HZ := Lib.hid hz
    have GR := Lib.hid gr
    clear hz gr
    by_cases hkl : k < M.length
    · obtain ⟨d, hd⟩ : ∃ d, M[k]? = some d := ⟨_, List.getElem?_eq_getElem hkl⟩
      obtain ⟨b, off, rfl, hb, hcell⟩ := HX.out (by intro e; rw [e] at hkl; simp at hkl)
      have hkI : (k : Int) < (M.length : Int) := by omega
      have G01 := Lib.hid (G1.out.trans GR.out)
      have q1 := (G01.out.cells.1 b (off + k * 2) hb).trans (hcell k d hd).1
      have q2 := (G01.out.cells.1 b (off + k * 2 + 1) hb).trans (hcell k d hd).2
      obtain ⟨t0, t1, t2⟩ := T1.out.gr GR.out
      obtain ⟨p, q⟩ := d
      simp only at q1 q2
      clear hcell
      by_cases he : (p, q) = (x, y)
      · obtain ⟨rfl, rfl⟩ := Prod.mk.inj he
        have hmem : Hid ((p, q) ∈ M) := List.mem_of_getElem? hd
        clear he
        go_wp2_with fail
        go_quiet (fail)
        go_wp2
        go_ret
        exact ⟨⟨k, by unfold idxI; rw [if_pos hmem.out]; rfl⟩, G01.out.drewN _⟩
      · have HN : Hid (∀ j, j < k + 1 → M[j]? ≠ some (x, y)) := fun j hj => by
          by_cases e : j = k
          · subst e; rw [hd]; intro e'; exact he (Option.some.inj e')
          · exact HZ.out j (by omega)
        have he' : ¬ (x = p ∧ y = q) := fun e => he (by rw [e.1, e.2])
        clear he hd
        by_cases hxp : x = p
        · subst hxp
          have hyq : ¬ y = q := fun e => he' ⟨rfl, e⟩
          clear he'
          go_wp2_with fail
          go_quiet (fail)
          go_wp2
          go_roundw
          case rel => exact ⟨k + 1, by omega, by go_num, GR.out.drewN _, HN.out⟩
          case measure => simp [intOf]; omega
        · clear he'
          go_wp2_with fail
          go_quiet (fail)
          go_wp2
          go_roundw
          case rel => exact ⟨k + 1, by omega, by go_num, GR.out.drewN _, HN.out⟩
          case measure => simp [intOf]; omega
    · obtain rfl : k = M.length := by omega
      have HF : Hid ((x, y) ∉ M) := fun hm => by
        obtain ⟨j, hj⟩ := List.getElem?_of_mem hm
        exact HZ.out j (List.getElem?_eq_some_iff.1 hj).1 hj
      go_wp2
      go_ret
      exact ⟨⟨0, by unfold idxI; rw [if_neg HF.out]; rfl⟩, G1.out.trans GR.out⟩
set_option maxHeartbeats 1000000 in
set_option maxRecDepth 100000 in
theorem contains_any (m : Value) (M : List (Int × Int)) (d : Int × Int) (w : World) (hr : Rd2 w m M) (hl : M.length ≤ 1000) :
    Calls Try.prog 66 #[m, .agg #[.int .i64 d.1, .int .i64 d.2]] w fun e w' => e = .returned (.bool (decide (d ∈ M))) ∧ Gr w w' := by
  have H := Lib.hid (kindex_any m M d _ (hr.alloc (.cells #[.int .i64 d.1, .int .i64 d.2] 26)) hl)
  obtain ⟨x, y⟩ := d
  simp only at H
  go_enter Try.func66, Try.ntmps66
  go_wp2_with (first | (go_at_call 71; refine H.out.mono ?_; rintro e w1 ⟨⟨n, rfl⟩, g1⟩))
  go_ret
  refine ⟨?_, ((Gr.refl w).alloc _).trans g1⟩
  unfold idxI
  by_cases h : (x, y) ∈ M <;> simp [h]
theorem index_counts (v : List Nat) (s : Nat) (hs : s < 5) (w : World) : (Instr.index 89 (.agg (cArr v)) (.int .i64 (s : Int))).run Try.prog w = .ok (.int .i64 (cv v s : Nat)) w := by
  have hz : (sizeOf 3).run Try.prog w = .ok 1 w := by
    cases hq : Try.prog.info? 3 with
    | none => have := int_size1; rw [hq] at this; simp at this
    | some i =>
      have hs : i.size = 1 := by have := int_size1; rw [hq] at this; simpa using this
      simp [sizeOf, typeInfo, hq, hs]
  have hc := cArr_at v s hs
  simp [Instr.index, Sem.run_bind, run_underlying Try.underlying89, asIntOf, part, hz, hc]
  intro h
  omega
end Go.Proofs.Ythcehgmpajejeaa

/- Steps of a region that draws its order, over any state of the frame. -/
namespace Go.Proofs.Ythcehgmpajejeaa
open Go.RowKit Rm
set_option linter.unusedVariables false
set_option linter.unusedSimpArgs false

theorem re_ne (a : Act) (d : Nat) (v : Value) (t : Nat) (h : t ≠ d) : (a.put (some d) v).eval (.tmp t) = a.eval (.tmp t) := by
  simp only [Act.put, Act.eval, Array.getD_eq_getD_getElem?]
  rw [Array.getElem?_setIfInBounds_ne (Ne.symm h)]
theorem re_eq (a : Act) (d : Nat) (v : Value) (h : d < a.tmps.size) : (a.put (some d) v).eval (.tmp d) = v := by
  simp only [Act.put, Act.eval, Array.getD_eq_getD_getElem?]
  rw [Array.getElem?_setIfInBounds_self_of_lt h]
  rfl
theorem re_size (a : Act) (d : Nat) (v : Value) : (a.put (some d) v).tmps.size = a.tmps.size := by
  simp [Act.put]
theorem re_const (a : Act) (v : Value) : a.eval (.const v) = v := rfl
section
variable {ops : Array Oper} {Q : Exit → Act → World → Prop} {S : World → Prop}
theorem re_yld (a : Act) (j d : Nat) (b : Bool) (h : (ops[j]?).bind (·.dst) = some d) (hv : a.eval (.tmp d) = .bool b) : yielded ops a.tmps j = some b := by
  unfold yielded
  rw [h]
  simp only [Act.eval, Array.getD_eq_getD_getElem?] at hv
  simp only [Option.bind_some]
  cases hc : a.tmps[d]? with
  | none => rw [hc] at hv; cases hv
  | some u => rw [hc] at hv; simp only [Option.getD_some] at hv; subst hv; rfl
theorem re_none {o : Oper} (f : Nat → Option Bool) (h : o.guard = none) : Region.wanted o f = true := by
  unfold Region.wanted; rw [h]
theorem re_some {o : Oper} (f : Nat → Option Bool) (j : Nat) (w b : Bool) (h : o.guard = some (j, w)) (hf : f j = some b) : Region.wanted o f = (b == w) := by
  unfold Region.wanted; rw [h]; simp only [hf]; cases b <;> cases w <;> rfl
theorem re_tk {i : Nat} {oi : Oper} {v : Value} {fuel : Nat} {listed : Array Bool} {a : Act} {w : World} {d : Nat} (hQ : ∀ c a d v w, Q (.panic c) (Act.put a (some d) v) w → Q (.panic c) a w)
    (hi : ops[i]? = some oi) (hd : oi.dst = some d) (hf : Region.free .any ops listed i = true) (hr : (Region.ready .any ops listed).contains i = true)
    (hs : Region.noSelect ops = true) (hy : YieldsIf Try.prog ops S oi v a) (hS : S w)
    (h : wpAnyH Try.prog .any ops Q S fuel (listed.setIfInBounds i true) (a.put (some d) v) w) : wpAnyH Try.prog .any ops Q S (fuel + 1) listed a w :=
  wpAnyH_take hi hs hf hr (fun c a w h => hQ c a d v w (hd ▸ h)) hy hS (hd ▸ h)
/-- the one operation that may come up -/
theorem re_one {i : Nat} {oi : Oper} {fuel : Nat} {listed : Array Bool} {a : Act} {w : World} (hr : Region.ready .any ops listed = [i]) (hi : ops[i]? = some oi) (hw : Region.wanted oi (yielded ops a.tmps) = true)
    (h : ∀ K : Act → World → Prop, (∀ a w, S w → wpAnyH Try.prog .any ops Q S fuel (listed.setIfInBounds i true) a w → K a w) → Oper.wp Try.prog oi a w K Q) : wpAnyH Try.prog .any ops Q S (fuel + 1) listed a w := by
  refine wpAnyH_ready (rs := [i]) hr (by simp) (AllReadyH.cons hi (fun K hK => ?_) AllReadyH.nil)
  rw [if_pos hw]
  exact h K (fun a w h1 h2 => hK.out a w h1 (fun _ => h2))
theorem re_wcall {oi : Oper} {f : Nat} {args : Array Value} {a : Act} {w : World} {K : Act → World → Prop} {A : Ending → World → Prop} {d : Nat} (hd : oi.dst = some d) (hrun : (execOp a.eval oi).run Try.prog w = .ok (.enter f args) w) (hc : Calls Try.prog f args w A)
    (h : ∀ e w', A e w' → ∃ v, e = .returned v ∧ K (a.put (some d) v) w') : Oper.wp Try.prog oi a w K Q := by
  unfold Oper.wp
  rw [hrun, Oper.upon_enter]
  refine hc.mono ?_
  intro e w' hA
  obtain ⟨v, rfl, hk⟩ := h e w' hA
  rw [hd]
  exact hk
end
section
variable (ev : Operand → Value) (d : Option Tmp) (ty : TypeId) (p : String) (af : Array Edge) (g : Option (Nat × Bool)) (w : World)
theorem rr_move (x : Operand) (v : Value) (h : ev x = v) : (execOp ev (Oper.mk d (.move x) ty p af g)).run Try.prog w = .ok (.value v) w := by
  subst h; rfl
theorem rr_assign (x : Operand) (v : Value) (h : ev x = v) : (execOp ev (Oper.mk d (.assign x) ty p af g)).run Try.prog w = .ok (.value v) w := by
  subst h; rfl
theorem rr_pick (c x y : Operand) (b : Bool) (v : Value) (hc : ev c = .bool b) (h : (if b then ev x else ev y) = v) : (execOp ev (Oper.mk d (.pick c x y) ty p af g)).run Try.prog w = .ok (.value v) w := by
  subst h; cases b <;> go_simp
theorem rr_enter_of {f : FuncId} {fn : Func} (hf : Try.prog.funcs[f]? = some fn) (hname : (fn.name == "runtime.NumGoroutine") = false) (hb : fn.body.isNone = false) (args : Array Value) (w : World) : (callFunc f args).run Try.prog w = .ok (.enter f args) w := by
  have h1 : ¬ fn.name = "runtime.NumGoroutine" := by simpa using hname
  have h2 : ¬ fn.body = none := by intro e; rw [e] at hb; cases hb
  simp [callFunc, Sem.run_bind, hf, h1, h2]
theorem rr_enter1 (f : Nat) (x : Operand) (v : Value) (ts : Array TypeId) (h : ev x = v) (hf : ev (.func f) = .func (.func f) #[] #[]) (hcf : (callFunc f #[v]).run Try.prog w = .ok (.enter f #[v]) w) : (execOp ev (Oper.mk d (.call (Call.mk (.value (.func f)) #[x] ts)) ty p af g)).run Try.prog w = .ok (.enter f #[v]) w := by
  go_simp
theorem rr_enter2 (f : Nat) (x y : Operand) (u v : Value) (ts : Array TypeId) (h : ev x = u) (h' : ev y = v) (hf : ev (.func f) = .func (.func f) #[] #[]) (hcf : (callFunc f #[u, v]).run Try.prog w = .ok (.enter f #[u, v]) w) : (execOp ev (Oper.mk d (.call (Call.mk (.value (.func f)) #[x, y] ts)) ty p af g)).run Try.prog w = .ok (.enter f #[u, v]) w := by
  go_simp
end
end Go.Proofs.Ythcehgmpajejeaa

/- know.has: its drawn region over any frame; Has. -/
namespace Go.Proofs.Ythcehgmpajejeaa
open Go.RowKit Rm
set_option linter.unusedVariables false
set_option linter.unusedSimpArgs false
section
variable (ev : Operand → Value) (d : Option Tmp) (ty : TypeId) (p : String) (af : Array Edge) (g : Option (Nat × Bool)) (w : World)
theorem rr_fD0 (x : Operand) (B : Nat) (h : ev x = .pointer (some ⟨B, 0, none⟩)) : (execOp ev (Oper.mk d (.fieldAddr 26 x 0) ty p af g)).run Try.prog w = .ok (.value (.pointer (some ⟨B, 0, none⟩))) w := by
  go_simp
theorem rr_fD1 (x : Operand) (B : Nat) (h : ev x = .pointer (some ⟨B, 0, none⟩)) : (execOp ev (Oper.mk d (.fieldAddr 26 x 1) ty p af g)).run Try.prog w = .ok (.value (.pointer (some ⟨B, 1, none⟩))) w := by
  go_simp
theorem rr_fK1 (x : Operand) (B : Nat) (h : ev x = .pointer (some ⟨B, 0, none⟩)) : (execOp ev (Oper.mk d (.fieldAddr 35 x 1) ty p af g)).run Try.prog w = .ok (.value (.pointer (some ⟨B, 1, none⟩))) w := by
  go_simp
theorem rr_lI (x : Operand) (B o : Nat) (n : Int) (h : ev x = .pointer (some ⟨B, o, none⟩)) (hc : w.cell? ⟨B, o, none⟩ = some (.int .i64 n)) : (execOp ev (Oper.mk d (.load 3 x) ty p af g)).run Try.prog w = .ok (.value (.int .i64 n)) w := by
  go_simp
theorem rr_lS (x : Operand) (B o : Nat) (v : Value) (h : ev x = .pointer (some ⟨B, o, none⟩)) (hc : w.cell? ⟨B, o, none⟩ = some v) : (execOp ev (Oper.mk d (.load 33 x) ty p af g)).run Try.prog w = .ok (.value v) w := by
  go_simp
theorem rr_lK (x : Operand) (B : Nat) (u v : Value) (h : ev x = .pointer (some ⟨B, 0, none⟩)) (hc : w.cell? ⟨B, 0, none⟩ = some u) (hc' : w.cell? ⟨B, 1, none⟩ = some v) : (execOp ev (Oper.mk d (.load 35 x) ty p af g)).run Try.prog w = .ok (.value (.agg #[u, v])) w := by
  go_simp
theorem rr_lD (x : Operand) (B : Nat) (u v : Value) (h : ev x = .pointer (some ⟨B, 0, none⟩)) (hc : w.cell? ⟨B, 0, none⟩ = some u) (hc' : w.cell? ⟨B, 1, none⟩ = some v) : (execOp ev (Oper.mk d (.load 26 x) ty p af g)).run Try.prog w = .ok (.value (.agg #[u, v])) w := by
  go_simp
theorem rr_ix (x y : Operand) (A : Array Value) (s n : Nat) (h : ev x = .agg A) (h' : ev y = .int .i64 (s : Int)) (hix : ∀ w, (Instr.index 89 (.agg A) (.int .i64 (s : Int))).run Try.prog w = .ok (.int .i64 (n : Nat)) w) : (execOp ev (Oper.mk d (.index 89 x y) ty p af g)).run Try.prog w = .ok (.value (.int .i64 (n : Nat))) w := by
  go_simp
theorem rr_leq (x y : Operand) (a b : Int) (q : Bool) (h : ev x = .int .i64 a) (h' : ev y = .int .i64 b) (hq : decide (a ≤ b) = q) : (execOp ev (Oper.mk d (.binOp .leq 3 x y 3) ty p af g)).run Try.prog w = .ok (.value (.bool q)) w := by
  subst hq
  go_simp
end
def hs_0 : Oper := Oper.mk (some 5) (Op.fieldAddr 26 (Operand.tmp 3) 1) 0 "know.go:150" #[] none
def hs_1 : Oper := Oper.mk (some 6) (Op.load 3 (Operand.tmp 5)) 3 "know.go:150" #[Edge.mk 0 Ground.data] none
def hs_2 : Oper := Oper.mk (some 7) (Op.load 35 (Operand.tmp 2)) 35 "know.go:150" #[] none
def hs_3 : Oper := Oper.mk (some 8) (Op.call (Call.mk (Callee.value (Operand.func 49)) #[Operand.tmp 7] #[35])) 89 "know.go:150" #[Edge.mk 2 Ground.data] none
def hs_4 : Oper := Oper.mk (some 9) (Op.fieldAddr 26 (Operand.tmp 3) 0) 0 "know.go:150" #[] none
def hs_5 : Oper := Oper.mk (some 10) (Op.load 3 (Operand.tmp 9)) 3 "know.go:150" #[Edge.mk 4 Ground.data] none
def hs_6 : Oper := Oper.mk (some 11) (Op.index 89 (Operand.tmp 8) (Operand.tmp 10)) 3 "know.go:150" #[Edge.mk 3 Ground.data, Edge.mk 5 Ground.data] none
def hs_7 : Oper := Oper.mk (some 12) (Op.binOp BinOp.leq 3 (Operand.tmp 6) (Operand.tmp 11) 3) 4 "know.go:150" #[Edge.mk 1 Ground.data, Edge.mk 6 Ground.data] none
def hs_8 : Oper := Oper.mk (some 13) (Op.move (Operand.tmp 12)) 4 "know.go:150" #[Edge.mk 7 Ground.data, Edge.mk 3 Ground.chain] none
def hs_9 : Oper := Oper.mk (some 14) (Op.fieldAddr 35 (Operand.tmp 2) 1) 0 "know.go:150" #[Edge.mk 8 Ground.guard] (some (8, false))
def hs_10 : Oper := Oper.mk (some 15) (Op.load 33 (Operand.tmp 14)) 33 "know.go:150" #[Edge.mk 9 Ground.data, Edge.mk 8 Ground.guard] (some (8, false))
def hs_11 : Oper := Oper.mk (some 16) (Op.load 26 (Operand.tmp 3)) 26 "know.go:150" #[Edge.mk 8 Ground.guard] (some (8, false))
def hs_12 : Oper := Oper.mk (some 17) (Op.call (Call.mk (Callee.value (Operand.func 66)) #[Operand.tmp 15, Operand.tmp 16] #[33, 26])) 4 "know.go:150" #[Edge.mk 10 Ground.data, Edge.mk 11 Ground.data, Edge.mk 8 Ground.chain, Edge.mk 8 Ground.guard] (some (8, false))
def hs_13 : Oper := Oper.mk (some 18) (Op.pick (Operand.tmp 13) (Operand.const (Value.bool true)) (Operand.tmp 17)) 4 "know.go:150" #[Edge.mk 8 Ground.data, Edge.mk 12 Ground.data] none
def hs_14 : Oper := Oper.mk (some 4) (Op.assign (Operand.tmp 18)) 4 "know.go:150" #[Edge.mk 13 Ground.data, Edge.mk 12 Ground.chain, Edge.mk 0 Ground.phase, Edge.mk 1 Ground.phase, Edge.mk 2 Ground.phase, Edge.mk 3 Ground.phase, Edge.mk 4 Ground.phase, Edge.mk 5 Ground.phase, Edge.mk 6 Ground.phase, Edge.mk 7 Ground.phase, Edge.mk 8 Ground.phase, Edge.mk 9 Ground.phase, Edge.mk 10 Ground.phase, Edge.mk 11 Ground.phase, Edge.mk 12 Ground.phase, Edge.mk 13 Ground.phase] none
def hs_Ops : Array Oper := #[hs_0, hs_1, hs_2, hs_3, hs_4, hs_5, hs_6, hs_7, hs_8, hs_9, hs_10, hs_11, hs_12, hs_13, hs_14]
set_option maxHeartbeats 4000000 in
set_option maxRecDepth 100000 in
theorem has_reg_no (Q : Exit → Act → World → Prop) (hQ : ∀ c a d v w, Q (.panic c) (Act.put a (some d) v) w → Q (.panic c) a w) (a : Act) (w : World) (g0 g1 s c n : Nat) (vv mv : Value) (A : Array Value) (q : Bool)
    (hsz : a.tmps.size = 19) (h2 : a.eval (.tmp 2) = .pointer (some ⟨g0, 0, none⟩)) (h3 : a.eval (.tmp 3) = .pointer (some ⟨g1, 0, none⟩))
    (hS0 : w.cell? ⟨g0, 0, none⟩ = some vv ∧ w.cell? ⟨g0, 1, none⟩ = some mv ∧ w.cell? ⟨g1, 0, none⟩ = some (.int .i64 (s : Int)) ∧ w.cell? ⟨g1, 1, none⟩ = some (.int .i64 (c : Int))) (hl0 : g0 < w.heap.size) (hl1 : g1 < w.heap.size)
    (hix : ∀ w, (Instr.index 89 (.agg A) (.int .i64 (s : Int))).run Try.prog w = .ok (.int .i64 (n : Nat)) w) (hle : decide ((c : Int) ≤ (n : Int)) = true)
    (HC : ∀ w', Gr w w' → Calls Try.prog 49 #[.agg #[vv, mv]] w' fun e w'' => e = .returned (.agg A) ∧ Gr w' w'')
    (HM : ∀ w', Gr w w' → Calls Try.prog 66 #[mv, .agg #[.int .i64 (s : Int), .int .i64 (c : Int)]] w' fun e w'' => e = .returned (.bool q) ∧ Gr w' w'')
    (h : ∀ w', Gr w w' → Q .normal (Act.put (Act.put (Act.put (Act.put (Act.put (Act.put (Act.put (Act.put (Act.put (Act.put (Act.put (Act.put (Act.put (Act.put (Act.put a (some 5) (.pointer (some ⟨g1, 1, none⟩))) (some 6) (.int .i64 (c : Int))) (some 7) (.agg #[vv, mv])) (some 9) (.pointer (some ⟨g1, 0, none⟩))) (some 10) (.int .i64 (s : Int))) (some 8) (.agg A)) (some 11) (.int .i64 (n : Int))) (some 12) (.bool true)) (some 13) (.bool true)) (some 14) (undef)) (some 15) (undef)) (some 16) (undef)) (some 17) (undef)) (some 18) (.bool true)) (some 4) (.bool true)) w') : (Code.region 1 hs_Ops true).wp Try.prog Q a w := by
  have keep : ∀ x, Gr w x → (fun x => x.cell? ⟨g0, 0, none⟩ = some vv ∧ x.cell? ⟨g0, 1, none⟩ = some mv ∧ x.cell? ⟨g1, 0, none⟩ = some (.int .i64 (s : Int)) ∧ x.cell? ⟨g1, 1, none⟩ = some (.int .i64 (c : Int))) x := fun x gx => ⟨(gx.cells.1 g0 0 hl0).trans hS0.1, (gx.cells.1 g0 1 hl0).trans hS0.2.1, (gx.cells.1 g1 0 hl1).trans hS0.2.2.1, (gx.cells.1 g1 1 hl1).trans hS0.2.2.2⟩
  refine wp_region_held_drew (S := fun x => x.cell? ⟨g0, 0, none⟩ = some vv ∧ x.cell? ⟨g0, 1, none⟩ = some mv ∧ x.cell? ⟨g1, 0, none⟩ = some (.int .i64 (s : Int)) ∧ x.cell? ⟨g1, 1, none⟩ = some (.int .i64 (c : Int))) (by kernel_rfl) hS0 (fun hHeld => ?_)
  show wpAnyH Try.prog .any hs_Ops Q _ 15 (Array.replicate 15 false) a w.drew
  refine re_tk (i := 0) (oi := hs_0) (v := .pointer (some ⟨g1, 1, none⟩)) (d := 5) hQ rfl rfl (by kernel_rfl) (by kernel_rfl) (by kernel_rfl) (Or.inl ⟨re_none _ rfl, fun wx hS => rr_fD1 _ _ _ _ _ _ _ _ g1 (by simp [re_ne, re_eq, re_size, re_const, hsz, h2, h3])⟩) hHeld ?_
  refine re_tk (i := 1) (oi := hs_1) (v := .int .i64 (c : Int)) (d := 6) hQ rfl rfl (by kernel_rfl) (by kernel_rfl) (by kernel_rfl) (Or.inl ⟨re_none _ rfl, fun wx hS => rr_lI _ _ _ _ _ _ _ _ g1 1 (c : Int) (by simp [re_ne, re_eq, re_size, re_const, hsz, h2, h3]) hS.2.2.2⟩) hHeld ?_
  refine re_tk (i := 2) (oi := hs_2) (v := .agg #[vv, mv]) (d := 7) hQ rfl rfl (by kernel_rfl) (by kernel_rfl) (by kernel_rfl) (Or.inl ⟨re_none _ rfl, fun wx hS => rr_lK _ _ _ _ _ _ _ _ g0 vv mv (by simp [re_ne, re_eq, re_size, re_const, hsz, h2, h3]) hS.1 hS.2.1⟩) hHeld ?_
  refine re_tk (i := 4) (oi := hs_4) (v := .pointer (some ⟨g1, 0, none⟩)) (d := 9) hQ rfl rfl (by kernel_rfl) (by kernel_rfl) (by kernel_rfl) (Or.inl ⟨re_none _ rfl, fun wx hS => rr_fD0 _ _ _ _ _ _ _ _ g1 (by simp [re_ne, re_eq, re_size, re_const, hsz, h2, h3])⟩) hHeld ?_
  refine re_tk (i := 5) (oi := hs_5) (v := .int .i64 (s : Int)) (d := 10) hQ rfl rfl (by kernel_rfl) (by kernel_rfl) (by kernel_rfl) (Or.inl ⟨re_none _ rfl, fun wx hS => rr_lI _ _ _ _ _ _ _ _ g1 0 (s : Int) (by simp [re_ne, re_eq, re_size, re_const, hsz, h2, h3]) hS.2.2.1⟩) hHeld ?_
  refine re_one (i := 3) (oi := hs_3) (by kernel_rfl) rfl (re_none _ rfl) (fun K hK => ?_)
  refine re_wcall (d := 8) rfl (rr_enter1 _ _ _ _ _ _ _ 49 _ (.agg #[vv, mv]) _ (by simp [re_ne, re_eq, re_size, re_const, hsz, h2, h3]) rfl (rr_enter_of Try.func49 (by kernel_rfl) (by kernel_rfl) _ _)) (HC w.drew (Gr.refl w).drew) ?_
  rintro e w1 ⟨rfl, g1x⟩
  have G1 := (Gr.refl w).drew.trans g1x
  refine ⟨_, rfl, hK _ _ (keep _ G1) ?_⟩
  refine re_tk (i := 6) (oi := hs_6) (v := .int .i64 (n : Int)) (d := 11) hQ rfl rfl (by kernel_rfl) (by kernel_rfl) (by kernel_rfl) (Or.inl ⟨re_none _ rfl, fun wx hS => rr_ix _ _ _ _ _ _ _ _ _ A s n (by simp [re_ne, re_eq, re_size, re_const, hsz, h2, h3]) (by simp [re_ne, re_eq, re_size, re_const, hsz, h2, h3]) hix⟩) (keep _ G1) ?_
  refine re_tk (i := 7) (oi := hs_7) (v := .bool true) (d := 12) hQ rfl rfl (by kernel_rfl) (by kernel_rfl) (by kernel_rfl) (Or.inl ⟨re_none _ rfl, fun wx hS => rr_leq _ _ _ _ _ _ _ _ _ (c : Int) (n : Int) true (by simp [re_ne, re_eq, re_size, re_const, hsz, h2, h3]) (by simp [re_ne, re_eq, re_size, re_const, hsz, h2, h3]) hle⟩) (keep _ G1) ?_
  refine re_tk (i := 8) (oi := hs_8) (v := .bool true) (d := 13) hQ rfl rfl (by kernel_rfl) (by kernel_rfl) (by kernel_rfl) (Or.inl ⟨re_none _ rfl, fun wx hS => rr_move _ _ _ _ _ _ _ _ _ (by simp [re_ne, re_eq, re_size, re_const, hsz, h2, h3])⟩) (keep _ G1) ?_
  refine re_tk (i := 9) (oi := hs_9) (v := undef) (d := 14) hQ rfl rfl (by kernel_rfl) (by kernel_rfl) (by kernel_rfl) (Or.inr ⟨(re_some _ 8 false true rfl (re_yld _ 8 13 true rfl (by simp [re_ne, re_eq, re_size, re_const, hsz, h2, h3]))).trans rfl, rfl⟩) (keep _ G1) ?_
  refine re_tk (i := 10) (oi := hs_10) (v := undef) (d := 15) hQ rfl rfl (by kernel_rfl) (by kernel_rfl) (by kernel_rfl) (Or.inr ⟨(re_some _ 8 false true rfl (re_yld _ 8 13 true rfl (by simp [re_ne, re_eq, re_size, re_const, hsz, h2, h3]))).trans rfl, rfl⟩) (keep _ G1) ?_
  refine re_tk (i := 11) (oi := hs_11) (v := undef) (d := 16) hQ rfl rfl (by kernel_rfl) (by kernel_rfl) (by kernel_rfl) (Or.inr ⟨(re_some _ 8 false true rfl (re_yld _ 8 13 true rfl (by simp [re_ne, re_eq, re_size, re_const, hsz, h2, h3]))).trans rfl, rfl⟩) (keep _ G1) ?_
  refine re_tk (i := 12) (oi := hs_12) (v := undef) (d := 17) hQ rfl rfl (by kernel_rfl) (by kernel_rfl) (by kernel_rfl) (Or.inr ⟨(re_some _ 8 false true rfl (re_yld _ 8 13 true rfl (by simp [re_ne, re_eq, re_size, re_const, hsz, h2, h3]))).trans rfl, rfl⟩) (keep _ G1) ?_
  refine re_tk (i := 13) (oi := hs_13) (v := .bool true) (d := 18) hQ rfl rfl (by kernel_rfl) (by kernel_rfl) (by kernel_rfl) (Or.inl ⟨re_none _ rfl, fun wx hS => rr_pick _ _ _ _ _ _ _ _ _ _ true _ (by simp [re_ne, re_eq, re_size, re_const, hsz, h2, h3]) (by simp [re_ne, re_eq, re_size, re_const, hsz, h2, h3])⟩) (keep _ G1) ?_
  refine re_tk (i := 14) (oi := hs_14) (v := .bool true) (d := 4) hQ rfl rfl (by kernel_rfl) (by kernel_rfl) (by kernel_rfl) (Or.inl ⟨re_none _ rfl, fun wx hS => rr_assign _ _ _ _ _ _ _ _ _ (by simp [re_ne, re_eq, re_size, re_const, hsz, h2, h3])⟩) (keep _ G1) ?_
  exact wpAnyH_done (by kernel_rfl) (h _ G1) _
set_option maxHeartbeats 4000000 in
set_option maxRecDepth 100000 in
theorem has_reg_yes (Q : Exit → Act → World → Prop) (hQ : ∀ c a d v w, Q (.panic c) (Act.put a (some d) v) w → Q (.panic c) a w) (a : Act) (w : World) (g0 g1 s c n : Nat) (vv mv : Value) (A : Array Value) (q : Bool)
    (hsz : a.tmps.size = 19) (h2 : a.eval (.tmp 2) = .pointer (some ⟨g0, 0, none⟩)) (h3 : a.eval (.tmp 3) = .pointer (some ⟨g1, 0, none⟩))
    (hS0 : w.cell? ⟨g0, 0, none⟩ = some vv ∧ w.cell? ⟨g0, 1, none⟩ = some mv ∧ w.cell? ⟨g1, 0, none⟩ = some (.int .i64 (s : Int)) ∧ w.cell? ⟨g1, 1, none⟩ = some (.int .i64 (c : Int))) (hl0 : g0 < w.heap.size) (hl1 : g1 < w.heap.size)
    (hix : ∀ w, (Instr.index 89 (.agg A) (.int .i64 (s : Int))).run Try.prog w = .ok (.int .i64 (n : Nat)) w) (hle : decide ((c : Int) ≤ (n : Int)) = false)
    (HC : ∀ w', Gr w w' → Calls Try.prog 49 #[.agg #[vv, mv]] w' fun e w'' => e = .returned (.agg A) ∧ Gr w' w'')
    (HM : ∀ w', Gr w w' → Calls Try.prog 66 #[mv, .agg #[.int .i64 (s : Int), .int .i64 (c : Int)]] w' fun e w'' => e = .returned (.bool q) ∧ Gr w' w'')
    (h : ∀ w', Gr w w' → Q .normal (Act.put (Act.put (Act.put (Act.put (Act.put (Act.put (Act.put (Act.put (Act.put (Act.put (Act.put (Act.put (Act.put (Act.put (Act.put a (some 5) (.pointer (some ⟨g1, 1, none⟩))) (some 6) (.int .i64 (c : Int))) (some 7) (.agg #[vv, mv])) (some 9) (.pointer (some ⟨g1, 0, none⟩))) (some 10) (.int .i64 (s : Int))) (some 8) (.agg A)) (some 11) (.int .i64 (n : Int))) (some 12) (.bool false)) (some 13) (.bool false)) (some 14) (.pointer (some ⟨g0, 1, none⟩))) (some 15) (mv)) (some 16) (.agg #[.int .i64 (s : Int), .int .i64 (c : Int)])) (some 17) (.bool q)) (some 18) (.bool q)) (some 4) (.bool q)) w') : (Code.region 1 hs_Ops true).wp Try.prog Q a w := by
  have keep : ∀ x, Gr w x → (fun x => x.cell? ⟨g0, 0, none⟩ = some vv ∧ x.cell? ⟨g0, 1, none⟩ = some mv ∧ x.cell? ⟨g1, 0, none⟩ = some (.int .i64 (s : Int)) ∧ x.cell? ⟨g1, 1, none⟩ = some (.int .i64 (c : Int))) x := fun x gx => ⟨(gx.cells.1 g0 0 hl0).trans hS0.1, (gx.cells.1 g0 1 hl0).trans hS0.2.1, (gx.cells.1 g1 0 hl1).trans hS0.2.2.1, (gx.cells.1 g1 1 hl1).trans hS0.2.2.2⟩
  refine wp_region_held_drew (S := fun x => x.cell? ⟨g0, 0, none⟩ = some vv ∧ x.cell? ⟨g0, 1, none⟩ = some mv ∧ x.cell? ⟨g1, 0, none⟩ = some (.int .i64 (s : Int)) ∧ x.cell? ⟨g1, 1, none⟩ = some (.int .i64 (c : Int))) (by kernel_rfl) hS0 (fun hHeld => ?_)
  show wpAnyH Try.prog .any hs_Ops Q _ 15 (Array.replicate 15 false) a w.drew
  refine re_tk (i := 0) (oi := hs_0) (v := .pointer (some ⟨g1, 1, none⟩)) (d := 5) hQ rfl rfl (by kernel_rfl) (by kernel_rfl) (by kernel_rfl) (Or.inl ⟨re_none _ rfl, fun wx hS => rr_fD1 _ _ _ _ _ _ _ _ g1 (by simp [re_ne, re_eq, re_size, re_const, hsz, h2, h3])⟩) hHeld ?_
  refine re_tk (i := 1) (oi := hs_1) (v := .int .i64 (c : Int)) (d := 6) hQ rfl rfl (by kernel_rfl) (by kernel_rfl) (by kernel_rfl) (Or.inl ⟨re_none _ rfl, fun wx hS => rr_lI _ _ _ _ _ _ _ _ g1 1 (c : Int) (by simp [re_ne, re_eq, re_size, re_const, hsz, h2, h3]) hS.2.2.2⟩) hHeld ?_
  refine re_tk (i := 2) (oi := hs_2) (v := .agg #[vv, mv]) (d := 7) hQ rfl rfl (by kernel_rfl) (by kernel_rfl) (by kernel_rfl) (Or.inl ⟨re_none _ rfl, fun wx hS => rr_lK _ _ _ _ _ _ _ _ g0 vv mv (by simp [re_ne, re_eq, re_size, re_const, hsz, h2, h3]) hS.1 hS.2.1⟩) hHeld ?_
  refine re_tk (i := 4) (oi := hs_4) (v := .pointer (some ⟨g1, 0, none⟩)) (d := 9) hQ rfl rfl (by kernel_rfl) (by kernel_rfl) (by kernel_rfl) (Or.inl ⟨re_none _ rfl, fun wx hS => rr_fD0 _ _ _ _ _ _ _ _ g1 (by simp [re_ne, re_eq, re_size, re_const, hsz, h2, h3])⟩) hHeld ?_
  refine re_tk (i := 5) (oi := hs_5) (v := .int .i64 (s : Int)) (d := 10) hQ rfl rfl (by kernel_rfl) (by kernel_rfl) (by kernel_rfl) (Or.inl ⟨re_none _ rfl, fun wx hS => rr_lI _ _ _ _ _ _ _ _ g1 0 (s : Int) (by simp [re_ne, re_eq, re_size, re_const, hsz, h2, h3]) hS.2.2.1⟩) hHeld ?_
  refine re_one (i := 3) (oi := hs_3) (by kernel_rfl) rfl (re_none _ rfl) (fun K hK => ?_)
  refine re_wcall (d := 8) rfl (rr_enter1 _ _ _ _ _ _ _ 49 _ (.agg #[vv, mv]) _ (by simp [re_ne, re_eq, re_size, re_const, hsz, h2, h3]) rfl (rr_enter_of Try.func49 (by kernel_rfl) (by kernel_rfl) _ _)) (HC w.drew (Gr.refl w).drew) ?_
  rintro e w1 ⟨rfl, g1x⟩
  have G1 := (Gr.refl w).drew.trans g1x
  refine ⟨_, rfl, hK _ _ (keep _ G1) ?_⟩
  refine re_tk (i := 6) (oi := hs_6) (v := .int .i64 (n : Int)) (d := 11) hQ rfl rfl (by kernel_rfl) (by kernel_rfl) (by kernel_rfl) (Or.inl ⟨re_none _ rfl, fun wx hS => rr_ix _ _ _ _ _ _ _ _ _ A s n (by simp [re_ne, re_eq, re_size, re_const, hsz, h2, h3]) (by simp [re_ne, re_eq, re_size, re_const, hsz, h2, h3]) hix⟩) (keep _ G1) ?_
  refine re_tk (i := 7) (oi := hs_7) (v := .bool false) (d := 12) hQ rfl rfl (by kernel_rfl) (by kernel_rfl) (by kernel_rfl) (Or.inl ⟨re_none _ rfl, fun wx hS => rr_leq _ _ _ _ _ _ _ _ _ (c : Int) (n : Int) false (by simp [re_ne, re_eq, re_size, re_const, hsz, h2, h3]) (by simp [re_ne, re_eq, re_size, re_const, hsz, h2, h3]) hle⟩) (keep _ G1) ?_
  refine re_tk (i := 8) (oi := hs_8) (v := .bool false) (d := 13) hQ rfl rfl (by kernel_rfl) (by kernel_rfl) (by kernel_rfl) (Or.inl ⟨re_none _ rfl, fun wx hS => rr_move _ _ _ _ _ _ _ _ _ (by simp [re_ne, re_eq, re_size, re_const, hsz, h2, h3])⟩) (keep _ G1) ?_
  refine re_tk (i := 9) (oi := hs_9) (v := .pointer (some ⟨g0, 1, none⟩)) (d := 14) hQ rfl rfl (by kernel_rfl) (by kernel_rfl) (by kernel_rfl) (Or.inl ⟨(re_some _ 8 false false rfl (re_yld _ 8 13 false rfl (by simp [re_ne, re_eq, re_size, re_const, hsz, h2, h3]))).trans rfl, fun wx hS => rr_fK1 _ _ _ _ _ _ _ _ g0 (by simp [re_ne, re_eq, re_size, re_const, hsz, h2, h3])⟩) (keep _ G1) ?_
  refine re_tk (i := 10) (oi := hs_10) (v := mv) (d := 15) hQ rfl rfl (by kernel_rfl) (by kernel_rfl) (by kernel_rfl) (Or.inl ⟨(re_some _ 8 false false rfl (re_yld _ 8 13 false rfl (by simp [re_ne, re_eq, re_size, re_const, hsz, h2, h3]))).trans rfl, fun wx hS => rr_lS _ _ _ _ _ _ _ _ g0 1 mv (by simp [re_ne, re_eq, re_size, re_const, hsz, h2, h3]) hS.2.1⟩) (keep _ G1) ?_
  refine re_tk (i := 11) (oi := hs_11) (v := .agg #[.int .i64 (s : Int), .int .i64 (c : Int)]) (d := 16) hQ rfl rfl (by kernel_rfl) (by kernel_rfl) (by kernel_rfl) (Or.inl ⟨(re_some _ 8 false false rfl (re_yld _ 8 13 false rfl (by simp [re_ne, re_eq, re_size, re_const, hsz, h2, h3]))).trans rfl, fun wx hS => rr_lD _ _ _ _ _ _ _ _ g1 _ _ (by simp [re_ne, re_eq, re_size, re_const, hsz, h2, h3]) hS.2.2.1 hS.2.2.2⟩) (keep _ G1) ?_
  refine re_one (i := 12) (oi := hs_12) (by kernel_rfl) rfl ((re_some _ 8 false false rfl (re_yld _ 8 13 false rfl (by simp [re_ne, re_eq, re_size, re_const, hsz, h2, h3]))).trans rfl) (fun K hK => ?_)
  refine re_wcall (d := 17) rfl (rr_enter2 _ _ _ _ _ _ _ 66 _ _ mv (.agg #[.int .i64 (s : Int), .int .i64 (c : Int)]) _ (by simp [re_ne, re_eq, re_size, re_const, hsz, h2, h3]) (by simp [re_ne, re_eq, re_size, re_const, hsz, h2, h3]) rfl (rr_enter_of Try.func66 (by kernel_rfl) (by kernel_rfl) _ _)) (HM w1 G1) ?_
  rintro e w2 ⟨rfl, g2x⟩
  have G2 := G1.trans g2x
  refine ⟨_, rfl, hK _ _ (keep _ G2) ?_⟩
  refine re_tk (i := 13) (oi := hs_13) (v := .bool q) (d := 18) hQ rfl rfl (by kernel_rfl) (by kernel_rfl) (by kernel_rfl) (Or.inl ⟨re_none _ rfl, fun wx hS => rr_pick _ _ _ _ _ _ _ _ _ _ false _ (by simp [re_ne, re_eq, re_size, re_const, hsz, h2, h3]) (by simp [re_ne, re_eq, re_size, re_const, hsz, h2, h3])⟩) (keep _ G2) ?_
  refine re_tk (i := 14) (oi := hs_14) (v := .bool q) (d := 4) hQ rfl rfl (by kernel_rfl) (by kernel_rfl) (by kernel_rfl) (Or.inl ⟨re_none _ rfl, fun wx hS => rr_assign _ _ _ _ _ _ _ _ _ (by simp [re_ne, re_eq, re_size, re_const, hsz, h2, h3])⟩) (keep _ G2) ?_
  exact wpAnyH_done (by kernel_rfl) (h _ G2) _
set_option maxHeartbeats 4000000 in
set_option maxRecDepth 100000 in
theorem khas_any (k : Value) (v : List Nat) (m : List (Nat × Nat)) (s c : Nat) (w : World) (hk : KnR w k (ints v) (pairs m)) (ho : OkV v m) (hl : m.length ≤ 60) (hd : inR s c) :
    Calls Try.prog 55 #[k, .agg #[.int .i64 (s : Int), .int .i64 (c : Int)]] w fun e w' => e = .returned (.bool (memB v m s c)) ∧ Gr w w' := by
  have HC : Hid (∀ w', Gr w w' → Calls Try.prog 49 #[k] w' fun e w'' => e = .returned (.agg (cArr v)) ∧ Gr w' w'') := fun w' g => countsOf_any k v _ w' (hk.gr g) ho.len
  obtain ⟨vv, mv, rfl, r1, r2, r3⟩ := hk
  have HM : Hid (∀ w', Gr w w' → Calls Try.prog 66 #[mv, .agg #[.int .i64 (s : Int), .int .i64 (c : Int)]] w' fun e w'' => e = .returned (.bool (m.contains (s, c))) ∧ Gr w' w'') := fun w' g => by
    have := contains_any mv (pairs m) ((s : Int), (c : Int)) w' (r2.gr g) (by rw [pairs_len]; omega)
    have e : decide (((s : Int), (c : Int)) ∈ pairs m) = m.contains (s, c) := by
      rw [Bool.eq_iff_iff]
      simp only [pairs, decide_eq_true_eq, List.mem_map, List.contains_iff_mem, Prod.mk.injEq]
      constructor
      · rintro ⟨⟨a, b⟩, h1, h2, h3⟩
        simp only at h2 h3
        have e1 : a = s := by omega
        have e2 : b = c := by omega
        subst e1 e2; exact h1
      · intro h; exact ⟨(s, c), h, rfl, rfl⟩
    rw [e] at this
    exact this
  obtain ⟨h5, hc1, hc2⟩ := hd
  have HB : Hid (memB v m s c = (decide (c ≤ cv v s) || m.contains (s, c))) := by
    show _ = _
    unfold memB
    congr 1
    simp [hc1]
  have HA := Lib.hid (index_counts v s h5)
  have hcv : (cv v s : Int) ≤ 1000 := by have := cv_le ho.le s; omega
  have h5' : (s : Int) < 5 := by omega
  generalize memB v m s c = R at *
  generalize m.contains (s, c) = q at *
  generalize cv v s = n at *
  generalize cArr v = A at *
  have G2 := Lib.hid (((Gr.refl w).alloc (.cells #[vv, mv] 35)).alloc (.cells #[.int .i64 (s : Int), .int .i64 (c : Int)] 26))
  have T2 := Lib.hid (Two.new (w.alloc (.cells #[vv, mv] 35)) s c 26)
  have e1 : ((w.alloc (.cells #[vv, mv] 35)).alloc (.cells #[.int .i64 (s : Int), .int .i64 (c : Int)] 26)).cell? ⟨w.heap.size, 0, none⟩ = some vv := by simp [go_sem]
  have e2 : ((w.alloc (.cells #[vv, mv] 35)).alloc (.cells #[.int .i64 (s : Int), .int .i64 (c : Int)] 26)).cell? ⟨w.heap.size, 1, none⟩ = some mv := by simp [go_sem]
  have hlt : w.heap.size < ((w.alloc (.cells #[vv, mv] 35)).alloc (.cells #[.int .i64 (s : Int), .int .i64 (c : Int)] 26)).heap.size := by simp; omega
  rw [World.size_alloc] at T2
  clear ho r1 r2 r3
  go_enter Try.func55, Try.ntmps55
  go_wp2_with fail
  generalize (w.alloc (.cells #[vv, mv] 35)).alloc (.cells #[.int .i64 (s : Int), .int .i64 (c : Int)] 26) = w1 at *
  generalize w.heap.size = g0 at *
  obtain ⟨t0, t1, t2⟩ := T2.out
  by_cases hle : c ≤ n
  · refine has_reg_no _ (fun _ _ _ _ _ h => h) _ w1 g0 (g0 + 1) s c n vv mv A q rfl rfl rfl ⟨e1, e2, t1, t2⟩ hlt t0 HA.out (decide_eq_true (by omega)) (fun w' g => HC.out w' (G2.out.trans g)) (fun w' g => HM.out w' (G2.out.trans g)) (fun w3 g3 => ?_)
    simp only [Act.put, List.setIfInBounds_toArray, List.set_cons_zero, List.set_cons_succ]
    go_wp2
    go_ret
    exact ⟨by rw [HB.out, decide_eq_true hle]; rfl, G2.out.trans g3⟩
  · refine has_reg_yes _ (fun _ _ _ _ _ h => h) _ w1 g0 (g0 + 1) s c n vv mv A q rfl rfl rfl ⟨e1, e2, t1, t2⟩ hlt t0 HA.out (decide_eq_false (by omega)) (fun w' g => HC.out w' (G2.out.trans g)) (fun w' g => HM.out w' (G2.out.trans g)) (fun w3 g3 => ?_)
    simp only [Act.put, List.setIfInBounds_toArray, List.set_cons_zero, List.set_cons_succ]
    go_wp2
    go_ret
    exact ⟨by rw [HB.out, decide_eq_false hle]; rfl, G2.out.trans g3⟩
end Go.Proofs.Ythcehgmpajejeaa

/- know.Join, Meet, Within: the counts of both, over any frame. -/
set_option linter.unusedVariables false
set_option linter.unusedSimpArgs false
namespace Go.Proofs.Ythcehgmpajejeaa
open Go.RowKit Rm
theorem kc0 {x : World} {g : Nat} {a b : Value} {t : TypeId} {fr : Nat × Nat} (h : x.heap[g]? = some (.cells #[a, b] t fr)) : x.cell? ⟨g, 0, none⟩ = some a := by simp [World.cell?, h]
theorem kc1 {x : World} {g : Nat} {a b : Value} {t : TypeId} {fr : Nat × Nat} (h : x.heap[g]? = some (.cells #[a, b] t fr)) : x.cell? ⟨g, 1, none⟩ = some b := by simp [World.cell?, h]
end Go.Proofs.Ythcehgmpajejeaa

/- know.common: the dots of a list that are in a set. -/
set_option linter.unusedVariables false
set_option linter.unusedSimpArgs false
namespace Rm
def comL (l : List (Nat × Nat)) (v : List Nat) (m : List (Nat × Nat)) : List (Nat × Nat) := l.filter fun d => memB v m d.1 d.2
end Rm
namespace Go.Proofs.Ythcehgmpajejeaa
open Go.RowKit Rm
end Go.Proofs.Ythcehgmpajejeaa

/- know.Join, Meet of sets in their form. -/
set_option linter.unusedVariables false
set_option linter.unusedSimpArgs false
namespace Rm
open Go Go.RowKit
end Rm
namespace Go.Proofs.Ythcehgmpajejeaa
open Go.RowKit Rm
theorem grown_setRow (w : World) (g : Nat) (cs : Array Value) : w.grownBy (w.setRow g cs) (some g) := ⟨rfl, rfl, rfl, by simp, fun k _ hk => setRow_other w g k _ (fun e => hk (by rw [e]))⟩
theorem own_setRow {w : World} {base g : Nat} {e : TypeId} {s n : Nat} {v : Value} {xs : List Value} (h : w.ownsRow base e s v n xs) (hg : g < base) (cs : Array Value) : (w.setRow g cs).ownsRow base e s v n xs := by
  refine h.kept (grown_setRow w g cs) ?_
  cases e : v.ownBlock with
  | none => exact .inl rfl
  | some b => exact .inr (fun e' => by have := (h.lt b e).1; have := Option.some.inj e'; omega)
theorem KnO.setRow {base g : Nat} {w : World} {k : Value} {v : List Nat} {m : List (Nat × Nat)} (h : KnO base w k v m) (hg : g < base) (cs : Array Value) : KnO base (w.setRow g cs) k v m := by
  obtain ⟨vv, mv, e, h1, h2⟩ := h
  exact ⟨vv, mv, e, own_setRow h1 hg cs, own_setRow h2 hg cs⟩
theorem frmK.setRow {base g : Nat} {w : World} {e : Ending} {D : DS} (h : frmK base w e D) (hg : g < base) (cs : Array Value) : frmK base (w.setRow g cs) e D := by
  obtain ⟨k, r, h1, ⟨h2, h3, h4⟩ | ⟨h2, h3, h4⟩⟩ := h
  · exact ⟨k, r, h1, .inl ⟨h2, h3, h4.setRow hg cs⟩⟩
  · exact ⟨k, r, h1, .inr ⟨h2, h3, h4.setRow hg cs⟩⟩
theorem frmK.form {base : Nat} {w : World} {e : Ending} {D : DS} (h : frmK base w e D) : ∃ a1 n1 c1 a2 n2 c2 r, e = .returned (.tuple #[.agg #[.slice a1 n1 c1, .slice a2 n2 c2], .int .i64 r]) ∧ frmK base w (.returned (.tuple #[.agg #[.slice a1 n1 c1, .slice a2 n2 c2], .int .i64 r])) D := by
  obtain ⟨k, r, rfl, h1⟩ := id h
  have hk : ∃ v m, KnO base w k v m := by rcases h1 with ⟨_, _, q⟩ | ⟨_, _, q⟩ <;> exact ⟨_, _, q⟩
  obtain ⟨v, m, vv, mv, rfl, o1, o2⟩ := hk
  obtain ⟨a1, c1, rfl, -⟩ := own_formD o1
  obtain ⟨a2, c2, rfl, -⟩ := own_formD o2
  exact ⟨_, _, _, _, _, _, _, rfl, h⟩
end Go.Proofs.Ythcehgmpajejeaa

/- know.Join, Meet, Within, Add, Count, Has: errors; Within, Add, Count, Has of sets in their form. -/
set_option linter.unusedVariables false
set_option linter.unusedSimpArgs false
namespace Rm
open Go Go.RowKit
def leV (v v' : List Nat) : Bool := decide (cv v 0 ≤ cv v' 0) && decide (cv v 1 ≤ cv v' 1) && decide (cv v 2 ≤ cv v' 2) && decide (cv v 3 ≤ cv v' 3) && decide (cv v 4 ≤ cv v' 4)
/-- is one set within another? -/
def withB (v v' : List Nat) (m m' : List (Nat × Nat)) : Bool := leV v v' && decide ((comL m v' m').length = m.length)
end Rm
namespace Go.Proofs.Ythcehgmpajejeaa
open Go.RowKit Rm
/-- what Add says first: the set's error, or the dot's -/
def chkA (V : List Int) (M : List (Int × Int)) (d : Int × Int) : Int := if chkK V M ≠ 0 then chkK V M else if dotB d then 0 else 1
set_option maxHeartbeats 1000000 in
set_option maxRecDepth 100000 in
theorem hasf_any (k : Value) (V : List Int) (M : List (Int × Int)) (d : Int × Int) (w : World) (hk : KnR w k V M) (hE : chkA V M d ≠ 0) :
    Calls Try.prog 37 #[k, .agg #[.int .i64 d.1, .int .i64 d.2]] w fun e w' => e = .returned (.tuple #[.bool false, .int .i64 (chkA V M d)]) ∧ Gr w w' := by
  have H1 : Hid (∀ W, Gr w W → Calls Try.prog 27 #[k] W fun e w' => e = .returned (.int .i64 (chkK V M)) ∧ Gr W w') := fun W g => kcheck_any k V M W (hk.gr g)
  have H2 := Lib.hid (dot_any d)
  have HA : Hid (chkA V M d = if chkK V M ≠ 0 then chkK V M else if dotB d then 0 else 1) := rfl
  obtain ⟨vv, mv, rfl, -⟩ := hk
  obtain ⟨x, y⟩ := d
  simp only at H2
  have G2 := Lib.hid (((Gr.refl w).alloc (.cells #[vv, mv] 35)).alloc (.cells #[.int .i64 x, .int .i64 y] 26))
  have T2 := Lib.hid (Two.new (w.alloc (.cells #[vv, mv] 35)) x y 26)
  rw [World.size_alloc] at T2
  by_cases h0 : chkK V M = 0
  · have hd : dotB (x, y) = false := by
      cases hq : dotB (x, y)
      · rfl
      · exfalso; apply hE; rw [HA.out, h0, hq]; simp
    have HR : Hid (chkA V M (x, y) = 1) := by show _ = _; rw [HA.out, h0, hd]; simp
    rw [h0] at H1
    rw [hd] at H2
    clear hE
    go_enter Try.func37, Try.ntmps37
    go_wp2_with (first
      | (go_at_call 27; refine (H1.out _ G2.out).mono ?_; rintro e w4 ⟨rfl, g4⟩; obtain ⟨t0, t1, t2⟩ := T2.out.gr g4; have G4 := Lib.hid (G2.out.trans g4); clear g4 T2)
      | (go_at_call 14; refine (H2.out _).mono ?_; rintro e w5 ⟨rfl, g5⟩))
    go_ret2
    exact ⟨by rw [HR.out]; rfl, G4.out.trans g5⟩
  · have HR : Hid (chkA V M (x, y) = chkK V M) := by show _ = _; rw [HA.out, if_pos h0]
    generalize chkK V M = E at *
    clear hE
    go_enter Try.func37, Try.ntmps37
    go_wp2_with (first
      | (go_at_call 27; refine (H1.out _ G2.out).mono ?_; rintro e w4 ⟨rfl, g4⟩))
    go_ret2
    exact ⟨by rw [HR.out]; rfl, G2.out.trans g4⟩
set_option maxHeartbeats 1000000 in
set_option maxRecDepth 100000 in
theorem hasf_ok (k : Value) (v : List Nat) (m : List (Nat × Nat)) (s c : Nat) (w : World) (hk : KnR w k (ints v) (pairs m)) (ho : OkV v m) (hl : m.length ≤ 60) (hd : inR s c) :
    Calls Try.prog 37 #[k, .agg #[.int .i64 (s : Int), .int .i64 (c : Int)]] w fun e w' => e = .returned (.tuple #[.bool (memB v m s c), .int .i64 0]) ∧ Gr w w' := by
  have H1 : Hid (∀ W, Gr w W → Calls Try.prog 27 #[k] W fun e w' => e = .returned (.int .i64 0) ∧ Gr W w') := fun W g => by
    have := kcheck_any k _ _ W (hk.gr g)
    rwa [ho.chk hl] at this
  have H2 : Hid (∀ W, Calls Try.prog 14 #[.agg #[.int .i64 (s : Int), .int .i64 (c : Int)]] W fun e w' => e = .returned (.bool true) ∧ Gr W w') := fun W => by
    have := dot_any ((s : Int), (c : Int)) W
    have e : dotB ((s : Int), (c : Int)) = true := by rw [dotB_iff]; have := hd.1; have := hd.2.1; have := hd.2.2; simp only; omega
    rwa [e] at this
  have H3 : Hid (∀ W, Gr w W → Calls Try.prog 55 #[k, .agg #[.int .i64 (s : Int), .int .i64 (c : Int)]] W fun e w' => e = .returned (.bool (memB v m s c)) ∧ Gr W w') := fun W g => khas_any k v m s c W (hk.gr g) ho hl hd
  obtain ⟨vv, mv, rfl, -⟩ := hk
  have G2 := Lib.hid (((Gr.refl w).alloc (.cells #[vv, mv] 35)).alloc (.cells #[.int .i64 (s : Int), .int .i64 (c : Int)] 26))
  have B0 : Hid (((w.alloc (.cells #[vv, mv] 35)).alloc (.cells #[.int .i64 (s : Int), .int .i64 (c : Int)] 26)).heap[w.heap.size]? = some (.cells #[vv, mv] 35 (0, 0))) := (al_old _ _ _ (by simp)).trans (al_new _ _ _ rfl)
  have B1 : Hid (((w.alloc (.cells #[vv, mv] 35)).alloc (.cells #[.int .i64 (s : Int), .int .i64 (c : Int)] 26)).heap[w.heap.size + 1]? = some (.cells #[.int .i64 (s : Int), .int .i64 (c : Int)] 26 (0, 0))) := al_new _ _ _ (by simp)
  generalize memB v m s c = R at *
  go_enter Try.func37, Try.ntmps37
  go_wp2_with (first
    | (go_at_call 27; refine (H1.out _ G2.out).mono ?_; rintro e w4 ⟨rfl, g4⟩; have b0 := Lib.hid ((Below.block g4 _ (Array.getElem?_eq_some_iff.1 B0.out).1).trans B0.out); have b1 := Lib.hid ((Below.block g4 _ (Array.getElem?_eq_some_iff.1 B1.out).1).trans B1.out); have c0 := kc0 b1.out; have c1 := kc1 b1.out; have G4 := Lib.hid (G2.out.trans g4); clear g4 B0 B1)
    | (go_at_call 14; refine (H2.out _).mono ?_; rintro e w5 ⟨rfl, g5⟩; have e0 := (Below.block g5 _ (Array.getElem?_eq_some_iff.1 b0.out).1).trans b0.out; have e1 := (Below.block g5 _ (Array.getElem?_eq_some_iff.1 b1.out).1).trans b1.out; have k0 := kc0 e0; have k1 := kc1 e0; have k2 := kc0 e1; have k3 := kc1 e1; have G5 := Lib.hid (G4.out.trans g5); clear g5 e0 e1 c0 c1)
    | (go_at_call 55; refine (H3.out _ G5.out).mono ?_; rintro e w6 ⟨rfl, g6⟩))
  go_ret2
  exact ⟨rfl, G5.out.trans g6⟩
end Go.Proofs.Ythcehgmpajejeaa

/- The document's sets of dots: All, Size, Formed. -/
set_option linter.unusedVariables false
set_option linter.unusedSimpArgs false
namespace Rm
open Go Go.RowKit Gx
theorem ne_nil_of_lt {α : Type} {l : List α} {i : Nat} (h : i < l.length) : l ≠ [] := fun e => by rw [e] at h; cases h
def RdI1 (w : World) (a : Option Addr) (V : List Int) : Prop := V ≠ [] → ∃ b off, a = some ⟨b, off, none⟩ ∧ b < w.heap.size ∧ ∀ i x, V[i]? = some x → w.cell? ⟨b, off + i * 1, none⟩ = some (.int .i64 x)
def RdDI (w : World) (a : Option Addr) (M : List (Int × Int)) : Prop := M ≠ [] → ∃ b off, a = some ⟨b, off, none⟩ ∧ b < w.heap.size ∧ ∀ i (p : Int × Int), M[i]? = some p → w.cell? ⟨b, off + i * 2, none⟩ = some (.int .i64 p.1) ∧ w.cell? ⟨b, off + i * 2 + 1, none⟩ = some (.int .i64 p.2)
def RdN1 (w : World) (a : Option Addr) (V : List Nat) : Prop := V ≠ [] → ∃ b off, a = some ⟨b, off, none⟩ ∧ b < w.heap.size ∧ ∀ (i : Nat) (x : Nat), V[i]? = some x → w.cell? ⟨b, off + i * 1, none⟩ = some (.int .i64 (x : Int))
def RdDN (w : World) (a : Option Addr) (M : List (Nat × Nat)) : Prop := M ≠ [] → ∃ b off, a = some ⟨b, off, none⟩ ∧ b < w.heap.size ∧ ∀ i (p : Nat × Nat), M[i]? = some p → w.cell? ⟨b, off + i * 2, none⟩ = some (.int .i64 (p.1 : Int)) ∧ w.cell? ⟨b, off + i * 2 + 1, none⟩ = some (.int .i64 (p.2 : Int))
theorem RdI1.nat {w : World} {a : Option Addr} {V : List Nat} (h : RdI1 w a (ints V)) : RdN1 w a V := fun hn => by
  obtain ⟨b, off, h1, h2, h3⟩ := h (by simpa [ints] using hn)
  exact ⟨b, off, h1, h2, fun i x hx => h3 i _ (ints_at hx)⟩
theorem RdDI.nat {w : World} {a : Option Addr} {M : List (Nat × Nat)} (h : RdDI w a (pairs M)) : RdDN w a M := fun hn => by
  obtain ⟨b, off, h1, h2, h3⟩ := h (by simpa [pairs] using hn)
  exact ⟨b, off, h1, h2, fun i p hx => h3 i ((p.1 : Int), (p.2 : Int)) (by simp [pairs, hx])⟩
theorem knr_form {w : World} {k : Value} {V : List Int} {M : List (Int × Int)} (h : KnR w k V M) : ∃ va vc ma mc, k = .agg #[.slice va V.length vc, .slice ma M.length mc] ∧ RdI1 w va V ∧ RdDI w ma M := by
  obtain ⟨vv, mv, rfl, ⟨va, vc, rfl, -, hv⟩, ⟨ma, mc, rfl, -, hm⟩, -⟩ := h
  refine ⟨va, vc, ma, mc, rfl, fun hn => ?_, hm⟩
  obtain ⟨b, off, e, hb, hx⟩ := hv hn
  exact ⟨b, off, e, hb, fun i x h => by rw [Nat.mul_one]; exact hx i x h⟩
theorem two_cells {w : World} {b k : Nat} {x y : Value} (h1 : w.cell? ⟨b, k, none⟩ = some x) (h2 : w.cell? ⟨b, k + 1, none⟩ = some y) : ∀ j v, ([x, y] : List Value)[j]? = some v → w.cell? ⟨b, k + j, none⟩ = some v := by
  intro j v hv
  match j, hv with
  | 0, hv => simp at hv; subst hv; exact h1
  | 1, hv => simp at hv; subst hv; exact h2
  | j + 2, hv => simp at hv
theorem cells_to {w w' : World} {b k : Nat} {cs : List Value} (h : ∀ j, w'.cell? ⟨b, j, none⟩ = w.cell? ⟨b, j, none⟩) (hc : ∀ j v, cs[j]? = some v → w.cell? ⟨b, k + j, none⟩ = some v) : ∀ j v, cs[j]? = some v → w'.cell? ⟨b, k + j, none⟩ = some v :=
  fun j v hv => (h _).trans (hc j v hv)
theorem cv_at {v : List Nat} {i x : Nat} (h : v[i]? = some x) : cv v i = x := by simp [cv, List.getD, h]
theorem withX_off (X : Nat → Nat) (i c : Nat) : (fun q => if q = 0 + i * 16 + (c / 64) * 1 then X (0 + i * 16 + (c / 64) * 1) ||| 2 ^ (c % 64) else X q) = withX X i c := by
  funext q
  unfold withX
  rw [Nat.zero_add, Nat.mul_one]
  by_cases e : q = i * 16 + c / 64
  · rw [if_pos e, if_pos e, e]
  · rw [if_neg e, if_neg e]
theorem all_step {X : Nat → Nat} {v : List Nat} {i c : Nat} (hc : c < 1024) (h1 : 1 ≤ c)
    (h : ∀ s q, s < 5 → q < 1024 → dsX X s q = decide (s < i ∧ 1 ≤ q ∧ q ≤ cv v s ∨ s = i ∧ 1 ≤ q ∧ q < c)) :
    ∀ s q, s < 5 → q < 1024 → dsX (withX X i c) s q = decide (s < i ∧ 1 ≤ q ∧ q ≤ cv v s ∨ s = i ∧ 1 ≤ q ∧ q < c + 1) := by
  intro s q hs hq
  rw [dsX_with X i c s q hc hq, h s q hs hq, Bool.eq_iff_iff]
  simp only [Bool.or_eq_true, decide_eq_true_eq]
  omega
theorem all_next {X : Nat → Nat} {v : List Nat} {i c x : Nat} (hx : cv v i = x) (hc : c = x + 1)
    (h : ∀ s q, s < 5 → q < 1024 → dsX X s q = decide (s < i ∧ 1 ≤ q ∧ q ≤ cv v s ∨ s = i ∧ 1 ≤ q ∧ q < c)) :
    ∀ s q, s < 5 → q < 1024 → dsX X s q = decide (s < i + 1 ∧ 1 ≤ q ∧ q ≤ cv v s) := by
  intro s q hs hq
  rw [h s q hs hq, Bool.eq_iff_iff]
  simp only [decide_eq_true_eq]
  by_cases e : s = i
  · subst e; omega
  · omega
theorem all_mid {X : Nat → Nat} {v : List Nat} {n : Nat} (hn : v.length ≤ n)
    (h : ∀ s q, s < 5 → q < 1024 → dsX X s q = decide (s < n ∧ 1 ≤ q ∧ q ≤ cv v s)) (m : List (Nat × Nat)) :
    ∀ s q, s < 5 → q < 1024 → dsX X s q = memB v (m.take 0) s q := by
  intro s q hs hq
  rw [h s q hs hq, Bool.eq_iff_iff, memB_iff]
  simp only [decide_eq_true_eq, List.take_zero, List.not_mem_nil, or_false]
  by_cases e : s < n
  · omega
  · have := cv_out (v := v) (s := s) (by omega)
    omega
theorem all_more {X : Nat → Nat} {v : List Nat} {m : List (Nat × Nat)} {k x y : Nat} (hm : m[k]? = some (x, y)) (hy : y < 1024)
    (h : ∀ s q, s < 5 → q < 1024 → dsX X s q = memB v (m.take k) s q) :
    ∀ s q, s < 5 → q < 1024 → dsX (withX X x y) s q = memB v (m.take (k + 1)) s q := by
  intro s q hs hq
  rw [dsX_with X x y s q hy hq, h s q hs hq, Bool.eq_iff_iff]
  simp only [Bool.or_eq_true, memB_iff, decide_eq_true_eq]
  rw [List.take_add_one, hm]
  simp only [Option.toList_some, List.mem_append, List.mem_singleton, Prod.mk.injEq]
  constructor
  · rintro ((q1 | q1) | q1)
    · exact .inl q1
    · exact .inr (.inl q1)
    · exact .inr (.inr q1)
  · rintro (q1 | q1 | q1)
    · exact .inl (.inl q1)
    · exact .inl (.inr q1)
    · exact .inr q1
theorem pow_lt64 (r : Nat) (h : r < 64) : 2 ^ r < 2 ^ 64 := Nat.pow_lt_pow_right (by omega) h
end Rm
namespace Gx
open Go Go.RowKit Rm
theorem Sx.cell {bs : List Nat} {w x : World} {b o : Nat} (h : Sx bs w x) (hn : b ∉ bs) : x.cell? ⟨b, o, none⟩ = w.cell? ⟨b, o, none⟩ := by
  unfold World.cell?
  rw [h b hn]
section
variable {P : Program} {ev : Operand → Value} {d : Option Tmp} {ty : TypeId} {p : String} {af : Array Edge} {g : Option (Nat × Bool)} {w : World}
theorem o_shlU {t t' : TypeId} {x y : Operand} {j : Nat} (hx : ev x = .int .u64 1) (hy : ev y = .int .i64 (j : Int)) (hj : j < 64) : (execOp ev (Oper.mk d (.binOp .shl t x y t') ty p af g)).run Go.Proofs.Try.prog w = .ok (.value (.int .u64 ((2 ^ j : Nat) : Int))) w := by
  have h := Go.Proofs.Ythcehgmpajejeaa.shl64 t j hj w
  have h3 : 2 ^ j < 2 ^ 64 := Nat.pow_lt_pow_right (by omega) hj
  have h2 : IntKind.u64.wrap ((2 : Int) ^ j) = (2 : Int) ^ j := by
    rw [show (2 : Int) ^ j = ((2 ^ j : Nat) : Int) by simp]
    exact IntWalk.u64_in _ ⟨Int.natCast_nonneg _, by omega⟩
  simp [execOp, hx, hy, eqGuard, h, h2, go_sem]
end
end Gx
namespace Go.Proofs.Ythcehgmpajejeaa
open Go.RowKit Rm Gx
set_option maxHeartbeats 8000000 in
set_option maxRecDepth 100000 in
theorem rall_k (va ma : Option Addr) (vc mc : Nat) (v : List Nat) (m : List (Nat × Nat)) (ok : OkV v m) (hl : m.length ≤ 60) (w : World) (hv : RdN1 w va v) (hm : RdDN w ma m) :
    Calls Try.prog 32 #[.agg #[.slice va v.length vc, .slice ma m.length mc]] w fun e w' => ∃ X, e = .returned (.agg (wArr X)) ∧ OkX X ∧ (∀ s q, s < 5 → q < 1024 → dsX X s q = memB v m s q) ∧ Gr w w' := by
  refine enter (N := 47) Try.func32 rfl rfl rfl (fun a0 ok0 h0 => ?_)
  have e0_0 : a0.eval (.tmp 0) = .agg #[.slice va v.length vc, .slice ma m.length mc] := h0 0 _ rfl
  clear h0
  have G0 := Gr.refl w
  refine wp_seq_k (fun K1 hK1 => ?_)
  refine wp_region_lit ?_
  refine sal (cs := #[.slice va v.length vc, .slice ma m.length mc]) ok0 rfl (wn _ rfl) rfl (o_box e0_0) (fun an2 w4 b3 W5 n2 => ?_)
  have l6 : w.heap.size ≤ b3 := by rw [W5.eq]; exact G0.size
  have G7 := G0.trans W5.gr
  refine sal (cs := wArr (fun _ => 0)) n2.ok rfl (wn _ rfl) rfl (o_al (z := .agg (wArr (fun _ => 0))) dots_zero) (fun an8 w10 b9 W11 n8 => ?_)
  have l12 : b3 < b9 := by rw [W11.eq]; exact W5.bk.lt
  have l13 : w.heap.size ≤ b9 := by rw [W11.eq]; exact G7.size
  have G14 := G7.trans W11.gr
  have B15 := W5.bk.gr W11.gr
  refine wpList_nil ?_
  refine th_n (hK1 _ _ ?_)
  refine wp_seq_k (fun K16 hK16 => ?_)
  refine wp_region_lit ?_
  refine sal (cs := wArr (fun _ => 0)) n8.ok rfl (wn _ rfl) rfl (o_al (z := .agg (wArr (fun _ => 0))) dots_zero) (fun an17 w19 b18 W20 n17 => ?_)
  have l21 : b3 < b18 := by rw [W20.eq]; exact B15.lt
  have l22 : b9 < b18 := by rw [W20.eq]; exact W11.bk.lt
  have l23 : w.heap.size ≤ b18 := by rw [W20.eq]; exact G14.size
  have G24 := G14.trans W20.gr
  have B25 := B15.gr W20.gr
  have B26 := W11.bk.gr W20.gr
  refine wpList_nil ?_
  refine th_n (hK16 _ _ ?_)
  refine wp_seq_k (fun K27 hK27 => ?_)
  refine wp_seq_k (fun K28 hK28 => ?_)
  refine wp_region_lit ?_
  refine sv n17.ok rfl (wn _ rfl) rfl (o_fa (z := 1) (n17.ne rfl (n8.ne rfl n2.at_)) Try.underlying35 rfl (by kernel_rfl) rfl rfl) (fun an29 n29 => ?_)
  refine sv n29.ok rfl (wn _ rfl) rfl (o_ld n29.at_ (Try.isAgg32 _) (B25.cell _ rfl)) (fun an30 n30 => ?_)
  refine sv n30.ok rfl (wn _ rfl) rfl (o_len n30.at_ Try.underlying32) (fun an31 n31 => ?_)
  refine sv n31.ok rfl (wn _ rfl) rfl (o_mv ev_const) (fun an32 n32 => ?_)
  refine wpList_nil ?_
  refine th_n (hK28 _ _ ?_)
  refine wp_block ?_
  have e34 := n32.ne rfl (n31.ne rfl (n30.ne rfl (n29.ne rfl (n17.ne rfl (n8.ne rfl n2.at_)))))
  have e35 := n32.ne rfl (n31.ne rfl (n30.ne rfl (n29.ne rfl (n17.ne rfl n8.at_))))
  have e36 := n32.ne rfl (n31.ne rfl (n30.ne rfl (n29.ne rfl n17.at_)))
  refine lp (fun (nL : Nat) (aL : Act) (wL : World) => ∃ i : Nat, ∃ X : Nat → Nat, nL = v.length - i ∧ Ok 47 aL ∧ Gr w wL ∧ (aL.eval (.tmp 1) = .pointer (some ⟨b3, 0, none⟩)) ∧ (aL.eval (.tmp 2) = .pointer (some ⟨b9, 0, none⟩)) ∧ (aL.eval (.tmp 3) = .pointer (some ⟨b18, 0, none⟩)) ∧ (aL.eval (.tmp 10) = .slice va v.length vc) ∧ (aL.eval (.tmp 11) = .int .i64 ((v.length : Nat) : Int)) ∧ (aL.eval (.tmp 12) = .int .i64 (i : Int)) ∧ (Bk wL b3 #[.slice va v.length vc, .slice ma m.length mc] 35) ∧ (Bk wL b9 (wArr (fun _ => 0)) 66) ∧ (Bk wL b18 (wArr X) 66) ∧ (i ≤ v.length) ∧ (OkX X) ∧ (∀ s q, s < 5 → q < 1024 → dsX X s q = decide (s < i ∧ 1 ≤ q ∧ q ≤ cv v s))) _ ⟨0, (fun _ => 0), rfl, n32.ok, G24, e34, e35, e36, (n32.ne rfl (n31.ne rfl n30.at_)), (n32.ne rfl n31.at_), n32.at_, B25, B26, W20.bk, by omega, OkX.zero, fun s q h1 h2 => by rw [dsX_zero]; simp⟩ ?_
  rintro m37 aI33 w39 ⟨i, X, hmI33, okI33, GI33, s1I33, s2I33, s3I33, s10I33, s11I33, s12I33, kb3I33, kb9I33, kb18I33, hiI33, hXI33, hDI33⟩ KI33 hKI33
  refine wp_seq_k (fun K40 hK40 => ?_)
  refine wp_region_lit ?_
  refine sv okI33 rfl (wn _ rfl) rfl (o_ltI s12I33 s11I33) (fun an41 n41 => ?_)
  refine wpList_nil ?_
  refine th_n (hK40 _ _ ?_)
  refine wp_seq_k (fun K42 hK42 => ?_)
  by_cases c43 : (i : Int) < ((v.length : Nat) : Int)
  · refine wp_cond_true ((n41.at_).trans (congrArg Value.bool (decide_eq_true c43))) ?_
    refine wp_skip ?_
    refine th_n (hK42 _ _ ?_)
    refine wp_seq_k (fun K44 hK44 => ?_)
    refine wp_block ?_
    refine wp_seq_k (fun K45 hK45 => ?_)
    refine wp_region_lit ?_
    refine sv n41.ok rfl (wn _ rfl) rfl (o_mv (n41.ne rfl s12I33)) (fun an46 n46 => ?_)
    have h47l : i < List.length v := by omega
    obtain ⟨bh47, fh47, h47a, h47b, h47c⟩ := hv (ne_nil_of_lt h47l)
    obtain ⟨xh47, h47x⟩ : ∃ x, v[i]? = some x := ⟨_, List.getElem?_eq_getElem h47l⟩
    have hleh47 : xh47 ≤ 1000 := ok.le _ (List.mem_of_getElem? h47x)
    have hcv := cv_at h47x
    have hlen5 := ok.len
    refine sv n46.ok rfl (wn _ rfl) rfl (o_iaV (i := i) (s := 1) h47a (n46.ne rfl (n41.ne rfl s10I33)) (n46.ne rfl (n41.ne rfl s12I33)) Try.underlying32 (by kernel_rfl) h47l) (fun an48 n48 => ?_)
    refine sv n48.ok rfl (wn _ rfl) rfl (o_ld n48.at_ (Try.isAgg3 _) ((Below.cell GI33 h47b).trans (h47c _ _ h47x))) (fun an49 n49 => ?_)
    refine sv n49.ok rfl (wn _ rfl) rfl (o_as (n49.ne rfl (n48.ne rfl n46.at_))) (fun an50 n50 => ?_)
    refine sv n50.ok rfl (wn _ rfl) rfl (o_as (n50.ne rfl n49.at_)) (fun an51 n51 => ?_)
    refine wpList_nil ?_
    refine th_n (hK45 _ _ ?_)
    refine wp_seq_k (fun K52 hK52 => ?_)
    refine wp_region_lit ?_
    refine sv n51.ok rfl (wn _ rfl) rfl (o_as ev_const) (fun an53 n53 => ?_)
    refine wpList_nil ?_
    refine th_n (hK52 _ _ ?_)
    refine wp_block ?_
    have e55 := n53.ne rfl (n51.ne rfl (n50.ne rfl (n49.ne rfl (n48.ne rfl (n46.ne rfl (n41.ne rfl s1I33))))))
    have e56 := n53.ne rfl (n51.ne rfl (n50.ne rfl (n49.ne rfl (n48.ne rfl (n46.ne rfl (n41.ne rfl s2I33))))))
    have e57 := n53.ne rfl (n51.ne rfl (n50.ne rfl (n49.ne rfl (n48.ne rfl (n46.ne rfl (n41.ne rfl s3I33))))))
    have e58 := n53.ne rfl (n51.ne rfl (n50.ne rfl (n49.ne rfl (n48.ne rfl (n46.ne rfl (n41.ne rfl s10I33))))))
    have e59 := n53.ne rfl (n51.ne rfl (n50.ne rfl (n49.ne rfl (n48.ne rfl (n46.ne rfl (n41.ne rfl s11I33))))))
    have e60 := n53.ne rfl (n51.ne rfl (n50.ne rfl (n49.ne rfl (n48.ne rfl (n46.ne rfl (n41.ne rfl s12I33))))))
    refine lp (fun (nL : Nat) (aL : Act) (wL : World) => ∃ c : Nat, ∃ X : Nat → Nat, nL = xh47 + 1 - c ∧ Ok 47 aL ∧ Gr w wL ∧ (aL.eval (.tmp 1) = .pointer (some ⟨b3, 0, none⟩)) ∧ (aL.eval (.tmp 2) = .pointer (some ⟨b9, 0, none⟩)) ∧ (aL.eval (.tmp 3) = .pointer (some ⟨b18, 0, none⟩)) ∧ (aL.eval (.tmp 4) = .int .i64 (i : Int)) ∧ (aL.eval (.tmp 5) = .int .i64 (xh47 : Int)) ∧ (aL.eval (.tmp 6) = .int .i64 (c : Int)) ∧ (aL.eval (.tmp 10) = .slice va v.length vc) ∧ (aL.eval (.tmp 11) = .int .i64 ((v.length : Nat) : Int)) ∧ (aL.eval (.tmp 12) = .int .i64 (i : Int)) ∧ (Bk wL b3 #[.slice va v.length vc, .slice ma m.length mc] 35) ∧ (Bk wL b9 (wArr (fun _ => 0)) 66) ∧ (Bk wL b18 (wArr X) 66) ∧ (1 ≤ c ∧ c ≤ xh47 + 1) ∧ (OkX X) ∧ (∀ s q, s < 5 → q < 1024 → dsX X s q = decide (s < i ∧ 1 ≤ q ∧ q ≤ cv v s ∨ s = i ∧ 1 ≤ q ∧ q < c))) _ ⟨1, X, rfl, n53.ok, GI33, e55, e56, e57, (n53.ne rfl (n51.ne rfl n50.at_)), (n53.ne rfl n51.at_), n53.at_, e58, e59, e60, kb3I33, kb9I33, kb18I33, by omega, hXI33, fun s q h1 h2 => by rw [hDI33 s q h1 h2, Bool.eq_iff_iff]; simp only [decide_eq_true_eq]; omega⟩ ?_
    rintro m61 aI54 w63 ⟨c, X, hmI54, okI54, GI54, s1I54, s2I54, s3I54, s4I54, s5I54, s6I54, s10I54, s11I54, s12I54, kb3I54, kb9I54, kb18I54, hcI54, hXI54, hDI54⟩ KI54 hKI54
    refine wp_seq_k (fun K64 hK64 => ?_)
    refine wp_seq_k (fun K65 hK65 => ?_)
    refine wp_region_lit ?_
    refine sv okI54 rfl (wn _ rfl) rfl (o_mv s6I54) (fun an66 n66 => ?_)
    refine sv n66.ok rfl (wn _ rfl) rfl (o_mv (n66.ne rfl s5I54)) (fun an67 n67 => ?_)
    refine sv n67.ok rfl (wn _ rfl) rfl (o_leI (n67.ne rfl n66.at_) n67.at_) (fun an68 n68 => ?_)
    refine wpList_nil ?_
    refine th_n (hK65 _ _ ?_)
    by_cases c69 : (c : Int) ≤ (xh47 : Int)
    · refine wp_cond_true ((n68.at_).trans (congrArg Value.bool (decide_eq_true c69))) ?_
      refine wp_skip ?_
      refine th_n (hK64 _ _ ?_)
      refine wp_seq_k (fun K70 hK70 => ?_)
      refine wp_block ?_
      refine reg_start (N := 47) (m := 12) (by kernel_rfl) (fun R710 => ?_)
      have e72 := n68.ne rfl (n67.ne rfl (n66.ne rfl s4I54))
      have R711 := R710.snoc (n' := 1) rfl (fun vJ _ => vJ = .int .i64 (i : Int)) rfl (fun _ _ _ _ h => h) (fun aS wS pS => by
          exact Does.val (wn _ rfl) (o_mv ((pS.old 4 rfl).trans e72)) (Gr.refl _) rfl rfl)
      have e73 := n68.ne rfl (n67.ne rfl (n66.ne rfl s6I54))
      have R712 := R711.snoc (n' := 2) rfl (fun vJ _ => vJ = .int .i64 (c : Int)) rfl (fun _ _ _ _ h => h) (fun aS wS pS => by
          exact Does.val (wn _ rfl) (o_mv ((pS.old 6 rfl).trans e73)) (Gr.refl _) rfl rfl)
      have R713 := R712.snoc (n' := 3) rfl (fun vJ _ => vJ = .int .i64 (((c) / 64 : Nat) : Int)) rfl (fun _ _ _ _ h => h) (fun aS wS pS => by
          have eR71_1 : aS.eval (.tmp 23) = .int .i64 (c : Int) := pS.pre 1 rfl
          exact Does.val (wn _ rfl) (o_quo (i := c) (j := 64) (eR71_1) ev_const (by omega) (by omega) rfl) (Gr.refl _) rfl rfl)
      have e74 := n68.ne rfl (n67.ne rfl (n66.ne rfl s3I54))
      have R714 := R713.snoc (n' := 4) rfl (fun vJ _ => vJ = .pointer (some ⟨b18, 0 + i * 16, none⟩)) rfl (fun _ _ _ _ h => h) (fun aS wS pS => by
          have eR71_0 : aS.eval (.tmp 22) = .int .i64 (i : Int) := pS.pre 0 rfl
          exact Does.val (wn _ rfl) (o_iaA (i := i) (s := 16) ((pS.old 3 rfl).trans e74) (eR71_0) Try.underlying66 (by kernel_rfl) (by omega)) (Gr.refl _) rfl rfl)
      have R715 := R714.snoc (n' := 5) rfl (fun vJ _ => vJ = .pointer (some ⟨b18, 0 + i * 16 + ((c) / 64) * 1, none⟩)) rfl (fun _ _ _ _ h => h) (fun aS wS pS => by
          have eR71_2 : aS.eval (.tmp 24) = .int .i64 (((c) / 64 : Nat) : Int) := pS.pre 2 rfl
          have eR71_3 : aS.eval (.tmp 25) = .pointer (some ⟨b18, 0 + i * 16, none⟩) := pS.pre 3 rfl
          exact Does.val (wn _ rfl) (o_iaA (i := (c) / 64) (s := 1) (eR71_3) (eR71_2) Try.underlying64 (by kernel_rfl) (by omega)) (Gr.refl _) rfl rfl)
      have R716 := R715.snoc (n' := 6) rfl (fun vJ _ => vJ = .int .u64 ((X (0 + i * 16 + ((c) / 64) * 1) : Nat) : Int)) rfl (fun _ _ _ _ h => h) (fun aS wS pS => by
          have eR71_4 : aS.eval (.tmp 26) = .pointer (some ⟨b18, 0 + i * 16 + ((c) / 64) * 1, none⟩) := pS.pre 4 rfl
          exact Does.val (wn _ rfl) (o_ld (eR71_4) (Try.isAgg63 _) ((Bk.gr kb18I54 (gr_drew pS.gr)).cell _ (wArr_at X (0 + i * 16 + ((c) / 64) * 1) (by omega)))) (Gr.refl _) rfl rfl)
      have R717 := R716.snoc (n' := 7) rfl (fun vJ _ => vJ = .int .i64 (c : Int)) rfl (fun _ _ _ _ h => h) (fun aS wS pS => by
          exact Does.val (wn _ rfl) (o_mv ((pS.old 6 rfl).trans e73)) (Gr.refl _) rfl rfl)
      have R718 := R717.snoc (n' := 8) rfl (fun vJ _ => vJ = .int .i64 (((c) % 64 : Nat) : Int)) rfl (fun _ _ _ _ h => h) (fun aS wS pS => by
          have eR71_6 : aS.eval (.tmp 28) = .int .i64 (c : Int) := pS.pre 6 rfl
          exact Does.val (wn _ rfl) (o_rem (i := c) (j := 64) (eR71_6) ev_const (by omega) rfl) (Gr.refl _) rfl rfl)
      have R719 := R718.snoc (n' := 9) rfl (fun vJ _ => vJ = .int .u64 ((2 ^ ((c) % 64) : Nat) : Int)) rfl (fun _ _ _ _ h => h) (fun aS wS pS => by
          have eR71_7 : aS.eval (.tmp 29) = .int .i64 (((c) % 64 : Nat) : Int) := pS.pre 7 rfl
          exact Does.val (wn _ rfl) (o_shlU (j := (c) % 64) ev_const (eR71_7) (by omega)) (Gr.refl _) rfl rfl)
      have R7110 := R719.snoc (n' := 10) rfl (fun vJ _ => vJ = .int .u64 ((X (0 + i * 16 + ((c) / 64) * 1) ||| 2 ^ ((c) % 64) : Nat) : Int)) rfl (fun _ _ _ _ h => h) (fun aS wS pS => by
          have eR71_5 : aS.eval (.tmp 27) = .int .u64 ((X (0 + i * 16 + ((c) / 64) * 1) : Nat) : Int) := pS.pre 5 rfl
          have eR71_8 : aS.eval (.tmp 30) = .int .u64 ((2 ^ ((c) % 64) : Nat) : Int) := pS.pre 8 rfl
          exact Does.val (wn _ rfl) (o_orU (eR71_5) (eR71_8) (hXI54 _) (pow_lt64 _ (by omega))) (Gr.refl _) rfl rfl)
      have R7111 := R7110.snoc (n' := 11) rfl (fun vJ _ => vJ = .pointer (some ⟨b18, 0 + i * 16, none⟩)) rfl (fun _ _ _ _ h => h) (fun aS wS pS => by
          have eR71_0 : aS.eval (.tmp 22) = .int .i64 (i : Int) := pS.pre 0 rfl
          exact Does.val (wn _ rfl) (o_iaA (i := i) (s := 16) ((pS.old 3 rfl).trans e74) (eR71_0) Try.underlying66 (by kernel_rfl) (by omega)) (Gr.refl _) rfl rfl)
      have R7112 := R7111.snoc (n' := 12) rfl (fun vJ _ => vJ = .pointer (some ⟨b18, 0 + i * 16 + ((c) / 64) * 1, none⟩)) rfl (fun _ _ _ _ h => h) (fun aS wS pS => by
          have eR71_2 : aS.eval (.tmp 24) = .int .i64 (((c) / 64 : Nat) : Int) := pS.pre 2 rfl
          have eR71_10 : aS.eval (.tmp 32) = .pointer (some ⟨b18, 0 + i * 16, none⟩) := pS.pre 10 rfl
          exact Does.val (wn _ rfl) (o_iaA (i := (c) / 64) (s := 1) (eR71_10) (eR71_2) Try.underlying64 (by kernel_rfl) (by omega)) (Gr.refl _) rfl rfl)
      refine R7112.run (k := 1) (L := #[true, true, true, true, true, true, true, true, true, true, true, true, false]) (by kernel_rfl) (by kernel_rfl) (by kernel_rfl) n68.ok (by kernel_rfl) (by kernel_rfl) (fun ap76 w77 p76 => ?_)
      have g78 := gr_drew p76.gr
      have G79 := GI54.trans g78
      have B80 := kb3I54.gr g78
      have B81 := kb9I54.gr g78
      have B82 := kb18I54.gr g78
      have ep76_11 : ap76.eval (.tmp 33) = .pointer (some ⟨b18, 0 + i * 16 + ((c) / 64) * 1, none⟩) := p76.js 11 rfl
      have ep76_9 : ap76.eval (.tmp 31) = .int .u64 ((X (0 + i * 16 + ((c) / 64) * 1) ||| 2 ^ ((c) % 64) : Nat) : Int) := p76.js 9 rfl
      refine t_stC (i := 12) (by kernel_rfl) rfl rfl (wn _ rfl) (o_st ep76_11 ep76_9 B82 (wArr_at X (0 + i * 16 + ((c) / 64) * 1) (by omega)) (by kernel_rfl) rfl) B82 (fun w83 u84 u84b => ?_)
      have G85 : Gr w w83 := Below.upd G79 l23 u84
      have B86 := B80.upd u84 (Nat.ne_of_lt l21)
      have B87 := B81.upd u84 (Nat.ne_of_lt l22)
      have B88 : Bk w83 b18 (wArr (fun q => if q = 0 + i * 16 + ((c) / 64) * 1 then X (0 + i * 16 + ((c) / 64) * 1) ||| 2 ^ ((c) % 64) else X q)) 66 := (by rw [← wArr_set]; exact u84b)
      refine wpAny_done (by kernel_rfl) ?_ _
      refine ib_n ?_
      refine th_n (hK70 _ _ ?_)
      refine wp_region_lit ?_
      refine sv p76.ok rfl (wn _ rfl) rfl (o_mv ((p76.old 6 rfl).trans e73)) (fun an89 n89 => ?_)
      refine sv n89.ok rfl (wn _ rfl) rfl (o_add (r := ((c + 1 : Nat) : Int)) n89.at_ ev_const (by omega) (by omega)) (fun an90 n90 => ?_)
      refine sv n90.ok rfl (wn _ rfl) rfl (o_as n90.at_) (fun an91 n91 => ?_)
      refine wpList_nil ?_
      have e92 := n91.ne rfl (n90.ne rfl (n89.ne rfl ((p76.old 1 rfl).trans (n68.ne rfl (n67.ne rfl (n66.ne rfl s1I54))))))
      have e93 := n91.ne rfl (n90.ne rfl (n89.ne rfl ((p76.old 2 rfl).trans (n68.ne rfl (n67.ne rfl (n66.ne rfl s2I54))))))
      have e94 := n91.ne rfl (n90.ne rfl (n89.ne rfl ((p76.old 3 rfl).trans e74)))
      have e95 := n91.ne rfl (n90.ne rfl (n89.ne rfl ((p76.old 4 rfl).trans e72)))
      have e96 := n91.ne rfl (n90.ne rfl (n89.ne rfl ((p76.old 5 rfl).trans (n68.ne rfl (n67.ne rfl (n66.ne rfl s5I54))))))
      have e97 := n91.ne rfl (n90.ne rfl (n89.ne rfl ((p76.old 10 rfl).trans (n68.ne rfl (n67.ne rfl (n66.ne rfl s10I54))))))
      have e98 := n91.ne rfl (n90.ne rfl (n89.ne rfl ((p76.old 11 rfl).trans (n68.ne rfl (n67.ne rfl (n66.ne rfl s11I54))))))
      have e99 := n91.ne rfl (n90.ne rfl (n89.ne rfl ((p76.old 12 rfl).trans (n68.ne rfl (n67.ne rfl (n66.ne rfl s12I54))))))
      exact th_n (hKI54 _ _ _ (by omega) ⟨c + 1, withX X i c, rfl, n91.ok, G85, e92, e93, e94, e95, e96, n91.at_, e97, e98, e99, B86, B87, (by rw [← withX_off X i c]; exact B88), by omega, hXI54.with i c, all_step (by omega) (by omega) hDI54⟩)
    · refine wp_cond_false ((n68.at_).trans (congrArg Value.bool (decide_eq_false c69))) ?_
      refine wp_exit ?_
      refine th_x ?_
      refine th_x ?_
      refine ib_x ?_
      refine ib_n ?_
      refine th_n (hK44 _ _ ?_)
      refine wp_region_lit ?_
      have e100 := n68.ne rfl (n67.ne rfl (n66.ne rfl s12I54))
      refine sv n68.ok rfl (wn _ rfl) rfl (o_add (r := ((i + 1 : Nat) : Int)) e100 ev_const (by omega) (by omega)) (fun an101 n101 => ?_)
      refine sv n101.ok rfl (wn _ rfl) rfl (o_mv n101.at_) (fun an102 n102 => ?_)
      refine wpList_nil ?_
      have e103 := n102.ne rfl (n101.ne rfl (n68.ne rfl (n67.ne rfl (n66.ne rfl s1I54))))
      have e104 := n102.ne rfl (n101.ne rfl (n68.ne rfl (n67.ne rfl (n66.ne rfl s2I54))))
      have e105 := n102.ne rfl (n101.ne rfl (n68.ne rfl (n67.ne rfl (n66.ne rfl s3I54))))
      have e106 := n102.ne rfl (n101.ne rfl (n68.ne rfl (n67.ne rfl (n66.ne rfl s10I54))))
      have e107 := n102.ne rfl (n101.ne rfl (n68.ne rfl (n67.ne rfl (n66.ne rfl s11I54))))
      exact th_n (hKI33 _ _ _ (by omega) ⟨i + 1, X, rfl, n102.ok, GI54, e103, e104, e105, e106, e107, n102.at_, kb3I54, kb9I54, kb18I54, by omega, hXI54, all_next hcv (by omega) hDI54⟩)
  · refine wp_cond_false ((n41.at_).trans (congrArg Value.bool (decide_eq_false c43))) ?_
    refine wp_exit ?_
    refine th_x ?_
    refine th_x ?_
    refine ib_x ?_
    refine th_n (hK27 _ _ ?_)
    refine wp_seq_k (fun K108 hK108 => ?_)
    refine wp_seq_k (fun K109 hK109 => ?_)
    refine wp_region_lit ?_
    refine sv n41.ok rfl (wn _ rfl) rfl (o_fa (z := 1) (n41.ne rfl s1I33) Try.underlying35 rfl (by kernel_rfl) rfl rfl) (fun an110 n110 => ?_)
    refine sv n110.ok rfl (wn _ rfl) rfl (o_ld n110.at_ (Try.isAgg33 _) (kb3I33.cell _ rfl)) (fun an111 n111 => ?_)
    refine sv n111.ok rfl (wn _ rfl) rfl (o_len n111.at_ Try.underlying33) (fun an112 n112 => ?_)
    refine sv n112.ok rfl (wn _ rfl) rfl (o_mv ev_const) (fun an113 n113 => ?_)
    refine wpList_nil ?_
    refine th_n (hK109 _ _ ?_)
    refine wp_block ?_
    have e115 := n113.ne rfl (n112.ne rfl (n111.ne rfl (n110.ne rfl (n41.ne rfl s2I33))))
    have e116 := n113.ne rfl (n112.ne rfl (n111.ne rfl (n110.ne rfl (n41.ne rfl s3I33))))
    refine lp (fun (nL : Nat) (aL : Act) (wL : World) => ∃ k : Nat, ∃ X : Nat → Nat, nL = m.length - k ∧ Ok 47 aL ∧ Gr w wL ∧ (aL.eval (.tmp 2) = .pointer (some ⟨b9, 0, none⟩)) ∧ (aL.eval (.tmp 3) = .pointer (some ⟨b18, 0, none⟩)) ∧ (aL.eval (.tmp 36) = .slice ma m.length mc) ∧ (aL.eval (.tmp 37) = .int .i64 ((m.length : Nat) : Int)) ∧ (aL.eval (.tmp 38) = .int .i64 (k : Int)) ∧ (Bk wL b9 (wArr (fun _ => 0)) 66) ∧ (Bk wL b18 (wArr X) 66) ∧ (k ≤ m.length) ∧ (OkX X) ∧ (∀ s q, s < 5 → q < 1024 → dsX X s q = memB v (m.take k) s q)) _ ⟨0, X, rfl, n113.ok, GI33, e115, e116, (n113.ne rfl (n112.ne rfl n111.at_)), (n113.ne rfl n112.at_), n113.at_, kb9I33, kb18I33, by omega, hXI33, all_mid (by omega) hDI33 m⟩ ?_
    rintro m117 aI114 w119 ⟨k, X, hmI114, okI114, GI114, s2I114, s3I114, s36I114, s37I114, s38I114, kb9I114, kb18I114, hkI114, hXI114, hDI114⟩ KI114 hKI114
    refine wp_seq_k (fun K120 hK120 => ?_)
    refine wp_region_lit ?_
    refine sv okI114 rfl (wn _ rfl) rfl (o_ltI s38I114 s37I114) (fun an121 n121 => ?_)
    refine wpList_nil ?_
    refine th_n (hK120 _ _ ?_)
    refine wp_seq_k (fun K122 hK122 => ?_)
    by_cases c123 : (k : Int) < ((m.length : Nat) : Int)
    · refine wp_cond_true ((n121.at_).trans (congrArg Value.bool (decide_eq_true c123))) ?_
      refine wp_skip ?_
      refine th_n (hK122 _ _ ?_)
      refine wp_seq_k (fun K124 hK124 => ?_)
      refine wp_block ?_
      refine wp_seq_k (fun K125 hK125 => ?_)
      refine wp_region_lit ?_
      have h126l : k < List.length m := by omega
      obtain ⟨bh126, fh126, h126a, h126b, h126c⟩ := hm (ne_nil_of_lt h126l)
      obtain ⟨⟨xh126, yh126⟩, h126x⟩ : ∃ x, m[k]? = some x := ⟨_, List.getElem?_eq_getElem h126l⟩
      have hdh126 := ok.dots _ (List.mem_of_getElem? h126x)
      simp only at hdh126
      refine sv n121.ok rfl (wn _ rfl) rfl (o_iaV (i := k) (s := 2) h126a (n121.ne rfl s36I114) (n121.ne rfl s38I114) Try.underlying33 (by kernel_rfl) h126l) (fun an127 n127 => ?_)
      refine sv n127.ok rfl (wn _ rfl) rfl (o_ldA (k := fh126 + k * 2) n127.at_ (cells_to (fun j => Below.cell GI114 h126b) (two_cells (h126c _ _ h126x).1 (h126c _ _ h126x).2)) Try.underlying26 rfl (by kernel_rfl)) (fun an128 n128 => ?_)
      refine sal (cs := #[.int .i64 0, .int .i64 0]) n128.ok rfl (wn _ rfl) rfl (o_al (z := .agg #[.int .i64 0, .int .i64 0]) (by kernel_rfl)) (fun an129 w131 b130 W132 n129 => ?_)
      have l133 : b9 < b130 := by rw [W132.eq]; exact kb9I114.lt
      have l134 : b18 < b130 := by rw [W132.eq]; exact kb18I114.lt
      have l135 : w.heap.size ≤ b130 := by rw [W132.eq]; exact GI114.size
      have G136 := GI114.trans W132.gr
      have B137 := kb9I114.gr W132.gr
      have B138 := kb18I114.gr W132.gr
      refine ssR rfl (wn _ rfl) (o_stR n129.at_ (n129.ne rfl n128.at_) W132.bk (by kernel_rfl) rfl (by simp [Value.oneCell'])) W132.bk (fun w139 u140 u140b => ?_)
      have G141 : Gr w w139 := Below.upd G136 l135 u140
      have B142 := B137.upd u140 (Nat.ne_of_lt l133)
      have B143 := B138.upd u140 (Nat.ne_of_lt l134)
      refine wpList_nil ?_
      refine th_n (hK125 _ _ ?_)
      refine wp_region_lit ?_
      have e144 := n129.ne rfl (n128.ne rfl (n127.ne rfl (n121.ne rfl s3I114)))
      refine sv n129.ok rfl (wn _ rfl) rfl (o_ldR e144 B143 Try.underlying66 rfl (dots_sz X)) (fun an145 n145 => ?_)
      refine sv n145.ok rfl (wn _ rfl) rfl (o_ldR (n145.ne rfl n129.at_) u140b Try.underlying26 rfl (by kernel_rfl)) (fun an146 n146 => ?_)
      refine sc n146.ok rfl (wn _ rfl) rfl (o_f2 Try.func52 rfl rfl rfl (n146.ne rfl n145.at_) n146.at_) (rwith_any X xh126 yh126 w139 hXI114 (by omega) (by omega)) ?_
      rintro _ w148 ⟨rfl, g149⟩
      refine ⟨_, rfl, fun an147 n147 => ?_⟩
      have G150 := G141.trans g149
      have B151 := B142.gr g149
      have B152 := B143.gr g149
      have B153 := u140b.gr g149
      have e154 := n147.ne rfl (n146.ne rfl (n145.ne rfl e144))
      refine ssR rfl (wn _ rfl) (o_stR e154 n147.at_ B152 (dots_sz (withX X xh126 yh126)) (by rw [wArr_size, wArr_size]) (wArr_one (withX X xh126 yh126))) B152 (fun w155 u156 u156b => ?_)
      have G157 : Gr w w155 := Below.upd G150 l23 u156
      have B158 := B151.upd u156 (Nat.ne_of_lt l22)
      have B159 := B153.upd u156 (Nat.ne_of_gt l134)
      refine wpList_nil ?_
      refine ib_n ?_
      refine th_n (hK124 _ _ ?_)
      refine wp_region_lit ?_
      have e160 := n147.ne rfl (n146.ne rfl (n145.ne rfl (n129.ne rfl (n128.ne rfl (n127.ne rfl (n121.ne rfl s38I114))))))
      refine sv n147.ok rfl (wn _ rfl) rfl (o_add (r := ((k + 1 : Nat) : Int)) e160 ev_const (by omega) (by omega)) (fun an161 n161 => ?_)
      refine sv n161.ok rfl (wn _ rfl) rfl (o_mv n161.at_) (fun an162 n162 => ?_)
      refine wpList_nil ?_
      have e163 := n162.ne rfl (n161.ne rfl (n147.ne rfl (n146.ne rfl (n145.ne rfl (n129.ne rfl (n128.ne rfl (n127.ne rfl (n121.ne rfl s2I114))))))))
      have e164 := n162.ne rfl (n161.ne rfl (n147.ne rfl (n146.ne rfl (n145.ne rfl (n129.ne rfl (n128.ne rfl (n127.ne rfl (n121.ne rfl s36I114))))))))
      have e165 := n162.ne rfl (n161.ne rfl (n147.ne rfl (n146.ne rfl (n145.ne rfl (n129.ne rfl (n128.ne rfl (n127.ne rfl (n121.ne rfl s37I114))))))))
      exact th_n (hKI114 _ _ _ (by omega) ⟨k + 1, withX X xh126 yh126, rfl, n162.ok, G157, e163, (n162.ne rfl (n161.ne rfl e154)), e164, e165, n162.at_, B158, u156b, by omega, hXI114.with _ _, all_more h126x (by omega) hDI114⟩)
    · refine wp_cond_false ((n121.at_).trans (congrArg Value.bool (decide_eq_false c123))) ?_
      refine wp_exit ?_
      refine th_x ?_
      refine th_x ?_
      refine ib_x ?_
      refine th_n (hK108 _ _ ?_)
      refine wp_seq_k (fun K166 hK166 => ?_)
      refine wp_region_lit ?_
      refine sv n121.ok rfl (wn _ rfl) rfl (o_ldR (n121.ne rfl s3I114) kb18I114 Try.underlying66 rfl (dots_sz X)) (fun an167 n167 => ?_)
      refine ssR rfl (wn _ rfl) (o_stR (n167.ne rfl (n121.ne rfl s2I114)) n167.at_ kb9I114 (dots_sz X) (by rw [wArr_size, wArr_size]) (wArr_one X)) kb9I114 (fun w168 u169 u169b => ?_)
      have G170 : Gr w w168 := Below.upd GI114 l13 u169
      have B171 := kb18I114.upd u169 (Nat.ne_of_gt l22)
      refine wpList_nil ?_
      refine th_n (hK166 _ _ ?_)
      refine wp_ret ?_
      exact ret1 n167.ok rfl (⟨_, _, (n167.ne rfl (n121.ne rfl s2I114)), ld_row u169b Try.underlying66 rfl (dots_sz X)⟩) ⟨X, rfl, hXI114, fun s q h1 h2 => by rw [hDI114 s q h1 h2, List.take_of_length_le (by omega)], G170⟩
theorem rall_any (k : Value) (v : List Nat) (m : List (Nat × Nat)) (w : World) (hk : KnR w k (ints v) (pairs m)) (ok : OkV v m) (hl : m.length ≤ 60) :
    Calls Try.prog 32 #[k] w fun e w' => ∃ X, e = .returned (.agg (wArr X)) ∧ OkX X ∧ (∀ s q, s < 5 → q < 1024 → dsX X s q = memB v m s q) ∧ Gr w w' := by
  obtain ⟨va, vc, ma, mc, rfl, hv, hm⟩ := knr_form hk
  rw [ints_len, pairs_len]
  exact rall_k va ma vc mc v m ok hl w hv.nat hm.nat
end Go.Proofs.Ythcehgmpajejeaa

/- slices.IndexFunc, ContainsFunc, DeleteFunc at parts. -/
set_option linter.unusedVariables false
set_option linter.unusedSimpArgs false
namespace Go.Proofs.Ythcehgmpajejeaa
open Go.RowKit Rm Gx
set_option maxHeartbeats 8000000 in
set_option maxRecDepth 100000 in
theorem indexP (K : List PtX) (va : Option Addr) (vc : Nat) (f : FuncId) (caps : List Value) (p : PtX → Bool) (hf : FnOk Try.prog f) (hl : K.length ≤ 100000) (w : World) (hv : RdA encP 3 w va K) (hc : ∀ x ∈ K, ∀ w1, Gr w w1 → Calls Try.prog f (.agg #[.slice x.fa x.fn x.fc, .slice x.va x.vn x.vc, .slice x.ma x.mn x.mc] :: caps).toArray w1 fun e w2 => e = .returned (.bool (p x)) ∧ Gr w1 w2) :
    Calls Try.prog 35 #[.slice va K.length vc, .func (.func f) #[] caps.toArray] w fun e w' => e = .returned (.int .i64 (ixF p K 0)) ∧ Gr w w' := by
  refine enter (N := 19) Try.func35 rfl rfl rfl (fun a0 ok0 h0 => ?_)
  have e0_0 : a0.eval (.tmp 0) = .slice va K.length vc := h0 0 _ rfl
  have e0_1 : a0.eval (.tmp 1) = .func (.func f) #[] caps.toArray := h0 1 _ rfl
  clear h0
  have G0 := Gr.refl w
  refine wp_seq_k (fun K1 hK1 => ?_)
  refine wp_region_lit ?_
  refine sv ok0 rfl (wn _ rfl) rfl (o_as ev_const) (fun an2 n2 => ?_)
  refine wpList_nil ?_
  refine th_n (hK1 _ _ ?_)
  refine wp_seq_k (fun K3 hK3 => ?_)
  refine wp_seq_k (fun K4 hK4 => ?_)
  refine wp_region_lit ?_
  refine sv n2.ok rfl (wn _ rfl) rfl (o_mv (n2.ne rfl e0_0)) (fun an5 n5 => ?_)
  refine sv n5.ok rfl (wn _ rfl) rfl (o_len n5.at_ Try.underlying22) (fun an6 n6 => ?_)
  refine sv n6.ok rfl (wn _ rfl) rfl (o_mv ev_const) (fun an7 n7 => ?_)
  refine wpList_nil ?_
  refine th_n (hK4 _ _ ?_)
  refine wp_block ?_
  have e9 := n7.ne rfl (n6.ne rfl (n5.ne rfl (n2.ne rfl e0_0)))
  have e10 := n7.ne rfl (n6.ne rfl (n5.ne rfl (n2.ne rfl e0_1)))
  have e11 := n7.ne rfl (n6.ne rfl (n5.ne rfl n2.at_))
  refine lp (fun (nL : Nat) (aL : Act) (wL : World) => ∃ i : Nat, nL = K.length - i ∧ Ok 19 aL ∧ Gr w wL ∧ (aL.eval (.tmp 0) = .slice va K.length vc) ∧ (aL.eval (.tmp 1) = .func (.func f) #[] caps.toArray) ∧ (aL.eval (.tmp 4) = .int .i64 0) ∧ (aL.eval (.tmp 7) = .int .i64 ((K.length : Nat) : Int)) ∧ (aL.eval (.tmp 8) = .int .i64 (i : Int)) ∧ (i ≤ K.length) ∧ (∀ k y, k < i → K[k]? = some y → p y = false)) _ ⟨0, rfl, n7.ok, G0, e9, e10, e11, (n7.ne rfl n6.at_), n7.at_, by omega, fun k y hk => by omega⟩ ?_
  rintro m12 aI8 w14 ⟨i, hmI8, okI8, GI8, s0I8, s1I8, s4I8, s7I8, s8I8, hiI8, hbI8⟩ KI8 hKI8
  refine wp_seq_k (fun K15 hK15 => ?_)
  refine wp_region_lit ?_
  refine sv okI8 rfl (wn _ rfl) rfl (o_ltI s8I8 s7I8) (fun an16 n16 => ?_)
  refine wpList_nil ?_
  refine th_n (hK15 _ _ ?_)
  refine wp_seq_k (fun K17 hK17 => ?_)
  by_cases c18 : (i : Int) < ((K.length : Nat) : Int)
  · refine wp_cond_true ((n16.at_).trans (congrArg Value.bool (decide_eq_true c18))) ?_
    refine wp_skip ?_
    refine th_n (hK17 _ _ ?_)
    refine wp_seq_k (fun K19 hK19 => ?_)
    refine wp_block ?_
    refine wp_seq_k (fun K20 hK20 => ?_)
    refine wp_region_lit ?_
    refine sv n16.ok rfl (wn _ rfl) rfl (o_mv (n16.ne rfl s8I8)) (fun an21 n21 => ?_)
    refine sv n21.ok rfl (wn _ rfl) rfl (o_as n21.at_) (fun an22 n22 => ?_)
    refine wpList_nil ?_
    refine th_n (hK20 _ _ ?_)
    refine wp_seq_k (fun K23 hK23 => ?_)
    refine wp_region_lit ?_
    have e24 := n22.ne rfl (n21.ne rfl (n16.ne rfl s1I8))
    refine sv n22.ok rfl (wn _ rfl) rfl (o_mv e24) (fun an25 n25 => ?_)
    have e26 := n25.ne rfl (n22.ne rfl (n21.ne rfl (n16.ne rfl s0I8)))
    refine sv n25.ok rfl (wn _ rfl) rfl (o_mv e26) (fun an27 n27 => ?_)
    refine sv n27.ok rfl (wn _ rfl) rfl (o_mv (n27.ne rfl (n25.ne rfl n22.at_))) (fun an28 n28 => ?_)
    have h29l : i < List.length K := by omega
    obtain ⟨bh29, fh29, h29a, h29b, h29c⟩ := hv (ne_nil_of_lt h29l)
    obtain ⟨xh29, h29x⟩ : ∃ x, (K)[i]? = some x := ⟨_, List.getElem?_eq_getElem h29l⟩
    refine sv n28.ok rfl (wn _ rfl) rfl (o_iaV (i := i) (s := 3) h29a (n28.ne rfl n27.at_) n28.at_ Try.underlying22 (by kernel_rfl) h29l) (fun an30 n30 => ?_)
    refine sv n30.ok rfl (wn _ rfl) rfl (o_ldA (k := fh29 + i * 3) n30.at_ (cs := [.slice xh29.fa xh29.fn xh29.fc, .slice xh29.va xh29.vn xh29.vc, .slice xh29.ma xh29.mn xh29.mc]) (fun j v hv => (Below.cell GI8 h29b).trans (h29c _ _ h29x j v hv)) Try.underlying38 rfl (by kernel_rfl)) (fun an31 n31 => ?_)
    have e32 := n31.ne rfl (n30.ne rfl (n28.ne rfl (n27.ne rfl n25.at_)))
    refine sc n31.ok rfl (wn _ rfl) rfl (o_fv1 (caps := caps) hf e32 n31.at_) (hc _ (List.mem_of_getElem? h29x) w14 GI8) ?_
    rintro _ w34 ⟨rfl, g35⟩
    refine ⟨_, rfl, fun an33 n33 => ?_⟩
    have G36 := GI8.trans g35
    refine wpList_nil ?_
    refine th_n (hK23 _ _ ?_)
    cases c37 : (p xh29)
    · refine wp_cond_false ((n33.at_).trans (congrArg Value.bool (c37))) ?_
      refine wp_skip ?_
      refine ib_n ?_
      refine th_n (hK19 _ _ ?_)
      refine wp_region_lit ?_
      have e38 := n33.ne rfl (n31.ne rfl (n30.ne rfl (n28.ne rfl (n27.ne rfl (n25.ne rfl (n22.ne rfl (n21.ne rfl (n16.ne rfl s8I8))))))))
      refine sv n33.ok rfl (wn _ rfl) rfl (o_add (r := ((i + 1 : Nat) : Int)) e38 ev_const (by omega) (by omega)) (fun an39 n39 => ?_)
      refine sv n39.ok rfl (wn _ rfl) rfl (o_mv n39.at_) (fun an40 n40 => ?_)
      refine wpList_nil ?_
      have e41 := n40.ne rfl (n39.ne rfl (n33.ne rfl (n31.ne rfl (n30.ne rfl (n28.ne rfl (n27.ne rfl e26))))))
      have e42 := n40.ne rfl (n39.ne rfl (n33.ne rfl (n31.ne rfl (n30.ne rfl (n28.ne rfl (n27.ne rfl (n25.ne rfl e24)))))))
      have e43 := n40.ne rfl (n39.ne rfl (n33.ne rfl (n31.ne rfl (n30.ne rfl (n28.ne rfl (n27.ne rfl (n25.ne rfl (n22.ne rfl (n21.ne rfl (n16.ne rfl s4I8))))))))))
      have e44 := n40.ne rfl (n39.ne rfl (n33.ne rfl (n31.ne rfl (n30.ne rfl (n28.ne rfl (n27.ne rfl (n25.ne rfl (n22.ne rfl (n21.ne rfl (n16.ne rfl s7I8))))))))))
      exact th_n (hKI8 _ _ _ (by omega) ⟨i + 1, rfl, n40.ok, G36, e41, e42, e43, e44, n40.at_, by omega, fun k y hk hy => by
          rcases Nat.lt_or_ge k i with q | q
          · exact hbI8 k y q hy
          · obtain rfl : k = i := by omega
            rw [h29x] at hy
            cases hy
            exact c37⟩)
    · refine wp_cond_true ((n33.at_).trans (congrArg Value.bool (c37))) ?_
      refine wp_seq_k (fun K45 hK45 => ?_)
      refine wp_region_lit ?_
      have e46 := n33.ne rfl (n31.ne rfl (n30.ne rfl (n28.ne rfl (n27.ne rfl (n25.ne rfl n22.at_)))))
      refine sv n33.ok rfl (wn _ rfl) rfl (o_mv e46) (fun an47 n47 => ?_)
      refine sv n47.ok rfl (wn _ rfl) rfl (o_as n47.at_) (fun an48 n48 => ?_)
      refine wpList_nil ?_
      refine th_n (hK45 _ _ ?_)
      refine wp_ret ?_
      refine ib_r ?_
      refine th_r ?_
      refine th_r ?_
      refine ib_r ?_
      refine th_r ?_
      exact ret1 n48.ok rfl (n48.at_) ⟨congrArg (fun n => Ending.returned (Value.int .i64 n)) ((ixF_some K 0 i _ h29x c37 hbI8).trans (congrArg Int.ofNat (Nat.zero_add _))).symm, G36⟩
  · refine wp_cond_false ((n16.at_).trans (congrArg Value.bool (decide_eq_false c18))) ?_
    refine wp_exit ?_
    refine th_x ?_
    refine th_x ?_
    refine ib_x ?_
    refine th_n (hK3 _ _ ?_)
    refine wp_seq_k (fun K49 hK49 => ?_)
    refine wp_region_lit ?_
    refine sv n16.ok rfl (wn _ rfl) rfl (o_as ev_const) (fun an50 n50 => ?_)
    refine wpList_nil ?_
    refine th_n (hK49 _ _ ?_)
    refine wp_ret ?_
    exact ret1 n50.ok rfl (n50.at_) ⟨congrArg (fun n => Ending.returned (Value.int .i64 n)) (ixF_none K 0 (fun x hx => by
        obtain ⟨k, hk⟩ := List.getElem?_of_mem hx
        have hlt := (List.getElem?_eq_some_iff.1 hk).1
        exact hbI8 k x (by omega) hk)).symm, GI8⟩
set_option maxHeartbeats 8000000 in
set_option maxRecDepth 100000 in
theorem containsP (K : List PtX) (va : Option Addr) (vc : Nat) (f : FuncId) (caps : List Value) (p : PtX → Bool) (hf : FnOk Try.prog f) (hl : K.length ≤ 100000) (w : World) (hv : RdA encP 3 w va K) (hc : ∀ x ∈ K, ∀ w1, Gr w w1 → Calls Try.prog f (.agg #[.slice x.fa x.fn x.fc, .slice x.va x.vn x.vc, .slice x.ma x.mn x.mc] :: caps).toArray w1 fun e w2 => e = .returned (.bool (p x)) ∧ Gr w1 w2) :
    Calls Try.prog 15 #[.slice va K.length vc, .func (.func f) #[] caps.toArray] w fun e w' => e = .returned (.bool (K.any p)) ∧ Gr w w' := by
  refine enter (N := 9) Try.func15 rfl rfl rfl (fun a0 ok0 h0 => ?_)
  have e0_0 : a0.eval (.tmp 0) = .slice va K.length vc := h0 0 _ rfl
  have e0_1 : a0.eval (.tmp 1) = .func (.func f) #[] caps.toArray := h0 1 _ rfl
  clear h0
  have G0 := Gr.refl w
  refine wp_seq_k (fun K1 hK1 => ?_)
  refine wp_region_lit ?_
  refine sv ok0 rfl (wn _ rfl) rfl (o_as ev_const) (fun an2 n2 => ?_)
  refine wpList_nil ?_
  refine th_n (hK1 _ _ ?_)
  refine wp_seq_k (fun K3 hK3 => ?_)
  refine wp_region_lit ?_
  refine sv n2.ok rfl (wn _ rfl) rfl (o_mv (n2.ne rfl e0_0)) (fun an4 n4 => ?_)
  refine sv n4.ok rfl (wn _ rfl) rfl (o_mv (n4.ne rfl (n2.ne rfl e0_1))) (fun an5 n5 => ?_)
  refine sc n5.ok rfl (wn _ rfl) rfl (o_f2 Try.func35 rfl rfl rfl (n5.ne rfl n4.at_) n5.at_) (indexP K va vc f caps p hf hl w (hv.gr G0) (fun x hx w1 g1 => hc x hx w1 (G0.trans g1))) ?_
  rintro _ w7 ⟨rfl, g8⟩
  refine ⟨_, rfl, fun an6 n6 => ?_⟩
  have G9 := G0.trans g8
  refine sv n6.ok rfl (wn _ rfl) rfl (o_geI n6.at_ ev_const) (fun an10 n10 => ?_)
  refine sv n10.ok rfl (wn _ rfl) rfl (o_as n10.at_) (fun an11 n11 => ?_)
  refine wpList_nil ?_
  refine th_n (hK3 _ _ ?_)
  refine wp_ret ?_
  exact ret1 n11.ok rfl (n11.at_) ⟨congrArg (fun b => Ending.returned (Value.bool b)) (ixF_any p K 0), G9⟩
end Go.Proofs.Ythcehgmpajejeaa

/- The document's sets of dots: Size, Formed, Know. -/
set_option linter.unusedVariables false
set_option linter.unusedSimpArgs false
namespace Rm
open Go Go.RowKit Gx
/-- five integers -/
def a5 (f : Nat → Int) : Array Value := #[.int .i64 (f 0), .int .i64 (f 1), .int .i64 (f 2), .int .i64 (f 3), .int .i64 (f 4)]
def u5 (f : Nat → Int) (s : Nat) (z : Int) : Nat → Int := fun t => if t = s then z else f t
theorem a5_at (f : Nat → Int) (s : Nat) (h : s < 5) : (a5 f)[s]? = some (.int .i64 (f s)) := by
  match s, h with
  | 0, _ | 1, _ | 2, _ | 3, _ | 4, _ => rfl
theorem a5_set (f : Nat → Int) (s : Nat) (z : Int) (h : s < 5) : (a5 f).setIfInBounds s (.int .i64 z) = a5 (u5 f s z) := by
  match s, h with
  | 0, _ | 1, _ | 2, _ | 3, _ | 4, _ => rfl
theorem a5_one (f : Nat → Int) : (a5 f).all (·.oneCell') = true := by simp [a5, Value.oneCell']
/-- a vector's first integers -/
def gv (V : List Int) (i : Nat) : Nat → Int := fun s => if s < i then V.getD s 0 else 0
theorem gv_zero (V : List Int) : gv V 0 = fun _ => 0 := by funext s; simp [gv]
theorem gv_next {V : List Int} {i : Nat} {x : Int} (h : V[i]? = some x) : u5 (gv V i) i x = gv V (i + 1) := by
  funext s
  unfold u5 gv
  by_cases e : s = i
  · subst e; simp [List.getD, h]
  · rw [if_neg e]
    by_cases q : s < i
    · rw [if_pos q, if_pos (by omega)]
    · rw [if_neg q, if_neg (by omega)]
theorem badV_ok {V : List Int} {i : Nat} {x : Int} (h : V[i]? = some x) (k : 0 ≤ x ∧ x ≤ 1000) : badV V i = 0 := by
  unfold badV; rw [h]; simp only; rw [if_neg (by omega)]
theorem badV_bad {V : List Int} {i : Nat} {x : Int} (h : V[i]? = some x) (k : ¬ (0 ≤ x ∧ x ≤ 1000)) : badV V i = 1 := by
  unfold badV; rw [h]; simp only; rw [if_pos (by omega)]
theorem chk_vec {V : List Int} {M : List (Int × Int)} {i : Nat} (hl : ¬ (5 < V.length ∨ 60 < M.length)) (h : ∀ j, j < i → badV V j = 0) (hi : i < V.length) (hb : badV V i = 1) : chkK V M = 1 := by
  have h1 : first (badV V) V.length = 1 := (first_some h hi (by omega)).trans hb
  have h2 : chkV V = 1 := by unfold chkV; rw [if_pos (by omega), h1]
  rw [Go.Proofs.Ythcehgmpajejeaa.chkK_vec hl (by omega), h2]
theorem chk_last {V : List Int} {M : List (Int × Int)} (hl : ¬ (5 < V.length ∨ 60 < M.length)) (h : ∀ j, j < V.length → badV V j = 0) (h0 : 0 < V.length) (hz : V[V.length - 1]? = some 0) : chkK V M = 3 := by
  have h2 : chkV V = 3 := by
    unfold chkV
    rw [if_neg (by rw [first_none h]; simp), if_pos (by rw [List.getLast?_eq_getElem?]; exact hz)]
  rw [Go.Proofs.Ythcehgmpajejeaa.chkK_vec hl (by omega), h2]
theorem chkV_ok {V : List Int} (h : ∀ j, j < V.length → badV V j = 0) (hz : V.length = 0 ∨ ∃ x, V[V.length - 1]? = some x ∧ x ≠ 0) : chkV V = 0 := by
  unfold chkV
  rw [if_neg (by rw [first_none h]; simp), if_neg ?_]
  rw [List.getLast?_eq_getElem?]
  rcases hz with e | ⟨x, e, hx⟩
  · rw [List.eq_nil_of_length_eq_zero e]; simp
  · rw [e]; simpa using hx
theorem chk_dot {V : List Int} {M : List (Int × Int)} {k : Nat} {d : Int} (hl : ¬ (5 < V.length ∨ 60 < M.length)) (hv : chkV V = 0) (h : ∀ j, j < k → badM (natsI V) M j = 0) (hk : k < M.length) (hb : badM (natsI V) M k = d) (hd : d ≠ 0) : chkK V M = d := by
  rw [Go.Proofs.Ythcehgmpajejeaa.chkK_more hl hv]
  unfold chkM
  rw [first_some h hk (by omega), hb]
theorem chk_ok {V : List Int} {M : List (Int × Int)} (hl : ¬ (5 < V.length ∨ 60 < M.length)) (hv : chkV V = 0) (h : ∀ j, j < M.length → badM (natsI V) M j = 0) : chkK V M = 0 := by
  rw [Go.Proofs.Ythcehgmpajejeaa.chkK_more hl hv]
  exact first_none h
theorem gv_cv {V : List Int} (h : ∀ j, j < V.length → badV V j = 0) (s : Nat) {i : Nat} (hi : V.length ≤ i) : gv V i s = (cv (natsI V) s : Int) := by
  have hb := badV_zero h
  unfold gv cv natsI
  rw [List.getD_eq_getElem?_getD, List.getD_eq_getElem?_getD, List.getElem?_map]
  cases e : V[s]? with
  | none => simp
  | some x =>
    have := hb x (List.mem_of_getElem? e)
    have hs := (List.getElem?_eq_some_iff.1 e).1
    rw [if_pos (by omega)]
    simp; omega
theorem gv_le {V : List Int} (h : ∀ j, j < V.length → badV V j = 0) (i s : Nat) : 0 ≤ gv V i s ∧ gv V i s ≤ 1000 := by
  have hb := badV_zero h
  unfold gv
  split
  · rw [List.getD_eq_getElem?_getD]
    cases e : V[s]? with
    | none => simp
    | some x => exact hb x (List.mem_of_getElem? e)
  · omega
theorem badM_dot {v : List Nat} {M : List (Int × Int)} {k : Nat} {d : Int × Int} (h : M[k]? = some d) (hb : dotB d = false) : badM v M k = 1 := by
  unfold badM; rw [h]; simp only; rw [if_pos hb]
theorem badM_form {v : List Nat} {M : List (Int × Int)} {k : Nat} {d : Int × Int} (h : M[k]? = some d) (hb : dotB d = true) (hf : d.2 < (cv v d.1.toNat : Int) + 2 ∨ (0 < k ∧ ¬ ltI (M.getD (k - 1) (0, 0)) d)) : badM v M k = 3 := by
  unfold badM; rw [h]; simp only; rw [if_neg (by rw [hb]; simp), if_pos hf]
theorem badM_ok {v : List Nat} {M : List (Int × Int)} {k : Nat} {d : Int × Int} (h : M[k]? = some d) (hb : dotB d = true) (hf : ¬ (d.2 < (cv v d.1.toNat : Int) + 2 ∨ (0 < k ∧ ¬ ltI (M.getD (k - 1) (0, 0)) d))) : badM v M k = 0 := by
  unfold badM; rw [h]; simp only; rw [if_neg (by rw [hb]; simp), if_neg hf]
theorem all_up {f : Nat → Int} {k : Nat} (h : ∀ j, j < k → f j = 0) (hk : f k = 0) : ∀ j, j < k + 1 → f j = 0 := by
  intro j hj
  by_cases e : j = k
  · rw [e]; exact hk
  · exact h j (by omega)
/-- the dot of before -/
def lastD (M : List (Int × Int)) (k : Nat) (a b : Int) : Prop := (k = 0 ∧ a = -1 ∧ b = 0) ∨ (0 < k ∧ M[k - 1]? = some (a, b))
theorem lastD_lt {M : List (Int × Int)} {k : Nat} {a b x y : Int} (h : lastD M k a b) (hx : 0 ≤ x) (hc : x < a ∨ (x = a ∧ y ≤ b)) : 0 < k ∧ ¬ ltI (M.getD (k - 1) (0, 0)) (x, y) := by
  rcases h with ⟨h1, h2, h3⟩ | ⟨h1, h2⟩
  · omega
  · refine ⟨h1, ?_⟩
    rw [List.getD_eq_getElem?_getD, h2]
    unfold ltI
    simp only [Option.getD_some]
    omega
theorem lastD_ge {M : List (Int × Int)} {k : Nat} {a b x y : Int} (h : lastD M k a b) (hc : ¬ (x < a ∨ (x = a ∧ y ≤ b))) : ¬ (0 < k ∧ ¬ ltI (M.getD (k - 1) (0, 0)) (x, y)) := by
  rcases h with ⟨h1, h2, h3⟩ | ⟨h1, h2⟩
  · omega
  · rintro ⟨-, h3⟩
    apply h3
    rw [List.getD_eq_getElem?_getD, h2]
    unfold ltI
    simp only [Option.getD_some]
    omega
end Rm
namespace Gx
open Go Go.RowKit Rm
section
variable {P : Program} {ev : Operand → Value} {d : Option Tmp} {ty : TypeId} {p : String} {af : Array Edge} {g : Option (Nat × Bool)} {w : World}
theorem o_notD {t : TypeId} {x : Operand} {q : Prop} [Decidable q] (hx : ev x = .bool (decide q)) : (execOp ev (Oper.mk d (.unOp .not t x) ty p af g)).run P w = .ok (.value (.bool (decide (¬ q)))) w := o_not hx (by simp)
end
end Gx
namespace Go.Proofs.Ythcehgmpajejeaa
open Go.RowKit Rm Gx
theorem rwithin_p (x a b : Int) (w : World) : Calls Try.prog 28 #[.int .i64 x, .int .i64 a, .int .i64 b] w fun e w' => e = .returned (.bool (decide (a ≤ x ∧ x ≤ b))) ∧ Gr w w' :=
  (rwithin_any x a b w).mono fun e w' ⟨h, h'⟩ => ⟨by rw [h, Bool.decide_and], by rw [h']; exact Gr.refl _⟩
theorem rdot_p (x y : Int) (w : World) : Calls Try.prog 9 #[.agg #[.int .i64 x, .int .i64 y]] w fun e w' => e = .returned (.bool (decide (dotB (x, y) = true))) ∧ Gr w w' :=
  (rdot_any (x, y) w).mono fun e w' ⟨h, h'⟩ => ⟨by rw [h]; simp, h'⟩
theorem a5_zero : (Try.prog.info? 86).bind (·.zero) = some (.agg (a5 fun _ => 0)) := by kernel_rfl
theorem a5_size (f : Nat → Int) : (Try.prog.info? 86).map (·.size) = some (a5 f).size := by kernel_rfl
set_option maxHeartbeats 8000000 in
set_option maxRecDepth 100000 in
theorem rknow_k (va ma : Option Addr) (vc mc : Nat) (V : List Int) (M : List (Int × Int)) (w : World) (hv : RdI1 w va V) (hm : RdDI w ma M) :
    Calls Try.prog 25 #[.agg #[.slice va V.length vc, .slice ma M.length mc]] w fun e w' => e = .returned (.int .i64 (chkK V M)) ∧ Gr w w' := by
  refine enter (N := 92) Try.func25 rfl rfl rfl (fun a0 ok0 h0 => ?_)
  have e0_0 : a0.eval (.tmp 0) = .agg #[.slice va V.length vc, .slice ma M.length mc] := h0 0 _ rfl
  clear h0
  have G0 := Gr.refl w
  refine wp_seq_k (fun K1 hK1 => ?_)
  refine wp_region_lit ?_
  refine sal (cs := #[.slice va V.length vc, .slice ma M.length mc]) ok0 rfl (wn _ rfl) rfl (o_box e0_0) (fun an2 w4 b3 W5 n2 => ?_)
  have l6 : w.heap.size ≤ b3 := by rw [W5.eq]; exact G0.size
  have G7 := G0.trans W5.gr
  refine sv n2.ok rfl (wn _ rfl) rfl (o_as ev_const) (fun an8 n8 => ?_)
  refine wpList_nil ?_
  refine th_n (hK1 _ _ ?_)
  refine wp_seq_k (fun K9 hK9 => ?_)
  refine wp_seq_k (fun K10 hK10 => ?_)
  refine wp_region_lit ?_
  refine sv n8.ok rfl (wn _ rfl) rfl (o_fa (z := 1) (n8.ne rfl n2.at_) Try.underlying35 rfl (by kernel_rfl) rfl rfl) (fun an11 n11 => ?_)
  refine sv n11.ok rfl (wn _ rfl) rfl (o_ld n11.at_ (Try.isAgg32 _) (W5.bk.cell _ rfl)) (fun an12 n12 => ?_)
  refine sv n12.ok rfl (wn _ rfl) rfl (o_len n12.at_ Try.underlying32) (fun an13 n13 => ?_)
  refine sv n13.ok rfl (wn _ rfl) rfl (o_gtI n13.at_ ev_const) (fun an14 n14 => ?_)
  refine sv n14.ok rfl (wn _ rfl) rfl (o_mv n14.at_) (fun an15 n15 => ?_)
  by_cases c16 : (5 : Int) < ((V.length : Nat) : Int)
  · have e17 := (n15.at_).trans (congrArg Value.bool (decide_eq_true c16))
    have e18 := ((n15.ne rfl n14.at_)).trans (congrArg Value.bool (decide_eq_true c16))
    refine sn n15.ok rfl (wgF rfl (yl 4 true rfl e17) rfl) rfl (fun an19 n19 => ?_)
    refine sn n19.ok rfl (wgF rfl (yl 4 true rfl (n19.ne rfl e17)) rfl) rfl (fun an20 n20 => ?_)
    refine sn n20.ok rfl (wgF rfl (yl 4 true rfl (n20.ne rfl (n19.ne rfl e17))) rfl) rfl (fun an21 n21 => ?_)
    have e22 := n21.ne rfl (n20.ne rfl (n19.ne rfl e17))
    refine sn n21.ok rfl (wgF rfl (yl 4 true rfl e22) rfl) rfl (fun an23 n23 => ?_)
    refine sv n23.ok rfl (wn _ rfl) rfl (o_pkT (n23.ne rfl e22) ev_const) (fun an24 n24 => ?_)
    refine wpList_nil ?_
    refine th_n (hK10 _ _ ?_)
    refine wp_cond_true (n24.at_) ?_
    refine wp_seq_k (fun K25 hK25 => ?_)
    refine wp_region_lit ?_
    refine sv n24.ok rfl (wn _ rfl) rfl (o_as ev_const) (fun an26 n26 => ?_)
    refine wpList_nil ?_
    refine th_n (hK25 _ _ ?_)
    refine wp_ret ?_
    refine th_r ?_
    exact ret1 n26.ok rfl (n26.at_) ⟨by rw [Go.Proofs.Ythcehgmpajejeaa.chkK_large (by omega)], G7⟩
  · have e27 := (n15.at_).trans (congrArg Value.bool (decide_eq_false c16))
    have e28 := ((n15.ne rfl n14.at_)).trans (congrArg Value.bool (decide_eq_false c16))
    have e29 := n15.ne rfl (n14.ne rfl (n13.ne rfl (n12.ne rfl (n11.ne rfl (n8.ne rfl n2.at_)))))
    refine sv n15.ok rfl (wgT rfl (yl 4 false rfl e27) rfl) rfl (o_fa (z := 1) e29 Try.underlying35 rfl (by kernel_rfl) rfl rfl) (fun an30 n30 => ?_)
    refine sv n30.ok rfl (wgT rfl (yl 4 false rfl (n30.ne rfl e27)) rfl) rfl (o_ld n30.at_ (Try.isAgg33 _) (W5.bk.cell _ rfl)) (fun an31 n31 => ?_)
    refine sv n31.ok rfl (wgT rfl (yl 4 false rfl (n31.ne rfl (n30.ne rfl e27))) rfl) rfl (o_len n31.at_ Try.underlying33) (fun an32 n32 => ?_)
    have e33 := n32.ne rfl (n31.ne rfl (n30.ne rfl e27))
    refine sv n32.ok rfl (wgT rfl (yl 4 false rfl e33) rfl) rfl (o_gtI n32.at_ ev_const) (fun an34 n34 => ?_)
    refine sv n34.ok rfl (wn _ rfl) rfl (o_pkF (n34.ne rfl e33) n34.at_) (fun an35 n35 => ?_)
    refine wpList_nil ?_
    refine th_n (hK10 _ _ ?_)
    by_cases c36 : (60 : Int) < ((M.length : Nat) : Int)
    · refine wp_cond_true ((n35.at_).trans (congrArg Value.bool (decide_eq_true c36))) ?_
      refine wp_seq_k (fun K37 hK37 => ?_)
      refine wp_region_lit ?_
      refine sv n35.ok rfl (wn _ rfl) rfl (o_as ev_const) (fun an38 n38 => ?_)
      refine wpList_nil ?_
      refine th_n (hK37 _ _ ?_)
      refine wp_ret ?_
      refine th_r ?_
      exact ret1 n38.ok rfl (n38.at_) ⟨by rw [Go.Proofs.Ythcehgmpajejeaa.chkK_large (by omega)], G7⟩
    · refine wp_cond_false ((n35.at_).trans (congrArg Value.bool (decide_eq_false c36))) ?_
      refine wp_skip ?_
      refine th_n (hK9 _ _ ?_)
      refine wp_seq_k (fun K39 hK39 => ?_)
      refine wp_region_lit ?_
      refine sv n35.ok rfl (wn _ rfl) rfl (o_b0A Try.underlying86 a5_zero (by kernel_rfl)) (fun an40 n40 => ?_)
      refine sal (cs := a5 (fun _ => 0)) n40.ok rfl (wn _ rfl) rfl (o_al (z := .agg (a5 (fun _ => 0))) a5_zero) (fun an41 w43 b42 W44 n41 => ?_)
      have l45 : b3 < b42 := by rw [W44.eq]; exact W5.bk.lt
      have l46 : w.heap.size ≤ b42 := by rw [W44.eq]; exact G7.size
      have G47 := G7.trans W44.gr
      have B48 := W5.bk.gr W44.gr
      refine ssR rfl (wn _ rfl) (o_stR n41.at_ (n41.ne rfl n40.at_) W44.bk (a5_size _) rfl (a5_one _)) W44.bk (fun w49 u50 u50b => ?_)
      have G51 : Gr w w49 := Below.upd G47 l46 u50
      have B52 := B48.upd u50 (Nat.ne_of_lt l45)
      refine wpList_nil ?_
      refine th_n (hK39 _ _ ?_)
      refine wp_seq_k (fun K53 hK53 => ?_)
      refine wp_seq_k (fun K54 hK54 => ?_)
      refine wp_region_lit ?_
      have e55 := n41.ne rfl (n40.ne rfl (n35.ne rfl (n34.ne rfl (n32.ne rfl (n31.ne rfl (n30.ne rfl e29))))))
      refine sv n41.ok rfl (wn _ rfl) rfl (o_fa (z := 1) e55 Try.underlying35 rfl (by kernel_rfl) rfl rfl) (fun an56 n56 => ?_)
      refine sv n56.ok rfl (wn _ rfl) rfl (o_ld n56.at_ (Try.isAgg32 _) (B52.cell _ rfl)) (fun an57 n57 => ?_)
      refine sv n57.ok rfl (wn _ rfl) rfl (o_len n57.at_ Try.underlying32) (fun an58 n58 => ?_)
      refine sv n58.ok rfl (wn _ rfl) rfl (o_mv ev_const) (fun an59 n59 => ?_)
      refine wpList_nil ?_
      refine th_n (hK54 _ _ ?_)
      refine wp_block ?_
      have hl : ¬ (5 < V.length ∨ 60 < M.length) := by omega
      have e61 := n59.ne rfl (n58.ne rfl (n57.ne rfl (n56.ne rfl e55)))
      have e62 := n59.ne rfl (n58.ne rfl (n57.ne rfl (n56.ne rfl (n41.ne rfl (n40.ne rfl (n35.ne rfl (n34.ne rfl (n32.ne rfl (n31.ne rfl (n30.ne rfl (n15.ne rfl (n14.ne rfl (n13.ne rfl (n12.ne rfl (n11.ne rfl n8.at_)))))))))))))))
      have e63 := n59.ne rfl (n58.ne rfl (n57.ne rfl (n56.ne rfl n41.at_)))
      refine lp (fun (nL : Nat) (aL : Act) (wL : World) => ∃ i : Nat, nL = V.length - i ∧ Ok 92 aL ∧ Gr w wL ∧ (aL.eval (.tmp 1) = .pointer (some ⟨b3, 0, none⟩)) ∧ (aL.eval (.tmp 2) = .int .i64 0) ∧ (aL.eval (.tmp 3) = .pointer (some ⟨b42, 0, none⟩)) ∧ (aL.eval (.tmp 22) = .slice va V.length vc) ∧ (aL.eval (.tmp 23) = .int .i64 ((V.length : Nat) : Int)) ∧ (aL.eval (.tmp 24) = .int .i64 (i : Int)) ∧ (Bk wL b3 #[.slice va V.length vc, .slice ma M.length mc] 35) ∧ (Bk wL b42 (a5 (gv V i)) 86) ∧ (i ≤ V.length) ∧ (∀ j, j < i → badV V j = 0)) _ ⟨0, rfl, n59.ok, G51, e61, e62, e63, (n59.ne rfl (n58.ne rfl n57.at_)), (n59.ne rfl n58.at_), n59.at_, B52, (by rw [gv_zero]; exact u50b), by omega, fun j h => by omega⟩ ?_
      rintro m64 aI60 w66 ⟨i, hmI60, okI60, GI60, s1I60, s2I60, s3I60, s22I60, s23I60, s24I60, kb3I60, kb42I60, hiI60, hbI60⟩ KI60 hKI60
      refine wp_seq_k (fun K67 hK67 => ?_)
      refine wp_region_lit ?_
      refine sv okI60 rfl (wn _ rfl) rfl (o_ltI s24I60 s23I60) (fun an68 n68 => ?_)
      refine wpList_nil ?_
      refine th_n (hK67 _ _ ?_)
      refine wp_seq_k (fun K69 hK69 => ?_)
      by_cases c70 : (i : Int) < ((V.length : Nat) : Int)
      · refine wp_cond_true ((n68.at_).trans (congrArg Value.bool (decide_eq_true c70))) ?_
        refine wp_skip ?_
        refine th_n (hK69 _ _ ?_)
        refine wp_seq_k (fun K71 hK71 => ?_)
        refine wp_block ?_
        refine wp_seq_k (fun K72 hK72 => ?_)
        refine wp_region_lit ?_
        refine sv n68.ok rfl (wn _ rfl) rfl (o_mv (n68.ne rfl s24I60)) (fun an73 n73 => ?_)
        have h74l : i < List.length V := by omega
        obtain ⟨bh74, fh74, h74a, h74b, h74c⟩ := hv (ne_nil_of_lt h74l)
        obtain ⟨xh74, h74x⟩ : ∃ x, V[i]? = some x := ⟨_, List.getElem?_eq_getElem h74l⟩
        refine sv n73.ok rfl (wn _ rfl) rfl (o_iaV (i := i) (s := 1) h74a (n73.ne rfl (n68.ne rfl s22I60)) (n73.ne rfl (n68.ne rfl s24I60)) Try.underlying32 (by kernel_rfl) h74l) (fun an75 n75 => ?_)
        refine sv n75.ok rfl (wn _ rfl) rfl (o_ld n75.at_ (Try.isAgg3 _) ((Below.cell GI60 h74b).trans (h74c _ _ h74x))) (fun an76 n76 => ?_)
        refine sv n76.ok rfl (wn _ rfl) rfl (o_as (n76.ne rfl (n75.ne rfl n73.at_))) (fun an77 n77 => ?_)
        refine sv n77.ok rfl (wn _ rfl) rfl (o_as (n77.ne rfl n76.at_)) (fun an78 n78 => ?_)
        refine wpList_nil ?_
        refine th_n (hK72 _ _ ?_)
        refine wp_seq_k (fun K79 hK79 => ?_)
        refine wp_seq_k (fun K80 hK80 => ?_)
        refine wp_region_lit ?_
        refine sv n78.ok rfl (wn _ rfl) rfl (o_mv n78.at_) (fun an81 n81 => ?_)
        refine sc n81.ok rfl (wn _ rfl) rfl (o_f3 Try.func28 rfl rfl rfl n81.at_ ev_const ev_const) (rwithin_p _ _ _ w66) ?_
        rintro _ w83 ⟨rfl, g84⟩
        refine ⟨_, rfl, fun an82 n82 => ?_⟩
        have G85 := GI60.trans g84
        have B86 := kb3I60.gr g84
        have B87 := kb42I60.gr g84
        refine sv n82.ok rfl (wn _ rfl) rfl (o_notD n82.at_) (fun an88 n88 => ?_)
        refine wpList_nil ?_
        refine th_n (hK80 _ _ ?_)
        by_cases c89 : ¬ ((0 : Int) ≤ xh74 ∧ xh74 ≤ 1000)
        · refine wp_cond_true ((n88.at_).trans (congrArg Value.bool (decide_eq_true c89))) ?_
          refine wp_seq_k (fun K90 hK90 => ?_)
          refine wp_region_lit ?_
          refine sv n88.ok rfl (wn _ rfl) rfl (o_as ev_const) (fun an91 n91 => ?_)
          refine wpList_nil ?_
          refine th_n (hK90 _ _ ?_)
          refine wp_ret ?_
          refine th_r ?_
          refine ib_r ?_
          refine th_r ?_
          refine th_r ?_
          refine ib_r ?_
          refine th_r ?_
          have hbad := c89
          exact ret1 n91.ok rfl (n91.at_) ⟨by rw [chk_vec hl hbI60 (by omega) (badV_bad h74x hbad)], G85⟩
        · refine wp_cond_false ((n88.at_).trans (congrArg Value.bool (decide_eq_false c89))) ?_
          refine wp_skip ?_
          refine th_n (hK79 _ _ ?_)
          refine wp_region_lit ?_
          have e92 := n88.ne rfl (n82.ne rfl (n81.ne rfl (n78.ne rfl n77.at_)))
          refine sv n88.ok rfl (wn _ rfl) rfl (o_mv e92) (fun an93 n93 => ?_)
          have e94 := n93.ne rfl (n88.ne rfl (n82.ne rfl (n81.ne rfl n78.at_)))
          refine sv n93.ok rfl (wn _ rfl) rfl (o_mv e94) (fun an95 n95 => ?_)
          have e96 := n95.ne rfl (n93.ne rfl (n88.ne rfl (n82.ne rfl (n81.ne rfl (n78.ne rfl (n77.ne rfl (n76.ne rfl (n75.ne rfl (n73.ne rfl (n68.ne rfl s3I60))))))))))
          refine sv n95.ok rfl (wn _ rfl) rfl (o_iaA (i := i) (s := 1) e96 (n95.ne rfl n93.at_) Try.underlying86 (by kernel_rfl) (by omega)) (fun an97 n97 => ?_)
          refine ssC rfl (wn _ rfl) (o_st n97.at_ (n97.ne rfl n95.at_) B87 (by rw [show 0 + (i) * 1 = i by omega]; exact a5_at _ _ (by omega)) (by kernel_rfl) rfl) B87 (fun w98 u99 u99b => ?_)
          have G100 : Gr w w98 := Below.upd G85 l46 u99
          have B101 := B86.upd u99 (Nat.ne_of_lt l45)
          have B102 : Bk w98 b42 (a5 (u5 (gv V i) i xh74)) 86 := (by have h := u99b; rw [show 0 + i * 1 = i by omega, a5_set _ _ _ (by omega)] at h; exact h)
          refine wpList_nil ?_
          refine ib_n ?_
          refine th_n (hK71 _ _ ?_)
          refine wp_region_lit ?_
          have e103 := n97.ne rfl (n95.ne rfl (n93.ne rfl (n88.ne rfl (n82.ne rfl (n81.ne rfl (n78.ne rfl (n77.ne rfl (n76.ne rfl (n75.ne rfl (n73.ne rfl (n68.ne rfl s24I60)))))))))))
          refine sv n97.ok rfl (wn _ rfl) rfl (o_add (r := ((i + 1 : Nat) : Int)) e103 ev_const (by omega) (by omega)) (fun an104 n104 => ?_)
          refine sv n104.ok rfl (wn _ rfl) rfl (o_mv n104.at_) (fun an105 n105 => ?_)
          refine wpList_nil ?_
          have e106 := n105.ne rfl (n104.ne rfl (n97.ne rfl (n95.ne rfl (n93.ne rfl (n88.ne rfl (n82.ne rfl (n81.ne rfl (n78.ne rfl (n77.ne rfl (n76.ne rfl (n75.ne rfl (n73.ne rfl (n68.ne rfl s1I60)))))))))))))
          have e107 := n105.ne rfl (n104.ne rfl (n97.ne rfl (n95.ne rfl (n93.ne rfl (n88.ne rfl (n82.ne rfl (n81.ne rfl (n78.ne rfl (n77.ne rfl (n76.ne rfl (n75.ne rfl (n73.ne rfl (n68.ne rfl s2I60)))))))))))))
          have e108 := n105.ne rfl (n104.ne rfl (n97.ne rfl e96))
          have e109 := n105.ne rfl (n104.ne rfl (n97.ne rfl (n95.ne rfl (n93.ne rfl (n88.ne rfl (n82.ne rfl (n81.ne rfl (n78.ne rfl (n77.ne rfl (n76.ne rfl (n75.ne rfl (n73.ne rfl (n68.ne rfl s22I60)))))))))))))
          have e110 := n105.ne rfl (n104.ne rfl (n97.ne rfl (n95.ne rfl (n93.ne rfl (n88.ne rfl (n82.ne rfl (n81.ne rfl (n78.ne rfl (n77.ne rfl (n76.ne rfl (n75.ne rfl (n73.ne rfl (n68.ne rfl s23I60)))))))))))))
          exact th_n (hKI60 _ _ _ (by omega) ⟨i + 1, rfl, n105.ok, G100, e106, e107, e108, e109, e110, n105.at_, B101, (by rw [← gv_next h74x]; exact B102), by omega, all_up hbI60 (badV_ok h74x (by omega))⟩)
      · refine wp_cond_false ((n68.at_).trans (congrArg Value.bool (decide_eq_false c70))) ?_
        have hbA : ∀ j, j < V.length → badV V j = 0 := fun j hj => hbI60 j (by omega)
        refine wp_exit ?_
        refine th_x ?_
        refine th_x ?_
        refine ib_x ?_
        refine th_n (hK53 _ _ ?_)
        refine wp_seq_k (fun K111 hK111 => ?_)
        refine wp_seq_k (fun K112 hK112 => ?_)
        refine wp_region_lit ?_
        refine sv n68.ok rfl (wn _ rfl) rfl (o_fa (z := 1) (n68.ne rfl s1I60) Try.underlying35 rfl (by kernel_rfl) rfl rfl) (fun an113 n113 => ?_)
        refine sv n113.ok rfl (wn _ rfl) rfl (o_ld n113.at_ (Try.isAgg32 _) (kb3I60.cell _ rfl)) (fun an114 n114 => ?_)
        refine sv n114.ok rfl (wn _ rfl) rfl (o_len n114.at_ Try.underlying32) (fun an115 n115 => ?_)
        refine sv n115.ok rfl (wn _ rfl) rfl (o_as n115.at_) (fun an116 n116 => ?_)
        refine wpList_nil ?_
        refine th_n (hK112 _ _ ?_)
        refine wp_seq_k (fun K117 hK117 => ?_)
        refine wp_region_lit ?_
        refine sv n116.ok rfl (wn _ rfl) rfl (o_mv n116.at_) (fun an118 n118 => ?_)
        refine sv n118.ok rfl (wn _ rfl) rfl (o_gtI n118.at_ ev_const) (fun an119 n119 => ?_)
        refine sv n119.ok rfl (wn _ rfl) rfl (o_mv n119.at_) (fun an120 n120 => ?_)
        by_cases c121 : (0 : Int) < ((V.length : Nat) : Int)
        · have e122 := (n120.at_).trans (congrArg Value.bool (decide_eq_true c121))
          have e123 := ((n120.ne rfl n119.at_)).trans (congrArg Value.bool (decide_eq_true c121))
          have e124 := n120.ne rfl (n119.ne rfl (n118.ne rfl (n116.ne rfl (n115.ne rfl (n114.ne rfl (n113.ne rfl (n68.ne rfl s1I60)))))))
          refine sv n120.ok rfl (wgT rfl (yl 2 true rfl e122) rfl) rfl (o_fa (z := 1) e124 Try.underlying35 rfl (by kernel_rfl) rfl rfl) (fun an125 n125 => ?_)
          refine sv n125.ok rfl (wgT rfl (yl 2 true rfl (n125.ne rfl e122)) rfl) rfl (o_ld n125.at_ (Try.isAgg32 _) (kb3I60.cell _ rfl)) (fun an126 n126 => ?_)
          have e127 := n126.ne rfl (n125.ne rfl (n120.ne rfl (n119.ne rfl (n118.ne rfl n116.at_))))
          refine sv n126.ok rfl (wgT rfl (yl 2 true rfl (n126.ne rfl (n125.ne rfl e122))) rfl) rfl (o_mv e127) (fun an128 n128 => ?_)
          have e129 := n128.ne rfl (n126.ne rfl (n125.ne rfl e122))
          refine sv n128.ok rfl (wgT rfl (yl 2 true rfl e129) rfl) rfl (o_sub (r := ((V.length - 1 : Nat) : Int)) n128.at_ ev_const (by omega) (by omega)) (fun an130 n130 => ?_)
          have h131l : V.length - 1 < List.length V := by omega
          obtain ⟨bh131, fh131, h131a, h131b, h131c⟩ := hv (ne_nil_of_lt h131l)
          obtain ⟨xh131, h131x⟩ : ∃ x, V[V.length - 1]? = some x := ⟨_, List.getElem?_eq_getElem h131l⟩
          refine sv n130.ok rfl (wgT rfl (yl 2 true rfl (n130.ne rfl e129)) rfl) rfl (o_iaV (i := V.length - 1) (s := 1) h131a (n130.ne rfl (n128.ne rfl n126.at_)) n130.at_ Try.underlying32 (by kernel_rfl) h131l) (fun an132 n132 => ?_)
          refine sv n132.ok rfl (wgT rfl (yl 2 true rfl (n132.ne rfl (n130.ne rfl e129))) rfl) rfl (o_ld n132.at_ (Try.isAgg3 _) ((Below.cell GI60 h131b).trans (h131c _ _ h131x))) (fun an133 n133 => ?_)
          have e134 := n133.ne rfl (n132.ne rfl (n130.ne rfl e129))
          refine sv n133.ok rfl (wgT rfl (yl 2 true rfl e134) rfl) rfl (o_eqI n133.at_ ev_const) (fun an135 n135 => ?_)
          refine sv n135.ok rfl (wn _ rfl) rfl (o_pkT (n135.ne rfl e134) n135.at_) (fun an136 n136 => ?_)
          refine wpList_nil ?_
          refine th_n (hK117 _ _ ?_)
          by_cases c137 : xh131 = 0
          · refine wp_cond_true ((n136.at_).trans (congrArg Value.bool (decide_eq_true c137))) ?_
            refine wp_seq_k (fun K138 hK138 => ?_)
            refine wp_region_lit ?_
            refine sv n136.ok rfl (wn _ rfl) rfl (o_as ev_const) (fun an139 n139 => ?_)
            refine wpList_nil ?_
            refine th_n (hK138 _ _ ?_)
            refine wp_ret ?_
            refine th_r ?_
            have hz0 : V[V.length - 1]? = some 0 := by
              have q : xh131 = 0 := by omega
              rw [← q]; exact h131x
            exact ret1 n139.ok rfl (n139.at_) ⟨by rw [chk_last hl hbA (by omega) hz0], GI60⟩
          · refine wp_cond_false ((n136.at_).trans (congrArg Value.bool (decide_eq_false c137))) ?_
            refine wp_skip ?_
            refine th_n (hK111 _ _ ?_)
            refine wp_seq_k (fun K140 hK140 => ?_)
            refine wp_region_lit ?_
            refine sv n136.ok rfl (wn _ rfl) rfl (o_bd (cells := #[.int .i64 (-1), .int .i64 0]) (vs := [(0, .int .i64 (-1))]) (by simp [ev_const]) (by kernel_rfl)) (fun an141 n141 => ?_)
            refine sal (cs := #[.int .i64 0, .int .i64 0]) n141.ok rfl (wn _ rfl) rfl (o_al (z := .agg #[.int .i64 0, .int .i64 0]) (by kernel_rfl)) (fun an142 w144 b143 W145 n142 => ?_)
            have l146 : b3 < b143 := by rw [W145.eq]; exact kb3I60.lt
            have l147 : b42 < b143 := by rw [W145.eq]; exact kb42I60.lt
            have l148 : w.heap.size ≤ b143 := by rw [W145.eq]; exact GI60.size
            have G149 := GI60.trans W145.gr
            have B150 := kb3I60.gr W145.gr
            have B151 := kb42I60.gr W145.gr
            refine ssR rfl (wn _ rfl) (o_stR n142.at_ (n142.ne rfl n141.at_) W145.bk (by kernel_rfl) rfl (by simp [Value.oneCell'])) W145.bk (fun w152 u153 u153b => ?_)
            have G154 : Gr w w152 := Below.upd G149 l148 u153
            have B155 := B150.upd u153 (Nat.ne_of_lt l146)
            have B156 := B151.upd u153 (Nat.ne_of_lt l147)
            refine wpList_nil ?_
            refine th_n (hK140 _ _ ?_)
            refine wp_seq_k (fun K157 hK157 => ?_)
            refine wp_seq_k (fun K158 hK158 => ?_)
            refine wp_region_lit ?_
            have e159 := n142.ne rfl (n141.ne rfl (n136.ne rfl (n135.ne rfl (n133.ne rfl (n132.ne rfl (n130.ne rfl (n128.ne rfl (n126.ne rfl (n125.ne rfl e124)))))))))
            refine sv n142.ok rfl (wn _ rfl) rfl (o_fa (z := 1) e159 Try.underlying35 rfl (by kernel_rfl) rfl rfl) (fun an160 n160 => ?_)
            refine sv n160.ok rfl (wn _ rfl) rfl (o_ld n160.at_ (Try.isAgg33 _) (B155.cell _ rfl)) (fun an161 n161 => ?_)
            refine sv n161.ok rfl (wn _ rfl) rfl (o_len n161.at_ Try.underlying33) (fun an162 n162 => ?_)
            refine sv n162.ok rfl (wn _ rfl) rfl (o_mv ev_const) (fun an163 n163 => ?_)
            refine wpList_nil ?_
            refine th_n (hK158 _ _ ?_)
            refine wp_block ?_
            have hcv := chkV_ok hbA (.inr ⟨xh131, h131x, by omega⟩)
            have e165 := n163.ne rfl (n162.ne rfl (n161.ne rfl (n160.ne rfl (n142.ne rfl (n141.ne rfl (n136.ne rfl (n135.ne rfl (n133.ne rfl (n132.ne rfl (n130.ne rfl (n128.ne rfl (n126.ne rfl (n125.ne rfl (n120.ne rfl (n119.ne rfl (n118.ne rfl (n116.ne rfl (n115.ne rfl (n114.ne rfl (n113.ne rfl (n68.ne rfl s2I60)))))))))))))))))))))
            have e166 := n163.ne rfl (n162.ne rfl (n161.ne rfl (n160.ne rfl (n142.ne rfl (n141.ne rfl (n136.ne rfl (n135.ne rfl (n133.ne rfl (n132.ne rfl (n130.ne rfl (n128.ne rfl (n126.ne rfl (n125.ne rfl (n120.ne rfl (n119.ne rfl (n118.ne rfl (n116.ne rfl (n115.ne rfl (n114.ne rfl (n113.ne rfl (n68.ne rfl s3I60)))))))))))))))))))))
            have e167 := n163.ne rfl (n162.ne rfl (n161.ne rfl (n160.ne rfl n142.at_)))
            refine lp (fun (nL : Nat) (aL : Act) (wL : World) => ∃ k : Nat, ∃ la : Int, ∃ lb : Int, nL = M.length - k ∧ Ok 92 aL ∧ Gr w wL ∧ (aL.eval (.tmp 2) = .int .i64 0) ∧ (aL.eval (.tmp 3) = .pointer (some ⟨b42, 0, none⟩)) ∧ (aL.eval (.tmp 7) = .pointer (some ⟨b143, 0, none⟩)) ∧ (aL.eval (.tmp 52) = .slice ma M.length mc) ∧ (aL.eval (.tmp 53) = .int .i64 ((M.length : Nat) : Int)) ∧ (aL.eval (.tmp 54) = .int .i64 (k : Int)) ∧ (Bk wL b42 (a5 (gv V i)) 86) ∧ (Bk wL b143 #[.int .i64 (la), .int .i64 (lb)] 26) ∧ (k ≤ M.length) ∧ (∀ j, j < k → badM (natsI V) M j = 0) ∧ (lastD M k la lb)) _ ⟨0, (-1), 0, rfl, n163.ok, G154, e165, e166, e167, (n163.ne rfl (n162.ne rfl n161.at_)), (n163.ne rfl n162.at_), n163.at_, B156, u153b, by omega, fun j h => by omega, .inl ⟨rfl, rfl, rfl⟩⟩ ?_
            rintro m168 aI164 w170 ⟨k, la, lb, hmI164, okI164, GI164, s2I164, s3I164, s7I164, s52I164, s53I164, s54I164, kb42I164, kb143I164, hkI164, hbI164, hlaI164⟩ KI164 hKI164
            refine wp_seq_k (fun K171 hK171 => ?_)
            refine wp_region_lit ?_
            refine sv okI164 rfl (wn _ rfl) rfl (o_ltI s54I164 s53I164) (fun an172 n172 => ?_)
            refine wpList_nil ?_
            refine th_n (hK171 _ _ ?_)
            refine wp_seq_k (fun K173 hK173 => ?_)
            by_cases c174 : (k : Int) < ((M.length : Nat) : Int)
            · refine wp_cond_true ((n172.at_).trans (congrArg Value.bool (decide_eq_true c174))) ?_
              refine wp_skip ?_
              refine th_n (hK173 _ _ ?_)
              refine wp_seq_k (fun K175 hK175 => ?_)
              refine wp_block ?_
              refine wp_seq_k (fun K176 hK176 => ?_)
              refine wp_region_lit ?_
              have h177l : k < List.length M := by omega
              obtain ⟨bh177, fh177, h177a, h177b, h177c⟩ := hm (ne_nil_of_lt h177l)
              obtain ⟨⟨xh177, yh177⟩, h177x⟩ : ∃ x, M[k]? = some x := ⟨_, List.getElem?_eq_getElem h177l⟩
              refine sv n172.ok rfl (wn _ rfl) rfl (o_iaV (i := k) (s := 2) h177a (n172.ne rfl s52I164) (n172.ne rfl s54I164) Try.underlying33 (by kernel_rfl) h177l) (fun an178 n178 => ?_)
              refine sv n178.ok rfl (wn _ rfl) rfl (o_ldA (k := fh177 + k * 2) n178.at_ (cells_to (fun j => Below.cell GI164 h177b) (two_cells (h177c _ _ h177x).1 (h177c _ _ h177x).2)) Try.underlying26 rfl (by kernel_rfl)) (fun an179 n179 => ?_)
              refine sal (cs := #[.int .i64 0, .int .i64 0]) n179.ok rfl (wn _ rfl) rfl (o_al (z := .agg #[.int .i64 0, .int .i64 0]) (by kernel_rfl)) (fun an180 w182 b181 W183 n180 => ?_)
              have l184 : b42 < b181 := by rw [W183.eq]; exact kb42I164.lt
              have l185 : b143 < b181 := by rw [W183.eq]; exact kb143I164.lt
              have l186 : w.heap.size ≤ b181 := by rw [W183.eq]; exact GI164.size
              have G187 := GI164.trans W183.gr
              have B188 := kb42I164.gr W183.gr
              have B189 := kb143I164.gr W183.gr
              refine ssR rfl (wn _ rfl) (o_stR n180.at_ (n180.ne rfl n179.at_) W183.bk (by kernel_rfl) rfl (by simp [Value.oneCell'])) W183.bk (fun w190 u191 u191b => ?_)
              have G192 : Gr w w190 := Below.upd G187 l186 u191
              have B193 := B188.upd u191 (Nat.ne_of_lt l184)
              have B194 := B189.upd u191 (Nat.ne_of_lt l185)
              refine wpList_nil ?_
              refine th_n (hK176 _ _ ?_)
              refine wp_seq_k (fun K195 hK195 => ?_)
              refine wp_seq_k (fun K196 hK196 => ?_)
              refine wp_region_lit ?_
              refine sv n180.ok rfl (wn _ rfl) rfl (o_ldR n180.at_ u191b Try.underlying26 rfl (by kernel_rfl)) (fun an197 n197 => ?_)
              refine sc n197.ok rfl (wn _ rfl) rfl (o_f1 Try.func9 rfl rfl rfl n197.at_) (rdot_p _ _ w190) ?_
              rintro _ w199 ⟨rfl, g200⟩
              refine ⟨_, rfl, fun an198 n198 => ?_⟩
              have G201 := G192.trans g200
              have B202 := B193.gr g200
              have B203 := B194.gr g200
              have B204 := u191b.gr g200
              refine sv n198.ok rfl (wn _ rfl) rfl (o_notD n198.at_) (fun an205 n205 => ?_)
              refine wpList_nil ?_
              refine th_n (hK196 _ _ ?_)
              by_cases c206 : ¬ (dotB (xh177, yh177) = true)
              · refine wp_cond_true ((n205.at_).trans (congrArg Value.bool (decide_eq_true c206))) ?_
                refine wp_seq_k (fun K207 hK207 => ?_)
                refine wp_region_lit ?_
                refine sv n205.ok rfl (wn _ rfl) rfl (o_as ev_const) (fun an208 n208 => ?_)
                refine wpList_nil ?_
                refine th_n (hK207 _ _ ?_)
                refine wp_ret ?_
                refine th_r ?_
                refine ib_r ?_
                refine th_r ?_
                refine th_r ?_
                refine ib_r ?_
                refine th_r ?_
                have hnd : ¬ dotB (xh177, yh177) = true := c206
                exact ret1 n208.ok rfl (n208.at_) ⟨by rw [chk_dot hl hcv hbI164 (by omega) (badM_dot h177x (by simpa using hnd)) (by omega)], G201⟩
              · refine wp_cond_false ((n205.at_).trans (congrArg Value.bool (decide_eq_false c206))) ?_
                have hdB : dotB (xh177, yh177) = true := Classical.not_not.1 c206
                obtain ⟨hd1, hd2, hd3, hd4⟩ := (dotB_iff _).1 hdB
                simp only at hd1 hd2 hd3 hd4
                obtain ⟨nh177, hnh177⟩ : ∃ n : Nat, xh177 = (n : Int) := ⟨xh177.toNat, by omega⟩
                subst hnh177
                have hg := gv_cv hbA nh177 (i := i) (by omega)
                have hgl := gv_le hbA i nh177
                refine wp_skip ?_
                refine th_n (hK195 _ _ ?_)
                refine wp_seq_k (fun K209 hK209 => ?_)
                refine wp_seq_k (fun K210 hK210 => ?_)
                refine h_start [] 29 #[false, false, false, false, false, false, false, false, false, false, false, false, false, false, false, false, false, false, false, false, false, false, false, false, false, false, false, false, false] (by kernel_rfl) rfl rfl ?_
                have S211 := Sx.drew [] w199
                have g212 := (Gr.refl w199).drew
                generalize w199.drew = w213 at *
                have G214 := G201.trans g212
                have B215 := B202.gr g212
                have B216 := B203.gr g212
                have B217 := B204.gr g212
                have e218 := n205.ne rfl (n198.ne rfl (n197.ne rfl n180.at_))
                refine h_take (i := 0) (fuel := 28) n205.ok rfl rfl rfl (by kernel_rfl) (by kernel_rfl) (by kernel_rfl) (fun _ _ _ _ _ h => h) (wn _ rfl) (fun x hx => o_fa (z := 1) e218 Try.underlying26 rfl (by kernel_rfl) rfl rfl) S211 (fun an219 n219 => ?_)
                refine h_take (i := 1) (fuel := 27) n219.ok rfl rfl rfl (by kernel_rfl) (by kernel_rfl) (by kernel_rfl) (fun _ _ _ _ _ h => h) (wn _ rfl) (fun x hx => o_ld n219.at_ (Try.isAgg3 _) ((Sx.bk hx B204 (by simp <;> omega)).cell _ rfl)) S211 (fun an220 n220 => ?_)
                refine h_take (i := 2) (fuel := 26) n220.ok rfl rfl rfl (by kernel_rfl) (by kernel_rfl) (by kernel_rfl) (fun _ _ _ _ _ h => h) (wn _ rfl) (fun x hx => o_fa (z := 1) (n220.ne rfl (n219.ne rfl e218)) Try.underlying26 rfl (by kernel_rfl) rfl rfl) S211 (fun an221 n221 => ?_)
                refine h_take (i := 3) (fuel := 25) n221.ok rfl rfl rfl (by kernel_rfl) (by kernel_rfl) (by kernel_rfl) (fun _ _ _ _ _ h => h) (wn _ rfl) (fun x hx => o_ld n221.at_ (Try.isAgg3 _) ((Sx.bk hx B204 (by simp <;> omega)).cell _ rfl)) S211 (fun an222 n222 => ?_)
                have e223 := n222.ne rfl (n221.ne rfl (n220.ne rfl (n219.ne rfl (n205.ne rfl (n198.ne rfl (n197.ne rfl (n180.ne rfl (n179.ne rfl (n178.ne rfl (n172.ne rfl s3I164))))))))))
                refine h_take (i := 4) (fuel := 24) n222.ok rfl rfl rfl (by kernel_rfl) (by kernel_rfl) (by kernel_rfl) (fun _ _ _ _ _ h => h) (wn _ rfl) (fun x hx => o_iaA (i := nh177) (s := 1) e223 n222.at_ Try.underlying86 (by kernel_rfl) (by omega)) S211 (fun an224 n224 => ?_)
                refine h_take (i := 5) (fuel := 23) n224.ok rfl rfl rfl (by kernel_rfl) (by kernel_rfl) (by kernel_rfl) (fun _ _ _ _ _ h => h) (wn _ rfl) (fun x hx => o_ld n224.at_ (Try.isAgg3 _) ((Sx.bk hx B202 (by simp <;> omega)).cell _ (by rw [show 0 + (nh177) * 1 = nh177 by omega]; exact a5_at _ _ (by omega)))) S211 (fun an225 n225 => ?_)
                refine h_take (i := 6) (fuel := 22) n225.ok rfl rfl rfl (by kernel_rfl) (by kernel_rfl) (by kernel_rfl) (fun _ _ _ _ _ h => h) (wn _ rfl) (fun x hx => o_add n225.at_ ev_const rfl (by omega)) S211 (fun an226 n226 => ?_)
                have e227 := n226.ne rfl (n225.ne rfl (n224.ne rfl (n222.ne rfl (n221.ne rfl n220.at_))))
                refine h_take (i := 7) (fuel := 21) n226.ok rfl rfl rfl (by kernel_rfl) (by kernel_rfl) (by kernel_rfl) (fun _ _ _ _ _ h => h) (wn _ rfl) (fun x hx => o_ltI e227 n226.at_) S211 (fun an228 n228 => ?_)
                refine h_take (i := 8) (fuel := 20) n228.ok rfl rfl rfl (by kernel_rfl) (by kernel_rfl) (by kernel_rfl) (fun _ _ _ _ _ h => h) (wn _ rfl) (fun x hx => o_mv n228.at_) S211 (fun an229 n229 => ?_)
                by_cases c230 : yh177 < (((gv V i) (nh177)) + 2)
                · have e231 := (n229.at_).trans (congrArg Value.bool (decide_eq_true c230))
                  have e232 := ((n229.ne rfl n228.at_)).trans (congrArg Value.bool (decide_eq_true c230))
                  refine h_not (i := 9) (fuel := 19) n229.ok rfl rfl rfl (by kernel_rfl) (by kernel_rfl) (by kernel_rfl) (fun _ _ _ _ _ h => h) (wgF rfl (yl 8 true rfl e231) rfl) S211 (fun an233 n233 => ?_)
                  refine h_not (i := 10) (fuel := 18) n233.ok rfl rfl rfl (by kernel_rfl) (by kernel_rfl) (by kernel_rfl) (fun _ _ _ _ _ h => h) (wgF rfl (yl 8 true rfl (n233.ne rfl e231)) rfl) S211 (fun an234 n234 => ?_)
                  refine h_not (i := 11) (fuel := 17) n234.ok rfl rfl rfl (by kernel_rfl) (by kernel_rfl) (by kernel_rfl) (fun _ _ _ _ _ h => h) (wgF rfl (yl 8 true rfl (n234.ne rfl (n233.ne rfl e231))) rfl) S211 (fun an235 n235 => ?_)
                  have e236 := n235.ne rfl (n234.ne rfl (n233.ne rfl e231))
                  refine h_not (i := 12) (fuel := 16) n235.ok rfl rfl rfl (by kernel_rfl) (by kernel_rfl) (by kernel_rfl) (fun _ _ _ _ _ h => h) (wgF rfl (yl 8 true rfl e236) rfl) S211 (fun an237 n237 => ?_)
                  refine h_not (i := 13) (fuel := 15) n237.ok rfl rfl rfl (by kernel_rfl) (by kernel_rfl) (by kernel_rfl) (fun _ _ _ _ _ h => h) (wgF rfl (yl 8 true rfl (n237.ne rfl e236)) rfl) S211 (fun an238 n238 => ?_)
                  refine h_take (i := 14) (fuel := 14) n238.ok rfl rfl rfl (by kernel_rfl) (by kernel_rfl) (by kernel_rfl) (fun _ _ _ _ _ h => h) (wn _ rfl) (fun x hx => o_pkT (n238.ne rfl (n237.ne rfl e236)) ev_const) S211 (fun an239 n239 => ?_)
                  refine h_take (i := 15) (fuel := 13) n239.ok rfl rfl rfl (by kernel_rfl) (by kernel_rfl) (by kernel_rfl) (fun _ _ _ _ _ h => h) (wn _ rfl) (fun x hx => o_mv n239.at_) S211 (fun an240 n240 => ?_)
                  refine h_not (i := 16) (fuel := 12) n240.ok rfl rfl rfl (by kernel_rfl) (by kernel_rfl) (by kernel_rfl) (fun _ _ _ _ _ h => h) (wgF rfl (yl 15 true rfl n240.at_) rfl) S211 (fun an241 n241 => ?_)
                  refine h_not (i := 17) (fuel := 11) n241.ok rfl rfl rfl (by kernel_rfl) (by kernel_rfl) (by kernel_rfl) (fun _ _ _ _ _ h => h) (wgF rfl (yl 15 true rfl (n241.ne rfl n240.at_)) rfl) S211 (fun an242 n242 => ?_)
                  refine h_not (i := 18) (fuel := 10) n242.ok rfl rfl rfl (by kernel_rfl) (by kernel_rfl) (by kernel_rfl) (fun _ _ _ _ _ h => h) (wgF rfl (yl 15 true rfl (n242.ne rfl (n241.ne rfl n240.at_))) rfl) S211 (fun an243 n243 => ?_)
                  have e244 := n243.ne rfl (n242.ne rfl (n241.ne rfl n240.at_))
                  refine h_not (i := 19) (fuel := 9) n243.ok rfl rfl rfl (by kernel_rfl) (by kernel_rfl) (by kernel_rfl) (fun _ _ _ _ _ h => h) (wgF rfl (yl 15 true rfl e244) rfl) S211 (fun an245 n245 => ?_)
                  refine h_not (i := 20) (fuel := 8) n245.ok rfl rfl rfl (by kernel_rfl) (by kernel_rfl) (by kernel_rfl) (fun _ _ _ _ _ h => h) (wgF rfl (yl 15 true rfl (n245.ne rfl e244)) rfl) S211 (fun an246 n246 => ?_)
                  refine h_not (i := 21) (fuel := 7) n246.ok rfl rfl rfl (by kernel_rfl) (by kernel_rfl) (by kernel_rfl) (fun _ _ _ _ _ h => h) (wgF rfl (yl 15 true rfl (n246.ne rfl (n245.ne rfl e244))) rfl) S211 (fun an247 n247 => ?_)
                  refine h_not (i := 22) (fuel := 6) n247.ok rfl rfl rfl (by kernel_rfl) (by kernel_rfl) (by kernel_rfl) (fun _ _ _ _ _ h => h) (wgU rfl (yu 21 rfl n247.at_)) S211 (fun an248 n248 => ?_)
                  refine h_not (i := 23) (fuel := 5) n248.ok rfl rfl rfl (by kernel_rfl) (by kernel_rfl) (by kernel_rfl) (fun _ _ _ _ _ h => h) (wgU rfl (yu 21 rfl (n248.ne rfl n247.at_))) S211 (fun an249 n249 => ?_)
                  refine h_not (i := 24) (fuel := 4) n249.ok rfl rfl rfl (by kernel_rfl) (by kernel_rfl) (by kernel_rfl) (fun _ _ _ _ _ h => h) (wgU rfl (yu 21 rfl (n249.ne rfl (n248.ne rfl n247.at_)))) S211 (fun an250 n250 => ?_)
                  have e251 := n250.ne rfl (n249.ne rfl (n248.ne rfl n247.at_))
                  refine h_not (i := 25) (fuel := 3) n250.ok rfl rfl rfl (by kernel_rfl) (by kernel_rfl) (by kernel_rfl) (fun _ _ _ _ _ h => h) (wgU rfl (yu 21 rfl e251)) S211 (fun an252 n252 => ?_)
                  refine h_not (i := 26) (fuel := 2) n252.ok rfl rfl rfl (by kernel_rfl) (by kernel_rfl) (by kernel_rfl) (fun _ _ _ _ _ h => h) (wgU rfl (yu 21 rfl (n252.ne rfl e251))) S211 (fun an253 n253 => ?_)
                  have e254 := n253.ne rfl (n252.ne rfl (n250.ne rfl (n249.ne rfl (n248.ne rfl (n247.ne rfl (n246.ne rfl (n245.ne rfl e244)))))))
                  refine h_not (i := 27) (fuel := 1) n253.ok rfl rfl rfl (by kernel_rfl) (by kernel_rfl) (by kernel_rfl) (fun _ _ _ _ _ h => h) (wgF rfl (yl 15 true rfl e254) rfl) S211 (fun an255 n255 => ?_)
                  refine h_take (i := 28) (fuel := 0) n255.ok rfl rfl rfl (by kernel_rfl) (by kernel_rfl) (by kernel_rfl) (fun _ _ _ _ _ h => h) (wn _ rfl) (fun x hx => o_pkT (n255.ne rfl e254) ev_const) S211 (fun an256 n256 => ?_)
                  refine wpAnyH_done (by kernel_rfl) ?_ _
                  refine th_n (hK210 _ _ ?_)
                  refine wp_cond_true (n256.at_) ?_
                  refine wp_seq_k (fun K257 hK257 => ?_)
                  refine wp_region_lit ?_
                  refine sv n256.ok rfl (wn _ rfl) rfl (o_as ev_const) (fun an258 n258 => ?_)
                  refine wpList_nil ?_
                  refine th_n (hK257 _ _ ?_)
                  refine wp_ret ?_
                  refine th_r ?_
                  refine ib_r ?_
                  refine th_r ?_
                  refine th_r ?_
                  refine ib_r ?_
                  refine th_r ?_
                  have hwhy : yh177 < (cv (natsI V) (nh177 : Int).toNat : Int) + 2 ∨ (0 < k ∧ ¬ ltI (M.getD (k - 1) (0, 0)) ((nh177 : Int), yh177)) := by
                    rw [Int.toNat_natCast, ← hg]
                    by_cases q : yh177 < gv V i nh177 + 2
                    · exact .inl q
                    · exact .inr (lastD_lt hlaI164 (by omega) (by omega))
                  exact ret1 n258.ok rfl (n258.at_) ⟨by rw [chk_dot hl hcv hbI164 (by omega) (badM_form h177x hdB hwhy) (by omega)], G214⟩
                · have e259 := (n229.at_).trans (congrArg Value.bool (decide_eq_false c230))
                  have e260 := ((n229.ne rfl n228.at_)).trans (congrArg Value.bool (decide_eq_false c230))
                  have e261 := n229.ne rfl (n228.ne rfl (n226.ne rfl (n225.ne rfl (n224.ne rfl (n222.ne rfl (n221.ne rfl (n220.ne rfl (n219.ne rfl e218))))))))
                  refine h_take (i := 9) (fuel := 19) n229.ok rfl rfl rfl (by kernel_rfl) (by kernel_rfl) (by kernel_rfl) (fun _ _ _ _ _ h => h) (wgT rfl (yl 8 false rfl e259) rfl) (fun x hx => o_fa (z := 1) e261 Try.underlying26 rfl (by kernel_rfl) rfl rfl) S211 (fun an262 n262 => ?_)
                  refine h_take (i := 10) (fuel := 18) n262.ok rfl rfl rfl (by kernel_rfl) (by kernel_rfl) (by kernel_rfl) (fun _ _ _ _ _ h => h) (wgT rfl (yl 8 false rfl (n262.ne rfl e259)) rfl) (fun x hx => o_ld n262.at_ (Try.isAgg3 _) ((Sx.bk hx B204 (by simp <;> omega)).cell _ rfl)) S211 (fun an263 n263 => ?_)
                  have e264 := n263.ne rfl (n262.ne rfl (n229.ne rfl (n228.ne rfl (n226.ne rfl (n225.ne rfl (n224.ne rfl (n222.ne rfl (n221.ne rfl (n220.ne rfl (n219.ne rfl (n205.ne rfl (n198.ne rfl (n197.ne rfl (n180.ne rfl (n179.ne rfl (n178.ne rfl (n172.ne rfl s7I164)))))))))))))))))
                  refine h_take (i := 11) (fuel := 17) n263.ok rfl rfl rfl (by kernel_rfl) (by kernel_rfl) (by kernel_rfl) (fun _ _ _ _ _ h => h) (wgT rfl (yl 8 false rfl (n263.ne rfl (n262.ne rfl e259))) rfl) (fun x hx => o_fa (z := 1) e264 Try.underlying26 rfl (by kernel_rfl) rfl rfl) S211 (fun an265 n265 => ?_)
                  have e266 := n265.ne rfl (n263.ne rfl (n262.ne rfl e259))
                  refine h_take (i := 12) (fuel := 16) n265.ok rfl rfl rfl (by kernel_rfl) (by kernel_rfl) (by kernel_rfl) (fun _ _ _ _ _ h => h) (wgT rfl (yl 8 false rfl e266) rfl) (fun x hx => o_ld n265.at_ (Try.isAgg3 _) ((Sx.bk hx B203 (by simp <;> omega)).cell _ rfl)) S211 (fun an267 n267 => ?_)
                  refine h_take (i := 13) (fuel := 15) n267.ok rfl rfl rfl (by kernel_rfl) (by kernel_rfl) (by kernel_rfl) (fun _ _ _ _ _ h => h) (wgT rfl (yl 8 false rfl (n267.ne rfl e266)) rfl) (fun x hx => o_ltI (n267.ne rfl (n265.ne rfl n263.at_)) n267.at_) S211 (fun an268 n268 => ?_)
                  refine h_take (i := 14) (fuel := 14) n268.ok rfl rfl rfl (by kernel_rfl) (by kernel_rfl) (by kernel_rfl) (fun _ _ _ _ _ h => h) (wn _ rfl) (fun x hx => o_pkF (n268.ne rfl (n267.ne rfl e266)) n268.at_) S211 (fun an269 n269 => ?_)
                  refine h_take (i := 15) (fuel := 13) n269.ok rfl rfl rfl (by kernel_rfl) (by kernel_rfl) (by kernel_rfl) (fun _ _ _ _ _ h => h) (wn _ rfl) (fun x hx => o_mv n269.at_) S211 (fun an270 n270 => ?_)
                  by_cases c271 : (nh177 : Int) < la
                  · have e272 := (n270.at_).trans (congrArg Value.bool (decide_eq_true c271))
                    have e273 := ((n270.ne rfl (n269.ne rfl n268.at_))).trans (congrArg Value.bool (decide_eq_true c271))
                    have e274 := ((n270.ne rfl n269.at_)).trans (congrArg Value.bool (decide_eq_true c271))
                    refine h_not (i := 16) (fuel := 12) n270.ok rfl rfl rfl (by kernel_rfl) (by kernel_rfl) (by kernel_rfl) (fun _ _ _ _ _ h => h) (wgF rfl (yl 15 true rfl e272) rfl) S211 (fun an275 n275 => ?_)
                    refine h_not (i := 17) (fuel := 11) n275.ok rfl rfl rfl (by kernel_rfl) (by kernel_rfl) (by kernel_rfl) (fun _ _ _ _ _ h => h) (wgF rfl (yl 15 true rfl (n275.ne rfl e272)) rfl) S211 (fun an276 n276 => ?_)
                    refine h_not (i := 18) (fuel := 10) n276.ok rfl rfl rfl (by kernel_rfl) (by kernel_rfl) (by kernel_rfl) (fun _ _ _ _ _ h => h) (wgF rfl (yl 15 true rfl (n276.ne rfl (n275.ne rfl e272))) rfl) S211 (fun an277 n277 => ?_)
                    have e278 := n277.ne rfl (n276.ne rfl (n275.ne rfl e272))
                    refine h_not (i := 19) (fuel := 9) n277.ok rfl rfl rfl (by kernel_rfl) (by kernel_rfl) (by kernel_rfl) (fun _ _ _ _ _ h => h) (wgF rfl (yl 15 true rfl e278) rfl) S211 (fun an279 n279 => ?_)
                    refine h_not (i := 20) (fuel := 8) n279.ok rfl rfl rfl (by kernel_rfl) (by kernel_rfl) (by kernel_rfl) (fun _ _ _ _ _ h => h) (wgF rfl (yl 15 true rfl (n279.ne rfl e278)) rfl) S211 (fun an280 n280 => ?_)
                    refine h_not (i := 21) (fuel := 7) n280.ok rfl rfl rfl (by kernel_rfl) (by kernel_rfl) (by kernel_rfl) (fun _ _ _ _ _ h => h) (wgF rfl (yl 15 true rfl (n280.ne rfl (n279.ne rfl e278))) rfl) S211 (fun an281 n281 => ?_)
                    refine h_not (i := 22) (fuel := 6) n281.ok rfl rfl rfl (by kernel_rfl) (by kernel_rfl) (by kernel_rfl) (fun _ _ _ _ _ h => h) (wgU rfl (yu 21 rfl n281.at_)) S211 (fun an282 n282 => ?_)
                    refine h_not (i := 23) (fuel := 5) n282.ok rfl rfl rfl (by kernel_rfl) (by kernel_rfl) (by kernel_rfl) (fun _ _ _ _ _ h => h) (wgU rfl (yu 21 rfl (n282.ne rfl n281.at_))) S211 (fun an283 n283 => ?_)
                    refine h_not (i := 24) (fuel := 4) n283.ok rfl rfl rfl (by kernel_rfl) (by kernel_rfl) (by kernel_rfl) (fun _ _ _ _ _ h => h) (wgU rfl (yu 21 rfl (n283.ne rfl (n282.ne rfl n281.at_)))) S211 (fun an284 n284 => ?_)
                    have e285 := n284.ne rfl (n283.ne rfl (n282.ne rfl n281.at_))
                    refine h_not (i := 25) (fuel := 3) n284.ok rfl rfl rfl (by kernel_rfl) (by kernel_rfl) (by kernel_rfl) (fun _ _ _ _ _ h => h) (wgU rfl (yu 21 rfl e285)) S211 (fun an286 n286 => ?_)
                    refine h_not (i := 26) (fuel := 2) n286.ok rfl rfl rfl (by kernel_rfl) (by kernel_rfl) (by kernel_rfl) (fun _ _ _ _ _ h => h) (wgU rfl (yu 21 rfl (n286.ne rfl e285))) S211 (fun an287 n287 => ?_)
                    have e288 := n287.ne rfl (n286.ne rfl (n284.ne rfl (n283.ne rfl (n282.ne rfl (n281.ne rfl (n280.ne rfl (n279.ne rfl e278)))))))
                    refine h_not (i := 27) (fuel := 1) n287.ok rfl rfl rfl (by kernel_rfl) (by kernel_rfl) (by kernel_rfl) (fun _ _ _ _ _ h => h) (wgF rfl (yl 15 true rfl e288) rfl) S211 (fun an289 n289 => ?_)
                    refine h_take (i := 28) (fuel := 0) n289.ok rfl rfl rfl (by kernel_rfl) (by kernel_rfl) (by kernel_rfl) (fun _ _ _ _ _ h => h) (wn _ rfl) (fun x hx => o_pkT (n289.ne rfl e288) ev_const) S211 (fun an290 n290 => ?_)
                    refine wpAnyH_done (by kernel_rfl) ?_ _
                    refine th_n (hK210 _ _ ?_)
                    refine wp_cond_true (n290.at_) ?_
                    refine wp_seq_k (fun K291 hK291 => ?_)
                    refine wp_region_lit ?_
                    refine sv n290.ok rfl (wn _ rfl) rfl (o_as ev_const) (fun an292 n292 => ?_)
                    refine wpList_nil ?_
                    refine th_n (hK291 _ _ ?_)
                    refine wp_ret ?_
                    refine th_r ?_
                    refine ib_r ?_
                    refine th_r ?_
                    refine th_r ?_
                    refine ib_r ?_
                    refine th_r ?_
                    have hwhy : yh177 < (cv (natsI V) (nh177 : Int).toNat : Int) + 2 ∨ (0 < k ∧ ¬ ltI (M.getD (k - 1) (0, 0)) ((nh177 : Int), yh177)) := by
                      rw [Int.toNat_natCast, ← hg]
                      by_cases q : yh177 < gv V i nh177 + 2
                      · exact .inl q
                      · exact .inr (lastD_lt hlaI164 (by omega) (by omega))
                    exact ret1 n292.ok rfl (n292.at_) ⟨by rw [chk_dot hl hcv hbI164 (by omega) (badM_form h177x hdB hwhy) (by omega)], G214⟩
                  · have e293 := (n270.at_).trans (congrArg Value.bool (decide_eq_false c271))
                    have e294 := ((n270.ne rfl (n269.ne rfl n268.at_))).trans (congrArg Value.bool (decide_eq_false c271))
                    have e295 := ((n270.ne rfl n269.at_)).trans (congrArg Value.bool (decide_eq_false c271))
                    have e296 := n270.ne rfl (n269.ne rfl (n268.ne rfl (n267.ne rfl (n265.ne rfl (n263.ne rfl (n262.ne rfl e261))))))
                    refine h_take (i := 16) (fuel := 12) n270.ok rfl rfl rfl (by kernel_rfl) (by kernel_rfl) (by kernel_rfl) (fun _ _ _ _ _ h => h) (wgT rfl (yl 15 false rfl e293) rfl) (fun x hx => o_fa (z := 1) e296 Try.underlying26 rfl (by kernel_rfl) rfl rfl) S211 (fun an297 n297 => ?_)
                    refine h_take (i := 17) (fuel := 11) n297.ok rfl rfl rfl (by kernel_rfl) (by kernel_rfl) (by kernel_rfl) (fun _ _ _ _ _ h => h) (wgT rfl (yl 15 false rfl (n297.ne rfl e293)) rfl) (fun x hx => o_ld n297.at_ (Try.isAgg3 _) ((Sx.bk hx B204 (by simp <;> omega)).cell _ rfl)) S211 (fun an298 n298 => ?_)
                    have e299 := n298.ne rfl (n297.ne rfl (n270.ne rfl (n269.ne rfl (n268.ne rfl (n267.ne rfl (n265.ne rfl e264))))))
                    refine h_take (i := 18) (fuel := 10) n298.ok rfl rfl rfl (by kernel_rfl) (by kernel_rfl) (by kernel_rfl) (fun _ _ _ _ _ h => h) (wgT rfl (yl 15 false rfl (n298.ne rfl (n297.ne rfl e293))) rfl) (fun x hx => o_fa (z := 1) e299 Try.underlying26 rfl (by kernel_rfl) rfl rfl) S211 (fun an300 n300 => ?_)
                    have e301 := n300.ne rfl (n298.ne rfl (n297.ne rfl e293))
                    refine h_take (i := 19) (fuel := 9) n300.ok rfl rfl rfl (by kernel_rfl) (by kernel_rfl) (by kernel_rfl) (fun _ _ _ _ _ h => h) (wgT rfl (yl 15 false rfl e301) rfl) (fun x hx => o_ld n300.at_ (Try.isAgg3 _) ((Sx.bk hx B203 (by simp <;> omega)).cell _ rfl)) S211 (fun an302 n302 => ?_)
                    refine h_take (i := 20) (fuel := 8) n302.ok rfl rfl rfl (by kernel_rfl) (by kernel_rfl) (by kernel_rfl) (fun _ _ _ _ _ h => h) (wgT rfl (yl 15 false rfl (n302.ne rfl e301)) rfl) (fun x hx => o_eqI (n302.ne rfl (n300.ne rfl n298.at_)) n302.at_) S211 (fun an303 n303 => ?_)
                    refine h_take (i := 21) (fuel := 7) n303.ok rfl rfl rfl (by kernel_rfl) (by kernel_rfl) (by kernel_rfl) (fun _ _ _ _ _ h => h) (wgT rfl (yl 15 false rfl (n303.ne rfl (n302.ne rfl e301))) rfl) (fun x hx => o_mv n303.at_) S211 (fun an304 n304 => ?_)
                    by_cases c305 : (nh177 : Int) = la
                    · have e306 := (n304.at_).trans (congrArg Value.bool (decide_eq_true c305))
                      have e307 := ((n304.ne rfl n303.at_)).trans (congrArg Value.bool (decide_eq_true c305))
                      have e308 := n304.ne rfl (n303.ne rfl (n302.ne rfl (n300.ne rfl (n298.ne rfl (n297.ne rfl e296)))))
                      refine h_take (i := 22) (fuel := 6) n304.ok rfl rfl rfl (by kernel_rfl) (by kernel_rfl) (by kernel_rfl) (fun _ _ _ _ _ h => h) (wgT rfl (yl 21 true rfl e306) rfl) (fun x hx => o_fa (z := 1) e308 Try.underlying26 rfl (by kernel_rfl) rfl rfl) S211 (fun an309 n309 => ?_)
                      refine h_take (i := 23) (fuel := 5) n309.ok rfl rfl rfl (by kernel_rfl) (by kernel_rfl) (by kernel_rfl) (fun _ _ _ _ _ h => h) (wgT rfl (yl 21 true rfl (n309.ne rfl e306)) rfl) (fun x hx => o_ld n309.at_ (Try.isAgg3 _) ((Sx.bk hx B204 (by simp <;> omega)).cell _ rfl)) S211 (fun an310 n310 => ?_)
                      have e311 := n310.ne rfl (n309.ne rfl (n304.ne rfl (n303.ne rfl (n302.ne rfl (n300.ne rfl e299)))))
                      refine h_take (i := 24) (fuel := 4) n310.ok rfl rfl rfl (by kernel_rfl) (by kernel_rfl) (by kernel_rfl) (fun _ _ _ _ _ h => h) (wgT rfl (yl 21 true rfl (n310.ne rfl (n309.ne rfl e306))) rfl) (fun x hx => o_fa (z := 1) e311 Try.underlying26 rfl (by kernel_rfl) rfl rfl) S211 (fun an312 n312 => ?_)
                      have e313 := n312.ne rfl (n310.ne rfl (n309.ne rfl e306))
                      refine h_take (i := 25) (fuel := 3) n312.ok rfl rfl rfl (by kernel_rfl) (by kernel_rfl) (by kernel_rfl) (fun _ _ _ _ _ h => h) (wgT rfl (yl 21 true rfl e313) rfl) (fun x hx => o_ld n312.at_ (Try.isAgg3 _) ((Sx.bk hx B203 (by simp <;> omega)).cell _ rfl)) S211 (fun an314 n314 => ?_)
                      refine h_take (i := 26) (fuel := 2) n314.ok rfl rfl rfl (by kernel_rfl) (by kernel_rfl) (by kernel_rfl) (fun _ _ _ _ _ h => h) (wgT rfl (yl 21 true rfl (n314.ne rfl e313)) rfl) (fun x hx => o_leI (n314.ne rfl (n312.ne rfl n310.at_)) n314.at_) S211 (fun an315 n315 => ?_)
                      have e316 := n315.ne rfl (n314.ne rfl (n312.ne rfl (n310.ne rfl (n309.ne rfl (n304.ne rfl (n303.ne rfl (n302.ne rfl e301)))))))
                      refine h_take (i := 27) (fuel := 1) n315.ok rfl rfl rfl (by kernel_rfl) (by kernel_rfl) (by kernel_rfl) (fun _ _ _ _ _ h => h) (wgT rfl (yl 15 false rfl e316) rfl) (fun x hx => o_pkT (n315.ne rfl (n314.ne rfl e313)) n315.at_) S211 (fun an317 n317 => ?_)
                      refine h_take (i := 28) (fuel := 0) n317.ok rfl rfl rfl (by kernel_rfl) (by kernel_rfl) (by kernel_rfl) (fun _ _ _ _ _ h => h) (wn _ rfl) (fun x hx => o_pkF (n317.ne rfl e316) n317.at_) S211 (fun an318 n318 => ?_)
                      refine wpAnyH_done (by kernel_rfl) ?_ _
                      refine th_n (hK210 _ _ ?_)
                      by_cases c319 : yh177 ≤ lb
                      · refine wp_cond_true ((n318.at_).trans (congrArg Value.bool (decide_eq_true c319))) ?_
                        refine wp_seq_k (fun K320 hK320 => ?_)
                        refine wp_region_lit ?_
                        refine sv n318.ok rfl (wn _ rfl) rfl (o_as ev_const) (fun an321 n321 => ?_)
                        refine wpList_nil ?_
                        refine th_n (hK320 _ _ ?_)
                        refine wp_ret ?_
                        refine th_r ?_
                        refine ib_r ?_
                        refine th_r ?_
                        refine th_r ?_
                        refine ib_r ?_
                        refine th_r ?_
                        have hwhy : yh177 < (cv (natsI V) (nh177 : Int).toNat : Int) + 2 ∨ (0 < k ∧ ¬ ltI (M.getD (k - 1) (0, 0)) ((nh177 : Int), yh177)) := by
                          rw [Int.toNat_natCast, ← hg]
                          by_cases q : yh177 < gv V i nh177 + 2
                          · exact .inl q
                          · exact .inr (lastD_lt hlaI164 (by omega) (by omega))
                        exact ret1 n321.ok rfl (n321.at_) ⟨by rw [chk_dot hl hcv hbI164 (by omega) (badM_form h177x hdB hwhy) (by omega)], G214⟩
                      · refine wp_cond_false ((n318.at_).trans (congrArg Value.bool (decide_eq_false c319))) ?_
                        refine wp_skip ?_
                        refine th_n (hK209 _ _ ?_)
                        refine wp_region_lit ?_
                        have e322 := n318.ne rfl (n317.ne rfl (n315.ne rfl (n314.ne rfl (n312.ne rfl (n310.ne rfl (n309.ne rfl e308))))))
                        refine sv n318.ok rfl (wn _ rfl) rfl (o_ldR e322 B217 Try.underlying26 rfl (by kernel_rfl)) (fun an323 n323 => ?_)
                        have e324 := n323.ne rfl (n318.ne rfl (n317.ne rfl (n315.ne rfl (n314.ne rfl (n312.ne rfl e311)))))
                        refine ssR rfl (wn _ rfl) (o_stR e324 n323.at_ B216 (by kernel_rfl) rfl (by simp [Value.oneCell'])) B216 (fun w325 u326 u326b => ?_)
                        have G327 : Gr w w325 := Below.upd G214 l148 u326
                        have B328 := B215.upd u326 (Nat.ne_of_lt l147)
                        have B329 := B217.upd u326 (Nat.ne_of_gt l185)
                        refine wpList_nil ?_
                        refine ib_n ?_
                        refine th_n (hK175 _ _ ?_)
                        refine wp_region_lit ?_
                        have e330 := n323.ne rfl (n318.ne rfl (n317.ne rfl (n315.ne rfl (n314.ne rfl (n312.ne rfl (n310.ne rfl (n309.ne rfl (n304.ne rfl (n303.ne rfl (n302.ne rfl (n300.ne rfl (n298.ne rfl (n297.ne rfl (n270.ne rfl (n269.ne rfl (n268.ne rfl (n267.ne rfl (n265.ne rfl (n263.ne rfl (n262.ne rfl (n229.ne rfl (n228.ne rfl (n226.ne rfl (n225.ne rfl (n224.ne rfl (n222.ne rfl (n221.ne rfl (n220.ne rfl (n219.ne rfl (n205.ne rfl (n198.ne rfl (n197.ne rfl (n180.ne rfl (n179.ne rfl (n178.ne rfl (n172.ne rfl s54I164))))))))))))))))))))))))))))))))))))
                        refine sv n323.ok rfl (wn _ rfl) rfl (o_add (r := ((k + 1 : Nat) : Int)) e330 ev_const (by omega) (by omega)) (fun an331 n331 => ?_)
                        refine sv n331.ok rfl (wn _ rfl) rfl (o_mv n331.at_) (fun an332 n332 => ?_)
                        refine wpList_nil ?_
                        have hok : badM (natsI V) M k = 0 := badM_ok h177x hdB (by
                          rintro (q | q)
                          · rw [Int.toNat_natCast, ← hg] at q; omega
                          · exact lastD_ge hlaI164 (by omega) q)
                        have e333 := n332.ne rfl (n331.ne rfl (n323.ne rfl (n318.ne rfl (n317.ne rfl (n315.ne rfl (n314.ne rfl (n312.ne rfl (n310.ne rfl (n309.ne rfl (n304.ne rfl (n303.ne rfl (n302.ne rfl (n300.ne rfl (n298.ne rfl (n297.ne rfl (n270.ne rfl (n269.ne rfl (n268.ne rfl (n267.ne rfl (n265.ne rfl (n263.ne rfl (n262.ne rfl (n229.ne rfl (n228.ne rfl (n226.ne rfl (n225.ne rfl (n224.ne rfl (n222.ne rfl (n221.ne rfl (n220.ne rfl (n219.ne rfl (n205.ne rfl (n198.ne rfl (n197.ne rfl (n180.ne rfl (n179.ne rfl (n178.ne rfl (n172.ne rfl s2I164))))))))))))))))))))))))))))))))))))))
                        have e334 := n332.ne rfl (n331.ne rfl (n323.ne rfl (n318.ne rfl (n317.ne rfl (n315.ne rfl (n314.ne rfl (n312.ne rfl (n310.ne rfl (n309.ne rfl (n304.ne rfl (n303.ne rfl (n302.ne rfl (n300.ne rfl (n298.ne rfl (n297.ne rfl (n270.ne rfl (n269.ne rfl (n268.ne rfl (n267.ne rfl (n265.ne rfl (n263.ne rfl (n262.ne rfl (n229.ne rfl (n228.ne rfl (n226.ne rfl (n225.ne rfl (n224.ne rfl e223)))))))))))))))))))))))))))
                        have e335 := n332.ne rfl (n331.ne rfl (n323.ne rfl (n318.ne rfl (n317.ne rfl (n315.ne rfl (n314.ne rfl (n312.ne rfl (n310.ne rfl (n309.ne rfl (n304.ne rfl (n303.ne rfl (n302.ne rfl (n300.ne rfl (n298.ne rfl (n297.ne rfl (n270.ne rfl (n269.ne rfl (n268.ne rfl (n267.ne rfl (n265.ne rfl (n263.ne rfl (n262.ne rfl (n229.ne rfl (n228.ne rfl (n226.ne rfl (n225.ne rfl (n224.ne rfl (n222.ne rfl (n221.ne rfl (n220.ne rfl (n219.ne rfl (n205.ne rfl (n198.ne rfl (n197.ne rfl (n180.ne rfl (n179.ne rfl (n178.ne rfl (n172.ne rfl s52I164))))))))))))))))))))))))))))))))))))))
                        have e336 := n332.ne rfl (n331.ne rfl (n323.ne rfl (n318.ne rfl (n317.ne rfl (n315.ne rfl (n314.ne rfl (n312.ne rfl (n310.ne rfl (n309.ne rfl (n304.ne rfl (n303.ne rfl (n302.ne rfl (n300.ne rfl (n298.ne rfl (n297.ne rfl (n270.ne rfl (n269.ne rfl (n268.ne rfl (n267.ne rfl (n265.ne rfl (n263.ne rfl (n262.ne rfl (n229.ne rfl (n228.ne rfl (n226.ne rfl (n225.ne rfl (n224.ne rfl (n222.ne rfl (n221.ne rfl (n220.ne rfl (n219.ne rfl (n205.ne rfl (n198.ne rfl (n197.ne rfl (n180.ne rfl (n179.ne rfl (n178.ne rfl (n172.ne rfl s53I164))))))))))))))))))))))))))))))))))))))
                        exact th_n (hKI164 _ _ _ (by omega) ⟨k + 1, nh177, yh177, rfl, n332.ok, G327, e333, e334, (n332.ne rfl (n331.ne rfl e324)), e335, e336, n332.at_, B328, u326b, by omega, all_up hbI164 hok, .inr ⟨by omega, h177x⟩⟩)
                    · have e337 := (n304.at_).trans (congrArg Value.bool (decide_eq_false c305))
                      have e338 := ((n304.ne rfl n303.at_)).trans (congrArg Value.bool (decide_eq_false c305))
                      refine h_not (i := 22) (fuel := 6) n304.ok rfl rfl rfl (by kernel_rfl) (by kernel_rfl) (by kernel_rfl) (fun _ _ _ _ _ h => h) (wgF rfl (yl 21 false rfl e337) rfl) S211 (fun an339 n339 => ?_)
                      refine h_not (i := 23) (fuel := 5) n339.ok rfl rfl rfl (by kernel_rfl) (by kernel_rfl) (by kernel_rfl) (fun _ _ _ _ _ h => h) (wgF rfl (yl 21 false rfl (n339.ne rfl e337)) rfl) S211 (fun an340 n340 => ?_)
                      refine h_not (i := 24) (fuel := 4) n340.ok rfl rfl rfl (by kernel_rfl) (by kernel_rfl) (by kernel_rfl) (fun _ _ _ _ _ h => h) (wgF rfl (yl 21 false rfl (n340.ne rfl (n339.ne rfl e337))) rfl) S211 (fun an341 n341 => ?_)
                      have e342 := n341.ne rfl (n340.ne rfl (n339.ne rfl e337))
                      refine h_not (i := 25) (fuel := 3) n341.ok rfl rfl rfl (by kernel_rfl) (by kernel_rfl) (by kernel_rfl) (fun _ _ _ _ _ h => h) (wgF rfl (yl 21 false rfl e342) rfl) S211 (fun an343 n343 => ?_)
                      refine h_not (i := 26) (fuel := 2) n343.ok rfl rfl rfl (by kernel_rfl) (by kernel_rfl) (by kernel_rfl) (fun _ _ _ _ _ h => h) (wgF rfl (yl 21 false rfl (n343.ne rfl e342)) rfl) S211 (fun an344 n344 => ?_)
                      have e345 := n344.ne rfl (n343.ne rfl (n341.ne rfl (n340.ne rfl (n339.ne rfl (n304.ne rfl (n303.ne rfl (n302.ne rfl e301)))))))
                      refine h_take (i := 27) (fuel := 1) n344.ok rfl rfl rfl (by kernel_rfl) (by kernel_rfl) (by kernel_rfl) (fun _ _ _ _ _ h => h) (wgT rfl (yl 15 false rfl e345) rfl) (fun x hx => o_pkF (n344.ne rfl (n343.ne rfl e342)) ev_const) S211 (fun an346 n346 => ?_)
                      refine h_take (i := 28) (fuel := 0) n346.ok rfl rfl rfl (by kernel_rfl) (by kernel_rfl) (by kernel_rfl) (fun _ _ _ _ _ h => h) (wn _ rfl) (fun x hx => o_pkF (n346.ne rfl e345) n346.at_) S211 (fun an347 n347 => ?_)
                      refine wpAnyH_done (by kernel_rfl) ?_ _
                      refine th_n (hK210 _ _ ?_)
                      refine wp_cond_false (n347.at_) ?_
                      refine wp_skip ?_
                      refine th_n (hK209 _ _ ?_)
                      refine wp_region_lit ?_
                      have e348 := n347.ne rfl (n346.ne rfl (n344.ne rfl (n343.ne rfl (n341.ne rfl (n340.ne rfl (n339.ne rfl (n304.ne rfl (n303.ne rfl (n302.ne rfl (n300.ne rfl (n298.ne rfl (n297.ne rfl e296))))))))))))
                      refine sv n347.ok rfl (wn _ rfl) rfl (o_ldR e348 B217 Try.underlying26 rfl (by kernel_rfl)) (fun an349 n349 => ?_)
                      have e350 := n349.ne rfl (n347.ne rfl (n346.ne rfl (n344.ne rfl (n343.ne rfl (n341.ne rfl (n340.ne rfl (n339.ne rfl (n304.ne rfl (n303.ne rfl (n302.ne rfl (n300.ne rfl e299)))))))))))
                      refine ssR rfl (wn _ rfl) (o_stR e350 n349.at_ B216 (by kernel_rfl) rfl (by simp [Value.oneCell'])) B216 (fun w351 u352 u352b => ?_)
                      have G353 : Gr w w351 := Below.upd G214 l148 u352
                      have B354 := B215.upd u352 (Nat.ne_of_lt l147)
                      have B355 := B217.upd u352 (Nat.ne_of_gt l185)
                      refine wpList_nil ?_
                      refine ib_n ?_
                      refine th_n (hK175 _ _ ?_)
                      refine wp_region_lit ?_
                      have e356 := n349.ne rfl (n347.ne rfl (n346.ne rfl (n344.ne rfl (n343.ne rfl (n341.ne rfl (n340.ne rfl (n339.ne rfl (n304.ne rfl (n303.ne rfl (n302.ne rfl (n300.ne rfl (n298.ne rfl (n297.ne rfl (n270.ne rfl (n269.ne rfl (n268.ne rfl (n267.ne rfl (n265.ne rfl (n263.ne rfl (n262.ne rfl (n229.ne rfl (n228.ne rfl (n226.ne rfl (n225.ne rfl (n224.ne rfl (n222.ne rfl (n221.ne rfl (n220.ne rfl (n219.ne rfl (n205.ne rfl (n198.ne rfl (n197.ne rfl (n180.ne rfl (n179.ne rfl (n178.ne rfl (n172.ne rfl s54I164))))))))))))))))))))))))))))))))))))
                      refine sv n349.ok rfl (wn _ rfl) rfl (o_add (r := ((k + 1 : Nat) : Int)) e356 ev_const (by omega) (by omega)) (fun an357 n357 => ?_)
                      refine sv n357.ok rfl (wn _ rfl) rfl (o_mv n357.at_) (fun an358 n358 => ?_)
                      refine wpList_nil ?_
                      have hok : badM (natsI V) M k = 0 := badM_ok h177x hdB (by
                        rintro (q | q)
                        · rw [Int.toNat_natCast, ← hg] at q; omega
                        · exact lastD_ge hlaI164 (by omega) q)
                      have e359 := n358.ne rfl (n357.ne rfl (n349.ne rfl (n347.ne rfl (n346.ne rfl (n344.ne rfl (n343.ne rfl (n341.ne rfl (n340.ne rfl (n339.ne rfl (n304.ne rfl (n303.ne rfl (n302.ne rfl (n300.ne rfl (n298.ne rfl (n297.ne rfl (n270.ne rfl (n269.ne rfl (n268.ne rfl (n267.ne rfl (n265.ne rfl (n263.ne rfl (n262.ne rfl (n229.ne rfl (n228.ne rfl (n226.ne rfl (n225.ne rfl (n224.ne rfl (n222.ne rfl (n221.ne rfl (n220.ne rfl (n219.ne rfl (n205.ne rfl (n198.ne rfl (n197.ne rfl (n180.ne rfl (n179.ne rfl (n178.ne rfl (n172.ne rfl s2I164))))))))))))))))))))))))))))))))))))))
                      have e360 := n358.ne rfl (n357.ne rfl (n349.ne rfl (n347.ne rfl (n346.ne rfl (n344.ne rfl (n343.ne rfl (n341.ne rfl (n340.ne rfl (n339.ne rfl (n304.ne rfl (n303.ne rfl (n302.ne rfl (n300.ne rfl (n298.ne rfl (n297.ne rfl (n270.ne rfl (n269.ne rfl (n268.ne rfl (n267.ne rfl (n265.ne rfl (n263.ne rfl (n262.ne rfl (n229.ne rfl (n228.ne rfl (n226.ne rfl (n225.ne rfl (n224.ne rfl e223)))))))))))))))))))))))))))
                      have e361 := n358.ne rfl (n357.ne rfl (n349.ne rfl (n347.ne rfl (n346.ne rfl (n344.ne rfl (n343.ne rfl (n341.ne rfl (n340.ne rfl (n339.ne rfl (n304.ne rfl (n303.ne rfl (n302.ne rfl (n300.ne rfl (n298.ne rfl (n297.ne rfl (n270.ne rfl (n269.ne rfl (n268.ne rfl (n267.ne rfl (n265.ne rfl (n263.ne rfl (n262.ne rfl (n229.ne rfl (n228.ne rfl (n226.ne rfl (n225.ne rfl (n224.ne rfl (n222.ne rfl (n221.ne rfl (n220.ne rfl (n219.ne rfl (n205.ne rfl (n198.ne rfl (n197.ne rfl (n180.ne rfl (n179.ne rfl (n178.ne rfl (n172.ne rfl s52I164))))))))))))))))))))))))))))))))))))))
                      have e362 := n358.ne rfl (n357.ne rfl (n349.ne rfl (n347.ne rfl (n346.ne rfl (n344.ne rfl (n343.ne rfl (n341.ne rfl (n340.ne rfl (n339.ne rfl (n304.ne rfl (n303.ne rfl (n302.ne rfl (n300.ne rfl (n298.ne rfl (n297.ne rfl (n270.ne rfl (n269.ne rfl (n268.ne rfl (n267.ne rfl (n265.ne rfl (n263.ne rfl (n262.ne rfl (n229.ne rfl (n228.ne rfl (n226.ne rfl (n225.ne rfl (n224.ne rfl (n222.ne rfl (n221.ne rfl (n220.ne rfl (n219.ne rfl (n205.ne rfl (n198.ne rfl (n197.ne rfl (n180.ne rfl (n179.ne rfl (n178.ne rfl (n172.ne rfl s53I164))))))))))))))))))))))))))))))))))))))
                      exact th_n (hKI164 _ _ _ (by omega) ⟨k + 1, nh177, yh177, rfl, n358.ok, G353, e359, e360, (n358.ne rfl (n357.ne rfl e350)), e361, e362, n358.at_, B354, u352b, by omega, all_up hbI164 hok, .inr ⟨by omega, h177x⟩⟩)
            · refine wp_cond_false ((n172.at_).trans (congrArg Value.bool (decide_eq_false c174))) ?_
              refine wp_exit ?_
              refine th_x ?_
              refine th_x ?_
              refine ib_x ?_
              refine th_n (hK157 _ _ ?_)
              refine wp_seq_k (fun K363 hK363 => ?_)
              refine wp_region_lit ?_
              refine sv n172.ok rfl (wn _ rfl) rfl (o_as ev_const) (fun an364 n364 => ?_)
              refine wpList_nil ?_
              refine th_n (hK363 _ _ ?_)
              refine wp_ret ?_
              exact ret1 n364.ok rfl (n364.at_) ⟨by rw [chk_ok hl hcv (fun j hj => hbI164 j (by omega))], GI164⟩
        · have e365 := (n120.at_).trans (congrArg Value.bool (decide_eq_false c121))
          have e366 := ((n120.ne rfl n119.at_)).trans (congrArg Value.bool (decide_eq_false c121))
          refine sn n120.ok rfl (wgF rfl (yl 2 false rfl e365) rfl) rfl (fun an367 n367 => ?_)
          refine sn n367.ok rfl (wgF rfl (yl 2 false rfl (n367.ne rfl e365)) rfl) rfl (fun an368 n368 => ?_)
          refine sn n368.ok rfl (wgF rfl (yl 2 false rfl (n368.ne rfl (n367.ne rfl e365))) rfl) rfl (fun an369 n369 => ?_)
          have e370 := n369.ne rfl (n368.ne rfl (n367.ne rfl e365))
          refine sn n369.ok rfl (wgF rfl (yl 2 false rfl e370) rfl) rfl (fun an371 n371 => ?_)
          refine sn n371.ok rfl (wgF rfl (yl 2 false rfl (n371.ne rfl e370)) rfl) rfl (fun an372 n372 => ?_)
          refine sn n372.ok rfl (wgF rfl (yl 2 false rfl (n372.ne rfl (n371.ne rfl e370))) rfl) rfl (fun an373 n373 => ?_)
          have e374 := n373.ne rfl (n372.ne rfl (n371.ne rfl e370))
          refine sn n373.ok rfl (wgF rfl (yl 2 false rfl e374) rfl) rfl (fun an375 n375 => ?_)
          refine sv n375.ok rfl (wn _ rfl) rfl (o_pkF (n375.ne rfl e374) ev_const) (fun an376 n376 => ?_)
          refine wpList_nil ?_
          refine th_n (hK117 _ _ ?_)
          refine wp_cond_false (n376.at_) ?_
          refine wp_skip ?_
          refine th_n (hK111 _ _ ?_)
          refine wp_seq_k (fun K377 hK377 => ?_)
          refine wp_region_lit ?_
          refine sv n376.ok rfl (wn _ rfl) rfl (o_bd (cells := #[.int .i64 (-1), .int .i64 0]) (vs := [(0, .int .i64 (-1))]) (by simp [ev_const]) (by kernel_rfl)) (fun an378 n378 => ?_)
          refine sal (cs := #[.int .i64 0, .int .i64 0]) n378.ok rfl (wn _ rfl) rfl (o_al (z := .agg #[.int .i64 0, .int .i64 0]) (by kernel_rfl)) (fun an379 w381 b380 W382 n379 => ?_)
          have l383 : b3 < b380 := by rw [W382.eq]; exact kb3I60.lt
          have l384 : b42 < b380 := by rw [W382.eq]; exact kb42I60.lt
          have l385 : w.heap.size ≤ b380 := by rw [W382.eq]; exact GI60.size
          have G386 := GI60.trans W382.gr
          have B387 := kb3I60.gr W382.gr
          have B388 := kb42I60.gr W382.gr
          refine ssR rfl (wn _ rfl) (o_stR n379.at_ (n379.ne rfl n378.at_) W382.bk (by kernel_rfl) rfl (by simp [Value.oneCell'])) W382.bk (fun w389 u390 u390b => ?_)
          have G391 : Gr w w389 := Below.upd G386 l385 u390
          have B392 := B387.upd u390 (Nat.ne_of_lt l383)
          have B393 := B388.upd u390 (Nat.ne_of_lt l384)
          refine wpList_nil ?_
          refine th_n (hK377 _ _ ?_)
          refine wp_seq_k (fun K394 hK394 => ?_)
          refine wp_seq_k (fun K395 hK395 => ?_)
          refine wp_region_lit ?_
          have e396 := n379.ne rfl (n378.ne rfl (n376.ne rfl (n375.ne rfl (n373.ne rfl (n372.ne rfl (n371.ne rfl (n369.ne rfl (n368.ne rfl (n367.ne rfl (n120.ne rfl (n119.ne rfl (n118.ne rfl (n116.ne rfl (n115.ne rfl (n114.ne rfl (n113.ne rfl (n68.ne rfl s1I60)))))))))))))))))
          refine sv n379.ok rfl (wn _ rfl) rfl (o_fa (z := 1) e396 Try.underlying35 rfl (by kernel_rfl) rfl rfl) (fun an397 n397 => ?_)
          refine sv n397.ok rfl (wn _ rfl) rfl (o_ld n397.at_ (Try.isAgg33 _) (B392.cell _ rfl)) (fun an398 n398 => ?_)
          refine sv n398.ok rfl (wn _ rfl) rfl (o_len n398.at_ Try.underlying33) (fun an399 n399 => ?_)
          refine sv n399.ok rfl (wn _ rfl) rfl (o_mv ev_const) (fun an400 n400 => ?_)
          refine wpList_nil ?_
          refine th_n (hK395 _ _ ?_)
          refine wp_block ?_
          have hcv := chkV_ok hbA (.inl (by omega))
          have e402 := n400.ne rfl (n399.ne rfl (n398.ne rfl (n397.ne rfl (n379.ne rfl (n378.ne rfl (n376.ne rfl (n375.ne rfl (n373.ne rfl (n372.ne rfl (n371.ne rfl (n369.ne rfl (n368.ne rfl (n367.ne rfl (n120.ne rfl (n119.ne rfl (n118.ne rfl (n116.ne rfl (n115.ne rfl (n114.ne rfl (n113.ne rfl (n68.ne rfl s2I60)))))))))))))))))))))
          have e403 := n400.ne rfl (n399.ne rfl (n398.ne rfl (n397.ne rfl (n379.ne rfl (n378.ne rfl (n376.ne rfl (n375.ne rfl (n373.ne rfl (n372.ne rfl (n371.ne rfl (n369.ne rfl (n368.ne rfl (n367.ne rfl (n120.ne rfl (n119.ne rfl (n118.ne rfl (n116.ne rfl (n115.ne rfl (n114.ne rfl (n113.ne rfl (n68.ne rfl s3I60)))))))))))))))))))))
          have e404 := n400.ne rfl (n399.ne rfl (n398.ne rfl (n397.ne rfl n379.at_)))
          refine lp (fun (nL : Nat) (aL : Act) (wL : World) => ∃ k : Nat, ∃ la : Int, ∃ lb : Int, nL = M.length - k ∧ Ok 92 aL ∧ Gr w wL ∧ (aL.eval (.tmp 2) = .int .i64 0) ∧ (aL.eval (.tmp 3) = .pointer (some ⟨b42, 0, none⟩)) ∧ (aL.eval (.tmp 7) = .pointer (some ⟨b380, 0, none⟩)) ∧ (aL.eval (.tmp 52) = .slice ma M.length mc) ∧ (aL.eval (.tmp 53) = .int .i64 ((M.length : Nat) : Int)) ∧ (aL.eval (.tmp 54) = .int .i64 (k : Int)) ∧ (Bk wL b42 (a5 (gv V i)) 86) ∧ (Bk wL b380 #[.int .i64 (la), .int .i64 (lb)] 26) ∧ (k ≤ M.length) ∧ (∀ j, j < k → badM (natsI V) M j = 0) ∧ (lastD M k la lb)) _ ⟨0, (-1), 0, rfl, n400.ok, G391, e402, e403, e404, (n400.ne rfl (n399.ne rfl n398.at_)), (n400.ne rfl n399.at_), n400.at_, B393, u390b, by omega, fun j h => by omega, .inl ⟨rfl, rfl, rfl⟩⟩ ?_
          rintro m405 aI401 w407 ⟨k, la, lb, hmI401, okI401, GI401, s2I401, s3I401, s7I401, s52I401, s53I401, s54I401, kb42I401, kb380I401, hkI401, hbI401, hlaI401⟩ KI401 hKI401
          refine wp_seq_k (fun K408 hK408 => ?_)
          refine wp_region_lit ?_
          refine sv okI401 rfl (wn _ rfl) rfl (o_ltI s54I401 s53I401) (fun an409 n409 => ?_)
          refine wpList_nil ?_
          refine th_n (hK408 _ _ ?_)
          refine wp_seq_k (fun K410 hK410 => ?_)
          by_cases c411 : (k : Int) < ((M.length : Nat) : Int)
          · refine wp_cond_true ((n409.at_).trans (congrArg Value.bool (decide_eq_true c411))) ?_
            refine wp_skip ?_
            refine th_n (hK410 _ _ ?_)
            refine wp_seq_k (fun K412 hK412 => ?_)
            refine wp_block ?_
            refine wp_seq_k (fun K413 hK413 => ?_)
            refine wp_region_lit ?_
            have h414l : k < List.length M := by omega
            obtain ⟨bh414, fh414, h414a, h414b, h414c⟩ := hm (ne_nil_of_lt h414l)
            obtain ⟨⟨xh414, yh414⟩, h414x⟩ : ∃ x, M[k]? = some x := ⟨_, List.getElem?_eq_getElem h414l⟩
            refine sv n409.ok rfl (wn _ rfl) rfl (o_iaV (i := k) (s := 2) h414a (n409.ne rfl s52I401) (n409.ne rfl s54I401) Try.underlying33 (by kernel_rfl) h414l) (fun an415 n415 => ?_)
            refine sv n415.ok rfl (wn _ rfl) rfl (o_ldA (k := fh414 + k * 2) n415.at_ (cells_to (fun j => Below.cell GI401 h414b) (two_cells (h414c _ _ h414x).1 (h414c _ _ h414x).2)) Try.underlying26 rfl (by kernel_rfl)) (fun an416 n416 => ?_)
            refine sal (cs := #[.int .i64 0, .int .i64 0]) n416.ok rfl (wn _ rfl) rfl (o_al (z := .agg #[.int .i64 0, .int .i64 0]) (by kernel_rfl)) (fun an417 w419 b418 W420 n417 => ?_)
            have l421 : b42 < b418 := by rw [W420.eq]; exact kb42I401.lt
            have l422 : b380 < b418 := by rw [W420.eq]; exact kb380I401.lt
            have l423 : w.heap.size ≤ b418 := by rw [W420.eq]; exact GI401.size
            have G424 := GI401.trans W420.gr
            have B425 := kb42I401.gr W420.gr
            have B426 := kb380I401.gr W420.gr
            refine ssR rfl (wn _ rfl) (o_stR n417.at_ (n417.ne rfl n416.at_) W420.bk (by kernel_rfl) rfl (by simp [Value.oneCell'])) W420.bk (fun w427 u428 u428b => ?_)
            have G429 : Gr w w427 := Below.upd G424 l423 u428
            have B430 := B425.upd u428 (Nat.ne_of_lt l421)
            have B431 := B426.upd u428 (Nat.ne_of_lt l422)
            refine wpList_nil ?_
            refine th_n (hK413 _ _ ?_)
            refine wp_seq_k (fun K432 hK432 => ?_)
            refine wp_seq_k (fun K433 hK433 => ?_)
            refine wp_region_lit ?_
            refine sv n417.ok rfl (wn _ rfl) rfl (o_ldR n417.at_ u428b Try.underlying26 rfl (by kernel_rfl)) (fun an434 n434 => ?_)
            refine sc n434.ok rfl (wn _ rfl) rfl (o_f1 Try.func9 rfl rfl rfl n434.at_) (rdot_p _ _ w427) ?_
            rintro _ w436 ⟨rfl, g437⟩
            refine ⟨_, rfl, fun an435 n435 => ?_⟩
            have G438 := G429.trans g437
            have B439 := B430.gr g437
            have B440 := B431.gr g437
            have B441 := u428b.gr g437
            refine sv n435.ok rfl (wn _ rfl) rfl (o_notD n435.at_) (fun an442 n442 => ?_)
            refine wpList_nil ?_
            refine th_n (hK433 _ _ ?_)
            by_cases c443 : ¬ (dotB (xh414, yh414) = true)
            · refine wp_cond_true ((n442.at_).trans (congrArg Value.bool (decide_eq_true c443))) ?_
              refine wp_seq_k (fun K444 hK444 => ?_)
              refine wp_region_lit ?_
              refine sv n442.ok rfl (wn _ rfl) rfl (o_as ev_const) (fun an445 n445 => ?_)
              refine wpList_nil ?_
              refine th_n (hK444 _ _ ?_)
              refine wp_ret ?_
              refine th_r ?_
              refine ib_r ?_
              refine th_r ?_
              refine th_r ?_
              refine ib_r ?_
              refine th_r ?_
              have hnd : ¬ dotB (xh414, yh414) = true := c443
              exact ret1 n445.ok rfl (n445.at_) ⟨by rw [chk_dot hl hcv hbI401 (by omega) (badM_dot h414x (by simpa using hnd)) (by omega)], G438⟩
            · refine wp_cond_false ((n442.at_).trans (congrArg Value.bool (decide_eq_false c443))) ?_
              have hdB : dotB (xh414, yh414) = true := Classical.not_not.1 c443
              obtain ⟨hd1, hd2, hd3, hd4⟩ := (dotB_iff _).1 hdB
              simp only at hd1 hd2 hd3 hd4
              obtain ⟨nh414, hnh414⟩ : ∃ n : Nat, xh414 = (n : Int) := ⟨xh414.toNat, by omega⟩
              subst hnh414
              have hg := gv_cv hbA nh414 (i := i) (by omega)
              have hgl := gv_le hbA i nh414
              refine wp_skip ?_
              refine th_n (hK432 _ _ ?_)
              refine wp_seq_k (fun K446 hK446 => ?_)
              refine wp_seq_k (fun K447 hK447 => ?_)
              refine h_start [] 29 #[false, false, false, false, false, false, false, false, false, false, false, false, false, false, false, false, false, false, false, false, false, false, false, false, false, false, false, false, false] (by kernel_rfl) rfl rfl ?_
              have S448 := Sx.drew [] w436
              have g449 := (Gr.refl w436).drew
              generalize w436.drew = w450 at *
              have G451 := G438.trans g449
              have B452 := B439.gr g449
              have B453 := B440.gr g449
              have B454 := B441.gr g449
              have e455 := n442.ne rfl (n435.ne rfl (n434.ne rfl n417.at_))
              refine h_take (i := 0) (fuel := 28) n442.ok rfl rfl rfl (by kernel_rfl) (by kernel_rfl) (by kernel_rfl) (fun _ _ _ _ _ h => h) (wn _ rfl) (fun x hx => o_fa (z := 1) e455 Try.underlying26 rfl (by kernel_rfl) rfl rfl) S448 (fun an456 n456 => ?_)
              refine h_take (i := 1) (fuel := 27) n456.ok rfl rfl rfl (by kernel_rfl) (by kernel_rfl) (by kernel_rfl) (fun _ _ _ _ _ h => h) (wn _ rfl) (fun x hx => o_ld n456.at_ (Try.isAgg3 _) ((Sx.bk hx B441 (by simp <;> omega)).cell _ rfl)) S448 (fun an457 n457 => ?_)
              refine h_take (i := 2) (fuel := 26) n457.ok rfl rfl rfl (by kernel_rfl) (by kernel_rfl) (by kernel_rfl) (fun _ _ _ _ _ h => h) (wn _ rfl) (fun x hx => o_fa (z := 1) (n457.ne rfl (n456.ne rfl e455)) Try.underlying26 rfl (by kernel_rfl) rfl rfl) S448 (fun an458 n458 => ?_)
              refine h_take (i := 3) (fuel := 25) n458.ok rfl rfl rfl (by kernel_rfl) (by kernel_rfl) (by kernel_rfl) (fun _ _ _ _ _ h => h) (wn _ rfl) (fun x hx => o_ld n458.at_ (Try.isAgg3 _) ((Sx.bk hx B441 (by simp <;> omega)).cell _ rfl)) S448 (fun an459 n459 => ?_)
              have e460 := n459.ne rfl (n458.ne rfl (n457.ne rfl (n456.ne rfl (n442.ne rfl (n435.ne rfl (n434.ne rfl (n417.ne rfl (n416.ne rfl (n415.ne rfl (n409.ne rfl s3I401))))))))))
              refine h_take (i := 4) (fuel := 24) n459.ok rfl rfl rfl (by kernel_rfl) (by kernel_rfl) (by kernel_rfl) (fun _ _ _ _ _ h => h) (wn _ rfl) (fun x hx => o_iaA (i := nh414) (s := 1) e460 n459.at_ Try.underlying86 (by kernel_rfl) (by omega)) S448 (fun an461 n461 => ?_)
              refine h_take (i := 5) (fuel := 23) n461.ok rfl rfl rfl (by kernel_rfl) (by kernel_rfl) (by kernel_rfl) (fun _ _ _ _ _ h => h) (wn _ rfl) (fun x hx => o_ld n461.at_ (Try.isAgg3 _) ((Sx.bk hx B439 (by simp <;> omega)).cell _ (by rw [show 0 + (nh414) * 1 = nh414 by omega]; exact a5_at _ _ (by omega)))) S448 (fun an462 n462 => ?_)
              refine h_take (i := 6) (fuel := 22) n462.ok rfl rfl rfl (by kernel_rfl) (by kernel_rfl) (by kernel_rfl) (fun _ _ _ _ _ h => h) (wn _ rfl) (fun x hx => o_add n462.at_ ev_const rfl (by omega)) S448 (fun an463 n463 => ?_)
              have e464 := n463.ne rfl (n462.ne rfl (n461.ne rfl (n459.ne rfl (n458.ne rfl n457.at_))))
              refine h_take (i := 7) (fuel := 21) n463.ok rfl rfl rfl (by kernel_rfl) (by kernel_rfl) (by kernel_rfl) (fun _ _ _ _ _ h => h) (wn _ rfl) (fun x hx => o_ltI e464 n463.at_) S448 (fun an465 n465 => ?_)
              refine h_take (i := 8) (fuel := 20) n465.ok rfl rfl rfl (by kernel_rfl) (by kernel_rfl) (by kernel_rfl) (fun _ _ _ _ _ h => h) (wn _ rfl) (fun x hx => o_mv n465.at_) S448 (fun an466 n466 => ?_)
              by_cases c467 : yh414 < (((gv V i) (nh414)) + 2)
              · have e468 := (n466.at_).trans (congrArg Value.bool (decide_eq_true c467))
                have e469 := ((n466.ne rfl n465.at_)).trans (congrArg Value.bool (decide_eq_true c467))
                refine h_not (i := 9) (fuel := 19) n466.ok rfl rfl rfl (by kernel_rfl) (by kernel_rfl) (by kernel_rfl) (fun _ _ _ _ _ h => h) (wgF rfl (yl 8 true rfl e468) rfl) S448 (fun an470 n470 => ?_)
                refine h_not (i := 10) (fuel := 18) n470.ok rfl rfl rfl (by kernel_rfl) (by kernel_rfl) (by kernel_rfl) (fun _ _ _ _ _ h => h) (wgF rfl (yl 8 true rfl (n470.ne rfl e468)) rfl) S448 (fun an471 n471 => ?_)
                refine h_not (i := 11) (fuel := 17) n471.ok rfl rfl rfl (by kernel_rfl) (by kernel_rfl) (by kernel_rfl) (fun _ _ _ _ _ h => h) (wgF rfl (yl 8 true rfl (n471.ne rfl (n470.ne rfl e468))) rfl) S448 (fun an472 n472 => ?_)
                have e473 := n472.ne rfl (n471.ne rfl (n470.ne rfl e468))
                refine h_not (i := 12) (fuel := 16) n472.ok rfl rfl rfl (by kernel_rfl) (by kernel_rfl) (by kernel_rfl) (fun _ _ _ _ _ h => h) (wgF rfl (yl 8 true rfl e473) rfl) S448 (fun an474 n474 => ?_)
                refine h_not (i := 13) (fuel := 15) n474.ok rfl rfl rfl (by kernel_rfl) (by kernel_rfl) (by kernel_rfl) (fun _ _ _ _ _ h => h) (wgF rfl (yl 8 true rfl (n474.ne rfl e473)) rfl) S448 (fun an475 n475 => ?_)
                refine h_take (i := 14) (fuel := 14) n475.ok rfl rfl rfl (by kernel_rfl) (by kernel_rfl) (by kernel_rfl) (fun _ _ _ _ _ h => h) (wn _ rfl) (fun x hx => o_pkT (n475.ne rfl (n474.ne rfl e473)) ev_const) S448 (fun an476 n476 => ?_)
                refine h_take (i := 15) (fuel := 13) n476.ok rfl rfl rfl (by kernel_rfl) (by kernel_rfl) (by kernel_rfl) (fun _ _ _ _ _ h => h) (wn _ rfl) (fun x hx => o_mv n476.at_) S448 (fun an477 n477 => ?_)
                refine h_not (i := 16) (fuel := 12) n477.ok rfl rfl rfl (by kernel_rfl) (by kernel_rfl) (by kernel_rfl) (fun _ _ _ _ _ h => h) (wgF rfl (yl 15 true rfl n477.at_) rfl) S448 (fun an478 n478 => ?_)
                refine h_not (i := 17) (fuel := 11) n478.ok rfl rfl rfl (by kernel_rfl) (by kernel_rfl) (by kernel_rfl) (fun _ _ _ _ _ h => h) (wgF rfl (yl 15 true rfl (n478.ne rfl n477.at_)) rfl) S448 (fun an479 n479 => ?_)
                refine h_not (i := 18) (fuel := 10) n479.ok rfl rfl rfl (by kernel_rfl) (by kernel_rfl) (by kernel_rfl) (fun _ _ _ _ _ h => h) (wgF rfl (yl 15 true rfl (n479.ne rfl (n478.ne rfl n477.at_))) rfl) S448 (fun an480 n480 => ?_)
                have e481 := n480.ne rfl (n479.ne rfl (n478.ne rfl n477.at_))
                refine h_not (i := 19) (fuel := 9) n480.ok rfl rfl rfl (by kernel_rfl) (by kernel_rfl) (by kernel_rfl) (fun _ _ _ _ _ h => h) (wgF rfl (yl 15 true rfl e481) rfl) S448 (fun an482 n482 => ?_)
                refine h_not (i := 20) (fuel := 8) n482.ok rfl rfl rfl (by kernel_rfl) (by kernel_rfl) (by kernel_rfl) (fun _ _ _ _ _ h => h) (wgF rfl (yl 15 true rfl (n482.ne rfl e481)) rfl) S448 (fun an483 n483 => ?_)
                refine h_not (i := 21) (fuel := 7) n483.ok rfl rfl rfl (by kernel_rfl) (by kernel_rfl) (by kernel_rfl) (fun _ _ _ _ _ h => h) (wgF rfl (yl 15 true rfl (n483.ne rfl (n482.ne rfl e481))) rfl) S448 (fun an484 n484 => ?_)
                refine h_not (i := 22) (fuel := 6) n484.ok rfl rfl rfl (by kernel_rfl) (by kernel_rfl) (by kernel_rfl) (fun _ _ _ _ _ h => h) (wgU rfl (yu 21 rfl n484.at_)) S448 (fun an485 n485 => ?_)
                refine h_not (i := 23) (fuel := 5) n485.ok rfl rfl rfl (by kernel_rfl) (by kernel_rfl) (by kernel_rfl) (fun _ _ _ _ _ h => h) (wgU rfl (yu 21 rfl (n485.ne rfl n484.at_))) S448 (fun an486 n486 => ?_)
                refine h_not (i := 24) (fuel := 4) n486.ok rfl rfl rfl (by kernel_rfl) (by kernel_rfl) (by kernel_rfl) (fun _ _ _ _ _ h => h) (wgU rfl (yu 21 rfl (n486.ne rfl (n485.ne rfl n484.at_)))) S448 (fun an487 n487 => ?_)
                have e488 := n487.ne rfl (n486.ne rfl (n485.ne rfl n484.at_))
                refine h_not (i := 25) (fuel := 3) n487.ok rfl rfl rfl (by kernel_rfl) (by kernel_rfl) (by kernel_rfl) (fun _ _ _ _ _ h => h) (wgU rfl (yu 21 rfl e488)) S448 (fun an489 n489 => ?_)
                refine h_not (i := 26) (fuel := 2) n489.ok rfl rfl rfl (by kernel_rfl) (by kernel_rfl) (by kernel_rfl) (fun _ _ _ _ _ h => h) (wgU rfl (yu 21 rfl (n489.ne rfl e488))) S448 (fun an490 n490 => ?_)
                have e491 := n490.ne rfl (n489.ne rfl (n487.ne rfl (n486.ne rfl (n485.ne rfl (n484.ne rfl (n483.ne rfl (n482.ne rfl e481)))))))
                refine h_not (i := 27) (fuel := 1) n490.ok rfl rfl rfl (by kernel_rfl) (by kernel_rfl) (by kernel_rfl) (fun _ _ _ _ _ h => h) (wgF rfl (yl 15 true rfl e491) rfl) S448 (fun an492 n492 => ?_)
                refine h_take (i := 28) (fuel := 0) n492.ok rfl rfl rfl (by kernel_rfl) (by kernel_rfl) (by kernel_rfl) (fun _ _ _ _ _ h => h) (wn _ rfl) (fun x hx => o_pkT (n492.ne rfl e491) ev_const) S448 (fun an493 n493 => ?_)
                refine wpAnyH_done (by kernel_rfl) ?_ _
                refine th_n (hK447 _ _ ?_)
                refine wp_cond_true (n493.at_) ?_
                refine wp_seq_k (fun K494 hK494 => ?_)
                refine wp_region_lit ?_
                refine sv n493.ok rfl (wn _ rfl) rfl (o_as ev_const) (fun an495 n495 => ?_)
                refine wpList_nil ?_
                refine th_n (hK494 _ _ ?_)
                refine wp_ret ?_
                refine th_r ?_
                refine ib_r ?_
                refine th_r ?_
                refine th_r ?_
                refine ib_r ?_
                refine th_r ?_
                have hwhy : yh414 < (cv (natsI V) (nh414 : Int).toNat : Int) + 2 ∨ (0 < k ∧ ¬ ltI (M.getD (k - 1) (0, 0)) ((nh414 : Int), yh414)) := by
                  rw [Int.toNat_natCast, ← hg]
                  by_cases q : yh414 < gv V i nh414 + 2
                  · exact .inl q
                  · exact .inr (lastD_lt hlaI401 (by omega) (by omega))
                exact ret1 n495.ok rfl (n495.at_) ⟨by rw [chk_dot hl hcv hbI401 (by omega) (badM_form h414x hdB hwhy) (by omega)], G451⟩
              · have e496 := (n466.at_).trans (congrArg Value.bool (decide_eq_false c467))
                have e497 := ((n466.ne rfl n465.at_)).trans (congrArg Value.bool (decide_eq_false c467))
                have e498 := n466.ne rfl (n465.ne rfl (n463.ne rfl (n462.ne rfl (n461.ne rfl (n459.ne rfl (n458.ne rfl (n457.ne rfl (n456.ne rfl e455))))))))
                refine h_take (i := 9) (fuel := 19) n466.ok rfl rfl rfl (by kernel_rfl) (by kernel_rfl) (by kernel_rfl) (fun _ _ _ _ _ h => h) (wgT rfl (yl 8 false rfl e496) rfl) (fun x hx => o_fa (z := 1) e498 Try.underlying26 rfl (by kernel_rfl) rfl rfl) S448 (fun an499 n499 => ?_)
                refine h_take (i := 10) (fuel := 18) n499.ok rfl rfl rfl (by kernel_rfl) (by kernel_rfl) (by kernel_rfl) (fun _ _ _ _ _ h => h) (wgT rfl (yl 8 false rfl (n499.ne rfl e496)) rfl) (fun x hx => o_ld n499.at_ (Try.isAgg3 _) ((Sx.bk hx B441 (by simp <;> omega)).cell _ rfl)) S448 (fun an500 n500 => ?_)
                have e501 := n500.ne rfl (n499.ne rfl (n466.ne rfl (n465.ne rfl (n463.ne rfl (n462.ne rfl (n461.ne rfl (n459.ne rfl (n458.ne rfl (n457.ne rfl (n456.ne rfl (n442.ne rfl (n435.ne rfl (n434.ne rfl (n417.ne rfl (n416.ne rfl (n415.ne rfl (n409.ne rfl s7I401)))))))))))))))))
                refine h_take (i := 11) (fuel := 17) n500.ok rfl rfl rfl (by kernel_rfl) (by kernel_rfl) (by kernel_rfl) (fun _ _ _ _ _ h => h) (wgT rfl (yl 8 false rfl (n500.ne rfl (n499.ne rfl e496))) rfl) (fun x hx => o_fa (z := 1) e501 Try.underlying26 rfl (by kernel_rfl) rfl rfl) S448 (fun an502 n502 => ?_)
                have e503 := n502.ne rfl (n500.ne rfl (n499.ne rfl e496))
                refine h_take (i := 12) (fuel := 16) n502.ok rfl rfl rfl (by kernel_rfl) (by kernel_rfl) (by kernel_rfl) (fun _ _ _ _ _ h => h) (wgT rfl (yl 8 false rfl e503) rfl) (fun x hx => o_ld n502.at_ (Try.isAgg3 _) ((Sx.bk hx B440 (by simp <;> omega)).cell _ rfl)) S448 (fun an504 n504 => ?_)
                refine h_take (i := 13) (fuel := 15) n504.ok rfl rfl rfl (by kernel_rfl) (by kernel_rfl) (by kernel_rfl) (fun _ _ _ _ _ h => h) (wgT rfl (yl 8 false rfl (n504.ne rfl e503)) rfl) (fun x hx => o_ltI (n504.ne rfl (n502.ne rfl n500.at_)) n504.at_) S448 (fun an505 n505 => ?_)
                refine h_take (i := 14) (fuel := 14) n505.ok rfl rfl rfl (by kernel_rfl) (by kernel_rfl) (by kernel_rfl) (fun _ _ _ _ _ h => h) (wn _ rfl) (fun x hx => o_pkF (n505.ne rfl (n504.ne rfl e503)) n505.at_) S448 (fun an506 n506 => ?_)
                refine h_take (i := 15) (fuel := 13) n506.ok rfl rfl rfl (by kernel_rfl) (by kernel_rfl) (by kernel_rfl) (fun _ _ _ _ _ h => h) (wn _ rfl) (fun x hx => o_mv n506.at_) S448 (fun an507 n507 => ?_)
                by_cases c508 : (nh414 : Int) < la
                · have e509 := (n507.at_).trans (congrArg Value.bool (decide_eq_true c508))
                  have e510 := ((n507.ne rfl (n506.ne rfl n505.at_))).trans (congrArg Value.bool (decide_eq_true c508))
                  have e511 := ((n507.ne rfl n506.at_)).trans (congrArg Value.bool (decide_eq_true c508))
                  refine h_not (i := 16) (fuel := 12) n507.ok rfl rfl rfl (by kernel_rfl) (by kernel_rfl) (by kernel_rfl) (fun _ _ _ _ _ h => h) (wgF rfl (yl 15 true rfl e509) rfl) S448 (fun an512 n512 => ?_)
                  refine h_not (i := 17) (fuel := 11) n512.ok rfl rfl rfl (by kernel_rfl) (by kernel_rfl) (by kernel_rfl) (fun _ _ _ _ _ h => h) (wgF rfl (yl 15 true rfl (n512.ne rfl e509)) rfl) S448 (fun an513 n513 => ?_)
                  refine h_not (i := 18) (fuel := 10) n513.ok rfl rfl rfl (by kernel_rfl) (by kernel_rfl) (by kernel_rfl) (fun _ _ _ _ _ h => h) (wgF rfl (yl 15 true rfl (n513.ne rfl (n512.ne rfl e509))) rfl) S448 (fun an514 n514 => ?_)
                  have e515 := n514.ne rfl (n513.ne rfl (n512.ne rfl e509))
                  refine h_not (i := 19) (fuel := 9) n514.ok rfl rfl rfl (by kernel_rfl) (by kernel_rfl) (by kernel_rfl) (fun _ _ _ _ _ h => h) (wgF rfl (yl 15 true rfl e515) rfl) S448 (fun an516 n516 => ?_)
                  refine h_not (i := 20) (fuel := 8) n516.ok rfl rfl rfl (by kernel_rfl) (by kernel_rfl) (by kernel_rfl) (fun _ _ _ _ _ h => h) (wgF rfl (yl 15 true rfl (n516.ne rfl e515)) rfl) S448 (fun an517 n517 => ?_)
                  refine h_not (i := 21) (fuel := 7) n517.ok rfl rfl rfl (by kernel_rfl) (by kernel_rfl) (by kernel_rfl) (fun _ _ _ _ _ h => h) (wgF rfl (yl 15 true rfl (n517.ne rfl (n516.ne rfl e515))) rfl) S448 (fun an518 n518 => ?_)
                  refine h_not (i := 22) (fuel := 6) n518.ok rfl rfl rfl (by kernel_rfl) (by kernel_rfl) (by kernel_rfl) (fun _ _ _ _ _ h => h) (wgU rfl (yu 21 rfl n518.at_)) S448 (fun an519 n519 => ?_)
                  refine h_not (i := 23) (fuel := 5) n519.ok rfl rfl rfl (by kernel_rfl) (by kernel_rfl) (by kernel_rfl) (fun _ _ _ _ _ h => h) (wgU rfl (yu 21 rfl (n519.ne rfl n518.at_))) S448 (fun an520 n520 => ?_)
                  refine h_not (i := 24) (fuel := 4) n520.ok rfl rfl rfl (by kernel_rfl) (by kernel_rfl) (by kernel_rfl) (fun _ _ _ _ _ h => h) (wgU rfl (yu 21 rfl (n520.ne rfl (n519.ne rfl n518.at_)))) S448 (fun an521 n521 => ?_)
                  have e522 := n521.ne rfl (n520.ne rfl (n519.ne rfl n518.at_))
                  refine h_not (i := 25) (fuel := 3) n521.ok rfl rfl rfl (by kernel_rfl) (by kernel_rfl) (by kernel_rfl) (fun _ _ _ _ _ h => h) (wgU rfl (yu 21 rfl e522)) S448 (fun an523 n523 => ?_)
                  refine h_not (i := 26) (fuel := 2) n523.ok rfl rfl rfl (by kernel_rfl) (by kernel_rfl) (by kernel_rfl) (fun _ _ _ _ _ h => h) (wgU rfl (yu 21 rfl (n523.ne rfl e522))) S448 (fun an524 n524 => ?_)
                  have e525 := n524.ne rfl (n523.ne rfl (n521.ne rfl (n520.ne rfl (n519.ne rfl (n518.ne rfl (n517.ne rfl (n516.ne rfl e515)))))))
                  refine h_not (i := 27) (fuel := 1) n524.ok rfl rfl rfl (by kernel_rfl) (by kernel_rfl) (by kernel_rfl) (fun _ _ _ _ _ h => h) (wgF rfl (yl 15 true rfl e525) rfl) S448 (fun an526 n526 => ?_)
                  refine h_take (i := 28) (fuel := 0) n526.ok rfl rfl rfl (by kernel_rfl) (by kernel_rfl) (by kernel_rfl) (fun _ _ _ _ _ h => h) (wn _ rfl) (fun x hx => o_pkT (n526.ne rfl e525) ev_const) S448 (fun an527 n527 => ?_)
                  refine wpAnyH_done (by kernel_rfl) ?_ _
                  refine th_n (hK447 _ _ ?_)
                  refine wp_cond_true (n527.at_) ?_
                  refine wp_seq_k (fun K528 hK528 => ?_)
                  refine wp_region_lit ?_
                  refine sv n527.ok rfl (wn _ rfl) rfl (o_as ev_const) (fun an529 n529 => ?_)
                  refine wpList_nil ?_
                  refine th_n (hK528 _ _ ?_)
                  refine wp_ret ?_
                  refine th_r ?_
                  refine ib_r ?_
                  refine th_r ?_
                  refine th_r ?_
                  refine ib_r ?_
                  refine th_r ?_
                  have hwhy : yh414 < (cv (natsI V) (nh414 : Int).toNat : Int) + 2 ∨ (0 < k ∧ ¬ ltI (M.getD (k - 1) (0, 0)) ((nh414 : Int), yh414)) := by
                    rw [Int.toNat_natCast, ← hg]
                    by_cases q : yh414 < gv V i nh414 + 2
                    · exact .inl q
                    · exact .inr (lastD_lt hlaI401 (by omega) (by omega))
                  exact ret1 n529.ok rfl (n529.at_) ⟨by rw [chk_dot hl hcv hbI401 (by omega) (badM_form h414x hdB hwhy) (by omega)], G451⟩
                · have e530 := (n507.at_).trans (congrArg Value.bool (decide_eq_false c508))
                  have e531 := ((n507.ne rfl (n506.ne rfl n505.at_))).trans (congrArg Value.bool (decide_eq_false c508))
                  have e532 := ((n507.ne rfl n506.at_)).trans (congrArg Value.bool (decide_eq_false c508))
                  have e533 := n507.ne rfl (n506.ne rfl (n505.ne rfl (n504.ne rfl (n502.ne rfl (n500.ne rfl (n499.ne rfl e498))))))
                  refine h_take (i := 16) (fuel := 12) n507.ok rfl rfl rfl (by kernel_rfl) (by kernel_rfl) (by kernel_rfl) (fun _ _ _ _ _ h => h) (wgT rfl (yl 15 false rfl e530) rfl) (fun x hx => o_fa (z := 1) e533 Try.underlying26 rfl (by kernel_rfl) rfl rfl) S448 (fun an534 n534 => ?_)
                  refine h_take (i := 17) (fuel := 11) n534.ok rfl rfl rfl (by kernel_rfl) (by kernel_rfl) (by kernel_rfl) (fun _ _ _ _ _ h => h) (wgT rfl (yl 15 false rfl (n534.ne rfl e530)) rfl) (fun x hx => o_ld n534.at_ (Try.isAgg3 _) ((Sx.bk hx B441 (by simp <;> omega)).cell _ rfl)) S448 (fun an535 n535 => ?_)
                  have e536 := n535.ne rfl (n534.ne rfl (n507.ne rfl (n506.ne rfl (n505.ne rfl (n504.ne rfl (n502.ne rfl e501))))))
                  refine h_take (i := 18) (fuel := 10) n535.ok rfl rfl rfl (by kernel_rfl) (by kernel_rfl) (by kernel_rfl) (fun _ _ _ _ _ h => h) (wgT rfl (yl 15 false rfl (n535.ne rfl (n534.ne rfl e530))) rfl) (fun x hx => o_fa (z := 1) e536 Try.underlying26 rfl (by kernel_rfl) rfl rfl) S448 (fun an537 n537 => ?_)
                  have e538 := n537.ne rfl (n535.ne rfl (n534.ne rfl e530))
                  refine h_take (i := 19) (fuel := 9) n537.ok rfl rfl rfl (by kernel_rfl) (by kernel_rfl) (by kernel_rfl) (fun _ _ _ _ _ h => h) (wgT rfl (yl 15 false rfl e538) rfl) (fun x hx => o_ld n537.at_ (Try.isAgg3 _) ((Sx.bk hx B440 (by simp <;> omega)).cell _ rfl)) S448 (fun an539 n539 => ?_)
                  refine h_take (i := 20) (fuel := 8) n539.ok rfl rfl rfl (by kernel_rfl) (by kernel_rfl) (by kernel_rfl) (fun _ _ _ _ _ h => h) (wgT rfl (yl 15 false rfl (n539.ne rfl e538)) rfl) (fun x hx => o_eqI (n539.ne rfl (n537.ne rfl n535.at_)) n539.at_) S448 (fun an540 n540 => ?_)
                  refine h_take (i := 21) (fuel := 7) n540.ok rfl rfl rfl (by kernel_rfl) (by kernel_rfl) (by kernel_rfl) (fun _ _ _ _ _ h => h) (wgT rfl (yl 15 false rfl (n540.ne rfl (n539.ne rfl e538))) rfl) (fun x hx => o_mv n540.at_) S448 (fun an541 n541 => ?_)
                  by_cases c542 : (nh414 : Int) = la
                  · have e543 := (n541.at_).trans (congrArg Value.bool (decide_eq_true c542))
                    have e544 := ((n541.ne rfl n540.at_)).trans (congrArg Value.bool (decide_eq_true c542))
                    have e545 := n541.ne rfl (n540.ne rfl (n539.ne rfl (n537.ne rfl (n535.ne rfl (n534.ne rfl e533)))))
                    refine h_take (i := 22) (fuel := 6) n541.ok rfl rfl rfl (by kernel_rfl) (by kernel_rfl) (by kernel_rfl) (fun _ _ _ _ _ h => h) (wgT rfl (yl 21 true rfl e543) rfl) (fun x hx => o_fa (z := 1) e545 Try.underlying26 rfl (by kernel_rfl) rfl rfl) S448 (fun an546 n546 => ?_)
                    refine h_take (i := 23) (fuel := 5) n546.ok rfl rfl rfl (by kernel_rfl) (by kernel_rfl) (by kernel_rfl) (fun _ _ _ _ _ h => h) (wgT rfl (yl 21 true rfl (n546.ne rfl e543)) rfl) (fun x hx => o_ld n546.at_ (Try.isAgg3 _) ((Sx.bk hx B441 (by simp <;> omega)).cell _ rfl)) S448 (fun an547 n547 => ?_)
                    have e548 := n547.ne rfl (n546.ne rfl (n541.ne rfl (n540.ne rfl (n539.ne rfl (n537.ne rfl e536)))))
                    refine h_take (i := 24) (fuel := 4) n547.ok rfl rfl rfl (by kernel_rfl) (by kernel_rfl) (by kernel_rfl) (fun _ _ _ _ _ h => h) (wgT rfl (yl 21 true rfl (n547.ne rfl (n546.ne rfl e543))) rfl) (fun x hx => o_fa (z := 1) e548 Try.underlying26 rfl (by kernel_rfl) rfl rfl) S448 (fun an549 n549 => ?_)
                    have e550 := n549.ne rfl (n547.ne rfl (n546.ne rfl e543))
                    refine h_take (i := 25) (fuel := 3) n549.ok rfl rfl rfl (by kernel_rfl) (by kernel_rfl) (by kernel_rfl) (fun _ _ _ _ _ h => h) (wgT rfl (yl 21 true rfl e550) rfl) (fun x hx => o_ld n549.at_ (Try.isAgg3 _) ((Sx.bk hx B440 (by simp <;> omega)).cell _ rfl)) S448 (fun an551 n551 => ?_)
                    refine h_take (i := 26) (fuel := 2) n551.ok rfl rfl rfl (by kernel_rfl) (by kernel_rfl) (by kernel_rfl) (fun _ _ _ _ _ h => h) (wgT rfl (yl 21 true rfl (n551.ne rfl e550)) rfl) (fun x hx => o_leI (n551.ne rfl (n549.ne rfl n547.at_)) n551.at_) S448 (fun an552 n552 => ?_)
                    have e553 := n552.ne rfl (n551.ne rfl (n549.ne rfl (n547.ne rfl (n546.ne rfl (n541.ne rfl (n540.ne rfl (n539.ne rfl e538)))))))
                    refine h_take (i := 27) (fuel := 1) n552.ok rfl rfl rfl (by kernel_rfl) (by kernel_rfl) (by kernel_rfl) (fun _ _ _ _ _ h => h) (wgT rfl (yl 15 false rfl e553) rfl) (fun x hx => o_pkT (n552.ne rfl (n551.ne rfl e550)) n552.at_) S448 (fun an554 n554 => ?_)
                    refine h_take (i := 28) (fuel := 0) n554.ok rfl rfl rfl (by kernel_rfl) (by kernel_rfl) (by kernel_rfl) (fun _ _ _ _ _ h => h) (wn _ rfl) (fun x hx => o_pkF (n554.ne rfl e553) n554.at_) S448 (fun an555 n555 => ?_)
                    refine wpAnyH_done (by kernel_rfl) ?_ _
                    refine th_n (hK447 _ _ ?_)
                    by_cases c556 : yh414 ≤ lb
                    · refine wp_cond_true ((n555.at_).trans (congrArg Value.bool (decide_eq_true c556))) ?_
                      refine wp_seq_k (fun K557 hK557 => ?_)
                      refine wp_region_lit ?_
                      refine sv n555.ok rfl (wn _ rfl) rfl (o_as ev_const) (fun an558 n558 => ?_)
                      refine wpList_nil ?_
                      refine th_n (hK557 _ _ ?_)
                      refine wp_ret ?_
                      refine th_r ?_
                      refine ib_r ?_
                      refine th_r ?_
                      refine th_r ?_
                      refine ib_r ?_
                      refine th_r ?_
                      have hwhy : yh414 < (cv (natsI V) (nh414 : Int).toNat : Int) + 2 ∨ (0 < k ∧ ¬ ltI (M.getD (k - 1) (0, 0)) ((nh414 : Int), yh414)) := by
                        rw [Int.toNat_natCast, ← hg]
                        by_cases q : yh414 < gv V i nh414 + 2
                        · exact .inl q
                        · exact .inr (lastD_lt hlaI401 (by omega) (by omega))
                      exact ret1 n558.ok rfl (n558.at_) ⟨by rw [chk_dot hl hcv hbI401 (by omega) (badM_form h414x hdB hwhy) (by omega)], G451⟩
                    · refine wp_cond_false ((n555.at_).trans (congrArg Value.bool (decide_eq_false c556))) ?_
                      refine wp_skip ?_
                      refine th_n (hK446 _ _ ?_)
                      refine wp_region_lit ?_
                      have e559 := n555.ne rfl (n554.ne rfl (n552.ne rfl (n551.ne rfl (n549.ne rfl (n547.ne rfl (n546.ne rfl e545))))))
                      refine sv n555.ok rfl (wn _ rfl) rfl (o_ldR e559 B454 Try.underlying26 rfl (by kernel_rfl)) (fun an560 n560 => ?_)
                      have e561 := n560.ne rfl (n555.ne rfl (n554.ne rfl (n552.ne rfl (n551.ne rfl (n549.ne rfl e548)))))
                      refine ssR rfl (wn _ rfl) (o_stR e561 n560.at_ B453 (by kernel_rfl) rfl (by simp [Value.oneCell'])) B453 (fun w562 u563 u563b => ?_)
                      have G564 : Gr w w562 := Below.upd G451 l385 u563
                      have B565 := B452.upd u563 (Nat.ne_of_lt l384)
                      have B566 := B454.upd u563 (Nat.ne_of_gt l422)
                      refine wpList_nil ?_
                      refine ib_n ?_
                      refine th_n (hK412 _ _ ?_)
                      refine wp_region_lit ?_
                      have e567 := n560.ne rfl (n555.ne rfl (n554.ne rfl (n552.ne rfl (n551.ne rfl (n549.ne rfl (n547.ne rfl (n546.ne rfl (n541.ne rfl (n540.ne rfl (n539.ne rfl (n537.ne rfl (n535.ne rfl (n534.ne rfl (n507.ne rfl (n506.ne rfl (n505.ne rfl (n504.ne rfl (n502.ne rfl (n500.ne rfl (n499.ne rfl (n466.ne rfl (n465.ne rfl (n463.ne rfl (n462.ne rfl (n461.ne rfl (n459.ne rfl (n458.ne rfl (n457.ne rfl (n456.ne rfl (n442.ne rfl (n435.ne rfl (n434.ne rfl (n417.ne rfl (n416.ne rfl (n415.ne rfl (n409.ne rfl s54I401))))))))))))))))))))))))))))))))))))
                      refine sv n560.ok rfl (wn _ rfl) rfl (o_add (r := ((k + 1 : Nat) : Int)) e567 ev_const (by omega) (by omega)) (fun an568 n568 => ?_)
                      refine sv n568.ok rfl (wn _ rfl) rfl (o_mv n568.at_) (fun an569 n569 => ?_)
                      refine wpList_nil ?_
                      have hok : badM (natsI V) M k = 0 := badM_ok h414x hdB (by
                        rintro (q | q)
                        · rw [Int.toNat_natCast, ← hg] at q; omega
                        · exact lastD_ge hlaI401 (by omega) q)
                      have e570 := n569.ne rfl (n568.ne rfl (n560.ne rfl (n555.ne rfl (n554.ne rfl (n552.ne rfl (n551.ne rfl (n549.ne rfl (n547.ne rfl (n546.ne rfl (n541.ne rfl (n540.ne rfl (n539.ne rfl (n537.ne rfl (n535.ne rfl (n534.ne rfl (n507.ne rfl (n506.ne rfl (n505.ne rfl (n504.ne rfl (n502.ne rfl (n500.ne rfl (n499.ne rfl (n466.ne rfl (n465.ne rfl (n463.ne rfl (n462.ne rfl (n461.ne rfl (n459.ne rfl (n458.ne rfl (n457.ne rfl (n456.ne rfl (n442.ne rfl (n435.ne rfl (n434.ne rfl (n417.ne rfl (n416.ne rfl (n415.ne rfl (n409.ne rfl s2I401))))))))))))))))))))))))))))))))))))))
                      have e571 := n569.ne rfl (n568.ne rfl (n560.ne rfl (n555.ne rfl (n554.ne rfl (n552.ne rfl (n551.ne rfl (n549.ne rfl (n547.ne rfl (n546.ne rfl (n541.ne rfl (n540.ne rfl (n539.ne rfl (n537.ne rfl (n535.ne rfl (n534.ne rfl (n507.ne rfl (n506.ne rfl (n505.ne rfl (n504.ne rfl (n502.ne rfl (n500.ne rfl (n499.ne rfl (n466.ne rfl (n465.ne rfl (n463.ne rfl (n462.ne rfl (n461.ne rfl e460)))))))))))))))))))))))))))
                      have e572 := n569.ne rfl (n568.ne rfl (n560.ne rfl (n555.ne rfl (n554.ne rfl (n552.ne rfl (n551.ne rfl (n549.ne rfl (n547.ne rfl (n546.ne rfl (n541.ne rfl (n540.ne rfl (n539.ne rfl (n537.ne rfl (n535.ne rfl (n534.ne rfl (n507.ne rfl (n506.ne rfl (n505.ne rfl (n504.ne rfl (n502.ne rfl (n500.ne rfl (n499.ne rfl (n466.ne rfl (n465.ne rfl (n463.ne rfl (n462.ne rfl (n461.ne rfl (n459.ne rfl (n458.ne rfl (n457.ne rfl (n456.ne rfl (n442.ne rfl (n435.ne rfl (n434.ne rfl (n417.ne rfl (n416.ne rfl (n415.ne rfl (n409.ne rfl s52I401))))))))))))))))))))))))))))))))))))))
                      have e573 := n569.ne rfl (n568.ne rfl (n560.ne rfl (n555.ne rfl (n554.ne rfl (n552.ne rfl (n551.ne rfl (n549.ne rfl (n547.ne rfl (n546.ne rfl (n541.ne rfl (n540.ne rfl (n539.ne rfl (n537.ne rfl (n535.ne rfl (n534.ne rfl (n507.ne rfl (n506.ne rfl (n505.ne rfl (n504.ne rfl (n502.ne rfl (n500.ne rfl (n499.ne rfl (n466.ne rfl (n465.ne rfl (n463.ne rfl (n462.ne rfl (n461.ne rfl (n459.ne rfl (n458.ne rfl (n457.ne rfl (n456.ne rfl (n442.ne rfl (n435.ne rfl (n434.ne rfl (n417.ne rfl (n416.ne rfl (n415.ne rfl (n409.ne rfl s53I401))))))))))))))))))))))))))))))))))))))
                      exact th_n (hKI401 _ _ _ (by omega) ⟨k + 1, nh414, yh414, rfl, n569.ok, G564, e570, e571, (n569.ne rfl (n568.ne rfl e561)), e572, e573, n569.at_, B565, u563b, by omega, all_up hbI401 hok, .inr ⟨by omega, h414x⟩⟩)
                  · have e574 := (n541.at_).trans (congrArg Value.bool (decide_eq_false c542))
                    have e575 := ((n541.ne rfl n540.at_)).trans (congrArg Value.bool (decide_eq_false c542))
                    refine h_not (i := 22) (fuel := 6) n541.ok rfl rfl rfl (by kernel_rfl) (by kernel_rfl) (by kernel_rfl) (fun _ _ _ _ _ h => h) (wgF rfl (yl 21 false rfl e574) rfl) S448 (fun an576 n576 => ?_)
                    refine h_not (i := 23) (fuel := 5) n576.ok rfl rfl rfl (by kernel_rfl) (by kernel_rfl) (by kernel_rfl) (fun _ _ _ _ _ h => h) (wgF rfl (yl 21 false rfl (n576.ne rfl e574)) rfl) S448 (fun an577 n577 => ?_)
                    refine h_not (i := 24) (fuel := 4) n577.ok rfl rfl rfl (by kernel_rfl) (by kernel_rfl) (by kernel_rfl) (fun _ _ _ _ _ h => h) (wgF rfl (yl 21 false rfl (n577.ne rfl (n576.ne rfl e574))) rfl) S448 (fun an578 n578 => ?_)
                    have e579 := n578.ne rfl (n577.ne rfl (n576.ne rfl e574))
                    refine h_not (i := 25) (fuel := 3) n578.ok rfl rfl rfl (by kernel_rfl) (by kernel_rfl) (by kernel_rfl) (fun _ _ _ _ _ h => h) (wgF rfl (yl 21 false rfl e579) rfl) S448 (fun an580 n580 => ?_)
                    refine h_not (i := 26) (fuel := 2) n580.ok rfl rfl rfl (by kernel_rfl) (by kernel_rfl) (by kernel_rfl) (fun _ _ _ _ _ h => h) (wgF rfl (yl 21 false rfl (n580.ne rfl e579)) rfl) S448 (fun an581 n581 => ?_)
                    have e582 := n581.ne rfl (n580.ne rfl (n578.ne rfl (n577.ne rfl (n576.ne rfl (n541.ne rfl (n540.ne rfl (n539.ne rfl e538)))))))
                    refine h_take (i := 27) (fuel := 1) n581.ok rfl rfl rfl (by kernel_rfl) (by kernel_rfl) (by kernel_rfl) (fun _ _ _ _ _ h => h) (wgT rfl (yl 15 false rfl e582) rfl) (fun x hx => o_pkF (n581.ne rfl (n580.ne rfl e579)) ev_const) S448 (fun an583 n583 => ?_)
                    refine h_take (i := 28) (fuel := 0) n583.ok rfl rfl rfl (by kernel_rfl) (by kernel_rfl) (by kernel_rfl) (fun _ _ _ _ _ h => h) (wn _ rfl) (fun x hx => o_pkF (n583.ne rfl e582) n583.at_) S448 (fun an584 n584 => ?_)
                    refine wpAnyH_done (by kernel_rfl) ?_ _
                    refine th_n (hK447 _ _ ?_)
                    refine wp_cond_false (n584.at_) ?_
                    refine wp_skip ?_
                    refine th_n (hK446 _ _ ?_)
                    refine wp_region_lit ?_
                    have e585 := n584.ne rfl (n583.ne rfl (n581.ne rfl (n580.ne rfl (n578.ne rfl (n577.ne rfl (n576.ne rfl (n541.ne rfl (n540.ne rfl (n539.ne rfl (n537.ne rfl (n535.ne rfl (n534.ne rfl e533))))))))))))
                    refine sv n584.ok rfl (wn _ rfl) rfl (o_ldR e585 B454 Try.underlying26 rfl (by kernel_rfl)) (fun an586 n586 => ?_)
                    have e587 := n586.ne rfl (n584.ne rfl (n583.ne rfl (n581.ne rfl (n580.ne rfl (n578.ne rfl (n577.ne rfl (n576.ne rfl (n541.ne rfl (n540.ne rfl (n539.ne rfl (n537.ne rfl e536)))))))))))
                    refine ssR rfl (wn _ rfl) (o_stR e587 n586.at_ B453 (by kernel_rfl) rfl (by simp [Value.oneCell'])) B453 (fun w588 u589 u589b => ?_)
                    have G590 : Gr w w588 := Below.upd G451 l385 u589
                    have B591 := B452.upd u589 (Nat.ne_of_lt l384)
                    have B592 := B454.upd u589 (Nat.ne_of_gt l422)
                    refine wpList_nil ?_
                    refine ib_n ?_
                    refine th_n (hK412 _ _ ?_)
                    refine wp_region_lit ?_
                    have e593 := n586.ne rfl (n584.ne rfl (n583.ne rfl (n581.ne rfl (n580.ne rfl (n578.ne rfl (n577.ne rfl (n576.ne rfl (n541.ne rfl (n540.ne rfl (n539.ne rfl (n537.ne rfl (n535.ne rfl (n534.ne rfl (n507.ne rfl (n506.ne rfl (n505.ne rfl (n504.ne rfl (n502.ne rfl (n500.ne rfl (n499.ne rfl (n466.ne rfl (n465.ne rfl (n463.ne rfl (n462.ne rfl (n461.ne rfl (n459.ne rfl (n458.ne rfl (n457.ne rfl (n456.ne rfl (n442.ne rfl (n435.ne rfl (n434.ne rfl (n417.ne rfl (n416.ne rfl (n415.ne rfl (n409.ne rfl s54I401))))))))))))))))))))))))))))))))))))
                    refine sv n586.ok rfl (wn _ rfl) rfl (o_add (r := ((k + 1 : Nat) : Int)) e593 ev_const (by omega) (by omega)) (fun an594 n594 => ?_)
                    refine sv n594.ok rfl (wn _ rfl) rfl (o_mv n594.at_) (fun an595 n595 => ?_)
                    refine wpList_nil ?_
                    have hok : badM (natsI V) M k = 0 := badM_ok h414x hdB (by
                      rintro (q | q)
                      · rw [Int.toNat_natCast, ← hg] at q; omega
                      · exact lastD_ge hlaI401 (by omega) q)
                    have e596 := n595.ne rfl (n594.ne rfl (n586.ne rfl (n584.ne rfl (n583.ne rfl (n581.ne rfl (n580.ne rfl (n578.ne rfl (n577.ne rfl (n576.ne rfl (n541.ne rfl (n540.ne rfl (n539.ne rfl (n537.ne rfl (n535.ne rfl (n534.ne rfl (n507.ne rfl (n506.ne rfl (n505.ne rfl (n504.ne rfl (n502.ne rfl (n500.ne rfl (n499.ne rfl (n466.ne rfl (n465.ne rfl (n463.ne rfl (n462.ne rfl (n461.ne rfl (n459.ne rfl (n458.ne rfl (n457.ne rfl (n456.ne rfl (n442.ne rfl (n435.ne rfl (n434.ne rfl (n417.ne rfl (n416.ne rfl (n415.ne rfl (n409.ne rfl s2I401))))))))))))))))))))))))))))))))))))))
                    have e597 := n595.ne rfl (n594.ne rfl (n586.ne rfl (n584.ne rfl (n583.ne rfl (n581.ne rfl (n580.ne rfl (n578.ne rfl (n577.ne rfl (n576.ne rfl (n541.ne rfl (n540.ne rfl (n539.ne rfl (n537.ne rfl (n535.ne rfl (n534.ne rfl (n507.ne rfl (n506.ne rfl (n505.ne rfl (n504.ne rfl (n502.ne rfl (n500.ne rfl (n499.ne rfl (n466.ne rfl (n465.ne rfl (n463.ne rfl (n462.ne rfl (n461.ne rfl e460)))))))))))))))))))))))))))
                    have e598 := n595.ne rfl (n594.ne rfl (n586.ne rfl (n584.ne rfl (n583.ne rfl (n581.ne rfl (n580.ne rfl (n578.ne rfl (n577.ne rfl (n576.ne rfl (n541.ne rfl (n540.ne rfl (n539.ne rfl (n537.ne rfl (n535.ne rfl (n534.ne rfl (n507.ne rfl (n506.ne rfl (n505.ne rfl (n504.ne rfl (n502.ne rfl (n500.ne rfl (n499.ne rfl (n466.ne rfl (n465.ne rfl (n463.ne rfl (n462.ne rfl (n461.ne rfl (n459.ne rfl (n458.ne rfl (n457.ne rfl (n456.ne rfl (n442.ne rfl (n435.ne rfl (n434.ne rfl (n417.ne rfl (n416.ne rfl (n415.ne rfl (n409.ne rfl s52I401))))))))))))))))))))))))))))))))))))))
                    have e599 := n595.ne rfl (n594.ne rfl (n586.ne rfl (n584.ne rfl (n583.ne rfl (n581.ne rfl (n580.ne rfl (n578.ne rfl (n577.ne rfl (n576.ne rfl (n541.ne rfl (n540.ne rfl (n539.ne rfl (n537.ne rfl (n535.ne rfl (n534.ne rfl (n507.ne rfl (n506.ne rfl (n505.ne rfl (n504.ne rfl (n502.ne rfl (n500.ne rfl (n499.ne rfl (n466.ne rfl (n465.ne rfl (n463.ne rfl (n462.ne rfl (n461.ne rfl (n459.ne rfl (n458.ne rfl (n457.ne rfl (n456.ne rfl (n442.ne rfl (n435.ne rfl (n434.ne rfl (n417.ne rfl (n416.ne rfl (n415.ne rfl (n409.ne rfl s53I401))))))))))))))))))))))))))))))))))))))
                    exact th_n (hKI401 _ _ _ (by omega) ⟨k + 1, nh414, yh414, rfl, n595.ok, G590, e596, e597, (n595.ne rfl (n594.ne rfl e587)), e598, e599, n595.at_, B591, u589b, by omega, all_up hbI401 hok, .inr ⟨by omega, h414x⟩⟩)
          · refine wp_cond_false ((n409.at_).trans (congrArg Value.bool (decide_eq_false c411))) ?_
            refine wp_exit ?_
            refine th_x ?_
            refine th_x ?_
            refine ib_x ?_
            refine th_n (hK394 _ _ ?_)
            refine wp_seq_k (fun K600 hK600 => ?_)
            refine wp_region_lit ?_
            refine sv n409.ok rfl (wn _ rfl) rfl (o_as ev_const) (fun an601 n601 => ?_)
            refine wpList_nil ?_
            refine th_n (hK600 _ _ ?_)
            refine wp_ret ?_
            exact ret1 n601.ok rfl (n601.at_) ⟨by rw [chk_ok hl hcv (fun j hj => hbI401 j (by omega))], GI401⟩
theorem rknow_any (k : Value) (V : List Int) (M : List (Int × Int)) (w : World) (hk : KnR w k V M) : Calls Try.prog 25 #[k] w fun e w' => e = .returned (.int .i64 (chkK V M)) ∧ Gr w w' := by
  obtain ⟨va, vc, ma, mc, rfl, hv, hm⟩ := knr_form hk
  exact rknow_k va ma vc mc V M w hv hm
end Go.Proofs.Ythcehgmpajejeaa

/- Answers of the sets of dots in one form. -/
set_option linter.unusedVariables false
set_option linter.unusedSimpArgs false
namespace Rm
/-- what build answers: the error, the vector, the dots behind it -/
def frE (D : DS) : Int := if (formM D).length ≤ 60 then 0 else 2
def frV (D : DS) : List Nat := if (formM D).length ≤ 60 then formV D else []
def frM (D : DS) : List (Nat × Nat) := if (formM D).length ≤ 60 then formM D else []
end Rm
namespace Go.Proofs.Ythcehgmpajejeaa
open Go.RowKit Rm Gx
theorem frmK.one {base : Nat} {w : World} {e : Ending} {D : DS} (h : frmK base w e D) : ∃ k, e = .returned (.tuple #[k, .int .i64 (frE D)]) ∧ KnO base w k (frV D) (frM D) := by
  obtain ⟨k, r, rfl, ⟨h1, rfl, h2⟩ | ⟨h1, rfl, h2⟩⟩ := h
  · exact ⟨k, by unfold frE; rw [if_pos h1], by unfold frV frM; rw [if_pos h1, if_pos h1]; exact h2⟩
  · have h1' : ¬ (formM D).length ≤ 60 := by omega
    exact ⟨k, by unfold frE; rw [if_neg h1'], by unfold frV frM; rw [if_neg h1', if_neg h1']; exact h2⟩
theorem KnO.form {base : Nat} {w : World} {k : Value} {v : List Nat} {m : List (Nat × Nat)} (h : KnO base w k v m) : ∃ va vc ma mc, k = .agg #[.slice va (ints v).length vc, .slice ma (pairs m).length mc] := by
  obtain ⟨vv, mv, rfl, h1, h2⟩ := h
  obtain ⟨a, c, rfl, -⟩ := ow_form h1
  obtain ⟨a', c', rfl, -⟩ := ow_form h2
  exact ⟨a, c, a', c', by rw [ints_len, pairs_len]⟩
theorem chkA_1 {V : List Int} {M : List (Int × Int)} {x y : Int} (h : chkK V M = 0) (hd : dotB (x, y) = false) : chkA V M (x, y) = 1 := by unfold chkA; rw [if_neg (by simp [h]), hd]; rfl
end Go.Proofs.Ythcehgmpajejeaa

/- Equal words; small sets that are written out. -/
set_option linter.unusedVariables false
set_option linter.unusedSimpArgs false
namespace Rm
open Go Go.RowKit Gx
/-- all words are the same -/
def eqX (X Y : Nat → Nat) : Bool := (List.range 5).all fun i => (List.range 16).all fun k => ((X (i * 16 + k) : Nat) : Int) == ((Y (i * 16 + k) : Nat) : Int)
theorem eqX_iff (X Y : Nat → Nat) : eqX X Y = true ↔ ∀ s, s < 5 → ∀ k, k < 16 → X (s * 16 + k) = Y (s * 16 + k) := by
  unfold eqX
  simp only [List.all_eq_true, List.mem_range, beq_iff_eq]
  constructor
  · intro h s hs k hk; have := h s hs k hk; omega
  · intro h s hs k hk; have := h s hs k hk; omega
end Rm
namespace Go.Proofs.Ythcehgmpajejeaa
open Go.RowKit Rm Gx
theorem eqItems_step {D : Nat} {e : TypeId} {n i : Nat} {xs ys : Array Value} {is : List Nat} {u v : Value} {b r : Bool} {w : World} (p1 : (part e xs (i * n)).run Try.prog w = .ok u w) (p2 : (part e ys (i * n)).run Try.prog w = .ok v w)
    (hb : (Op.equalIn D e u v).run Try.prog w = .ok b w) (hr : (Op.eqItems D e n xs ys is).run Try.prog w = .ok r w) : (Op.eqItems D e n xs ys (i :: is)).run Try.prog w = .ok (b && r) w := by
  simp only [Op.eqItems, Sem.run_bind, p1, p2, hb, Result.andThen_ok]
  cases b
  · simp
  · simp [hr]
theorem u64_cells : Try.prog.cellsOf 63 = 1 := by kernel_rfl
theorem row_cells : Try.prog.cellsOf 64 = 16 := by kernel_rfl
theorem wRow_at (X : Nat → Nat) (i k : Nat) (hi : i < 5) (hk : k < 16) : ((wArr X).extract (i * 16) (i * 16 + 16))[k]? = some (.int .u64 ((X (i * 16 + k) : Nat) : Int)) := by
  rw [Array.getElem?_extract, if_pos (by rw [wArr_size]; omega)]
  exact wArr_at X _ (by omega)
theorem eqItems_row (d : Nat) (X Y : Nat → Nat) (i : Nat) (hi : i < 5) (w : World) : ∀ is : List Nat, (∀ k ∈ is, k < 16) → (Op.eqItems (d + 1) 63 1 ((wArr X).extract (i * 16) (i * 16 + 16)) ((wArr Y).extract (i * 16) (i * 16 + 16)) is).run Try.prog w = .ok (is.all fun k => ((X (i * 16 + k) : Nat) : Int) == ((Y (i * 16 + k) : Nat) : Int)) w
  | [], _ => by simp [Op.eqItems]
  | k :: is, h => by
    have hk : k < 16 := h k (List.mem_cons_self ..)
    have ih := eqItems_row d X Y i hi w is (fun j hj => h j (List.mem_cons_of_mem _ hj))
    have ha := Try.isAgg63 w
    have p1 : (part 63 ((wArr X).extract (i * 16) (i * 16 + 16)) (k * 1)).run Try.prog w = .ok (.int .u64 ((X (i * 16 + k) : Nat) : Int)) w := by
      unfold part
      rw [Sem.run_bind, ha]
      simp [wRow_at X i k hi hk]
    have p2 : (part 63 ((wArr Y).extract (i * 16) (i * 16 + 16)) (k * 1)).run Try.prog w = .ok (.int .u64 ((Y (i * 16 + k) : Nat) : Int)) w := by
      unfold part
      rw [Sem.run_bind, ha]
      simp [wRow_at Y i k hi hk]
    have p3 : (Op.equalIn (d + 1) 63 (.int .u64 ((X (i * 16 + k) : Nat) : Int)) (.int .u64 ((Y (i * 16 + k) : Nat) : Int))).run Try.prog w = .ok (((X (i * 16 + k) : Nat) : Int) == ((Y (i * 16 + k) : Nat) : Int)) w := by
      simp [Op.equalIn, Sem.run_bind, run_underlying Try.underlying63]
    simp only [Op.eqItems, Sem.run_bind, p1, p2, p3, Result.andThen_ok]
    cases hc : (((X (i * 16 + k) : Nat) : Int) == ((Y (i * 16 + k) : Nat) : Int))
    · simp [hc]
    · simp [hc, ih]
theorem info_some {t : TypeId} {s : Nat} (h : (Try.prog.info? t).map (·.size) = some s) : ∃ i, Try.prog.info? t = some i := by
  cases hq : Try.prog.info? t with
  | none => rw [hq] at h; simp at h
  | some i => exact ⟨i, rfl⟩
theorem eqItems_dots (d : Nat) (X Y : Nat → Nat) (w : World) : ∀ is : List Nat, (∀ i ∈ is, i < 5) → (Op.eqItems (d + 3) 64 16 (wArr X) (wArr Y) is).run Try.prog w = .ok (is.all fun i => (List.range 16).all fun k => ((X (i * 16 + k) : Nat) : Int) == ((Y (i * 16 + k) : Nat) : Int)) w
  | [], _ => by simp [Op.eqItems]
  | i :: is, h => by
    have hi : i < 5 := h i (List.mem_cons_self ..)
    have ih := eqItems_dots d X Y w is (fun j hj => h j (List.mem_cons_of_mem _ hj))
    have ha := Try.isAgg64 w
    have hsz : (Go.sizeOf 64).run Try.prog w = .ok 16 w := size_of (by kernel_rfl) w
    have p1 : ∀ X, (part 64 (wArr X) (i * 16)).run Try.prog w = .ok (.agg ((wArr X).extract (i * 16) (i * 16 + 16))) w := by
      intro X
      unfold part
      rw [Sem.run_bind, ha]
      simp [hsz]
    obtain ⟨q, hq⟩ := info_some (show (Try.prog.info? 63).map (·.size) = some 1 by kernel_rfl)
    have p3 : (Op.equalIn (d + 3) 64 (.agg ((wArr X).extract (i * 16) (i * 16 + 16))) (.agg ((wArr Y).extract (i * 16) (i * 16 + 16)))).run Try.prog w = .ok ((List.range 16).all fun k => ((X (i * 16 + k) : Nat) : Int) == ((Y (i * 16 + k) : Nat) : Int)) w := by
      rw [run_equalIn_array (P := Try.prog) w (d + 2) _ _ Try.underlying64 hq, u64_cells]
      exact eqItems_row (d + 1) X Y i hi w (List.range 16) (fun k hk => List.mem_range.1 hk)
    rw [List.all_cons]
    exact eqItems_step (p1 X) (p1 Y) p3 ih
theorem eq_dots (X Y : Nat → Nat) (w : World) : (Op.equal 66 (.agg (wArr X)) (.agg (wArr Y))).run Try.prog w = .ok (eqX X Y) w := by
  obtain ⟨q, hq⟩ := info_some (show (Try.prog.info? 64).map (·.size) = some 16 by kernel_rfl)
  show (Op.equalIn 10000 66 (.agg (wArr X)) (.agg (wArr Y))).run Try.prog w = _
  rw [run_equalIn_array (P := Try.prog) w 9999 (wArr X) (wArr Y) Try.underlying66 hq, row_cells]
  exact eqItems_dots 9996 X Y w (List.range 5) (fun i hi => List.mem_range.1 hi)
section
variable {ev : Operand → Value} {d : Option Tmp} {ty : TypeId} {p : String} {af : Array Edge} {g : Option (Nat × Bool)} {w : World}
end
theorem r1_bk {w : World} {b : Nat} {V : List Int} {cs : Array Value} {t : TypeId} (h : Bk w b cs t) (hc : cs = (V.map (Value.int .i64)).toArray) : R1 w (.slice (some ⟨b, 0, none⟩) V.length V.length) V :=
  ⟨_, _, rfl, Nat.le_refl _, fun _ => ⟨b, 0, rfl, h.lt, fun i x hx => by
    rw [Nat.zero_add]
    exact h.cell i (by subst hc; simp [hx])⟩⟩
theorem knR_vec1 {w : World} {b : Nat} {x : Int} {t : TypeId} (h : Bk w b #[.int .i64 x] t) : KnR w (.agg #[.slice (some ⟨b, 0, none⟩) 1 1, .slice none 0 0]) [x] [] :=
  ⟨_, _, rfl, r1_bk (V := [x]) h rfl, Rd2.nil w, ⟨rfl, by simp [flat], .inl ⟨rfl, rfl⟩⟩⟩
end Go.Proofs.Ythcehgmpajejeaa

/- reedkeep.Within, set, knowBegun. -/
set_option linter.unusedVariables false
set_option linter.unusedSimpArgs false
namespace Rm
open Go Go.RowKit Gx
/-- what Within makes of an integer -/
def wi (k : Int) (n : Nat) : Nat := (k % 18446744073709551616).toNat % n
theorem wi_lt (k : Int) (n : Nat) (h : 0 < n) : wi k n < n := Nat.mod_lt _ h
/-- slices of integers, in a slice -/
def RdLL (w : World) (v : Value) (L : List (List Int)) : Prop :=
  ∃ a c, v = .slice a L.length c ∧ L.length ≤ c ∧ (L ≠ [] → ∃ b off, a = some ⟨b, off, none⟩ ∧ b < w.heap.size ∧ ∀ i x, L[i]? = some x → ∃ ua uc, w.cell? ⟨b, off + i * 1, none⟩ = some (.slice ua x.length uc) ∧ RdI1 w ua x)
theorem RdI1.gr {w w' : World} {a : Option Addr} {V : List Int} (h : RdI1 w a V) (g : Gr w w') : RdI1 w' a V := fun hn => by
  obtain ⟨b, off, h1, h2, h3⟩ := h hn
  exact ⟨b, off, h1, Nat.lt_of_lt_of_le h2 g.le, fun i x hx => (g.cells.1 b _ h2).trans (h3 i x hx)⟩
theorem RdLL.gr {w w' : World} {v : Value} {L : List (List Int)} (h : RdLL w v L) (g : Gr w w') : RdLL w' v L := by
  obtain ⟨a, c, e, hc, h⟩ := h
  refine ⟨a, c, e, hc, fun hn => ?_⟩
  obtain ⟨b, off, h1, h2, h3⟩ := h hn
  refine ⟨b, off, h1, Nat.lt_of_lt_of_le h2 g.le, fun i x hx => ?_⟩
  obtain ⟨ua, uc, q1, q2⟩ := h3 i x hx
  exact ⟨ua, uc, (g.cells.1 b _ h2).trans q1, q2.gr g⟩
/-- the dot that two integers name -/
def dotOf (c : List Int) : Option (Nat × Nat) := match c with
  | x :: y :: _ => some (wi x 5, 1 + wi y 12)
  | _ => none
def setN (L : List (List Int)) : List (Nat × Nat) := (L.take 40).filterMap dotOf
def setD (L : List (List Int)) : DS := fun s c => (setN L).contains (s, c)
theorem dotOf_in {c : List Int} {d : Nat × Nat} (h : dotOf c = some d) : d.1 < 5 ∧ 1 ≤ d.2 ∧ d.2 ≤ 12 := by
  match c, h with
  | x :: y :: _, h =>
    simp [dotOf] at h
    subst h
    have h1 := wi_lt x 5 (by omega)
    have h2 := wi_lt y 12 (by omega)
    simp only
    omega
theorem setN_in {L : List (List Int)} {d : Nat × Nat} (h : d ∈ setN L) : d.1 < 5 ∧ 1 ≤ d.2 ∧ d.2 ≤ 12 := by
  obtain ⟨c, _, hc⟩ := List.mem_filterMap.1 h
  exact dotOf_in hc
theorem setD_small (L : List (List Int)) : ∀ s c, setD L s c = true → s < 5 ∧ 1 ≤ c ∧ c ≤ 12 := fun s c h => by
  have : (s, c) ∈ setN L := by simpa [setD] using h
  exact setN_in this
end Rm
namespace Go.Proofs.Ythcehgmpajejeaa
open Go.RowKit Rm Gx
end Go.Proofs.Ythcehgmpajejeaa

/- An argument that is a slice of structs of two integers reads as a list. -/
namespace Go.Proofs.Ythcehgmpajejeaa
open Go.ChangeShapes Go.WideShapes Go.ChangeAt Go.RowKit Go.Deep Rm

theorem add_none {b off k : Nat} : (⟨b, off, none⟩ : Addr).add k = ⟨b, off + k, none⟩ := by
  unfold Addr.add
  by_cases h : k = 0 <;> simp [h]

theorem rd2_of {W : World} {a : Addr} {len cap : Nat} {V0 V1 : Nat → Value} (hl : len ≤ cap)
    (hc : ∀ i, i < len → W.cell? (a.add (i * 2)) = some (V0 i) ∧ W.cell? (a.add (i * 2 + 1)) = some (V1 i))
    (hi : ∀ i, i < len → ∃ x y : Int, V0 i = .int .i64 x ∧ V1 i = .int .i64 y) : ∃ l, Rd2 W (.slice (some a) len cap) l ∧ l.length = len := by
  have hi' : ∀ i, ∃ p : Int × Int, i < len → V0 i = .int .i64 p.1 ∧ V1 i = .int .i64 p.2 := by
    intro i
    by_cases h : i < len
    · obtain ⟨x, y, e⟩ := hi i h
      exact ⟨(x, y), fun _ => e⟩
    · exact ⟨(0, 0), fun h' => absurd h' h⟩
  refine ⟨(List.range len).map fun i => Classical.choose (hi' i), ⟨some a, cap, by simp, by simpa using hl, fun hne => ?_⟩, by simp⟩
  have h0 : 0 < len := by
    rcases Nat.eq_zero_or_pos len with h | h
    · subst h; simp at hne
    · exact h
  obtain ⟨b, off, spot⟩ := a
  have hc0 := (hc 0 h0).1
  have hspot : spot = none := by simpa [Addr.add] using World.cell?_spot hc0
  subst hspot
  have hlt : b < W.heap.size := by
    have := block_lt_of_cell hc0
    simpa [Addr.add] using this
  refine ⟨b, off, rfl, hlt, fun i p hp => ?_⟩
  have hil : i < len := by
    have := (List.getElem?_eq_some_iff.1 hp).1
    simpa using this
  have hp' : p = Classical.choose (hi' i) := by
    simp [List.getElem?_map, List.getElem?_range hil] at hp
    exact hp.symm
  obtain ⟨e1, e2⟩ := Classical.choose_spec (hi' i) hil
  obtain ⟨q1, q2⟩ := hc i hil
  rw [add_none] at q1 q2
  rw [hp']
  exact ⟨q1.trans (congrArg some e1), by rw [Nat.add_assoc]; exact q2.trans (congrArg some e2)⟩

end Go.Proofs.Ythcehgmpajejeaa

/- An argument that is a set of dots, or a dot, reads as plain data. -/
set_option linter.unusedVariables false
namespace Go.Proofs.Ythcehgmpajejeaa
open Go.ChangeShapes Go.WideShapes Go.ChangeAt Go.RowKit Go.Deep Rm

section
variable {H : Type} {enc : TypeId × Value → H} {W : World} {base : Nat} {spare : Nat → Bool} {held : Bool}
theorem kint_cells : Try.prog.cellsOf 3 = 1 := by kernel_rfl
theorem kints_cells : Try.prog.cellsOf 32 = 1 := by kernel_rfl
theorem kdots_cells : Try.prog.cellsOf 33 = 1 := by kernel_rfl
theorem know_cells : Try.prog.cellsOf 35 = 2 := by kernel_rfl
theorem flat_split (l : List (Int × Int)) (j : Nat) (u : Value) (h : (flat l)[j]? = some u) : ∃ i p, l[i]? = some p ∧ ((j = i * 2 ∧ u = .int .i64 p.1) ∨ (j = i * 2 + 1 ∧ u = .int .i64 p.2)) := by
  induction l generalizing j with
  | nil => simp [flat] at h
  | cons q l ih =>
    rw [flat_cons] at h
    match j, h with
    | 0, h => simp at h; exact ⟨0, q, rfl, .inl ⟨rfl, h.symm⟩⟩
    | 1, h => simp at h; exact ⟨0, q, rfl, .inr ⟨rfl, h.symm⟩⟩
    | j + 2, h =>
      obtain ⟨i, p, hp, hc⟩ := ih j (by simpa using h)
      exact ⟨i + 1, p, by simpa using hp, hc.imp (fun ⟨a, b⟩ => ⟨by omega, b⟩) (fun ⟨a, b⟩ => ⟨by omega, b⟩)⟩
theorem rdC_of2 {W : World} {a : Addr} {n c : Nat} {l : List (Int × Int)} (h : Rd2 W (.slice (some a) n c) l) : RdC 2 W (.slice (some a) n c) l.length (flat l) := by
  obtain ⟨a', c', e, hc, hx⟩ := h
  cases e
  refine ⟨flat_len l, flat_one l, .inr ⟨a, c, rfl, hc, fun hn => ?_, fun j u hj => ?_⟩⟩
  · obtain ⟨b, off, e, hb, _⟩ := hx (by rintro rfl; exact hn rfl)
    cases e; exact hb
  · obtain ⟨i, p, hp, hc⟩ := flat_split l j u hj
    obtain ⟨b, off, e, hb, hcl⟩ := hx (by rintro rfl; simp at hp)
    cases e
    rw [add_none]
    obtain ⟨h1, h2⟩ := hcl i p hp
    rcases hc with ⟨rfl, rfl⟩ | ⟨rfl, rfl⟩
    · exact h1
    · exact h2
set_option maxRecDepth 100000 in
theorem dots_trod {fuel : Nat} {cs : List Value} {x : DataW H × List MemPlace} (h : DataW.trod enc Try.prog W base spare held fuel 33 cs = some x) : ∃ v l, cs = [v] ∧ Rd2 W v l ∧ RdC 2 W v l.length (flat l) := by
  rcases open_slice_pairs Try.underlying33 Try.underlying26 (by kernel_rfl) rfl rfl (by kernel_rfl) (by kernel_rfl) h with ⟨rfl, _⟩ | ⟨a, len, cap, m, n, V0, V1, D0, D1, P0, P1, rfl, hb, hl, hm, hmm, hx, hcell⟩
  · exact ⟨_, [], rfl, Rd2.nil W, ⟨rfl, by simp [flat], .inl ⟨rfl, rfl⟩⟩⟩
  · have hlm : len ≤ m := by rw [hmm]; split <;> omega
    obtain ⟨l, hl', _⟩ := rd2_of (W := W) (a := a) (V0 := V0) (V1 := V1) hl (fun i hi => ⟨(hcell i (by omega)).1, (hcell i (by omega)).2.1⟩) (fun i hi => by
      obtain ⟨_, _, t0, t1⟩ := hcell i (by omega)
      obtain ⟨x, ex, _, _⟩ := DataW.trod_int Try.underlying3 t0
      obtain ⟨y, ey, _, _⟩ := DataW.trod_int Try.underlying3 t1
      simp at ex ey
      exact ⟨x, y, ex, ey⟩)
    exact ⟨_, l, rfl, hl', rdC_of2 hl'⟩
set_option maxRecDepth 100000 in
theorem kints_trod {fuel : Nat} {cs : List Value} {x : DataW H × List MemPlace} (h : DataW.trod enc Try.prog W base spare held fuel 32 cs = some x) : ∃ v l, cs = [v] ∧ R1 W v l := by
  rcases open_slice1 Try.underlying32 kint_cells h with ⟨rfl, _⟩ | ⟨a, len, cap, m, n, V, D, Pl, rfl, hb, hl, hm, hmm, hx, hcell⟩
  · exact ⟨_, [], rfl, R1.nil W⟩
  · have hlm : len ≤ m := by rw [hmm]; split <;> omega
    obtain ⟨q, hq⟩ := choose_lt (α := Int) (n := len) (p := fun i p => W.cell? (a.add i) = some (.int .i64 p)) (fun i hi => by
        obtain ⟨h1, h2⟩ := hcell i (by omega)
        obtain ⟨x, ex, _, _⟩ := DataW.trod_int Try.underlying3 h2
        simp at ex
        exact ⟨x, by rw [h1, ex]⟩)
    refine ⟨_, (List.range len).map q, rfl, ⟨some a, cap, by simp, by simpa using hl, fun hne => ?_⟩⟩
    have h0 : 0 < len := by
      rcases Nat.eq_zero_or_pos len with h | h
      · subst h; simp at hne
      · exact h
    obtain ⟨b, off, spot⟩ := a
    have hc0 := hq 0 h0
    have hspot : spot = none := by simpa [Addr.add] using World.cell?_spot hc0
    subst hspot
    have hlt : b < W.heap.size := by
      have := block_lt_of_cell hc0
      simpa [Addr.add] using this
    refine ⟨b, off, rfl, hlt, fun i p hp => ?_⟩
    have hil : i < len := by
      have := (List.getElem?_eq_some_iff.1 hp).1
      simpa using this
    have hp' : p = q i := by
      simp [List.getElem?_map, List.getElem?_range hil] at hp
      exact hp.symm
    subst hp'
    have q1 := hq i hil
    rw [add_none] at q1
    exact q1
set_option maxRecDepth 100000 in
theorem know_trod {fuel : Nat} {cs : List Value} {x : DataW H × List MemPlace} (h : DataW.trod enc Try.prog W base spare held fuel 35 cs = some x) : ∃ vv mv V M, cs = [vv, mv] ∧ R1 W vv V ∧ Rd2 W mv M ∧ RdC 2 W mv M.length (flat M) := by
  obtain ⟨xs, k, _, _, hlen, hxl, hf⟩ := DataW.trod_struct Try.underlying35 h
  rw [know_cells] at hlen
  have g0 : DataW.trod enc Try.prog W base spare held k 32 ((cs.drop 0).take (Try.prog.cellsOf 32)) = xs[0]? := hf 0 _ rfl
  have g1 : DataW.trod enc Try.prog W base spare held k 33 ((cs.drop 1).take (Try.prog.cellsOf 33)) = xs[1]? := hf 1 _ rfl
  rw [kints_cells] at g0
  rw [kdots_cells] at g1
  match xs, hxl, cs, hlen with
  | [y0, y1], _, [v0, v1], _ =>
    simp at g0 g1
    obtain ⟨vv, V, e0, h0⟩ := kints_trod g0
    obtain ⟨mv, M, e1, h1, h2⟩ := dots_trod g1
    simp at e0 e1
    subst e0 e1
    exact ⟨v0, v1, V, M, rfl, h0, h1, h2⟩
end
end Go.Proofs.Ythcehgmpajejeaa

/- Sets of small dots: joined, met, compared. -/
set_option linter.unusedVariables false
set_option linter.unusedSimpArgs false
namespace Rm
open Go Go.RowKit Gx
def Sm (D : DS) : Prop := ∀ s c, D s c = true → s < 5 ∧ 1 ≤ c ∧ c ≤ 12
theorem Sm.or {D E : DS} (h : Sm D) (h' : Sm E) : Sm (orD D E) := fun s c q => by
  simp only [orD, Bool.or_eq_true] at q
  exact q.elim (h s c) (h' s c)
theorem Sm.and {D E : DS} (h : Sm D) : Sm (andD D E) := fun s c q => by
  simp only [andD, Bool.and_eq_true] at q
  exact h s c q.1
theorem Sm.set (L : List (List Int)) : Sm (setD L) := setD_small L
end Rm
namespace Go.Proofs.Ythcehgmpajejeaa
open Go.ChangeShapes Go.WideShapes Go.ChangeAt Go.RowKit Go.Deep Rm Gx
/-- a value that is a set of dots -/
def KnD (w : World) (k : Value) (D : DS) : Prop := KnR w k (ints (formV D)) (pairs (formM D))
theorem KnD.gr {w w' : World} {k : Value} {D : DS} (h : KnD w k D) (g : Gr w w') : KnD w' k D := KnR.gr h g
theorem KnD.form {w : World} {k : Value} {D : DS} (h : KnD w k D) : ∃ va vc ma mc, k = .agg #[.slice va (ints (formV D)).length vc, .slice ma (pairs (formM D)).length mc] := by
  obtain ⟨va, vc, ma, mc, h, -, -⟩ := knr_form h
  exact ⟨va, vc, ma, mc, h⟩
section
variable {H : Type} {enc : TypeId × Value → H} {W : World} {base : Nat} {spare : Nat → Bool} {held : Bool}
theorem RdI1.of {w : World} {v : Value} {V : List Int} (h : R1 w v V) : ∃ a c, v = .slice a V.length c ∧ V.length ≤ c ∧ RdI1 w a V := by
  obtain ⟨a, c, e, hc, h⟩ := h
  refine ⟨a, c, e, hc, fun hn => ?_⟩
  obtain ⟨b, off, e, hb, hx⟩ := h hn
  exact ⟨b, off, e, hb, fun i x h => by rw [Nat.mul_one]; exact hx i x h⟩
end
end Go.Proofs.Ythcehgmpajejeaa

/- Sets of small dots: within, has, count. -/
set_option linter.unusedVariables false
set_option linter.unusedSimpArgs false
namespace Rm
open Go Go.RowKit Gx
def wS (D E : DS) : Bool := withB (formV D) (formV E) (formM D) (formM E)
def hasD (D : DS) (x y : Int) : Bool := dotB (x, y) && D x.toNat y.toNat
def dotE (x y : Int) : Int := if dotB (x, y) then 0 else 1
end Rm
namespace Go.Proofs.Ythcehgmpajejeaa
open Go.RowKit Rm Gx
end Go.Proofs.Ythcehgmpajejeaa

/- Sets of dots gathered row by row; counts. -/
set_option linter.unusedVariables false
set_option linter.unusedSimpArgs false
namespace Rm
open Go Go.RowKit Gx
/-- dots that may be, small but for one -/
def Sn (D : DS) : Prop := ∃ b, ∀ s c, D s c = true → s < 5 ∧ 1 ≤ c ∧ c ≤ 1000 ∧ (c ≤ 12 ∨ c = b)
theorem Sm.sn {D : DS} (h : Sm D) : Sn D := ⟨0, fun s c q => by have := h s c q; omega⟩
theorem Sm.add {D : DS} (h : Sm D) {a b : Nat} (i : a < 5 ∧ 1 ≤ b ∧ b ≤ 12) : Sm (addD D a b) := fun s c q => by
  simp only [addD, Bool.or_eq_true, decide_eq_true_eq] at q
  rcases q with q | ⟨rfl, rfl⟩
  · exact h s c q
  · exact i
theorem cp_or (f g : Nat → Bool) (l : List Nat) : List.countP (fun c => f c || g c) l ≤ List.countP f l + List.countP g l := by
  induction l with
  | nil => simp
  | cons a l ih =>
    simp only [List.countP_cons]
    cases f a <;> cases g a <;> simp <;> omega
theorem one_small (b : Nat) : ((List.range 1001).filter fun c => decide (c = b)).length ≤ 1 := by
  have h : ((List.range 1001).filter fun c => decide (c = b)) = ((List.range 1001).filter fun c => c == b) := by
    congr 1
  rw [h]
  have := List.count_range (n := 1001) (a := b)
  rw [← List.countP_eq_length_filter]
  have e : List.countP (fun c => c == b) (List.range 1001) = List.count b (List.range 1001) := rfl
  rw [e, this]
  split <;> omega
theorem Sn.form {D : DS} (h : Sn D) : (formM D).length ≤ 60 := by
  obtain ⟨b, h⟩ := h
  have key : ∀ s, (restD D s).length ≤ 12 := by
    intro s
    unfold restD
    rw [List.length_map]
    have h1 : ((List.range 1001).filter fun c => decide (run D s + 2 ≤ c) && D s c).length ≤ ((List.range 1001).filter fun c => decide (2 ≤ c ∧ c ≤ 12) || decide (c = b)).length := by
      rw [← List.countP_eq_length_filter, ← List.countP_eq_length_filter]
      apply List.countP_mono_left
      intro c _ hc
      simp only [Bool.and_eq_true, Bool.or_eq_true, decide_eq_true_eq] at hc ⊢
      have := h s c hc.2
      omega
    have h2 : ((List.range 1001).filter fun c => decide (2 ≤ c ∧ c ≤ 12) || decide (c = b)).length ≤ ((List.range 1001).filter fun c => decide (2 ≤ c ∧ c ≤ 12)).length + ((List.range 1001).filter fun c => decide (c = b)).length := by
      rw [← List.countP_eq_length_filter, ← List.countP_eq_length_filter, ← List.countP_eq_length_filter]
      exact cp_or _ _ _
    have h3 : ((List.range 1001).filter fun c => decide (2 ≤ c ∧ c ≤ 12)).length ≤ 11 := by decide +kernel
    have h4 := one_small b
    omega
  have k0 := key 0
  have k1 := key 1
  have k2 := key 2
  have k3 := key 3
  have k4 := key 4
  show ((List.range 5).flatMap (restD D)).length ≤ 60
  have e : (List.range 5).flatMap (restD D) = restD D 0 ++ restD D 1 ++ restD D 2 ++ restD D 3 ++ restD D 4 := by
    rw [show List.range 5 = [0, 1, 2, 3, 4] from rfl]
    simp [List.flatMap_cons, List.append_assoc]
  rw [e]
  simp only [List.length_append]
  omega
/-! counts -/
theorem Sm.inR {D : DS} (h : Sm D) : ∀ s c, D s c = true → inR s c := fun s c q => by
  have := h s c q
  exact ⟨this.1, this.2.1, by omega⟩
theorem Sn.inR {D : DS} (h : Sn D) : ∀ s c, D s c = true → Rm.inR s c := fun s c q => by
  obtain ⟨b, h⟩ := h
  have := h s c q
  exact ⟨this.1, this.2.1, this.2.2.1⟩
end Rm
namespace Go.Proofs.Ythcehgmpajejeaa
open Go.RowKit Rm Gx
theorem KnD.congr {w : World} {k : Value} {D E : DS} (h : KnD w k D) (e : EqD D E) : KnD w k E := by
  obtain ⟨h1, h2⟩ := form_congr e
  unfold KnD
  rw [← h1, ← h2]
  exact h
/-! what outlives stores into two blocks -/
def Near (b1 b2 : Nat) (w w' : World) : Prop := w.heap.size ≤ w'.heap.size ∧ ∀ b : Nat, b < w.heap.size → b ≠ b1 → b ≠ b2 → w'.heap[b]? = w.heap[b]?
theorem Near.refl {b1 b2 : Nat} (w : World) : Near b1 b2 w w := ⟨Nat.le_refl _, fun _ _ _ _ => rfl⟩
theorem Near.trans {b1 b2 : Nat} {w w' w'' : World} (h : Near b1 b2 w w') (k : Near b1 b2 w' w'') : Near b1 b2 w w'' :=
  ⟨Nat.le_trans h.1 k.1, fun b hb h1 h2 => (k.2 b (Nat.lt_of_lt_of_le hb h.1) h1 h2).trans (h.2 b hb h1 h2)⟩
theorem Near.gr {b1 b2 : Nat} {w w' : World} (g : Gr w w') : Near b1 b2 w w' := ⟨g.size, fun b hb _ _ => Below.block g b hb⟩
def KnS (b1 b2 : Nat) (w : World) (k : Value) (D : DS) : Prop := ∀ w', Near b1 b2 w w' → KnD w' k D
theorem KnS.here {b1 b2 : Nat} {w : World} {k : Value} {D : DS} (h : KnS b1 b2 w k D) : KnD w k D := h w (Near.refl w)
theorem KnS.gr {b1 b2 : Nat} {w w' : World} {k : Value} {D : DS} (h : KnS b1 b2 w k D) (g : Gr w w') : KnS b1 b2 w' k D := fun w'' q => h w'' ((Near.gr g).trans q)
theorem KnS.congr {b1 b2 : Nat} {w : World} {k : Value} {D E : DS} (h : KnS b1 b2 w k D) (e : EqD D E) : KnS b1 b2 w k E := fun w' q => (h w' q).congr e
theorem KnS.form {b1 b2 : Nat} {w : World} {k : Value} {D : DS} (h : KnS b1 b2 w k D) : ∃ va vc ma mc, k = .agg #[.slice va (ints (formV D)).length vc, .slice ma (pairs (formM D)).length mc] := h.here.form
end Go.Proofs.Ythcehgmpajejeaa

/- Joined: SpanD, SpanE, SpanF, SpanG, SpanH, SpanI, MaskM, SpanO. -/
/- The contracts of package span's combine and what stands on it, and of slices.Equal over spans. -/
namespace Rm
open Go Go.RowKit
theorem sbne_of {a : Int} (h : (a == 0) = true) : (a != 0) = false := by simp [bne, h]
theorem sbne_of' {a : Int} (h : (a == 0) = false) : (a != 0) = true := by simp [bne, h]
theorem chkGo_valid : ∀ (l : List (Int × Int)) (last : Int), -1 ≤ last → chkGo last l = 0 → ∃ L, l = pairs L ∧ VF (last + 1).toNat L
  | [], _, _, _ => ⟨[], rfl, trivial⟩
  | p :: l, last, hl, h => by
    unfold chkGo at h
    split at h
    · omega
    · split at h
      · omega
      · rename_i h1 h2
        obtain ⟨L, rfl, hv⟩ := chkGo_valid l p.2 (by omega) h
        refine ⟨(p.1.toNat, p.2.toNat) :: L, ?_, ?_⟩
        · simp only [pairs, List.map_cons, List.cons.injEq, and_true]
          ext
          · simp only; omega
          · simp only; omega
        · refine ⟨by simp only; omega, by simp only; omega, by simp only; omega, ?_⟩
          have e : (p.2 + 1).toNat = p.2.toNat + 1 := by omega
          rw [← e]
          exact hv
theorem valid_of {l : List (Int × Int)} (h : chkS l = 0) : ∃ L, l = pairs L ∧ VF 0 L := by
  unfold chkS at h
  split at h
  · omega
  · exact chkGo_valid l (-1) (by omega) h
theorem chkGo_of : ∀ (L : List (Nat × Nat)) (lo : Nat) (last : Int), last < lo → VF lo L → chkGo last (pairs L) = 0
  | [], _, _, _, _ => rfl
  | p :: L, lo, last, hl, h => by
    obtain ⟨h1, h2, h3, h4⟩ := h
    show (if (p.1 : Int) < 0 ∨ 32 < (p.2 : Int) ∨ (p.2 : Int) ≤ (p.1 : Int) then 1 else if (p.1 : Int) ≤ last then 3 else chkGo (p.2 : Int) (pairs L)) = 0
    rw [if_neg (by omega), if_neg (by omega)]
    exact chkGo_of L (p.2 + 1) p.2 (by omega) h4
theorem chkS_of {L : List (Nat × Nat)} (h : VF 0 L) : chkS (pairs L) = 0 := by
  unfold chkS
  rw [if_neg (by rw [pairs_len]; have := h.len16; omega)]
  exact chkGo_of L 0 (-1) (by omega) h
/-- what Less does to masks -/
def lessM (a b : Nat) : Nat := a &&& (4294967295 - b)
end Rm
namespace Go.Proofs.Ythcehgmpajejeaa
open Go.RowKit Rm
set_option linter.unusedVariables false

theorem ListAt.more {w w1 w2 : World} {l : List (Nat × Nat)} {v : Value} (g : Gr w w1) (h : ListAt w1 w2 l v) : ListAt w w2 l v := by
  refine ⟨g.trans h.1, h.2.1, ?_⟩
  rcases h.2.2 with ⟨a, b⟩ | ⟨g', cap, cur, a, b, c⟩
  · exact .inl ⟨a, b⟩
  · exact .inr ⟨g', cap, cur, a, Nat.le_trans g.le b, c⟩
end Go.Proofs.Ythcehgmpajejeaa
/- The contracts of math/bits.OnesCount32 and of span.Count, Has, Within. -/
namespace Rm
open Go Go.RowKit
end Rm
namespace Go.Proofs.Ythcehgmpajejeaa
open Go.RowKit Rm
set_option linter.unusedVariables false

/-! span.Count -/
/-! span.Has -/
/-! span.Within -/
end Go.Proofs.Ythcehgmpajejeaa
/- The contracts of slices.Equal over spans, and of the statements' own sets. -/
namespace Go.Proofs.Ythcehgmpajejeaa
open Go.RowKit Rm
set_option linter.unusedVariables false

end Go.Proofs.Ythcehgmpajejeaa
/- The contracts of the document's own sets: Told, and the statements' spans and every. -/
namespace Rm
open Go Go.RowKit
/-- a set of numbers, one by one, as an array of bools -/
def bArr (s : Nat → Bool) : Array Value := ((List.range 32).map fun i => Value.bool (s i)).toArray
theorem bArr_size (s : Nat → Bool) : (bArr s).size = 32 := by simp [bArr]
theorem bArr_at (s : Nat → Bool) (i : Nat) (h : i < 32) : (bArr s)[i]? = some (.bool (s i)) := by simp [bArr, h]
theorem Blk_lt {w : World} {g : Nat} {o : Obj} (h : w.heap[g]? = some o) : g < w.heap.size := by
  rcases Nat.lt_or_ge g w.heap.size with c | c
  · exact c
  · rw [Array.getElem?_eq_none c] at h; cases h
end Rm
namespace Go.Proofs.Ythcehgmpajejeaa
open Go.RowKit Rm
set_option linter.unusedVariables false

end Go.Proofs.Ythcehgmpajejeaa
/- The contracts of the statements' spans and every. -/
namespace Rm
open Go Go.RowKit
/-- the bits below the k-th -/
def cut (m k i : Nat) : Bool := decide (i < k) && m.testBit i
theorem bArr_ext {s t : Nat → Bool} (h : ∀ i, i < 32 → s i = t i) : bArr s = bArr t := by
  unfold bArr
  congr 1
  apply List.map_congr_left
  intro i hi
  rw [h i (List.mem_range.1 hi)]
theorem bArr_set (s : Nat → Bool) (k : Nat) (b : Bool) (hk : k < 32) : (bArr s).setIfInBounds k (.bool b) = bArr (fun i => if i = k then b else s i) := by
  apply Array.ext
  · simp [bArr]
  · intro i h1 h2
    simp [bArr] at h1 h2 ⊢
    by_cases e : i = k
    · subst e; simp
    · have : ¬ k = i := fun h => e h.symm
      simp [this, e]
theorem cut_step (m k : Nat) (i : Nat) : (if i = k then m.testBit k else cut m k i) = cut m (k + 1) i := by
  unfold cut
  by_cases e : i = k
  · subst e; simp
  · have : (i < k + 1) ↔ i < k := by omega
    simp [e, this]
end Rm
namespace Go.Proofs.Ythcehgmpajejeaa
open Go.RowKit Rm
set_option linter.unusedVariables false

end Go.Proofs.Ythcehgmpajejeaa
/- Package span by masks: what each function does to sets that are told by 32 bits. -/
namespace Go.Proofs.Ythcehgmpajejeaa
open Go.RowKit Rm
set_option linter.unusedVariables false

/-- a slice that is the set of a mask -/
def MS (w : World) (v : Value) (a : Nat) : Prop := Rd2 w v (pairs (canon a)) ∧ a < 2 ^ 32
theorem MS.gr {w w' : World} {v : Value} {a : Nat} (h : MS w v a) (g : Gr w w') : MS w' v a := ⟨h.1.gr g, h.2⟩
theorem MS.alloc {w : World} {v : Value} {a : Nat} (h : MS w v a) (o : Obj) : MS (w.alloc o) v a := ⟨h.1.alloc o, h.2⟩
end Go.Proofs.Ythcehgmpajejeaa
/- The plain mathematics of masks: Boole, De Morgan, parts, counts. -/
namespace Go.Proofs.Ythcehgmpajejeaa
open Rm

end Go.Proofs.Ythcehgmpajejeaa
/- The contract of span.Of; slices of integers. -/
namespace Rm
open Go Go.RowKit
end Rm
namespace Go.Proofs.Ythcehgmpajejeaa
open Go.RowKit Rm
set_option linter.unusedVariables false
/-- a slice of integers reads as a list -/
def Rd1 (w : World) (v : Value) (l : List Int) : Prop :=
  ∃ a c, v = .slice a l.length c ∧ l.length ≤ c ∧ (l ≠ [] → ∃ b off, a = some ⟨b, off, none⟩ ∧ b < w.heap.size ∧ ∀ i x, l[i]? = some x → w.cell? ⟨b, off + i, none⟩ = some (.int .i64 x))
theorem Rd1.gr {w w' : World} {v : Value} {l : List Int} (h : Rd1 w v l) (g : Gr w w') : Rd1 w' v l := by
  obtain ⟨a, c, e, hc, h⟩ := h
  refine ⟨a, c, e, hc, fun hl => ?_⟩
  obtain ⟨b, off, ea, hb, hx⟩ := h hl
  exact ⟨b, off, ea, Nat.lt_of_lt_of_le hb g.le, fun i p hp => (g.cells.1 b _ hb).trans (hx i p hp)⟩
theorem Rd1.alloc {w : World} {v : Value} {l : List Int} (h : Rd1 w v l) (o : Obj) : Rd1 (w.alloc o) v l := h.gr ((Gr.refl w).alloc o)

end Go.Proofs.Ythcehgmpajejeaa

/- Joined: CubeA, CubeH. -/
/- The contracts of package cube's small functions. -/
namespace Go.Proofs.Ythcehgmpajejeaa
open Go.RowKit Rm

theorem bne_of {a : Int} (h : (a == 0) = true) : (a != 0) = false := by simp [bne, h]
theorem bne_of' {a : Int} (h : (a == 0) = false) : (a != 0) = true := by simp [bne, h]

set_option maxHeartbeats 400000 in
set_option maxRecDepth 100000 in
theorem areTags_any (x : Int) (w : World) :
    Calls Try.prog 62 #[.int .i64 x] w fun e w' => e = .returned (.bool (tagsB x)) ∧ w = w' := by
  by_cases h0 : 0 ≤ x
  · by_cases h1 : x ≤ 15
    · have ht : tagsB x = true := by simp [tagsB, h0, h1]
      rw [ht]
      go_enter Try.func62, Try.ntmps62
      go_wp2
      go_ret
      exact ⟨rfl, rfl⟩
    · have ht : tagsB x = false := by simp [tagsB, h1]
      rw [ht]
      go_enter Try.func62, Try.ntmps62
      go_wp2
      go_ret
      exact ⟨rfl, rfl⟩
  · have ht : tagsB x = false := by simp [tagsB, h0]
    rw [ht]
    go_enter Try.func62, Try.ntmps62
    go_wp2
    go_ret
    exact ⟨rfl, rfl⟩

set_option maxHeartbeats 400000 in
set_option maxRecDepth 100000 in
theorem check_any (y n : Int) (w : World) :
    Calls Try.prog 45 #[.agg #[.int .i64 y, .int .i64 n]] w fun e w' => e = .returned (.int .i64 (chk y n)) ∧ Gr w w' := by
  cases hy : tagsB y
  · have hc : chk y n = 1 := by simp [chk, hy]
    rw [hc]
    go_enter Try.func45, Try.ntmps45
    go_wp2_with (go_at_call 62; refine (areTags_any _ _).mono ?_; rintro e w' ⟨rfl, rfl⟩)
    go_ret
    exact ⟨rfl, (Gr.refl _).alloc _⟩
  cases hn : tagsB n
  · have hc : chk y n = 1 := by simp [chk, hn]
    rw [hc]
    go_enter Try.func45, Try.ntmps45
    go_wp2_with (go_at_call 62; refine (areTags_any _ _).mono ?_; rintro e w' ⟨rfl, rfl⟩)
    go_ret
    exact ⟨rfl, (Gr.refl _).alloc _⟩
  cases hb : (bits .and .i64 y n == 0)
  · have hc : chk y n = 3 := by simp [chk, hy, hn, hb]
    rw [hc]
    have hb' : (bits .and .i64 y n != 0) = true := by simp [bne, hb]
    go_enter Try.func45, Try.ntmps45
    go_wp2_with (go_at_call 62; refine (areTags_any _ _).mono ?_; rintro e w' ⟨rfl, rfl⟩)
    go_ret
    exact ⟨rfl, (Gr.refl _).alloc _⟩
  · have hc : chk y n = 0 := by simp [chk, hy, hn, hb]
    rw [hc]
    have hb' : (bits .and .i64 y n != 0) = false := by simp [bne, hb]
    go_enter Try.func45, Try.ntmps45
    go_wp2_with (go_at_call 62; refine (areTags_any _ _).mono ?_; rintro e w' ⟨rfl, rfl⟩)
    go_ret
    exact ⟨rfl, (Gr.refl _).alloc _⟩

end Go.Proofs.Ythcehgmpajejeaa
/- The contract of cube.Has. -/
namespace Go.Proofs.Ythcehgmpajejeaa
open Go.RowKit Rm

set_option maxHeartbeats 400000 in
set_option maxRecDepth 100000 in
theorem has_any (y n t : Int) (w : World) :
    Calls Try.prog 65 #[.agg #[.int .i64 y, .int .i64 n], .int .i64 t] w fun e w' => e = .returned (.tuple #[.bool (hasR y n t), .int .i64 (hasE y n t)]) ∧ Gr w w' := by
  cases hc : (chk y n == 0)
  · have hc1 : hasE y n t = chk y n := by simp [hasE, hc]
    have hc2 : hasR y n t = false := by simp [hasR, hc1, hc]
    rw [hc2, hc1]
    have hc' := bne_of' hc
    clear hc1 hc2
    go_enter Try.func65, Try.ntmps65
    go_wp2_with (go_at_call 45; refine (check_any _ _ _).mono ?_; rintro e w1 ⟨rfl, hb⟩)
    go_ret2
    exact ⟨rfl, ((Gr.refl _).alloc _).trans hb⟩
  · have hc' := bne_of hc
    have h0 : chk y n = 0 := by simpa using hc
    cases ht : tagsB t
    · have hc1 : hasE y n t = 1 := by simp [hasE, h0, ht]
      have hc2 : hasR y n t = false := by simp [hasR, hc1]
      rw [hc2, hc1]
      clear hc1 hc2 h0
      go_enter Try.func65, Try.ntmps65
      go_wp2_with fail
      refine (check_any _ _ _).mono ?_
      rintro e w1 ⟨rfl, hb⟩
      go_wp2_with (go_at_call 62; refine (areTags_any _ _).mono ?_; rintro e w' ⟨rfl, rfl⟩)
      go_ret2
      exact ⟨rfl, ((Gr.refl _).alloc _).trans hb⟩
    · have hc1 : hasE y n t = 0 := by simp [hasE, h0, ht]
      cases h1 : (bits .andNot .i64 y t == 0)
      · have hc2 : hasR y n t = false := by simp [hasR, hasB, hc1, h1]
        rw [hc2, hc1]
        clear hc1 hc2 h0
        go_enter Try.func65, Try.ntmps65
        go_wp2_with fail
        refine (check_any _ _ _).mono ?_
        rintro e w1 ⟨rfl, hb⟩
        obtain ⟨hbc, hbf⟩ := hb.cells
        go_wp2_with (go_at_call 62; refine (areTags_any _ _).mono ?_; rintro e w' ⟨rfl, rfl⟩)
        go_ret2
        exact ⟨rfl, ((Gr.refl _).alloc _).trans hb⟩
      · cases h2 : (bits .and .i64 n t == 0)
        · have hc2 : hasR y n t = false := by simp [hasR, hasB, hc1, h2]
          rw [hc2, hc1]
          clear hc1 hc2 h0
          go_enter Try.func65, Try.ntmps65
          go_wp2_with fail
          refine (check_any _ _ _).mono ?_
          rintro e w1 ⟨rfl, hb⟩
          obtain ⟨hbc, hbf⟩ := hb.cells
          go_wp2_with (go_at_call 62; refine (areTags_any _ _).mono ?_; rintro e w' ⟨rfl, rfl⟩)
          go_ret2
          exact ⟨rfl, ((Gr.refl _).alloc _).trans hb⟩
        · have hc2 : hasR y n t = true := by simp [hasR, hasB, hc1, h1, h2]
          rw [hc2, hc1]
          clear hc1 hc2 h0
          go_enter Try.func65, Try.ntmps65
          go_wp2_with fail
          refine (check_any _ _ _).mono ?_
          rintro e w1 ⟨rfl, hb⟩
          obtain ⟨hbc, hbf⟩ := hb.cells
          go_wp2_with (go_at_call 62; refine (areTags_any _ _).mono ?_; rintro e w' ⟨rfl, rfl⟩)
          go_ret2
          exact ⟨rfl, ((Gr.refl _).alloc _).trans hb⟩

end Go.Proofs.Ythcehgmpajejeaa

/- The contracts of the document's own Spans and Set. -/
namespace Rm
open Go Go.RowKit
theorem bArr_one (s : Nat → Bool) : (bArr s).all (·.oneCell') = true := by
  rw [Array.all_eq_true_iff_forall_mem]
  intro x hx
  simp [bArr] at hx
  obtain ⟨i, _, rfl⟩ := hx
  rfl
theorem Gr.setRow {a w : World} (h : Gr a w) {g : Nat} (hg : a.heap.size ≤ g) (cs : Array Value) : Gr a (w.setRow g cs) :=
  ⟨h.os, h.tape, h.output, by have := h.le; simpa using this, fun k hk => (setRow_other w g k cs (by omega)).trans (h.block k hk)⟩
end Rm
namespace Go.Proofs.Ythcehgmpajejeaa
open Go.RowKit Rm
set_option linter.unusedVariables false

set_option maxHeartbeats 1000000 in
set_option maxRecDepth 100000 in
theorem rspans_any (v : Value) (l : List (Int × Int)) (w : World) (hr : Rd2 w v l) :
    Calls Try.prog 44 #[v] w fun e w' => e = .returned (.int .i64 (chkS l)) ∧ Gr w w' := by
  obtain ⟨a, cp, rfl, hcp, hx⟩ := hr
  by_cases h16 : 16 < l.length
  · have e : chkS l = 2 := by simp [chkS, h16]
    rw [e]
    have hz : (16 : Int) < (l.length : Int) := by omega
    go_enter Try.func44, Try.ntmps44
    go_wp2
    go_ret
    exact ⟨rfl, Gr.refl _⟩
  · have e : chkS l = chkGo (-1) l := by simp [chkS, h16]
    rw [e]
    clear e
    have hz : ¬ (16 : Int) < (l.length : Int) := by omega
    have HX := Lib.hid hx
    clear hx
    go_enter Try.func44, Try.ntmps44
    go_wp2
    go_loopw [3, 11] (fun la i wr => ∃ (k : Nat) (last : Int), k ≤ l.length ∧ i = .int .i64 k ∧ la = .int .i64 last ∧ Hid (chkGo (-1) l = chkGo last (l.drop k)) ∧ Gr w wr) (fun _ i _ => l.length - (intOf i).toNat)
    case atStart => exact ⟨0, -1, by omega, rfl, rfl, rfl, Gr.refl _⟩
    case round =>
      obtain ⟨k, last, hk, rfl, rfl, hh, hg⟩ := hrel
      by_cases hlt : k < l.length
      · obtain ⟨⟨f, t⟩, hp⟩ : ∃ p, l[k]? = some p := ⟨_, List.getElem?_eq_getElem hlt⟩
        obtain ⟨b, off, rfl, hb, hcell⟩ := HX.out (by intro e; rw [e] at hlt; simp at hlt)
        obtain ⟨c1, c2⟩ := hcell k _ hp
        rw [← hg.cells.1 b _ hb] at c1 c2
        simp only at c1 c2
        have hbr : b < wr.heap.size := Nat.lt_of_lt_of_le hb hg.le
        have HH : Hid (chkGo (-1) l = if f < 0 ∨ 32 < t ∨ t ≤ f then 1 else if f ≤ last then 3 else chkGo t (l.drop (k + 1))) := by
          rw [hh.out, drop_at hp]; rfl
        clear hh hcell
        have hk16 : (k : Int) ≤ 16 := by omega
        by_cases hbad : f < 0 ∨ 32 < t ∨ t ≤ f
        · have E1 : Hid (chkGo (-1) l = 1) := by rw [HH.out, if_pos hbad]; rfl
          clear HH
          by_cases q1 : f < 0
          · go_wp2
            go_ret
            exact ⟨by rw [E1.out]; rfl, hg.alloc _⟩
          · by_cases q2 : 32 < t
            · go_wp2
              go_ret
              exact ⟨by rw [E1.out]; rfl, hg.alloc _⟩
            · have q3 : t ≤ f := by omega
              go_wp2
              go_ret
              exact ⟨by rw [E1.out]; rfl, hg.alloc _⟩
        · have q1 : ¬ f < 0 := by omega
          have q2 : ¬ 32 < t := by omega
          have q3 : ¬ t ≤ f := by omega
          have e1 : Hid (chkGo (-1) l = if f ≤ last then 3 else chkGo t (l.drop (k + 1))) := by rw [HH.out, if_neg hbad]; rfl
          clear HH hbad
          by_cases q4 : f ≤ last
          · have E1 : Hid (chkGo (-1) l = 3) := by rw [e1.out, if_pos q4]; rfl
            clear e1
            go_wp2
            go_ret
            exact ⟨by rw [E1.out]; rfl, hg.alloc _⟩
          · have E1 : Hid (chkGo (-1) l = chkGo t (l.drop (k + 1))) := by rw [e1.out, if_neg q4]; rfl
            clear e1
            go_wp2
            go_roundw
            case rel => exact ⟨k + 1, t, by omega, by go_num, rfl, E1, hg.alloc _⟩
            case measure => simp [intOf]; omega
      · obtain rfl : k = l.length := by omega
        have E1 : Hid (chkGo (-1) l = 0) := by rw [hh.out, List.drop_length]; rfl
        clear hh
        go_wp2
        go_ret
        exact ⟨by rw [E1.out]; rfl, hg⟩

theorem nums_info : (Try.prog.info? 92).map (·.size) = some 32 := by kernel_rfl

theorem mem_step (m n : Nat) (i : Nat) : (if i = n then true else m.testBit i) = (m ||| 2 ^ n).testBit i := by
  rw [Nat.testBit_or, Nat.testBit_two_pow]
  by_cases h : i = n
  · subst h; simp
  · have : ¬ n = i := fun e => h e.symm
    simp [h, this]

set_option maxHeartbeats 1000000 in
set_option maxRecDepth 100000 in
theorem set_any (v : Value) (L : List (Nat × Nat)) (w : World) (hr : Rd2 w v (pairs L)) (hv : VF 0 L) :
    Calls Try.prog 50 #[v] w fun e w' => e = .returned (.agg (bArr (maskL L).testBit)) ∧ Gr w w' := by
  obtain ⟨a, cp, rfl, hcp, hx⟩ := hr
  rw [pairs_len] at hcp
  rw [pairs_len]
  have HX := Lib.hid hx
  have HV := Lib.hid hv
  have hlen := hv.len16
  have hlen' : (L.length : Int) ≤ 16 := by omega
  clear hx hv
  go_enter Try.func50, Try.ntmps50
  go_wp2
  go_loopw [9] (fun i wr => ∃ k : Nat, k ≤ L.length ∧ i = .int .i64 k ∧ Gr w wr ∧ wr.heap[w.heap.size + 1]? = some (.cells (bArr (maskL (L.take k)).testBit) 92 (0, 0)) ∧ wr.heap[w.heap.size]? = some (.cells (bArr fun _ => false) 92 (0, 0))) (fun i _ => L.length - (intOf i).toNat)
  case atStart =>
    refine ⟨0, by omega, rfl, ((Gr.refl _).alloc _).alloc _, ?_, ?_⟩
    · rw [heap_alloc2_new, show bArr (maskL (L.take 0)).testBit = bArr (fun _ => false) from bArr_ext (fun i _ => by simp [maskL])]; rfl
    · rw [heap_alloc2_old]; rfl
  case round =>
    obtain ⟨k, hk, rfl, hg, hblk, hres⟩ := hrel
    generalize wr = wo at *
    by_cases hlt : k < L.length
    · obtain ⟨⟨f, t⟩, hp⟩ : ∃ p, L[k]? = some p := ⟨_, List.getElem?_eq_getElem hlt⟩
      obtain ⟨b, off, rfl, hb, hcell⟩ := HX.out (by intro e; rw [← pairs_len, e] at hlt; simp at hlt)
      have c1 : w.cell? ⟨b, off + k * 2, none⟩ = some (.int .i64 f) := (hcell k _ (pairs_at hp)).1
      have c2 : w.cell? ⟨b, off + k * 2 + 1, none⟩ = some (.int .i64 t) := (hcell k _ (pairs_at hp)).2
      rw [← hg.cells.1 b _ hb] at c1 c2
      have hbr : b < wo.heap.size := Nat.lt_of_lt_of_le hb hg.le
      have hft : f < t ∧ t ≤ 32 := HV.out.le (f, t) (List.mem_of_getElem? hp)
      have HM := Lib.hid (maskL_take hp)
      clear hcell
      generalize maskL (L.take k) = m at *
      have HB := Lib.hid hblk
      have HR := Lib.hid hres
      clear hblk hres
      have hk16 : (k : Int) ≤ 16 := by omega
      have hs1 := Blk_lt HB.out
      go_wp2
      have T0 := Two.new wo f t 108
      have G0 := hg.alloc (.cells #[.int .i64 f, .int .i64 t] 108)
      have HB1 := Lib.hid ((Below.heap_alloc wo (.cells #[.int .i64 f, .int .i64 t] 108) _ hs1).trans HB.out)
      have HR1 := Lib.hid ((Below.heap_alloc wo (.cells #[.int .i64 f, .int .i64 t] 108) _ (Blk_lt HR.out)).trans HR.out)
      generalize hBB : wo.heap.size = BB at *
      have HBB := Lib.hid hBB
      clear hBB c1 c2 HB HR
      generalize wo.alloc (.cells #[.int .i64 f, .int .i64 t] 108) = W1 at *
      go_loopw [6] (fun nn wi => ∃ n : Nat, f ≤ n ∧ n ≤ t ∧ nn = .int .i64 n ∧ Gr w wi ∧ Two wi BB f t ∧ wi.heap[w.heap.size + 1]? = some (.cells (bArr (orTo m f (n - f)).testBit) 92 (0, 0)) ∧ wi.heap[w.heap.size]? = some (.cells (bArr fun _ => false) 92 (0, 0))) (fun nn _ => t - (intOf nn).toNat)
      case atStart => exact ⟨f, by omega, by omega, rfl, G0, T0, by simpa [orTo] using HB1.out, HR1.out⟩
      case round =>
        obtain ⟨n, hn1, hn2, rfl, hgi, ⟨t1, t2, t3⟩, hbi, hri⟩ := hrel
        by_cases hnt : n < t
        · have HS := Lib.hid (orTo_step m f n hn1)
          have hc : wr.cell? ⟨w.heap.size + 1, n, none⟩ = some (.bool ((orTo m f (n - f)).testBit n)) := by rw [cell_of_row _ _ _ _ _ _ hbi, bArr_at _ n (by omega)]
          have hfz := frozen_of_row _ _ n _ _ hbi
          have HBI := Lib.hid hbi
          have HRI := Lib.hid hri
          have hn32 : (n : Int) < 32 := by omega
          have HT : Hid (Two wr BB f t) := ⟨t1, t2, t3⟩
          have hbb : BB ≠ w.heap.size + 1 := by have := HBB.out; omega
          clear hbi hri
          go_wp2
          go_roundw
          case rel =>
            refine ⟨n + 1, by omega, by omega, by go_num, hgi.setCell (by simp) _, HT.out.far hbb _, ?_, ?_⟩
            · rw [heap_setCell_same _ _ _ _ _ _ HBI.out, bArr_set _ _ _ (by omega), HS.out, bArr_ext (fun i _ => mem_step _ n i)]
            · rw [heap_setCell_other _ _ _ _ (by simp)]; exact HRI.out
          case measure => simp [intOf]; omega
        · obtain rfl : n = t := by omega
          have HBI := Lib.hid hbi
          have HRI := Lib.hid hri
          clear hbi hri
          go_wp2
          go_roundw
          case rel => exact ⟨k + 1, by omega, by go_num, hgi, by rw [HM.out]; exact HBI.out, HRI.out⟩
          case measure => simp [intOf]; omega
    · obtain rfl : k = L.length := by omega
      rw [List.take_length] at hblk
      have HS : Hid ((Try.prog.info? 92).map (·.size) = some (bArr (maskL L).testBit).size) := by rw [bArr_size]; exact nums_info
      have HO : Hid ((bArr fun _ => false).size = (bArr (maskL L).testBit).size) := by rw [bArr_size, bArr_size]; rfl
      have H1 := Lib.hid (bArr_one (maskL L).testBit)
      have HB := Lib.hid hblk
      have HR := Lib.hid hres
      clear hblk hres
      go_wp2_with (first | (refine wpList_load_row rfl 92 _ rfl (w.heap.size + 1) rfl 92 _ (0, 0) _ HB.out Try.underlying92 rfl HS.out ?_) | (refine wpList_store_row rfl 92 _ _ rfl w.heap.size _ rfl rfl 92 _ HR.out HS.out HO.out H1.out ?_))
      refine bodyPost_ret (v := .agg (bArr (maskL L).testBit)) (results_cell_row Try.results50 _ _ w.heap.size 92 _ (0, 0) _ rfl (setRow_heap _ _ _ _ _ _ HR.out) Try.underlying92 rfl HS.out) rfl ⟨rfl, ?_⟩
      exact hg.setRow (Nat.le_refl _) _
end Go.Proofs.Ythcehgmpajejeaa

