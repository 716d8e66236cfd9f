/- The contract of the document's own Means. -/
import Derived.Test.YthnoafmdecehcaaRefC
import Derived.Deep.RegionHeld3
namespace Rm
open Go Go.RowKit
/-- are two sets of points the same? -/
def eqP (f g : Nat → Bool) : Bool := (List.range 512).all fun i => f i == g i
theorem eqP_iff {f g : Nat → Bool} : eqP f g = true ↔ ∀ i, i < 512 → f i = g i := by simp [eqP]
end Rm
namespace Go.Proofs.Ythnoafmdecehcaa
open Go.RowKit Rm
set_option linter.unusedVariables false
set_option linter.unusedSimpArgs false

theorem eqItems_pArr (d : Nat) (f g : Nat → Bool) (w : World) : ∀ is : List Nat, (∀ i ∈ is, i < 512) → (Op.eqItems (d + 1) 4 1 (pArr f) (pArr g) is).run Try.prog w = .ok (is.all fun i => f i == g i) w
  | [], _ => by simp [Op.eqItems]
  | i :: is, h => by
    have hi : i < 512 := h i (List.mem_cons_self ..)
    have ih := eqItems_pArr d f g w is (fun j hj => h j (List.mem_cons_of_mem _ hj))
    have ha : (isAgg 4).run Try.prog w = .ok false w := by
      unfold isAgg
      rw [Sem.run_bind, run_underlying Try.underlying4 w]
      rfl
    have p1 : (part 4 (pArr f) (i * 1)).run Try.prog w = .ok (.bool (f i)) w := by
      unfold part
      rw [Sem.run_bind, ha]
      simp [pArr_at f i hi]
    have p2 : (part 4 (pArr g) (i * 1)).run Try.prog w = .ok (.bool (g i)) w := by
      unfold part
      rw [Sem.run_bind, ha]
      simp [pArr_at g i hi]
    have p3 : (Op.equalIn (d + 1) 4 (.bool (f i)) (.bool (g i))).run Try.prog w = .ok (f i == g i) w := by
      simp [Op.equalIn, Sem.run_bind, run_underlying Try.underlying4]
    simp only [Op.eqItems, Sem.run_bind, p1, p2, p3, Result.andThen_ok]
    cases hc : (f i == g i)
    · simp [hc]
    · simp [hc, ih]
theorem bool_cells : Try.prog.cellsOf 4 = 1 := by kernel_rfl
theorem eq_points (f g : Nat → Bool) (w : World) : (Op.equalIn 10000 33 (.agg (pArr f)) (.agg (pArr g))).run Try.prog w = .ok (eqP f g) w := by
  obtain ⟨i, hi⟩ : ∃ i, Try.prog.info? 4 = some i := by
    cases hq : Try.prog.info? 4 with
    | none => have := bool_info; rw [hq] at this; simp at this
    | some i => exact ⟨i, rfl⟩
  rw [run_equalIn_array (P := Try.prog) w 9999 (pArr f) (pArr g) Try.underlying33 hi, bool_cells]
  exact eqItems_pArr 9998 f g w (List.range 512) (fun i hi => List.mem_range.1 hi)

theorem me_ne (a : Act) (d : Nat) (v : Value) (t : Nat) (h : t ≠ d) : (a.put (some d) v).eval (.tmp t) = a.eval (.tmp t) := by
  simp only [Act.put, Act.eval, Array.getD_eq_getD_getElem?]
  rw [Array.getElem?_setIfInBounds_ne (Ne.symm h)]
theorem me_eq (a : Act) (d : Nat) (v : Value) (h : d < a.tmps.size) : (a.put (some d) v).eval (.tmp d) = v := by
  simp only [Act.put, Act.eval, Array.getD_eq_getD_getElem?]
  rw [Array.getElem?_setIfInBounds_self_of_lt h]
  rfl
theorem me_size (a : Act) (d : Nat) (v : Value) : (a.put (some d) v).tmps.size = a.tmps.size := by
  simp [Act.put]
theorem me_const (a : Act) (v : Value) : a.eval (.const v) = v := rfl
theorem me_func (a : Act) (f : Nat) : a.eval (.func f) = .func (.func f) #[] #[] := rfl
section
variable {ops : Array Oper} {Q : Exit → Act → World → Prop} {S : World → Prop}
theorem me_yld (a : Act) (j d : Nat) (b : Bool) (h : (ops[j]?).bind (·.dst) = some d) (hv : a.eval (.tmp d) = .bool b) : yielded ops a.tmps j = some b := by
  unfold yielded
  rw [h]
  simp only [Act.eval, Array.getD_eq_getD_getElem?] at hv
  simp only [Option.bind_some]
  cases hc : a.tmps[d]? with
  | none => rw [hc] at hv; cases hv
  | some u => rw [hc] at hv; simp only [Option.getD_some] at hv; subst hv; rfl
theorem me_none {o : Oper} (f : Nat → Option Bool) (h : o.guard = none) : Region.wanted o f = true := by
  unfold Region.wanted; rw [h]
theorem me_some {o : Oper} (f : Nat → Option Bool) (j : Nat) (w b : Bool) (h : o.guard = some (j, w)) (hf : f j = some b) : Region.wanted o f = (b == w) := by
  unfold Region.wanted; rw [h]; simp only [hf]; cases b <;> cases w <;> rfl
theorem me_tk {i : Nat} {oi : Oper} {v : Value} {fuel : Nat} {listed : Array Bool} {a : Act} {w : World} {d : Nat} (hQ : ∀ c a d v w, Q (.panic c) (Act.put a (some d) v) w → Q (.panic c) a w)
    (hi : ops[i]? = some oi) (hd : oi.dst = some d) (hf : Region.free .any ops listed i = true) (hr : (Region.ready .any ops listed).contains i = true)
    (hs : Region.noSelect ops = true) (hy : YieldsIf Try.prog ops S oi v a) (hS : S w)
    (h : wpAnyH Try.prog .any ops Q S fuel (listed.setIfInBounds i true) (a.put (some d) v) w) : wpAnyH Try.prog .any ops Q S (fuel + 1) listed a w :=
  wpAnyH_take hi hs hf hr (fun c a w h => hQ c a d v w (hd ▸ h)) hy hS (hd ▸ h)
theorem me_call {i : Nat} {oi : Oper} {f : Nat} {args : Array Value} {v : Value} {fuel : Nat} {listed : Array Bool} {a : Act} {w : World} {d : Nat} {R : World → Prop}
    (hr : Region.ready .any ops listed = [i]) (hi : ops[i]? = some oi) (hd : oi.dst = some d) (hw : Region.wanted oi (yielded ops a.tmps) = true)
    (hrun : (execOp a.eval oi).run Try.prog w = .ok (.enter f args) w) (hc : Calls Try.prog f args w fun e w' => e = .returned v ∧ R w')
    (h : ∀ w', R w' → S w' ∧ wpAnyH Try.prog .any ops Q S fuel (listed.setIfInBounds i true) (a.put (some d) v) w') : wpAnyH Try.prog .any ops Q S (fuel + 1) listed a w := by
  refine wpAnyH_ready (rs := [i]) hr (by simp) (AllReadyH.cons hi (fun K hK => ?_) AllReadyH.nil)
  rw [if_pos hw]
  unfold Oper.wp
  rw [hrun, Oper.upon_enter]
  refine hc.mono ?_
  rintro e w' ⟨rfl, hR⟩
  obtain ⟨h1, h2⟩ := h w' hR
  rw [hd]
  exact hK.out _ _ h1 (fun _ => h2)
end
section
variable (ev : Operand → Value) (d : Option Tmp) (ty : TypeId) (p : String) (af : Array Edge) (g : Option (Nat × Bool)) (w : World)
theorem mr_move (x : Operand) (v : Value) (h : ev x = v) : (execOp ev (Oper.mk d (.move x) ty p af g)).run Try.prog w = .ok (.value v) w := by
  subst h; rfl
theorem mr_assign (x : Operand) (v : Value) (h : ev x = v) : (execOp ev (Oper.mk d (.assign x) ty p af g)).run Try.prog w = .ok (.value v) w := by
  subst h; rfl
theorem mr_pick (c x y : Operand) (b : Bool) (v : Value) (hc : ev c = .bool b) (h : (if b then ev x else ev y) = v) : (execOp ev (Oper.mk d (.pick c x y) ty p af g)).run Try.prog w = .ok (.value v) w := by
  subst h; cases b <;> go_simp
theorem mr_len (x : Operand) (sa : Option Addr) (sl sc : Nat) (h : ev x = .slice sa sl sc) : (execOp ev (Oper.mk d (.call (Call.mk (.builtin .len) #[x] #[28])) ty p af g)).run Try.prog w = .ok (.value (.int .i64 (sl : Int))) w := by
  go_simp
theorem mr_leq (x : Operand) (sl : Nat) (h : ev x = .int .i64 (sl : Int)) (h2 : (sl : Int) ≤ 16) (hc : ev (.const (.int .i64 16)) = .int .i64 16) : (execOp ev (Oper.mk d (.binOp .leq 3 x (.const (.int .i64 16)) 3) ty p af g)).run Try.prog w = .ok (.value (.bool true)) w := by
  go_simp
theorem mr_zero (x : Operand) (h : ev x = .int .i64 0) (hc : ev (.const (.int .i64 0)) = .int .i64 0) : (execOp ev (Oper.mk d (.binOp .eql 25 x (.const (.int .i64 0)) 25) ty p af g)).run Try.prog w = .ok (.value (.bool true)) w := by
  go_simp
theorem mr_same (x y : Operand) (f u : Nat → Bool) (h : ev x = .agg (pArr f)) (h2 : ev y = .agg (pArr u)) : (execOp ev (Oper.mk d (.binOp .eql 33 x y 33) ty p af g)).run Try.prog w = .ok (.value (.bool (eqP f u))) w := by
  have heq := fun wx => eq_points f u wx
  go_simp
theorem mr_load (x : Operand) (B : Nat) (f : Nat → Bool) (h : ev x = .pointer (some ⟨B, 0, none⟩)) (hc : w.heap[B]? = some (.cells (pArr f) 33 (0, 0))) : (execOp ev (Oper.mk d (.load 33 x) ty p af g)).run Try.prog w = .ok (.value (.agg (pArr f))) w := by
  unfold execOp
  simp only [h, Instr.loadAt, Instr.sureAddr, Sem.run_bind, Sem.run_pure, Result.andThen_ok, run_loadVar_row w B 33 33 (pArr f) (0, 0) _ hc Try.underlying33 rfl (pinfo f)]
theorem run_enter {f : FuncId} {fn : Func} (hf : Try.prog.funcs[f]? = some fn) (hname : (fn.name == "runtime.NumGoroutine") = false) (hb : fn.body.isNone = false) (args : Array Value) (w : World) : (callFunc f args).run Try.prog w = .ok (.enter f args) w := by
  have h1 : ¬ fn.name = "runtime.NumGoroutine" := by simpa using hname
  have h2 : ¬ fn.body = none := by intro e; rw [e] at hb; cases hb
  simp [callFunc, Sem.run_bind, hf, h1, h2]
theorem mr_enter (f : Nat) (x : Operand) (v : Value) (ts : Array TypeId) (h : ev x = v) (hf : ev (.func f) = .func (.func f) #[] #[]) (hcf : (callFunc f #[v]).run Try.prog w = .ok (.enter f #[v]) w) : (execOp ev (Oper.mk d (.call (Call.mk (.value (.func f)) #[x] ts)) ty p af g)).run Try.prog w = .ok (.enter f #[v]) w := by
  go_simp
end

def mop0 : Oper := Oper.mk (some 5) (Op.move (Operand.tmp 0)) 28 "low.go:142" #[] none
def mop1 : Oper := Oper.mk (some 6) (Op.call (Call.mk (Callee.builtin Builtin.len) #[Operand.tmp 5] #[28])) 3 "low.go:142" #[Edge.mk 0 Ground.data] none
def mop2 : Oper := Oper.mk (some 7) (Op.binOp BinOp.leq 3 (Operand.tmp 6) (Operand.const (Value.int IntKind.i64 16)) 3) 4 "low.go:142" #[Edge.mk 1 Ground.data] none
def mop3 : Oper := Oper.mk (some 8) (Op.move (Operand.tmp 7)) 4 "low.go:142" #[Edge.mk 2 Ground.data] none
def mop4 : Oper := Oper.mk (some 9) (Op.move (Operand.tmp 0)) 28 "low.go:142" #[Edge.mk 3 Ground.guard] (some (3, true))
def mop5 : Oper := Oper.mk (some 10) (Op.call (Call.mk (Callee.value (Operand.func 18)) #[Operand.tmp 9] #[28])) 25 "low.go:142" #[Edge.mk 4 Ground.data, Edge.mk 3 Ground.chain, Edge.mk 3 Ground.guard] (some (3, true))
def mop6 : Oper := Oper.mk (some 11) (Op.binOp BinOp.eql 25 (Operand.tmp 10) (Operand.const (Value.int IntKind.i64 0)) 25) 4 "low.go:142" #[Edge.mk 5 Ground.data, Edge.mk 3 Ground.guard] (some (3, true))
def mop7 : Oper := Oper.mk (some 12) (Op.pick (Operand.tmp 8) (Operand.tmp 11) (Operand.const (Value.bool false))) 4 "low.go:142" #[Edge.mk 3 Ground.data, Edge.mk 6 Ground.data] none
def mop8 : Oper := Oper.mk (some 13) (Op.move (Operand.tmp 12)) 4 "low.go:142" #[Edge.mk 7 Ground.data, Edge.mk 5 Ground.chain] none
def mop9 : Oper := Oper.mk (some 14) (Op.move (Operand.tmp 0)) 28 "low.go:142" #[Edge.mk 8 Ground.guard] (some (8, true))
def mop10 : Oper := Oper.mk (some 15) (Op.call (Call.mk (Callee.value (Operand.func 20)) #[Operand.tmp 14] #[28])) 33 "low.go:142" #[Edge.mk 9 Ground.data, Edge.mk 8 Ground.chain, Edge.mk 8 Ground.guard] (some (8, true))
def mop11 : Oper := Oper.mk (some 16) (Op.load 33 (Operand.tmp 3)) 33 "low.go:142" #[Edge.mk 8 Ground.guard] (some (8, true))
def mop12 : Oper := Oper.mk (some 17) (Op.binOp BinOp.eql 33 (Operand.tmp 15) (Operand.tmp 16) 33) 4 "low.go:142" #[Edge.mk 10 Ground.data, Edge.mk 11 Ground.data, Edge.mk 8 Ground.guard] (some (8, true))
def mop13 : Oper := Oper.mk (some 18) (Op.pick (Operand.tmp 13) (Operand.tmp 17) (Operand.const (Value.bool false))) 4 "low.go:142" #[Edge.mk 8 Ground.data, Edge.mk 12 Ground.data] none
def mop14 : Oper := Oper.mk (some 4) (Op.assign (Operand.tmp 18)) 4 "low.go:142" #[Edge.mk 13 Ground.data, Edge.mk 10 Ground.chain, Edge.mk 0 Ground.phase, Edge.mk 1 Ground.phase, Edge.mk 2 Ground.phase, Edge.mk 3 Ground.phase, Edge.mk 4 Ground.phase, Edge.mk 5 Ground.phase, Edge.mk 6 Ground.phase, Edge.mk 7 Ground.phase, Edge.mk 8 Ground.phase, Edge.mk 9 Ground.phase, Edge.mk 10 Ground.phase, Edge.mk 11 Ground.phase, Edge.mk 12 Ground.phase, Edge.mk 13 Ground.phase] none
def meOps : Array Oper := #[mop0, mop1, mop2, mop3, mop4, mop5, mop6, mop7, mop8, mop9, mop10, mop11, mop12, mop13, mop14]
set_option maxHeartbeats 4000000 in
set_option maxRecDepth 100000 in
theorem means_reg (Q : Exit → Act → World → Prop) (hQ : ∀ c a d v w, Q (.panic c) (Act.put a (some d) v) w → Q (.panic c) a w) (a : Act) (w : World) (B : Nat) (sa : Option Addr) (sl sc : Nat) (f u : Nat → Bool) (hsz : a.tmps.size = 19)
    (h0 : a.eval (.tmp 0) = .slice sa sl sc) (h3 : a.eval (.tmp 3) = .pointer (some ⟨B, 0, none⟩)) (hl16 : (sl : Int) ≤ 16) (hB : w.heap[B]? = some (.cells (pArr u) 33 (0, 0)))
    (hfil : ∀ w1, Gr w w1 → Calls Try.prog 18 #[.slice sa sl sc] w1 fun e w' => e = .returned (.int .i64 0) ∧ Gr w1 w') (hof : ∀ w1, Gr w w1 → Calls Try.prog 20 #[.slice sa sl sc] w1 fun e w' => e = .returned (.agg (pArr f)) ∧ Gr w1 w')
    (h : ∀ w', Gr w w' → Q .normal (Act.put (Act.put (Act.put (Act.put (Act.put (Act.put (Act.put (Act.put (Act.put (Act.put (Act.put (Act.put (Act.put (Act.put (Act.put a (some 5) (.slice sa sl sc)) (some 6) (.int .i64 (sl : Int))) (some 7) (.bool true)) (some 8) (.bool true)) (some 9) (.slice sa sl sc)) (some 10) (.int .i64 0)) (some 11) (.bool true)) (some 12) (.bool true)) (some 13) (.bool true)) (some 14) (.slice sa sl sc)) (some 16) (.agg (pArr u))) (some 15) (.agg (pArr f))) (some 17) (.bool (eqP f u))) (some 18) (.bool (eqP f u))) (some 4) (.bool (eqP f u))) w') : (Code.region 1 meOps true).wp Try.prog Q a w := by
  refine wp_region_held_drew (S := fun x => x.heap[B]? = some (.cells (pArr u) 33 (0, 0))) (by kernel_rfl) hB (fun hHeld => ?_)
  show wpAnyH Try.prog .any meOps Q _ 15 (Array.replicate 15 false) a w.drew
  refine me_tk (i := 0) (oi := mop0) (v := .slice sa sl sc) (d := 5) hQ rfl rfl (by kernel_rfl) (by kernel_rfl) (by kernel_rfl) (Or.inl ⟨me_none _ rfl, fun wx hS => mr_move _ _ _ _ _ _ _ _ _ (by simp [me_ne, me_eq, me_size, me_const, hsz, h0, h3])⟩) hHeld ?_
  refine me_tk (i := 1) (oi := mop1) (v := .int .i64 (sl : Int)) (d := 6) hQ rfl rfl (by kernel_rfl) (by kernel_rfl) (by kernel_rfl) (Or.inl ⟨me_none _ rfl, fun wx hS => mr_len _ _ _ _ _ _ _ _ sa sl sc (by simp [me_ne, me_eq, me_size, me_const, hsz, h0, h3])⟩) hHeld ?_
  refine me_tk (i := 2) (oi := mop2) (v := .bool true) (d := 7) hQ rfl rfl (by kernel_rfl) (by kernel_rfl) (by kernel_rfl) (Or.inl ⟨me_none _ rfl, fun wx hS => mr_leq _ _ _ _ _ _ _ _ sl (by simp [me_ne, me_eq, me_size, me_const, hsz, h0, h3]) hl16 rfl⟩) hHeld ?_
  refine me_tk (i := 3) (oi := mop3) (v := .bool true) (d := 8) hQ rfl rfl (by kernel_rfl) (by kernel_rfl) (by kernel_rfl) (Or.inl ⟨me_none _ rfl, fun wx hS => mr_move _ _ _ _ _ _ _ _ _ (by simp [me_ne, me_eq, me_size, me_const, hsz, h0, h3])⟩) hHeld ?_
  refine me_tk (i := 4) (oi := mop4) (v := .slice sa sl sc) (d := 9) hQ rfl rfl (by kernel_rfl) (by kernel_rfl) (by kernel_rfl) (Or.inl ⟨(me_some _ 3 true true rfl (me_yld _ 3 8 true rfl (by simp [me_ne, me_eq, me_size, me_const, hsz, h0, h3]))).trans rfl, fun wx hS => mr_move _ _ _ _ _ _ _ _ _ (by simp [me_ne, me_eq, me_size, me_const, hsz, h0, h3])⟩) hHeld ?_
  refine me_call (i := 5) (oi := mop5) (v := .int .i64 0) (d := 10) (R := Gr _) (by kernel_rfl) rfl rfl ((me_some _ 3 true true rfl (me_yld _ 3 8 true rfl (by simp [me_ne, me_eq, me_size, me_const, hsz, h0, h3]))).trans rfl) (mr_enter _ _ _ _ _ _ _ 18 _ _ _ (by simp [me_ne, me_eq, me_size, me_const, hsz, h0, h3]) rfl (run_enter Try.func18 (by kernel_rfl) (by kernel_rfl) _ _)) (hfil _ ((Gr.refl w).drew)) (fun w1 g1 => ?_)
  replace hHeld := (Below.block g1 _ (Blk_lt hHeld)).trans hHeld
  refine ⟨hHeld, ?_⟩
  refine me_tk (i := 6) (oi := mop6) (v := .bool true) (d := 11) hQ rfl rfl (by kernel_rfl) (by kernel_rfl) (by kernel_rfl) (Or.inl ⟨(me_some _ 3 true true rfl (me_yld _ 3 8 true rfl (by simp [me_ne, me_eq, me_size, me_const, hsz, h0, h3]))).trans rfl, fun wx hS => mr_zero _ _ _ _ _ _ _ _ (by simp [me_ne, me_eq, me_size, me_const, hsz, h0, h3]) rfl⟩) hHeld ?_
  refine me_tk (i := 7) (oi := mop7) (v := .bool true) (d := 12) hQ rfl rfl (by kernel_rfl) (by kernel_rfl) (by kernel_rfl) (Or.inl ⟨me_none _ rfl, fun wx hS => mr_pick _ _ _ _ _ _ _ _ _ _ true _ (by simp [me_ne, me_eq, me_size, me_const, hsz, h0, h3]) (by simp [me_ne, me_eq, me_size, me_const, hsz, h0, h3])⟩) hHeld ?_
  refine me_tk (i := 8) (oi := mop8) (v := .bool true) (d := 13) hQ rfl rfl (by kernel_rfl) (by kernel_rfl) (by kernel_rfl) (Or.inl ⟨me_none _ rfl, fun wx hS => mr_move _ _ _ _ _ _ _ _ _ (by simp [me_ne, me_eq, me_size, me_const, hsz, h0, h3])⟩) hHeld ?_
  refine me_tk (i := 9) (oi := mop9) (v := .slice sa sl sc) (d := 14) hQ rfl rfl (by kernel_rfl) (by kernel_rfl) (by kernel_rfl) (Or.inl ⟨(me_some _ 8 true true rfl (me_yld _ 8 13 true rfl (by simp [me_ne, me_eq, me_size, me_const, hsz, h0, h3]))).trans rfl, fun wx hS => mr_move _ _ _ _ _ _ _ _ _ (by simp [me_ne, me_eq, me_size, me_const, hsz, h0, h3])⟩) hHeld ?_
  refine me_tk (i := 11) (oi := mop11) (v := .agg (pArr u)) (d := 16) hQ rfl rfl (by kernel_rfl) (by kernel_rfl) (by kernel_rfl) (Or.inl ⟨(me_some _ 8 true true rfl (me_yld _ 8 13 true rfl (by simp [me_ne, me_eq, me_size, me_const, hsz, h0, h3]))).trans rfl, fun wx hS => mr_load _ _ _ _ _ _ _ _ B u (by simp [me_ne, me_eq, me_size, me_const, hsz, h0, h3]) hS⟩) hHeld ?_
  refine me_call (i := 10) (oi := mop10) (v := .agg (pArr f)) (d := 15) (R := Gr _) (by kernel_rfl) rfl rfl ((me_some _ 8 true true rfl (me_yld _ 8 13 true rfl (by simp [me_ne, me_eq, me_size, me_const, hsz, h0, h3]))).trans rfl) (mr_enter _ _ _ _ _ _ _ 20 _ _ _ (by simp [me_ne, me_eq, me_size, me_const, hsz, h0, h3]) rfl (run_enter Try.func20 (by kernel_rfl) (by kernel_rfl) _ _)) (hof _ (((Gr.refl w).drew).trans g1)) (fun w2 g2 => ?_)
  replace hHeld := (Below.block g2 _ (Blk_lt hHeld)).trans hHeld
  refine ⟨hHeld, ?_⟩
  refine me_tk (i := 12) (oi := mop12) (v := .bool (eqP f u)) (d := 17) hQ rfl rfl (by kernel_rfl) (by kernel_rfl) (by kernel_rfl) (Or.inl ⟨(me_some _ 8 true true rfl (me_yld _ 8 13 true rfl (by simp [me_ne, me_eq, me_size, me_const, hsz, h0, h3]))).trans rfl, fun wx hS => mr_same _ _ _ _ _ _ _ _ _ f u (by simp [me_ne, me_eq, me_size, me_const, hsz, h0, h3]) (by simp [me_ne, me_eq, me_size, me_const, hsz, h0, h3])⟩) hHeld ?_
  refine me_tk (i := 13) (oi := mop13) (v := .bool (eqP f u)) (d := 18) hQ rfl rfl (by kernel_rfl) (by kernel_rfl) (by kernel_rfl) (Or.inl ⟨me_none _ rfl, fun wx hS => mr_pick _ _ _ _ _ _ _ _ _ _ true _ (by simp [me_ne, me_eq, me_size, me_const, hsz, h0, h3]) (by simp [me_ne, me_eq, me_size, me_const, hsz, h0, h3])⟩) hHeld ?_
  refine me_tk (i := 14) (oi := mop14) (v := .bool (eqP f u)) (d := 4) hQ rfl rfl (by kernel_rfl) (by kernel_rfl) (by kernel_rfl) (Or.inl ⟨me_none _ rfl, fun wx hS => mr_assign _ _ _ _ _ _ _ _ _ (by simp [me_ne, me_eq, me_size, me_const, hsz, h0, h3])⟩) hHeld ?_
  exact wpAnyH_done (by kernel_rfl) (h _ ((((Gr.refl w).drew).trans g1).trans g2)) _

set_option maxHeartbeats 1000000 in
set_option maxRecDepth 100000 in
theorem means_any {v : Value} {T : Nat → Nat} {w : World} (h : FSn 16 w v T) (u : Nat → Bool) :
    Calls Try.prog 14 #[v, .agg (pArr u)] w fun e w' => e = .returned (.bool (eqP (ptF T) u)) ∧ Gr w w' := by
  obtain ⟨F, hr, hF, hl, hT⟩ := h
  have hTT : eqP (ptF (tabF F)) u = eqP (ptF T) u := by
    unfold eqP
    rw [Bool.eq_iff_iff]
    simp only [List.all_eq_true, List.mem_range]
    constructor <;> intro hh i hi <;> have := hh i hi <;> simp only [ptF] at this ⊢
    · rw [← hT _ (by omega)]; exact this
    · rw [hT _ (by omega)]; exact this
  rw [← hTT]
  clear hTT hT
  obtain ⟨sa, sc, rfl, hsc, hx⟩ := id hr
  rw [List.length_map] at hr
  rw [List.length_map]
  have hl16 : (F.length : Int) ≤ 16 := by omega
  have hfil : ∀ w1, Gr (w.alloc (.cells (pArr u) 33)) w1 → Calls Try.prog 18 #[.slice sa F.length sc] w1 fun e w' => e = .returned (.int .i64 0) ∧ Gr w1 w' := fun w1 g => by
    have := rfilter_any _ _ w1 ((hr.alloc _).gr g)
    rwa [chkF_of hF (by omega)] at this
  have hof : ∀ w1, Gr (w.alloc (.cells (pArr u) 33)) w1 → Calls Try.prog 20 #[.slice sa F.length sc] w1 fun e w' => e = .returned (.agg (pArr (ptF (tabF F)))) ∧ Gr w1 w' := fun w1 g =>
    of_pts _ F w1 ((hr.alloc _).gr g) hF (by omega)
  have HFI := Lib.hid hfil
  have HOF := Lib.hid hof
  have HB := Lib.hid (heap_alloc_new w (.cells (pArr u) 33))
  clear hfil hof hr hF hx hsc
  go_enter Try.func14, Try.ntmps14
  go_wp2_with fail
  refine means_reg _ (fun _ _ _ _ _ h => h) _ _ w.heap.size sa F.length sc (ptF (tabF F)) u rfl rfl rfl hl16 HB.out HFI.out HOF.out (fun w' g => ?_)
  simp only [Act.put, List.setIfInBounds_toArray, List.set_cons_zero, List.set_cons_succ]
  go_wp2_with fail
  go_ret
  exact ⟨rfl, ((Gr.refl w).alloc _).trans g⟩
end Go.Proofs.Ythnoafmdecehcaa
