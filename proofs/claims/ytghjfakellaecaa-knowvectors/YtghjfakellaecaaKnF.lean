/- know.has: its drawn region over any frame; Has. -/
import Derived.Test.YtghjfakellaecaaKnE
import Derived.Test.YtghjfakellaecaaReg
namespace Go.Proofs.Ytghjfakellaecaa
open Go.RowKit Rm
set_option linter.unusedVariables false
set_option linter.unusedSimpArgs false
section
variable (ev : Operand → Value) (d : Option Tmp) (ty : TypeId) (p : String) (af : Array Edge) (g : Option (Nat × Bool)) (w : World)
theorem rr_fD0 (x : Operand) (B : Nat) (h : ev x = .pointer (some ⟨B, 0, none⟩)) : (execOp ev (Oper.mk d (.fieldAddr 26 x 0) ty p af g)).run Try.prog w = .ok (.value (.pointer (some ⟨B, 0, none⟩))) w := by
  go_simp
theorem rr_fD1 (x : Operand) (B : Nat) (h : ev x = .pointer (some ⟨B, 0, none⟩)) : (execOp ev (Oper.mk d (.fieldAddr 26 x 1) ty p af g)).run Try.prog w = .ok (.value (.pointer (some ⟨B, 1, none⟩))) w := by
  go_simp
theorem rr_fK0 (x : Operand) (B : Nat) (h : ev x = .pointer (some ⟨B, 0, none⟩)) : (execOp ev (Oper.mk d (.fieldAddr 35 x 0) ty p af g)).run Try.prog w = .ok (.value (.pointer (some ⟨B, 0, none⟩))) w := by
  go_simp
theorem rr_fK1 (x : Operand) (B : Nat) (h : ev x = .pointer (some ⟨B, 0, none⟩)) : (execOp ev (Oper.mk d (.fieldAddr 35 x 1) ty p af g)).run Try.prog w = .ok (.value (.pointer (some ⟨B, 1, none⟩))) w := by
  go_simp
theorem rr_lI (x : Operand) (B o : Nat) (n : Int) (h : ev x = .pointer (some ⟨B, o, none⟩)) (hc : w.cell? ⟨B, o, none⟩ = some (.int .i64 n)) : (execOp ev (Oper.mk d (.load 3 x) ty p af g)).run Try.prog w = .ok (.value (.int .i64 n)) w := by
  go_simp
theorem rr_lS (x : Operand) (B o : Nat) (v : Value) (h : ev x = .pointer (some ⟨B, o, none⟩)) (hc : w.cell? ⟨B, o, none⟩ = some v) : (execOp ev (Oper.mk d (.load 33 x) ty p af g)).run Try.prog w = .ok (.value v) w := by
  go_simp
theorem rr_lK (x : Operand) (B : Nat) (u v : Value) (h : ev x = .pointer (some ⟨B, 0, none⟩)) (hc : w.cell? ⟨B, 0, none⟩ = some u) (hc' : w.cell? ⟨B, 1, none⟩ = some v) : (execOp ev (Oper.mk d (.load 35 x) ty p af g)).run Try.prog w = .ok (.value (.agg #[u, v])) w := by
  go_simp
theorem rr_lD (x : Operand) (B : Nat) (u v : Value) (h : ev x = .pointer (some ⟨B, 0, none⟩)) (hc : w.cell? ⟨B, 0, none⟩ = some u) (hc' : w.cell? ⟨B, 1, none⟩ = some v) : (execOp ev (Oper.mk d (.load 26 x) ty p af g)).run Try.prog w = .ok (.value (.agg #[u, v])) w := by
  go_simp
theorem rr_ix (x y : Operand) (A : Array Value) (s n : Nat) (h : ev x = .agg A) (h' : ev y = .int .i64 (s : Int)) (hix : ∀ w, (Instr.index 108 (.agg A) (.int .i64 (s : Int))).run Try.prog w = .ok (.int .i64 (n : Nat)) w) : (execOp ev (Oper.mk d (.index 108 x y) ty p af g)).run Try.prog w = .ok (.value (.int .i64 (n : Nat))) w := by
  go_simp
theorem rr_leq (x y : Operand) (a b : Int) (q : Bool) (h : ev x = .int .i64 a) (h' : ev y = .int .i64 b) (hq : decide (a ≤ b) = q) : (execOp ev (Oper.mk d (.binOp .leq 3 x y 3) ty p af g)).run Try.prog w = .ok (.value (.bool q)) w := by
  subst hq
  go_simp
end
def hs_0 : Oper := Oper.mk (some 5) (Op.fieldAddr 26 (Operand.tmp 3) 1) 0 "know.go:150" #[] none
def hs_1 : Oper := Oper.mk (some 6) (Op.load 3 (Operand.tmp 5)) 3 "know.go:150" #[Edge.mk 0 Ground.data] none
def hs_2 : Oper := Oper.mk (some 7) (Op.load 35 (Operand.tmp 2)) 35 "know.go:150" #[] none
def hs_3 : Oper := Oper.mk (some 8) (Op.call (Call.mk (Callee.value (Operand.func 61)) #[Operand.tmp 7] #[35])) 108 "know.go:150" #[Edge.mk 2 Ground.data] none
def hs_4 : Oper := Oper.mk (some 9) (Op.fieldAddr 26 (Operand.tmp 3) 0) 0 "know.go:150" #[] none
def hs_5 : Oper := Oper.mk (some 10) (Op.load 3 (Operand.tmp 9)) 3 "know.go:150" #[Edge.mk 4 Ground.data] none
def hs_6 : Oper := Oper.mk (some 11) (Op.index 108 (Operand.tmp 8) (Operand.tmp 10)) 3 "know.go:150" #[Edge.mk 3 Ground.data, Edge.mk 5 Ground.data] none
def hs_7 : Oper := Oper.mk (some 12) (Op.binOp BinOp.leq 3 (Operand.tmp 6) (Operand.tmp 11) 3) 4 "know.go:150" #[Edge.mk 1 Ground.data, Edge.mk 6 Ground.data] none
def hs_8 : Oper := Oper.mk (some 13) (Op.move (Operand.tmp 12)) 4 "know.go:150" #[Edge.mk 7 Ground.data, Edge.mk 3 Ground.chain] none
def hs_9 : Oper := Oper.mk (some 14) (Op.fieldAddr 35 (Operand.tmp 2) 1) 0 "know.go:150" #[Edge.mk 8 Ground.guard] (some (8, false))
def hs_10 : Oper := Oper.mk (some 15) (Op.load 33 (Operand.tmp 14)) 33 "know.go:150" #[Edge.mk 9 Ground.data, Edge.mk 8 Ground.guard] (some (8, false))
def hs_11 : Oper := Oper.mk (some 16) (Op.load 26 (Operand.tmp 3)) 26 "know.go:150" #[Edge.mk 8 Ground.guard] (some (8, false))
def hs_12 : Oper := Oper.mk (some 17) (Op.call (Call.mk (Callee.value (Operand.func 109)) #[Operand.tmp 15, Operand.tmp 16] #[33, 26])) 4 "know.go:150" #[Edge.mk 10 Ground.data, Edge.mk 11 Ground.data, Edge.mk 8 Ground.chain, Edge.mk 8 Ground.guard] (some (8, false))
def hs_13 : Oper := Oper.mk (some 18) (Op.pick (Operand.tmp 13) (Operand.const (Value.bool true)) (Operand.tmp 17)) 4 "know.go:150" #[Edge.mk 8 Ground.data, Edge.mk 12 Ground.data] none
def hs_14 : Oper := Oper.mk (some 4) (Op.assign (Operand.tmp 18)) 4 "know.go:150" #[Edge.mk 13 Ground.data, Edge.mk 12 Ground.chain, Edge.mk 0 Ground.phase, Edge.mk 1 Ground.phase, Edge.mk 2 Ground.phase, Edge.mk 3 Ground.phase, Edge.mk 4 Ground.phase, Edge.mk 5 Ground.phase, Edge.mk 6 Ground.phase, Edge.mk 7 Ground.phase, Edge.mk 8 Ground.phase, Edge.mk 9 Ground.phase, Edge.mk 10 Ground.phase, Edge.mk 11 Ground.phase, Edge.mk 12 Ground.phase, Edge.mk 13 Ground.phase] none
def hs_Ops : Array Oper := #[hs_0, hs_1, hs_2, hs_3, hs_4, hs_5, hs_6, hs_7, hs_8, hs_9, hs_10, hs_11, hs_12, hs_13, hs_14]
set_option maxHeartbeats 4000000 in
set_option maxRecDepth 100000 in
theorem has_reg_no (Q : Exit → Act → World → Prop) (hQ : ∀ c a d v w, Q (.panic c) (Act.put a (some d) v) w → Q (.panic c) a w) (a : Act) (w : World) (g0 g1 s c n : Nat) (vv mv : Value) (A : Array Value) (q : Bool)
    (hsz : a.tmps.size = 19) (h2 : a.eval (.tmp 2) = .pointer (some ⟨g0, 0, none⟩)) (h3 : a.eval (.tmp 3) = .pointer (some ⟨g1, 0, none⟩))
    (hS0 : w.cell? ⟨g0, 0, none⟩ = some vv ∧ w.cell? ⟨g0, 1, none⟩ = some mv ∧ w.cell? ⟨g1, 0, none⟩ = some (.int .i64 (s : Int)) ∧ w.cell? ⟨g1, 1, none⟩ = some (.int .i64 (c : Int))) (hl0 : g0 < w.heap.size) (hl1 : g1 < w.heap.size)
    (hix : ∀ w, (Instr.index 108 (.agg A) (.int .i64 (s : Int))).run Try.prog w = .ok (.int .i64 (n : Nat)) w) (hle : decide ((c : Int) ≤ (n : Int)) = true)
    (HC : ∀ w', Gr w w' → Calls Try.prog 61 #[.agg #[vv, mv]] w' fun e w'' => e = .returned (.agg A) ∧ Gr w' w'')
    (HM : ∀ w', Gr w w' → Calls Try.prog 109 #[mv, .agg #[.int .i64 (s : Int), .int .i64 (c : Int)]] w' fun e w'' => e = .returned (.bool q) ∧ Gr w' w'')
    (h : ∀ w', Gr w w' → Q .normal (Act.put (Act.put (Act.put (Act.put (Act.put (Act.put (Act.put (Act.put (Act.put (Act.put (Act.put (Act.put (Act.put (Act.put (Act.put a (some 5) (.pointer (some ⟨g1, 1, none⟩))) (some 6) (.int .i64 (c : Int))) (some 7) (.agg #[vv, mv])) (some 9) (.pointer (some ⟨g1, 0, none⟩))) (some 10) (.int .i64 (s : Int))) (some 8) (.agg A)) (some 11) (.int .i64 (n : Int))) (some 12) (.bool true)) (some 13) (.bool true)) (some 14) (undef)) (some 15) (undef)) (some 16) (undef)) (some 17) (undef)) (some 18) (.bool true)) (some 4) (.bool true)) w') : (Code.region 1 hs_Ops true).wp Try.prog Q a w := by
  have keep : ∀ x, Gr w x → (fun x => x.cell? ⟨g0, 0, none⟩ = some vv ∧ x.cell? ⟨g0, 1, none⟩ = some mv ∧ x.cell? ⟨g1, 0, none⟩ = some (.int .i64 (s : Int)) ∧ x.cell? ⟨g1, 1, none⟩ = some (.int .i64 (c : Int))) x := fun x gx => ⟨(gx.cells.1 g0 0 hl0).trans hS0.1, (gx.cells.1 g0 1 hl0).trans hS0.2.1, (gx.cells.1 g1 0 hl1).trans hS0.2.2.1, (gx.cells.1 g1 1 hl1).trans hS0.2.2.2⟩
  refine wp_region_held_drew (S := fun x => x.cell? ⟨g0, 0, none⟩ = some vv ∧ x.cell? ⟨g0, 1, none⟩ = some mv ∧ x.cell? ⟨g1, 0, none⟩ = some (.int .i64 (s : Int)) ∧ x.cell? ⟨g1, 1, none⟩ = some (.int .i64 (c : Int))) (by kernel_rfl) hS0 (fun hHeld => ?_)
  show wpAnyH Try.prog .any hs_Ops Q _ 15 (Array.replicate 15 false) a w.drew
  refine re_tk (i := 0) (oi := hs_0) (v := .pointer (some ⟨g1, 1, none⟩)) (d := 5) hQ rfl rfl (by kernel_rfl) (by kernel_rfl) (by kernel_rfl) (Or.inl ⟨re_none _ rfl, fun wx hS => rr_fD1 _ _ _ _ _ _ _ _ g1 (by simp [re_ne, re_eq, re_size, re_const, hsz, h2, h3])⟩) hHeld ?_
  refine re_tk (i := 1) (oi := hs_1) (v := .int .i64 (c : Int)) (d := 6) hQ rfl rfl (by kernel_rfl) (by kernel_rfl) (by kernel_rfl) (Or.inl ⟨re_none _ rfl, fun wx hS => rr_lI _ _ _ _ _ _ _ _ g1 1 (c : Int) (by simp [re_ne, re_eq, re_size, re_const, hsz, h2, h3]) hS.2.2.2⟩) hHeld ?_
  refine re_tk (i := 2) (oi := hs_2) (v := .agg #[vv, mv]) (d := 7) hQ rfl rfl (by kernel_rfl) (by kernel_rfl) (by kernel_rfl) (Or.inl ⟨re_none _ rfl, fun wx hS => rr_lK _ _ _ _ _ _ _ _ g0 vv mv (by simp [re_ne, re_eq, re_size, re_const, hsz, h2, h3]) hS.1 hS.2.1⟩) hHeld ?_
  refine re_tk (i := 4) (oi := hs_4) (v := .pointer (some ⟨g1, 0, none⟩)) (d := 9) hQ rfl rfl (by kernel_rfl) (by kernel_rfl) (by kernel_rfl) (Or.inl ⟨re_none _ rfl, fun wx hS => rr_fD0 _ _ _ _ _ _ _ _ g1 (by simp [re_ne, re_eq, re_size, re_const, hsz, h2, h3])⟩) hHeld ?_
  refine re_tk (i := 5) (oi := hs_5) (v := .int .i64 (s : Int)) (d := 10) hQ rfl rfl (by kernel_rfl) (by kernel_rfl) (by kernel_rfl) (Or.inl ⟨re_none _ rfl, fun wx hS => rr_lI _ _ _ _ _ _ _ _ g1 0 (s : Int) (by simp [re_ne, re_eq, re_size, re_const, hsz, h2, h3]) hS.2.2.1⟩) hHeld ?_
  refine re_one (i := 3) (oi := hs_3) (by kernel_rfl) rfl (re_none _ rfl) (fun K hK => ?_)
  refine re_wcall (d := 8) rfl (rr_enter1 _ _ _ _ _ _ _ 61 _ (.agg #[vv, mv]) _ (by simp [re_ne, re_eq, re_size, re_const, hsz, h2, h3]) rfl (rr_enter_of Try.func61 (by kernel_rfl) (by kernel_rfl) _ _)) (HC w.drew (Gr.refl w).drew) ?_
  rintro e w1 ⟨rfl, g1x⟩
  have G1 := (Gr.refl w).drew.trans g1x
  refine ⟨_, rfl, hK _ _ (keep _ G1) ?_⟩
  refine re_tk (i := 6) (oi := hs_6) (v := .int .i64 (n : Int)) (d := 11) hQ rfl rfl (by kernel_rfl) (by kernel_rfl) (by kernel_rfl) (Or.inl ⟨re_none _ rfl, fun wx hS => rr_ix _ _ _ _ _ _ _ _ _ A s n (by simp [re_ne, re_eq, re_size, re_const, hsz, h2, h3]) (by simp [re_ne, re_eq, re_size, re_const, hsz, h2, h3]) hix⟩) (keep _ G1) ?_
  refine re_tk (i := 7) (oi := hs_7) (v := .bool true) (d := 12) hQ rfl rfl (by kernel_rfl) (by kernel_rfl) (by kernel_rfl) (Or.inl ⟨re_none _ rfl, fun wx hS => rr_leq _ _ _ _ _ _ _ _ _ (c : Int) (n : Int) true (by simp [re_ne, re_eq, re_size, re_const, hsz, h2, h3]) (by simp [re_ne, re_eq, re_size, re_const, hsz, h2, h3]) hle⟩) (keep _ G1) ?_
  refine re_tk (i := 8) (oi := hs_8) (v := .bool true) (d := 13) hQ rfl rfl (by kernel_rfl) (by kernel_rfl) (by kernel_rfl) (Or.inl ⟨re_none _ rfl, fun wx hS => rr_move _ _ _ _ _ _ _ _ _ (by simp [re_ne, re_eq, re_size, re_const, hsz, h2, h3])⟩) (keep _ G1) ?_
  refine re_tk (i := 9) (oi := hs_9) (v := undef) (d := 14) hQ rfl rfl (by kernel_rfl) (by kernel_rfl) (by kernel_rfl) (Or.inr ⟨(re_some _ 8 false true rfl (re_yld _ 8 13 true rfl (by simp [re_ne, re_eq, re_size, re_const, hsz, h2, h3]))).trans rfl, rfl⟩) (keep _ G1) ?_
  refine re_tk (i := 10) (oi := hs_10) (v := undef) (d := 15) hQ rfl rfl (by kernel_rfl) (by kernel_rfl) (by kernel_rfl) (Or.inr ⟨(re_some _ 8 false true rfl (re_yld _ 8 13 true rfl (by simp [re_ne, re_eq, re_size, re_const, hsz, h2, h3]))).trans rfl, rfl⟩) (keep _ G1) ?_
  refine re_tk (i := 11) (oi := hs_11) (v := undef) (d := 16) hQ rfl rfl (by kernel_rfl) (by kernel_rfl) (by kernel_rfl) (Or.inr ⟨(re_some _ 8 false true rfl (re_yld _ 8 13 true rfl (by simp [re_ne, re_eq, re_size, re_const, hsz, h2, h3]))).trans rfl, rfl⟩) (keep _ G1) ?_
  refine re_tk (i := 12) (oi := hs_12) (v := undef) (d := 17) hQ rfl rfl (by kernel_rfl) (by kernel_rfl) (by kernel_rfl) (Or.inr ⟨(re_some _ 8 false true rfl (re_yld _ 8 13 true rfl (by simp [re_ne, re_eq, re_size, re_const, hsz, h2, h3]))).trans rfl, rfl⟩) (keep _ G1) ?_
  refine re_tk (i := 13) (oi := hs_13) (v := .bool true) (d := 18) hQ rfl rfl (by kernel_rfl) (by kernel_rfl) (by kernel_rfl) (Or.inl ⟨re_none _ rfl, fun wx hS => rr_pick _ _ _ _ _ _ _ _ _ _ true _ (by simp [re_ne, re_eq, re_size, re_const, hsz, h2, h3]) (by simp [re_ne, re_eq, re_size, re_const, hsz, h2, h3])⟩) (keep _ G1) ?_
  refine re_tk (i := 14) (oi := hs_14) (v := .bool true) (d := 4) hQ rfl rfl (by kernel_rfl) (by kernel_rfl) (by kernel_rfl) (Or.inl ⟨re_none _ rfl, fun wx hS => rr_assign _ _ _ _ _ _ _ _ _ (by simp [re_ne, re_eq, re_size, re_const, hsz, h2, h3])⟩) (keep _ G1) ?_
  exact wpAnyH_done (by kernel_rfl) (h _ G1) _
set_option maxHeartbeats 4000000 in
set_option maxRecDepth 100000 in
theorem has_reg_yes (Q : Exit → Act → World → Prop) (hQ : ∀ c a d v w, Q (.panic c) (Act.put a (some d) v) w → Q (.panic c) a w) (a : Act) (w : World) (g0 g1 s c n : Nat) (vv mv : Value) (A : Array Value) (q : Bool)
    (hsz : a.tmps.size = 19) (h2 : a.eval (.tmp 2) = .pointer (some ⟨g0, 0, none⟩)) (h3 : a.eval (.tmp 3) = .pointer (some ⟨g1, 0, none⟩))
    (hS0 : w.cell? ⟨g0, 0, none⟩ = some vv ∧ w.cell? ⟨g0, 1, none⟩ = some mv ∧ w.cell? ⟨g1, 0, none⟩ = some (.int .i64 (s : Int)) ∧ w.cell? ⟨g1, 1, none⟩ = some (.int .i64 (c : Int))) (hl0 : g0 < w.heap.size) (hl1 : g1 < w.heap.size)
    (hix : ∀ w, (Instr.index 108 (.agg A) (.int .i64 (s : Int))).run Try.prog w = .ok (.int .i64 (n : Nat)) w) (hle : decide ((c : Int) ≤ (n : Int)) = false)
    (HC : ∀ w', Gr w w' → Calls Try.prog 61 #[.agg #[vv, mv]] w' fun e w'' => e = .returned (.agg A) ∧ Gr w' w'')
    (HM : ∀ w', Gr w w' → Calls Try.prog 109 #[mv, .agg #[.int .i64 (s : Int), .int .i64 (c : Int)]] w' fun e w'' => e = .returned (.bool q) ∧ Gr w' w'')
    (h : ∀ w', Gr w w' → Q .normal (Act.put (Act.put (Act.put (Act.put (Act.put (Act.put (Act.put (Act.put (Act.put (Act.put (Act.put (Act.put (Act.put (Act.put (Act.put a (some 5) (.pointer (some ⟨g1, 1, none⟩))) (some 6) (.int .i64 (c : Int))) (some 7) (.agg #[vv, mv])) (some 9) (.pointer (some ⟨g1, 0, none⟩))) (some 10) (.int .i64 (s : Int))) (some 8) (.agg A)) (some 11) (.int .i64 (n : Int))) (some 12) (.bool false)) (some 13) (.bool false)) (some 14) (.pointer (some ⟨g0, 1, none⟩))) (some 15) (mv)) (some 16) (.agg #[.int .i64 (s : Int), .int .i64 (c : Int)])) (some 17) (.bool q)) (some 18) (.bool q)) (some 4) (.bool q)) w') : (Code.region 1 hs_Ops true).wp Try.prog Q a w := by
  have keep : ∀ x, Gr w x → (fun x => x.cell? ⟨g0, 0, none⟩ = some vv ∧ x.cell? ⟨g0, 1, none⟩ = some mv ∧ x.cell? ⟨g1, 0, none⟩ = some (.int .i64 (s : Int)) ∧ x.cell? ⟨g1, 1, none⟩ = some (.int .i64 (c : Int))) x := fun x gx => ⟨(gx.cells.1 g0 0 hl0).trans hS0.1, (gx.cells.1 g0 1 hl0).trans hS0.2.1, (gx.cells.1 g1 0 hl1).trans hS0.2.2.1, (gx.cells.1 g1 1 hl1).trans hS0.2.2.2⟩
  refine wp_region_held_drew (S := fun x => x.cell? ⟨g0, 0, none⟩ = some vv ∧ x.cell? ⟨g0, 1, none⟩ = some mv ∧ x.cell? ⟨g1, 0, none⟩ = some (.int .i64 (s : Int)) ∧ x.cell? ⟨g1, 1, none⟩ = some (.int .i64 (c : Int))) (by kernel_rfl) hS0 (fun hHeld => ?_)
  show wpAnyH Try.prog .any hs_Ops Q _ 15 (Array.replicate 15 false) a w.drew
  refine re_tk (i := 0) (oi := hs_0) (v := .pointer (some ⟨g1, 1, none⟩)) (d := 5) hQ rfl rfl (by kernel_rfl) (by kernel_rfl) (by kernel_rfl) (Or.inl ⟨re_none _ rfl, fun wx hS => rr_fD1 _ _ _ _ _ _ _ _ g1 (by simp [re_ne, re_eq, re_size, re_const, hsz, h2, h3])⟩) hHeld ?_
  refine re_tk (i := 1) (oi := hs_1) (v := .int .i64 (c : Int)) (d := 6) hQ rfl rfl (by kernel_rfl) (by kernel_rfl) (by kernel_rfl) (Or.inl ⟨re_none _ rfl, fun wx hS => rr_lI _ _ _ _ _ _ _ _ g1 1 (c : Int) (by simp [re_ne, re_eq, re_size, re_const, hsz, h2, h3]) hS.2.2.2⟩) hHeld ?_
  refine re_tk (i := 2) (oi := hs_2) (v := .agg #[vv, mv]) (d := 7) hQ rfl rfl (by kernel_rfl) (by kernel_rfl) (by kernel_rfl) (Or.inl ⟨re_none _ rfl, fun wx hS => rr_lK _ _ _ _ _ _ _ _ g0 vv mv (by simp [re_ne, re_eq, re_size, re_const, hsz, h2, h3]) hS.1 hS.2.1⟩) hHeld ?_
  refine re_tk (i := 4) (oi := hs_4) (v := .pointer (some ⟨g1, 0, none⟩)) (d := 9) hQ rfl rfl (by kernel_rfl) (by kernel_rfl) (by kernel_rfl) (Or.inl ⟨re_none _ rfl, fun wx hS => rr_fD0 _ _ _ _ _ _ _ _ g1 (by simp [re_ne, re_eq, re_size, re_const, hsz, h2, h3])⟩) hHeld ?_
  refine re_tk (i := 5) (oi := hs_5) (v := .int .i64 (s : Int)) (d := 10) hQ rfl rfl (by kernel_rfl) (by kernel_rfl) (by kernel_rfl) (Or.inl ⟨re_none _ rfl, fun wx hS => rr_lI _ _ _ _ _ _ _ _ g1 0 (s : Int) (by simp [re_ne, re_eq, re_size, re_const, hsz, h2, h3]) hS.2.2.1⟩) hHeld ?_
  refine re_one (i := 3) (oi := hs_3) (by kernel_rfl) rfl (re_none _ rfl) (fun K hK => ?_)
  refine re_wcall (d := 8) rfl (rr_enter1 _ _ _ _ _ _ _ 61 _ (.agg #[vv, mv]) _ (by simp [re_ne, re_eq, re_size, re_const, hsz, h2, h3]) rfl (rr_enter_of Try.func61 (by kernel_rfl) (by kernel_rfl) _ _)) (HC w.drew (Gr.refl w).drew) ?_
  rintro e w1 ⟨rfl, g1x⟩
  have G1 := (Gr.refl w).drew.trans g1x
  refine ⟨_, rfl, hK _ _ (keep _ G1) ?_⟩
  refine re_tk (i := 6) (oi := hs_6) (v := .int .i64 (n : Int)) (d := 11) hQ rfl rfl (by kernel_rfl) (by kernel_rfl) (by kernel_rfl) (Or.inl ⟨re_none _ rfl, fun wx hS => rr_ix _ _ _ _ _ _ _ _ _ A s n (by simp [re_ne, re_eq, re_size, re_const, hsz, h2, h3]) (by simp [re_ne, re_eq, re_size, re_const, hsz, h2, h3]) hix⟩) (keep _ G1) ?_
  refine re_tk (i := 7) (oi := hs_7) (v := .bool false) (d := 12) hQ rfl rfl (by kernel_rfl) (by kernel_rfl) (by kernel_rfl) (Or.inl ⟨re_none _ rfl, fun wx hS => rr_leq _ _ _ _ _ _ _ _ _ (c : Int) (n : Int) false (by simp [re_ne, re_eq, re_size, re_const, hsz, h2, h3]) (by simp [re_ne, re_eq, re_size, re_const, hsz, h2, h3]) hle⟩) (keep _ G1) ?_
  refine re_tk (i := 8) (oi := hs_8) (v := .bool false) (d := 13) hQ rfl rfl (by kernel_rfl) (by kernel_rfl) (by kernel_rfl) (Or.inl ⟨re_none _ rfl, fun wx hS => rr_move _ _ _ _ _ _ _ _ _ (by simp [re_ne, re_eq, re_size, re_const, hsz, h2, h3])⟩) (keep _ G1) ?_
  refine re_tk (i := 9) (oi := hs_9) (v := .pointer (some ⟨g0, 1, none⟩)) (d := 14) hQ rfl rfl (by kernel_rfl) (by kernel_rfl) (by kernel_rfl) (Or.inl ⟨(re_some _ 8 false false rfl (re_yld _ 8 13 false rfl (by simp [re_ne, re_eq, re_size, re_const, hsz, h2, h3]))).trans rfl, fun wx hS => rr_fK1 _ _ _ _ _ _ _ _ g0 (by simp [re_ne, re_eq, re_size, re_const, hsz, h2, h3])⟩) (keep _ G1) ?_
  refine re_tk (i := 10) (oi := hs_10) (v := mv) (d := 15) hQ rfl rfl (by kernel_rfl) (by kernel_rfl) (by kernel_rfl) (Or.inl ⟨(re_some _ 8 false false rfl (re_yld _ 8 13 false rfl (by simp [re_ne, re_eq, re_size, re_const, hsz, h2, h3]))).trans rfl, fun wx hS => rr_lS _ _ _ _ _ _ _ _ g0 1 mv (by simp [re_ne, re_eq, re_size, re_const, hsz, h2, h3]) hS.2.1⟩) (keep _ G1) ?_
  refine re_tk (i := 11) (oi := hs_11) (v := .agg #[.int .i64 (s : Int), .int .i64 (c : Int)]) (d := 16) hQ rfl rfl (by kernel_rfl) (by kernel_rfl) (by kernel_rfl) (Or.inl ⟨(re_some _ 8 false false rfl (re_yld _ 8 13 false rfl (by simp [re_ne, re_eq, re_size, re_const, hsz, h2, h3]))).trans rfl, fun wx hS => rr_lD _ _ _ _ _ _ _ _ g1 _ _ (by simp [re_ne, re_eq, re_size, re_const, hsz, h2, h3]) hS.2.2.1 hS.2.2.2⟩) (keep _ G1) ?_
  refine re_one (i := 12) (oi := hs_12) (by kernel_rfl) rfl ((re_some _ 8 false false rfl (re_yld _ 8 13 false rfl (by simp [re_ne, re_eq, re_size, re_const, hsz, h2, h3]))).trans rfl) (fun K hK => ?_)
  refine re_wcall (d := 17) rfl (rr_enter2 _ _ _ _ _ _ _ 109 _ _ mv (.agg #[.int .i64 (s : Int), .int .i64 (c : Int)]) _ (by simp [re_ne, re_eq, re_size, re_const, hsz, h2, h3]) (by simp [re_ne, re_eq, re_size, re_const, hsz, h2, h3]) rfl (rr_enter_of Try.func109 (by kernel_rfl) (by kernel_rfl) _ _)) (HM w1 G1) ?_
  rintro e w2 ⟨rfl, g2x⟩
  have G2 := G1.trans g2x
  refine ⟨_, rfl, hK _ _ (keep _ G2) ?_⟩
  refine re_tk (i := 13) (oi := hs_13) (v := .bool q) (d := 18) hQ rfl rfl (by kernel_rfl) (by kernel_rfl) (by kernel_rfl) (Or.inl ⟨re_none _ rfl, fun wx hS => rr_pick _ _ _ _ _ _ _ _ _ _ false _ (by simp [re_ne, re_eq, re_size, re_const, hsz, h2, h3]) (by simp [re_ne, re_eq, re_size, re_const, hsz, h2, h3])⟩) (keep _ G2) ?_
  refine re_tk (i := 14) (oi := hs_14) (v := .bool q) (d := 4) hQ rfl rfl (by kernel_rfl) (by kernel_rfl) (by kernel_rfl) (Or.inl ⟨re_none _ rfl, fun wx hS => rr_assign _ _ _ _ _ _ _ _ _ (by simp [re_ne, re_eq, re_size, re_const, hsz, h2, h3])⟩) (keep _ G2) ?_
  exact wpAnyH_done (by kernel_rfl) (h _ G2) _
set_option maxHeartbeats 4000000 in
set_option maxRecDepth 100000 in
theorem khas_any (k : Value) (v : List Nat) (m : List (Nat × Nat)) (s c : Nat) (w : World) (hk : KnR w k (ints v) (pairs m)) (ho : OkV v m) (hl : m.length ≤ 60) (hd : inR s c) :
    Calls Try.prog 92 #[k, .agg #[.int .i64 (s : Int), .int .i64 (c : Int)]] w fun e w' => e = .returned (.bool (memB v m s c)) ∧ Gr w w' := by
  have HC : Hid (∀ w', Gr w w' → Calls Try.prog 61 #[k] w' fun e w'' => e = .returned (.agg (cArr v)) ∧ Gr w' w'') := fun w' g => countsOf_any k v _ w' (hk.gr g) ho.len
  obtain ⟨vv, mv, rfl, r1, r2, r3⟩ := hk
  have HM : Hid (∀ w', Gr w w' → Calls Try.prog 109 #[mv, .agg #[.int .i64 (s : Int), .int .i64 (c : Int)]] w' fun e w'' => e = .returned (.bool (m.contains (s, c))) ∧ Gr w' w'') := fun w' g => by
    have := contains_any mv (pairs m) ((s : Int), (c : Int)) w' (r2.gr g) (by rw [pairs_len]; omega)
    have e : decide (((s : Int), (c : Int)) ∈ pairs m) = m.contains (s, c) := by
      rw [Bool.eq_iff_iff]
      simp only [pairs, decide_eq_true_eq, List.mem_map, List.contains_iff_mem, Prod.mk.injEq]
      constructor
      · rintro ⟨⟨a, b⟩, h1, h2, h3⟩
        simp only at h2 h3
        have e1 : a = s := by omega
        have e2 : b = c := by omega
        subst e1 e2; exact h1
      · intro h; exact ⟨(s, c), h, rfl, rfl⟩
    rw [e] at this
    exact this
  obtain ⟨h5, hc1, hc2⟩ := hd
  have HB : Hid (memB v m s c = (decide (c ≤ cv v s) || m.contains (s, c))) := by
    show _ = _
    unfold memB
    congr 1
    simp [hc1]
  have HA := Lib.hid (index_counts v s h5)
  have hcv : (cv v s : Int) ≤ 1000 := by have := cv_le ho.le s; omega
  have h5' : (s : Int) < 5 := by omega
  generalize memB v m s c = R at *
  generalize m.contains (s, c) = q at *
  generalize cv v s = n at *
  generalize cArr v = A at *
  have G2 := Lib.hid (((Gr.refl w).alloc (.cells #[vv, mv] 35)).alloc (.cells #[.int .i64 (s : Int), .int .i64 (c : Int)] 26))
  have T2 := Lib.hid (Two.new (w.alloc (.cells #[vv, mv] 35)) s c 26)
  have e1 : ((w.alloc (.cells #[vv, mv] 35)).alloc (.cells #[.int .i64 (s : Int), .int .i64 (c : Int)] 26)).cell? ⟨w.heap.size, 0, none⟩ = some vv := by simp [go_sem]
  have e2 : ((w.alloc (.cells #[vv, mv] 35)).alloc (.cells #[.int .i64 (s : Int), .int .i64 (c : Int)] 26)).cell? ⟨w.heap.size, 1, none⟩ = some mv := by simp [go_sem]
  have hlt : w.heap.size < ((w.alloc (.cells #[vv, mv] 35)).alloc (.cells #[.int .i64 (s : Int), .int .i64 (c : Int)] 26)).heap.size := by simp; omega
  rw [World.size_alloc] at T2
  clear ho r1 r2 r3
  go_enter Try.func92, Try.ntmps92
  go_wp2_with fail
  generalize (w.alloc (.cells #[vv, mv] 35)).alloc (.cells #[.int .i64 (s : Int), .int .i64 (c : Int)] 26) = w1 at *
  generalize w.heap.size = g0 at *
  obtain ⟨t0, t1, t2⟩ := T2.out
  by_cases hle : c ≤ n
  · refine has_reg_no _ (fun _ _ _ _ _ h => h) _ w1 g0 (g0 + 1) s c n vv mv A q rfl rfl rfl ⟨e1, e2, t1, t2⟩ hlt t0 HA.out (decide_eq_true (by omega)) (fun w' g => HC.out w' (G2.out.trans g)) (fun w' g => HM.out w' (G2.out.trans g)) (fun w3 g3 => ?_)
    simp only [Act.put, List.setIfInBounds_toArray, List.set_cons_zero, List.set_cons_succ]
    go_wp2
    go_ret
    exact ⟨by rw [HB.out, decide_eq_true hle]; rfl, G2.out.trans g3⟩
  · refine has_reg_yes _ (fun _ _ _ _ _ h => h) _ w1 g0 (g0 + 1) s c n vv mv A q rfl rfl rfl ⟨e1, e2, t1, t2⟩ hlt t0 HA.out (decide_eq_false (by omega)) (fun w' g => HC.out w' (G2.out.trans g)) (fun w' g => HM.out w' (G2.out.trans g)) (fun w3 g3 => ?_)
    simp only [Act.put, List.setIfInBounds_toArray, List.set_cons_zero, List.set_cons_succ]
    go_wp2
    go_ret
    exact ⟨by rw [HB.out, decide_eq_false hle]; rfl, G2.out.trans g3⟩
end Go.Proofs.Ytghjfakellaecaa
