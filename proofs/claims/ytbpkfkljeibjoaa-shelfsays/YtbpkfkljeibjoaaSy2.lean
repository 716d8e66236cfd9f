/- Joined: KnF, Reg2, KnK, KnL, KnN, KnT, ShA, GxR, ShB, GxD, PtA, KnX, KnX2, DjA, KnY. -/
import Derived.Test.YtbpkfkljeibjoaaSy1
import Derived.Laws.Rows
import Derived.StillTailTactics
import Derived.Lib.OthersKept
import Derived.Great.Walk
import Derived.Deep.LoopGhost
import Derived.IntWalk
import Derived.Laws.CopyOwn
import Derived.BigQuiet
import Derived.Deep.QuietTactic
/- know.has: its drawn region over any frame; Has. -/
namespace Go.Proofs.Ytbpkfkljeibjoaa
open Go.RowKit Rm
set_option linter.unusedVariables false
set_option linter.unusedSimpArgs false
section
variable (ev : Operand → Value) (d : Option Tmp) (ty : TypeId) (p : String) (af : Array Edge) (g : Option (Nat × Bool)) (w : World)
theorem rr_fD0 (x : Operand) (B : Nat) (h : ev x = .pointer (some ⟨B, 0, none⟩)) : (execOp ev (Oper.mk d (.fieldAddr 24 x 0) ty p af g)).run Try.prog w = .ok (.value (.pointer (some ⟨B, 0, none⟩))) w := by
  go_simp
theorem rr_fD1 (x : Operand) (B : Nat) (h : ev x = .pointer (some ⟨B, 0, none⟩)) : (execOp ev (Oper.mk d (.fieldAddr 24 x 1) ty p af g)).run Try.prog w = .ok (.value (.pointer (some ⟨B, 1, none⟩))) w := by
  go_simp
theorem rr_fK1 (x : Operand) (B : Nat) (h : ev x = .pointer (some ⟨B, 0, none⟩)) : (execOp ev (Oper.mk d (.fieldAddr 30 x 1) ty p af g)).run Try.prog w = .ok (.value (.pointer (some ⟨B, 1, none⟩))) w := by
  go_simp
theorem rr_lI (x : Operand) (B o : Nat) (n : Int) (h : ev x = .pointer (some ⟨B, o, none⟩)) (hc : w.cell? ⟨B, o, none⟩ = some (.int .i64 n)) : (execOp ev (Oper.mk d (.load 3 x) ty p af g)).run Try.prog w = .ok (.value (.int .i64 n)) w := by
  go_simp
theorem rr_lS (x : Operand) (B o : Nat) (v : Value) (h : ev x = .pointer (some ⟨B, o, none⟩)) (hc : w.cell? ⟨B, o, none⟩ = some v) : (execOp ev (Oper.mk d (.load 28 x) ty p af g)).run Try.prog w = .ok (.value v) w := by
  go_simp
theorem rr_lK (x : Operand) (B : Nat) (u v : Value) (h : ev x = .pointer (some ⟨B, 0, none⟩)) (hc : w.cell? ⟨B, 0, none⟩ = some u) (hc' : w.cell? ⟨B, 1, none⟩ = some v) : (execOp ev (Oper.mk d (.load 30 x) ty p af g)).run Try.prog w = .ok (.value (.agg #[u, v])) w := by
  go_simp
theorem rr_lD (x : Operand) (B : Nat) (u v : Value) (h : ev x = .pointer (some ⟨B, 0, none⟩)) (hc : w.cell? ⟨B, 0, none⟩ = some u) (hc' : w.cell? ⟨B, 1, none⟩ = some v) : (execOp ev (Oper.mk d (.load 24 x) ty p af g)).run Try.prog w = .ok (.value (.agg #[u, v])) w := by
  go_simp
theorem rr_ix (x y : Operand) (A : Array Value) (s n : Nat) (h : ev x = .agg A) (h' : ev y = .int .i64 (s : Int)) (hix : ∀ w, (Instr.index 75 (.agg A) (.int .i64 (s : Int))).run Try.prog w = .ok (.int .i64 (n : Nat)) w) : (execOp ev (Oper.mk d (.index 75 x y) ty p af g)).run Try.prog w = .ok (.value (.int .i64 (n : Nat))) w := by
  go_simp
theorem rr_leq (x y : Operand) (a b : Int) (q : Bool) (h : ev x = .int .i64 a) (h' : ev y = .int .i64 b) (hq : decide (a ≤ b) = q) : (execOp ev (Oper.mk d (.binOp .leq 3 x y 3) ty p af g)).run Try.prog w = .ok (.value (.bool q)) w := by
  subst hq
  go_simp
end
def hs_0 : Oper := Oper.mk (some 5) (Op.fieldAddr 24 (Operand.tmp 3) 1) 0 "know.go:150" #[] none
def hs_1 : Oper := Oper.mk (some 6) (Op.load 3 (Operand.tmp 5)) 3 "know.go:150" #[Edge.mk 0 Ground.data] none
def hs_2 : Oper := Oper.mk (some 7) (Op.load 30 (Operand.tmp 2)) 30 "know.go:150" #[] none
def hs_3 : Oper := Oper.mk (some 8) (Op.call (Call.mk (Callee.value (Operand.func 46)) #[Operand.tmp 7] #[30])) 75 "know.go:150" #[Edge.mk 2 Ground.data] none
def hs_4 : Oper := Oper.mk (some 9) (Op.fieldAddr 24 (Operand.tmp 3) 0) 0 "know.go:150" #[] none
def hs_5 : Oper := Oper.mk (some 10) (Op.load 3 (Operand.tmp 9)) 3 "know.go:150" #[Edge.mk 4 Ground.data] none
def hs_6 : Oper := Oper.mk (some 11) (Op.index 75 (Operand.tmp 8) (Operand.tmp 10)) 3 "know.go:150" #[Edge.mk 3 Ground.data, Edge.mk 5 Ground.data] none
def hs_7 : Oper := Oper.mk (some 12) (Op.binOp BinOp.leq 3 (Operand.tmp 6) (Operand.tmp 11) 3) 4 "know.go:150" #[Edge.mk 1 Ground.data, Edge.mk 6 Ground.data] none
def hs_8 : Oper := Oper.mk (some 13) (Op.move (Operand.tmp 12)) 4 "know.go:150" #[Edge.mk 7 Ground.data, Edge.mk 3 Ground.chain] none
def hs_9 : Oper := Oper.mk (some 14) (Op.fieldAddr 30 (Operand.tmp 2) 1) 0 "know.go:150" #[Edge.mk 8 Ground.guard] (some (8, false))
def hs_10 : Oper := Oper.mk (some 15) (Op.load 28 (Operand.tmp 14)) 28 "know.go:150" #[Edge.mk 9 Ground.data, Edge.mk 8 Ground.guard] (some (8, false))
def hs_11 : Oper := Oper.mk (some 16) (Op.load 24 (Operand.tmp 3)) 24 "know.go:150" #[Edge.mk 8 Ground.guard] (some (8, false))
def hs_12 : Oper := Oper.mk (some 17) (Op.call (Call.mk (Callee.value (Operand.func 83)) #[Operand.tmp 15, Operand.tmp 16] #[28, 24])) 4 "know.go:150" #[Edge.mk 10 Ground.data, Edge.mk 11 Ground.data, Edge.mk 8 Ground.chain, Edge.mk 8 Ground.guard] (some (8, false))
def hs_13 : Oper := Oper.mk (some 18) (Op.pick (Operand.tmp 13) (Operand.const (Value.bool true)) (Operand.tmp 17)) 4 "know.go:150" #[Edge.mk 8 Ground.data, Edge.mk 12 Ground.data] none
def hs_14 : Oper := Oper.mk (some 4) (Op.assign (Operand.tmp 18)) 4 "know.go:150" #[Edge.mk 13 Ground.data, Edge.mk 12 Ground.chain, Edge.mk 0 Ground.phase, Edge.mk 1 Ground.phase, Edge.mk 2 Ground.phase, Edge.mk 3 Ground.phase, Edge.mk 4 Ground.phase, Edge.mk 5 Ground.phase, Edge.mk 6 Ground.phase, Edge.mk 7 Ground.phase, Edge.mk 8 Ground.phase, Edge.mk 9 Ground.phase, Edge.mk 10 Ground.phase, Edge.mk 11 Ground.phase, Edge.mk 12 Ground.phase, Edge.mk 13 Ground.phase] none
def hs_Ops : Array Oper := #[hs_0, hs_1, hs_2, hs_3, hs_4, hs_5, hs_6, hs_7, hs_8, hs_9, hs_10, hs_11, hs_12, hs_13, hs_14]
set_option maxHeartbeats 4000000 in
set_option maxRecDepth 100000 in
theorem has_reg_no (Q : Exit → Act → World → Prop) (hQ : ∀ c a d v w, Q (.panic c) (Act.put a (some d) v) w → Q (.panic c) a w) (a : Act) (w : World) (g0 g1 s c n : Nat) (vv mv : Value) (A : Array Value) (q : Bool)
    (hsz : a.tmps.size = 19) (h2 : a.eval (.tmp 2) = .pointer (some ⟨g0, 0, none⟩)) (h3 : a.eval (.tmp 3) = .pointer (some ⟨g1, 0, none⟩))
    (hS0 : w.cell? ⟨g0, 0, none⟩ = some vv ∧ w.cell? ⟨g0, 1, none⟩ = some mv ∧ w.cell? ⟨g1, 0, none⟩ = some (.int .i64 (s : Int)) ∧ w.cell? ⟨g1, 1, none⟩ = some (.int .i64 (c : Int))) (hl0 : g0 < w.heap.size) (hl1 : g1 < w.heap.size)
    (hix : ∀ w, (Instr.index 75 (.agg A) (.int .i64 (s : Int))).run Try.prog w = .ok (.int .i64 (n : Nat)) w) (hle : decide ((c : Int) ≤ (n : Int)) = true)
    (HC : ∀ w', Gr w w' → Calls Try.prog 46 #[.agg #[vv, mv]] w' fun e w'' => e = .returned (.agg A) ∧ Gr w' w'')
    (HM : ∀ w', Gr w w' → Calls Try.prog 83 #[mv, .agg #[.int .i64 (s : Int), .int .i64 (c : Int)]] w' fun e w'' => e = .returned (.bool q) ∧ Gr w' w'')
    (h : ∀ w', Gr w w' → Q .normal (Act.put (Act.put (Act.put (Act.put (Act.put (Act.put (Act.put (Act.put (Act.put (Act.put (Act.put (Act.put (Act.put (Act.put (Act.put a (some 5) (.pointer (some ⟨g1, 1, none⟩))) (some 6) (.int .i64 (c : Int))) (some 7) (.agg #[vv, mv])) (some 9) (.pointer (some ⟨g1, 0, none⟩))) (some 10) (.int .i64 (s : Int))) (some 8) (.agg A)) (some 11) (.int .i64 (n : Int))) (some 12) (.bool true)) (some 13) (.bool true)) (some 14) (undef)) (some 15) (undef)) (some 16) (undef)) (some 17) (undef)) (some 18) (.bool true)) (some 4) (.bool true)) w') : (Code.region 1 hs_Ops true).wp Try.prog Q a w := by
  have keep : ∀ x, Gr w x → (fun x => x.cell? ⟨g0, 0, none⟩ = some vv ∧ x.cell? ⟨g0, 1, none⟩ = some mv ∧ x.cell? ⟨g1, 0, none⟩ = some (.int .i64 (s : Int)) ∧ x.cell? ⟨g1, 1, none⟩ = some (.int .i64 (c : Int))) x := fun x gx => ⟨(gx.cells.1 g0 0 hl0).trans hS0.1, (gx.cells.1 g0 1 hl0).trans hS0.2.1, (gx.cells.1 g1 0 hl1).trans hS0.2.2.1, (gx.cells.1 g1 1 hl1).trans hS0.2.2.2⟩
  refine wp_region_held_drew (S := fun x => x.cell? ⟨g0, 0, none⟩ = some vv ∧ x.cell? ⟨g0, 1, none⟩ = some mv ∧ x.cell? ⟨g1, 0, none⟩ = some (.int .i64 (s : Int)) ∧ x.cell? ⟨g1, 1, none⟩ = some (.int .i64 (c : Int))) (by kernel_rfl) hS0 (fun hHeld => ?_)
  show wpAnyH Try.prog .any hs_Ops Q _ 15 (Array.replicate 15 false) a w.drew
  refine re_tk (i := 0) (oi := hs_0) (v := .pointer (some ⟨g1, 1, none⟩)) (d := 5) hQ rfl rfl (by kernel_rfl) (by kernel_rfl) (by kernel_rfl) (Or.inl ⟨re_none _ rfl, fun wx hS => rr_fD1 _ _ _ _ _ _ _ _ g1 (by simp [re_ne, re_eq, re_size, re_const, hsz, h2, h3])⟩) hHeld ?_
  refine re_tk (i := 1) (oi := hs_1) (v := .int .i64 (c : Int)) (d := 6) hQ rfl rfl (by kernel_rfl) (by kernel_rfl) (by kernel_rfl) (Or.inl ⟨re_none _ rfl, fun wx hS => rr_lI _ _ _ _ _ _ _ _ g1 1 (c : Int) (by simp [re_ne, re_eq, re_size, re_const, hsz, h2, h3]) hS.2.2.2⟩) hHeld ?_
  refine re_tk (i := 2) (oi := hs_2) (v := .agg #[vv, mv]) (d := 7) hQ rfl rfl (by kernel_rfl) (by kernel_rfl) (by kernel_rfl) (Or.inl ⟨re_none _ rfl, fun wx hS => rr_lK _ _ _ _ _ _ _ _ g0 vv mv (by simp [re_ne, re_eq, re_size, re_const, hsz, h2, h3]) hS.1 hS.2.1⟩) hHeld ?_
  refine re_tk (i := 4) (oi := hs_4) (v := .pointer (some ⟨g1, 0, none⟩)) (d := 9) hQ rfl rfl (by kernel_rfl) (by kernel_rfl) (by kernel_rfl) (Or.inl ⟨re_none _ rfl, fun wx hS => rr_fD0 _ _ _ _ _ _ _ _ g1 (by simp [re_ne, re_eq, re_size, re_const, hsz, h2, h3])⟩) hHeld ?_
  refine re_tk (i := 5) (oi := hs_5) (v := .int .i64 (s : Int)) (d := 10) hQ rfl rfl (by kernel_rfl) (by kernel_rfl) (by kernel_rfl) (Or.inl ⟨re_none _ rfl, fun wx hS => rr_lI _ _ _ _ _ _ _ _ g1 0 (s : Int) (by simp [re_ne, re_eq, re_size, re_const, hsz, h2, h3]) hS.2.2.1⟩) hHeld ?_
  refine re_one (i := 3) (oi := hs_3) (by kernel_rfl) rfl (re_none _ rfl) (fun K hK => ?_)
  refine re_wcall (d := 8) rfl (rr_enter1 _ _ _ _ _ _ _ 46 _ (.agg #[vv, mv]) _ (by simp [re_ne, re_eq, re_size, re_const, hsz, h2, h3]) rfl (rr_enter_of Try.func46 (by kernel_rfl) (by kernel_rfl) _ _)) (HC w.drew (Gr.refl w).drew) ?_
  rintro e w1 ⟨rfl, g1x⟩
  have G1 := (Gr.refl w).drew.trans g1x
  refine ⟨_, rfl, hK _ _ (keep _ G1) ?_⟩
  refine re_tk (i := 6) (oi := hs_6) (v := .int .i64 (n : Int)) (d := 11) hQ rfl rfl (by kernel_rfl) (by kernel_rfl) (by kernel_rfl) (Or.inl ⟨re_none _ rfl, fun wx hS => rr_ix _ _ _ _ _ _ _ _ _ A s n (by simp [re_ne, re_eq, re_size, re_const, hsz, h2, h3]) (by simp [re_ne, re_eq, re_size, re_const, hsz, h2, h3]) hix⟩) (keep _ G1) ?_
  refine re_tk (i := 7) (oi := hs_7) (v := .bool true) (d := 12) hQ rfl rfl (by kernel_rfl) (by kernel_rfl) (by kernel_rfl) (Or.inl ⟨re_none _ rfl, fun wx hS => rr_leq _ _ _ _ _ _ _ _ _ (c : Int) (n : Int) true (by simp [re_ne, re_eq, re_size, re_const, hsz, h2, h3]) (by simp [re_ne, re_eq, re_size, re_const, hsz, h2, h3]) hle⟩) (keep _ G1) ?_
  refine re_tk (i := 8) (oi := hs_8) (v := .bool true) (d := 13) hQ rfl rfl (by kernel_rfl) (by kernel_rfl) (by kernel_rfl) (Or.inl ⟨re_none _ rfl, fun wx hS => rr_move _ _ _ _ _ _ _ _ _ (by simp [re_ne, re_eq, re_size, re_const, hsz, h2, h3])⟩) (keep _ G1) ?_
  refine re_tk (i := 9) (oi := hs_9) (v := undef) (d := 14) hQ rfl rfl (by kernel_rfl) (by kernel_rfl) (by kernel_rfl) (Or.inr ⟨(re_some _ 8 false true rfl (re_yld _ 8 13 true rfl (by simp [re_ne, re_eq, re_size, re_const, hsz, h2, h3]))).trans rfl, rfl⟩) (keep _ G1) ?_
  refine re_tk (i := 10) (oi := hs_10) (v := undef) (d := 15) hQ rfl rfl (by kernel_rfl) (by kernel_rfl) (by kernel_rfl) (Or.inr ⟨(re_some _ 8 false true rfl (re_yld _ 8 13 true rfl (by simp [re_ne, re_eq, re_size, re_const, hsz, h2, h3]))).trans rfl, rfl⟩) (keep _ G1) ?_
  refine re_tk (i := 11) (oi := hs_11) (v := undef) (d := 16) hQ rfl rfl (by kernel_rfl) (by kernel_rfl) (by kernel_rfl) (Or.inr ⟨(re_some _ 8 false true rfl (re_yld _ 8 13 true rfl (by simp [re_ne, re_eq, re_size, re_const, hsz, h2, h3]))).trans rfl, rfl⟩) (keep _ G1) ?_
  refine re_tk (i := 12) (oi := hs_12) (v := undef) (d := 17) hQ rfl rfl (by kernel_rfl) (by kernel_rfl) (by kernel_rfl) (Or.inr ⟨(re_some _ 8 false true rfl (re_yld _ 8 13 true rfl (by simp [re_ne, re_eq, re_size, re_const, hsz, h2, h3]))).trans rfl, rfl⟩) (keep _ G1) ?_
  refine re_tk (i := 13) (oi := hs_13) (v := .bool true) (d := 18) hQ rfl rfl (by kernel_rfl) (by kernel_rfl) (by kernel_rfl) (Or.inl ⟨re_none _ rfl, fun wx hS => rr_pick _ _ _ _ _ _ _ _ _ _ true _ (by simp [re_ne, re_eq, re_size, re_const, hsz, h2, h3]) (by simp [re_ne, re_eq, re_size, re_const, hsz, h2, h3])⟩) (keep _ G1) ?_
  refine re_tk (i := 14) (oi := hs_14) (v := .bool true) (d := 4) hQ rfl rfl (by kernel_rfl) (by kernel_rfl) (by kernel_rfl) (Or.inl ⟨re_none _ rfl, fun wx hS => rr_assign _ _ _ _ _ _ _ _ _ (by simp [re_ne, re_eq, re_size, re_const, hsz, h2, h3])⟩) (keep _ G1) ?_
  exact wpAnyH_done (by kernel_rfl) (h _ G1) _
set_option maxHeartbeats 4000000 in
set_option maxRecDepth 100000 in
theorem has_reg_yes (Q : Exit → Act → World → Prop) (hQ : ∀ c a d v w, Q (.panic c) (Act.put a (some d) v) w → Q (.panic c) a w) (a : Act) (w : World) (g0 g1 s c n : Nat) (vv mv : Value) (A : Array Value) (q : Bool)
    (hsz : a.tmps.size = 19) (h2 : a.eval (.tmp 2) = .pointer (some ⟨g0, 0, none⟩)) (h3 : a.eval (.tmp 3) = .pointer (some ⟨g1, 0, none⟩))
    (hS0 : w.cell? ⟨g0, 0, none⟩ = some vv ∧ w.cell? ⟨g0, 1, none⟩ = some mv ∧ w.cell? ⟨g1, 0, none⟩ = some (.int .i64 (s : Int)) ∧ w.cell? ⟨g1, 1, none⟩ = some (.int .i64 (c : Int))) (hl0 : g0 < w.heap.size) (hl1 : g1 < w.heap.size)
    (hix : ∀ w, (Instr.index 75 (.agg A) (.int .i64 (s : Int))).run Try.prog w = .ok (.int .i64 (n : Nat)) w) (hle : decide ((c : Int) ≤ (n : Int)) = false)
    (HC : ∀ w', Gr w w' → Calls Try.prog 46 #[.agg #[vv, mv]] w' fun e w'' => e = .returned (.agg A) ∧ Gr w' w'')
    (HM : ∀ w', Gr w w' → Calls Try.prog 83 #[mv, .agg #[.int .i64 (s : Int), .int .i64 (c : Int)]] w' fun e w'' => e = .returned (.bool q) ∧ Gr w' w'')
    (h : ∀ w', Gr w w' → Q .normal (Act.put (Act.put (Act.put (Act.put (Act.put (Act.put (Act.put (Act.put (Act.put (Act.put (Act.put (Act.put (Act.put (Act.put (Act.put a (some 5) (.pointer (some ⟨g1, 1, none⟩))) (some 6) (.int .i64 (c : Int))) (some 7) (.agg #[vv, mv])) (some 9) (.pointer (some ⟨g1, 0, none⟩))) (some 10) (.int .i64 (s : Int))) (some 8) (.agg A)) (some 11) (.int .i64 (n : Int))) (some 12) (.bool false)) (some 13) (.bool false)) (some 14) (.pointer (some ⟨g0, 1, none⟩))) (some 15) (mv)) (some 16) (.agg #[.int .i64 (s : Int), .int .i64 (c : Int)])) (some 17) (.bool q)) (some 18) (.bool q)) (some 4) (.bool q)) w') : (Code.region 1 hs_Ops true).wp Try.prog Q a w := by
  have keep : ∀ x, Gr w x → (fun x => x.cell? ⟨g0, 0, none⟩ = some vv ∧ x.cell? ⟨g0, 1, none⟩ = some mv ∧ x.cell? ⟨g1, 0, none⟩ = some (.int .i64 (s : Int)) ∧ x.cell? ⟨g1, 1, none⟩ = some (.int .i64 (c : Int))) x := fun x gx => ⟨(gx.cells.1 g0 0 hl0).trans hS0.1, (gx.cells.1 g0 1 hl0).trans hS0.2.1, (gx.cells.1 g1 0 hl1).trans hS0.2.2.1, (gx.cells.1 g1 1 hl1).trans hS0.2.2.2⟩
  refine wp_region_held_drew (S := fun x => x.cell? ⟨g0, 0, none⟩ = some vv ∧ x.cell? ⟨g0, 1, none⟩ = some mv ∧ x.cell? ⟨g1, 0, none⟩ = some (.int .i64 (s : Int)) ∧ x.cell? ⟨g1, 1, none⟩ = some (.int .i64 (c : Int))) (by kernel_rfl) hS0 (fun hHeld => ?_)
  show wpAnyH Try.prog .any hs_Ops Q _ 15 (Array.replicate 15 false) a w.drew
  refine re_tk (i := 0) (oi := hs_0) (v := .pointer (some ⟨g1, 1, none⟩)) (d := 5) hQ rfl rfl (by kernel_rfl) (by kernel_rfl) (by kernel_rfl) (Or.inl ⟨re_none _ rfl, fun wx hS => rr_fD1 _ _ _ _ _ _ _ _ g1 (by simp [re_ne, re_eq, re_size, re_const, hsz, h2, h3])⟩) hHeld ?_
  refine re_tk (i := 1) (oi := hs_1) (v := .int .i64 (c : Int)) (d := 6) hQ rfl rfl (by kernel_rfl) (by kernel_rfl) (by kernel_rfl) (Or.inl ⟨re_none _ rfl, fun wx hS => rr_lI _ _ _ _ _ _ _ _ g1 1 (c : Int) (by simp [re_ne, re_eq, re_size, re_const, hsz, h2, h3]) hS.2.2.2⟩) hHeld ?_
  refine re_tk (i := 2) (oi := hs_2) (v := .agg #[vv, mv]) (d := 7) hQ rfl rfl (by kernel_rfl) (by kernel_rfl) (by kernel_rfl) (Or.inl ⟨re_none _ rfl, fun wx hS => rr_lK _ _ _ _ _ _ _ _ g0 vv mv (by simp [re_ne, re_eq, re_size, re_const, hsz, h2, h3]) hS.1 hS.2.1⟩) hHeld ?_
  refine re_tk (i := 4) (oi := hs_4) (v := .pointer (some ⟨g1, 0, none⟩)) (d := 9) hQ rfl rfl (by kernel_rfl) (by kernel_rfl) (by kernel_rfl) (Or.inl ⟨re_none _ rfl, fun wx hS => rr_fD0 _ _ _ _ _ _ _ _ g1 (by simp [re_ne, re_eq, re_size, re_const, hsz, h2, h3])⟩) hHeld ?_
  refine re_tk (i := 5) (oi := hs_5) (v := .int .i64 (s : Int)) (d := 10) hQ rfl rfl (by kernel_rfl) (by kernel_rfl) (by kernel_rfl) (Or.inl ⟨re_none _ rfl, fun wx hS => rr_lI _ _ _ _ _ _ _ _ g1 0 (s : Int) (by simp [re_ne, re_eq, re_size, re_const, hsz, h2, h3]) hS.2.2.1⟩) hHeld ?_
  refine re_one (i := 3) (oi := hs_3) (by kernel_rfl) rfl (re_none _ rfl) (fun K hK => ?_)
  refine re_wcall (d := 8) rfl (rr_enter1 _ _ _ _ _ _ _ 46 _ (.agg #[vv, mv]) _ (by simp [re_ne, re_eq, re_size, re_const, hsz, h2, h3]) rfl (rr_enter_of Try.func46 (by kernel_rfl) (by kernel_rfl) _ _)) (HC w.drew (Gr.refl w).drew) ?_
  rintro e w1 ⟨rfl, g1x⟩
  have G1 := (Gr.refl w).drew.trans g1x
  refine ⟨_, rfl, hK _ _ (keep _ G1) ?_⟩
  refine re_tk (i := 6) (oi := hs_6) (v := .int .i64 (n : Int)) (d := 11) hQ rfl rfl (by kernel_rfl) (by kernel_rfl) (by kernel_rfl) (Or.inl ⟨re_none _ rfl, fun wx hS => rr_ix _ _ _ _ _ _ _ _ _ A s n (by simp [re_ne, re_eq, re_size, re_const, hsz, h2, h3]) (by simp [re_ne, re_eq, re_size, re_const, hsz, h2, h3]) hix⟩) (keep _ G1) ?_
  refine re_tk (i := 7) (oi := hs_7) (v := .bool false) (d := 12) hQ rfl rfl (by kernel_rfl) (by kernel_rfl) (by kernel_rfl) (Or.inl ⟨re_none _ rfl, fun wx hS => rr_leq _ _ _ _ _ _ _ _ _ (c : Int) (n : Int) false (by simp [re_ne, re_eq, re_size, re_const, hsz, h2, h3]) (by simp [re_ne, re_eq, re_size, re_const, hsz, h2, h3]) hle⟩) (keep _ G1) ?_
  refine re_tk (i := 8) (oi := hs_8) (v := .bool false) (d := 13) hQ rfl rfl (by kernel_rfl) (by kernel_rfl) (by kernel_rfl) (Or.inl ⟨re_none _ rfl, fun wx hS => rr_move _ _ _ _ _ _ _ _ _ (by simp [re_ne, re_eq, re_size, re_const, hsz, h2, h3])⟩) (keep _ G1) ?_
  refine re_tk (i := 9) (oi := hs_9) (v := .pointer (some ⟨g0, 1, none⟩)) (d := 14) hQ rfl rfl (by kernel_rfl) (by kernel_rfl) (by kernel_rfl) (Or.inl ⟨(re_some _ 8 false false rfl (re_yld _ 8 13 false rfl (by simp [re_ne, re_eq, re_size, re_const, hsz, h2, h3]))).trans rfl, fun wx hS => rr_fK1 _ _ _ _ _ _ _ _ g0 (by simp [re_ne, re_eq, re_size, re_const, hsz, h2, h3])⟩) (keep _ G1) ?_
  refine re_tk (i := 10) (oi := hs_10) (v := mv) (d := 15) hQ rfl rfl (by kernel_rfl) (by kernel_rfl) (by kernel_rfl) (Or.inl ⟨(re_some _ 8 false false rfl (re_yld _ 8 13 false rfl (by simp [re_ne, re_eq, re_size, re_const, hsz, h2, h3]))).trans rfl, fun wx hS => rr_lS _ _ _ _ _ _ _ _ g0 1 mv (by simp [re_ne, re_eq, re_size, re_const, hsz, h2, h3]) hS.2.1⟩) (keep _ G1) ?_
  refine re_tk (i := 11) (oi := hs_11) (v := .agg #[.int .i64 (s : Int), .int .i64 (c : Int)]) (d := 16) hQ rfl rfl (by kernel_rfl) (by kernel_rfl) (by kernel_rfl) (Or.inl ⟨(re_some _ 8 false false rfl (re_yld _ 8 13 false rfl (by simp [re_ne, re_eq, re_size, re_const, hsz, h2, h3]))).trans rfl, fun wx hS => rr_lD _ _ _ _ _ _ _ _ g1 _ _ (by simp [re_ne, re_eq, re_size, re_const, hsz, h2, h3]) hS.2.2.1 hS.2.2.2⟩) (keep _ G1) ?_
  refine re_one (i := 12) (oi := hs_12) (by kernel_rfl) rfl ((re_some _ 8 false false rfl (re_yld _ 8 13 false rfl (by simp [re_ne, re_eq, re_size, re_const, hsz, h2, h3]))).trans rfl) (fun K hK => ?_)
  refine re_wcall (d := 17) rfl (rr_enter2 _ _ _ _ _ _ _ 83 _ _ mv (.agg #[.int .i64 (s : Int), .int .i64 (c : Int)]) _ (by simp [re_ne, re_eq, re_size, re_const, hsz, h2, h3]) (by simp [re_ne, re_eq, re_size, re_const, hsz, h2, h3]) rfl (rr_enter_of Try.func83 (by kernel_rfl) (by kernel_rfl) _ _)) (HM w1 G1) ?_
  rintro e w2 ⟨rfl, g2x⟩
  have G2 := G1.trans g2x
  refine ⟨_, rfl, hK _ _ (keep _ G2) ?_⟩
  refine re_tk (i := 13) (oi := hs_13) (v := .bool q) (d := 18) hQ rfl rfl (by kernel_rfl) (by kernel_rfl) (by kernel_rfl) (Or.inl ⟨re_none _ rfl, fun wx hS => rr_pick _ _ _ _ _ _ _ _ _ _ false _ (by simp [re_ne, re_eq, re_size, re_const, hsz, h2, h3]) (by simp [re_ne, re_eq, re_size, re_const, hsz, h2, h3])⟩) (keep _ G2) ?_
  refine re_tk (i := 14) (oi := hs_14) (v := .bool q) (d := 4) hQ rfl rfl (by kernel_rfl) (by kernel_rfl) (by kernel_rfl) (Or.inl ⟨re_none _ rfl, fun wx hS => rr_assign _ _ _ _ _ _ _ _ _ (by simp [re_ne, re_eq, re_size, re_const, hsz, h2, h3])⟩) (keep _ G2) ?_
  exact wpAnyH_done (by kernel_rfl) (h _ G2) _
set_option maxHeartbeats 4000000 in
set_option maxRecDepth 100000 in
theorem khas_any (k : Value) (v : List Nat) (m : List (Nat × Nat)) (s c : Nat) (w : World) (hk : KnR w k (ints v) (pairs m)) (ho : OkV v m) (hl : m.length ≤ 60) (hd : inR s c) :
    Calls Try.prog 69 #[k, .agg #[.int .i64 (s : Int), .int .i64 (c : Int)]] w fun e w' => e = .returned (.bool (memB v m s c)) ∧ Gr w w' := by
  have HC : Hid (∀ w', Gr w w' → Calls Try.prog 46 #[k] w' fun e w'' => e = .returned (.agg (cArr v)) ∧ Gr w' w'') := fun w' g => countsOf_any k v _ w' (hk.gr g) ho.len
  obtain ⟨vv, mv, rfl, r1, r2, r3⟩ := hk
  have HM : Hid (∀ w', Gr w w' → Calls Try.prog 83 #[mv, .agg #[.int .i64 (s : Int), .int .i64 (c : Int)]] w' fun e w'' => e = .returned (.bool (m.contains (s, c))) ∧ Gr w' w'') := fun w' g => by
    have := contains_any mv (pairs m) ((s : Int), (c : Int)) w' (r2.gr g) (by rw [pairs_len]; omega)
    have e : decide (((s : Int), (c : Int)) ∈ pairs m) = m.contains (s, c) := by
      rw [Bool.eq_iff_iff]
      simp only [pairs, decide_eq_true_eq, List.mem_map, List.contains_iff_mem, Prod.mk.injEq]
      constructor
      · rintro ⟨⟨a, b⟩, h1, h2, h3⟩
        simp only at h2 h3
        have e1 : a = s := by omega
        have e2 : b = c := by omega
        subst e1 e2; exact h1
      · intro h; exact ⟨(s, c), h, rfl, rfl⟩
    rw [e] at this
    exact this
  obtain ⟨h5, hc1, hc2⟩ := hd
  have HB : Hid (memB v m s c = (decide (c ≤ cv v s) || m.contains (s, c))) := by
    show _ = _
    unfold memB
    congr 1
    simp [hc1]
  have HA := Lib.hid (index_counts v s h5)
  have hcv : (cv v s : Int) ≤ 1000 := by have := cv_le ho.le s; omega
  have h5' : (s : Int) < 5 := by omega
  generalize memB v m s c = R at *
  generalize m.contains (s, c) = q at *
  generalize cv v s = n at *
  generalize cArr v = A at *
  have G2 := Lib.hid (((Gr.refl w).alloc (.cells #[vv, mv] 30)).alloc (.cells #[.int .i64 (s : Int), .int .i64 (c : Int)] 24))
  have T2 := Lib.hid (Two.new (w.alloc (.cells #[vv, mv] 30)) s c 24)
  have e1 : ((w.alloc (.cells #[vv, mv] 30)).alloc (.cells #[.int .i64 (s : Int), .int .i64 (c : Int)] 24)).cell? ⟨w.heap.size, 0, none⟩ = some vv := by simp [go_sem]
  have e2 : ((w.alloc (.cells #[vv, mv] 30)).alloc (.cells #[.int .i64 (s : Int), .int .i64 (c : Int)] 24)).cell? ⟨w.heap.size, 1, none⟩ = some mv := by simp [go_sem]
  have hlt : w.heap.size < ((w.alloc (.cells #[vv, mv] 30)).alloc (.cells #[.int .i64 (s : Int), .int .i64 (c : Int)] 24)).heap.size := by simp; omega
  rw [World.size_alloc] at T2
  clear ho r1 r2 r3
  go_enter Try.func69, Try.ntmps69
  go_wp2_with fail
  generalize (w.alloc (.cells #[vv, mv] 30)).alloc (.cells #[.int .i64 (s : Int), .int .i64 (c : Int)] 24) = w1 at *
  generalize w.heap.size = g0 at *
  obtain ⟨t0, t1, t2⟩ := T2.out
  by_cases hle : c ≤ n
  · refine has_reg_no _ (fun _ _ _ _ _ h => h) _ w1 g0 (g0 + 1) s c n vv mv A q rfl rfl rfl ⟨e1, e2, t1, t2⟩ hlt t0 HA.out (decide_eq_true (by omega)) (fun w' g => HC.out w' (G2.out.trans g)) (fun w' g => HM.out w' (G2.out.trans g)) (fun w3 g3 => ?_)
    simp only [Act.put, List.setIfInBounds_toArray, List.set_cons_zero, List.set_cons_succ]
    go_wp2
    go_ret
    exact ⟨by rw [HB.out, decide_eq_true hle]; rfl, G2.out.trans g3⟩
  · refine has_reg_yes _ (fun _ _ _ _ _ h => h) _ w1 g0 (g0 + 1) s c n vv mv A q rfl rfl rfl ⟨e1, e2, t1, t2⟩ hlt t0 HA.out (decide_eq_false (by omega)) (fun w' g => HC.out w' (G2.out.trans g)) (fun w' g => HM.out w' (G2.out.trans g)) (fun w3 g3 => ?_)
    simp only [Act.put, List.setIfInBounds_toArray, List.set_cons_zero, List.set_cons_succ]
    go_wp2
    go_ret
    exact ⟨by rw [HB.out, decide_eq_false hle]; rfl, G2.out.trans g3⟩
end Go.Proofs.Ytbpkfkljeibjoaa

/- More on drawn regions: three operations at once; stores; rows. -/
namespace Go.Proofs.Ytbpkfkljeibjoaa
open Go.RowKit Rm
set_option linter.unusedVariables false
set_option linter.unusedSimpArgs false
section
variable {ops : Array Oper} {Q : Exit → Act → World → Prop} {S : World → Prop}
/-- one of three operations -/
theorem re_tri {i j k : Nat} {oi oj ok : Oper} {fuel : Nat} {listed : Array Bool} {a : Act} {w : World} (hr : Region.ready .any ops listed = [i, j, k]) (hi : ops[i]? = some oi) (hj : ops[j]? = some oj) (hk : ops[k]? = some ok)
    (hw : Region.wanted oi (yielded ops a.tmps) = true) (hw' : Region.wanted oj (yielded ops a.tmps) = true) (hw'' : Region.wanted ok (yielded ops a.tmps) = true)
    (h : ∀ K : Act → World → Prop, (∀ a w, S w → wpAnyH Try.prog .any ops Q S fuel (listed.setIfInBounds i true) a w → K a w) → Oper.wp Try.prog oi a w K Q)
    (h' : ∀ K : Act → World → Prop, (∀ a w, S w → wpAnyH Try.prog .any ops Q S fuel (listed.setIfInBounds j true) a w → K a w) → Oper.wp Try.prog oj a w K Q)
    (h'' : ∀ K : Act → World → Prop, (∀ a w, S w → wpAnyH Try.prog .any ops Q S fuel (listed.setIfInBounds k true) a w → K a w) → Oper.wp Try.prog ok a w K Q) : wpAnyH Try.prog .any ops Q S (fuel + 1) listed a w := by
  refine wpAnyH_ready (rs := [i, j, k]) hr (by simp) (AllReadyH.cons hi (fun K hK => ?_) (AllReadyH.cons hj (fun K hK => ?_) (AllReadyH.cons hk (fun K hK => ?_) AllReadyH.nil)))
  · rw [if_pos hw]
    exact h K (fun a w h1 h2 => hK.out a w h1 (fun _ => h2))
  · rw [if_pos hw']
    exact h' K (fun a w h1 h2 => hK.out a w h1 (fun _ => h2))
  · rw [if_pos hw'']
    exact h'' K (fun a w h1 h2 => hK.out a w h1 (fun _ => h2))
/-- a whole row stored -/
theorem re_wrow {oi : Oper} {a : Act} {w : World} {K : Act → World → Prop} (ty : TypeId) (x y : Operand) (ho : oi.op = .store ty x y) (hd : oi.dst = none)
    (g : Nat) (cells : Array Value) (hx : a.eval x = .pointer (some ⟨g, 0, none⟩)) (hy : a.eval y = .agg cells)
    (t : TypeId) (old : Array Value) (hg : w.heap[g]? = some (.cells old t (0, 0))) (hi : (Try.prog.info? ty).map (·.size) = some cells.size)
    (hold : old.size = cells.size) (h1 : cells.all (·.oneCell') = true) (h : K a (w.setRow g cells)) : Oper.wp Try.prog oi a w K Q := by
  refine wp_store_row ty x y ho g cells hx hy t old hg hi hold h1 ?_
  rw [hd]
  exact h
/-- what is to be shown where an operation comes up -/
structure StepW (ops : Array Oper) (Q : Exit → Act → World → Prop) (S : World → Prop) (i : Nat) (oi : Oper) (fuel : Nat) (listed : Array Bool) (a : Act) (w : World) : Prop where
  out : ∀ K : Act → World → Prop, (∀ a w, S w → wpAnyH Try.prog .any ops Q S fuel (listed.setIfInBounds i true) a w → K a w) → Oper.wp Try.prog oi a w K Q
theorem st_one {i : Nat} {oi : Oper} {fuel : Nat} {listed : Array Bool} {a : Act} {w : World} (hr : Region.ready .any ops listed = [i]) (hi : ops[i]? = some oi) (hg : oi.guard = none) (h : StepW ops Q S i oi fuel listed a w) : wpAnyH Try.prog .any ops Q S (fuel + 1) listed a w := re_one hr hi (re_none _ hg) h.out
theorem st_pair {i j : Nat} {oi oj : Oper} {fuel : Nat} {listed : Array Bool} {a : Act} {w : World} (hr : Region.ready .any ops listed = [i, j]) (hi : ops[i]? = some oi) (hj : ops[j]? = some oj) (hg : oi.guard = none) (hg' : oj.guard = none) (h : StepW ops Q S i oi fuel listed a w) (h' : StepW ops Q S j oj fuel listed a w) : wpAnyH Try.prog .any ops Q S (fuel + 1) listed a w := re_pair hr hi hj (re_none _ hg) (re_none _ hg') h.out h'.out
theorem st_tri {i j k : Nat} {oi oj ok : Oper} {fuel : Nat} {listed : Array Bool} {a : Act} {w : World} (hr : Region.ready .any ops listed = [i, j, k]) (hi : ops[i]? = some oi) (hj : ops[j]? = some oj) (hk : ops[k]? = some ok) (hg : oi.guard = none) (hg' : oj.guard = none) (hg'' : ok.guard = none) (h : StepW ops Q S i oi fuel listed a w) (h' : StepW ops Q S j oj fuel listed a w) (h'' : StepW ops Q S k ok fuel listed a w) : wpAnyH Try.prog .any ops Q S (fuel + 1) listed a w := re_tri hr hi hj hk (re_none _ hg) (re_none _ hg') (re_none _ hg'') h.out h'.out h''.out
theorem st_call {i : Nat} {oi : Oper} {fuel : Nat} {listed : Array Bool} {a : Act} {w : World} {f : Nat} {args : Array Value} {A : Ending → World → Prop} {d : Nat} (hd : oi.dst = some d) (hrun : (execOp a.eval oi).run Try.prog w = .ok (.enter f args) w) (hc : Calls Try.prog f args w A)
    (h : ∀ e w', A e w' → ∃ v, e = .returned v ∧ S w' ∧ wpAnyH Try.prog .any ops Q S fuel (listed.setIfInBounds i true) (a.put (some d) v) w') : StepW ops Q S i oi fuel listed a w := by
  refine ⟨fun K hK => ?_⟩
  refine re_wcall hd hrun hc ?_
  intro e w' hA
  obtain ⟨v, h1, h2, h3⟩ := h e w' hA
  exact ⟨v, h1, hK _ _ h2 h3⟩
theorem st_val {i : Nat} {oi : Oper} {fuel : Nat} {listed : Array Bool} {a : Act} {w w' : World} {v : Value} {d : Nat} (hd : oi.dst = some d) (hrun : (execOp a.eval oi).run Try.prog w = .ok (.value v) w') (hS : S w') (h : wpAnyH Try.prog .any ops Q S fuel (listed.setIfInBounds i true) (a.put (some d) v) w') : StepW ops Q S i oi fuel listed a w :=
  ⟨fun K hK => re_wval hd hrun (hK _ _ hS h)⟩
theorem st_row {i : Nat} {oi : Oper} {fuel : Nat} {listed : Array Bool} {a : Act} {w : World} (ty : TypeId) (x y : Operand) (ho : oi.op = .store ty x y) (hd : oi.dst = none)
    (g : Nat) (cells : Array Value) (hx : a.eval x = .pointer (some ⟨g, 0, none⟩)) (hy : a.eval y = .agg cells)
    (t : TypeId) (old : Array Value) (hg : w.heap[g]? = some (.cells old t (0, 0))) (hi : (Try.prog.info? ty).map (·.size) = some cells.size)
    (hold : old.size = cells.size) (h1 : cells.all (·.oneCell') = true) (hS : S (w.setRow g cells)) (h : wpAnyH Try.prog .any ops Q S fuel (listed.setIfInBounds i true) a (w.setRow g cells)) : StepW ops Q S i oi fuel listed a w :=
  ⟨fun K hK => re_wrow ty x y ho hd g cells hx hy t old hg hi hold h1 (hK _ _ hS h)⟩
end
section
variable (ev : Operand → Value) (d : Option Tmp) (ty : TypeId) (p : String) (af : Array Edge) (g : Option (Nat × Bool)) (w : World)
/-- a whole row loaded -/
theorem rr_row (T : TypeId) (x : Operand) (B : Nat) (cs : Array Value) (h : ev x = .pointer (some ⟨B, 0, none⟩)) (hl : (loadVar T ⟨B, 0, none⟩).run Try.prog w = .ok (.agg cs) w) : (execOp ev (Oper.mk d (.load T x) ty p af g)).run Try.prog w = .ok (.value (.agg cs)) w := by
  unfold execOp
  simp only [h, Instr.loadAt, Instr.sureAddr, Sem.run_bind, Sem.run_pure, Result.andThen_ok, hl]
theorem rr_alloc {t : TypeId} {cs : Array Value} (hz : (Try.prog.info? t).bind (·.zero) = some (.agg cs)) : (execOp ev (Oper.mk d (.alloc t) ty p af g)).run Try.prog w = .ok (.value (.pointer (some ⟨w.heap.size, 0, none⟩))) (w.alloc (.cells cs t)) := by
  cases hq : Try.prog.info? t with
  | none => simp [hq] at hz
  | some i =>
    have hz' : i.zero = some (.agg cs) := by simpa [hq] using hz
    simp [execOp, Instr.alloc, zeroValue, typeInfo, hq, hz', newVar, newRow, Value.cells, go_sem]
end
end Go.Proofs.Ytbpkfkljeibjoaa

/- know.Join, Meet, Within: the counts of both, over any frame. -/
set_option linter.unusedVariables false
set_option linter.unusedSimpArgs false
namespace Go.Proofs.Ytbpkfkljeibjoaa
open Go.RowKit Rm
/-- two sets of dots in their blocks -/
def KS2 (g0 g1 : Nat) (vv mv vv' mv' : Value) (x : World) : Prop := x.heap[g0]? = some (.cells #[vv, mv] 30 (0, 0)) ∧ x.heap[g1]? = some (.cells #[vv', mv'] 30 (0, 0))
theorem kc0 {x : World} {g : Nat} {a b : Value} {t : TypeId} {fr : Nat × Nat} (h : x.heap[g]? = some (.cells #[a, b] t fr)) : x.cell? ⟨g, 0, none⟩ = some a := by simp [World.cell?, h]
theorem kc1 {x : World} {g : Nat} {a b : Value} {t : TypeId} {fr : Nat × Nat} (h : x.heap[g]? = some (.cells #[a, b] t fr)) : x.cell? ⟨g, 1, none⟩ = some b := by simp [World.cell?, h]
def zC : Array Value := #[.int .i64 0, .int .i64 0, .int .i64 0, .int .i64 0, .int .i64 0]
theorem counts_zero : (Try.prog.info? 75).bind (·.zero) = some (.agg zC) := by kernel_rfl
def jn4_0 : Oper := Oper.mk (some 17) (Op.load 30 (Operand.tmp 2)) 30 "know.go:58" #[] none
def jn4_1 : Oper := Oper.mk (some 18) (Op.call (Call.mk (Callee.value (Operand.func 46)) #[Operand.tmp 17] #[30])) 75 "know.go:58" #[Edge.mk 0 Ground.data] none
def jn4_2 : Oper := Oper.mk (some 19) (Op.load 30 (Operand.tmp 3)) 30 "know.go:58" #[] none
def jn4_3 : Oper := Oper.mk (some 20) (Op.call (Call.mk (Callee.value (Operand.func 46)) #[Operand.tmp 19] #[30])) 75 "know.go:58" #[Edge.mk 2 Ground.data, Edge.mk 1 Ground.chain] none
def jn4_4 : Oper := Oper.mk (some 7) (Op.alloc 75) 0 "know.go:58" #[] none
def jn4_5 : Oper := Oper.mk (some 8) (Op.alloc 75) 0 "know.go:58" #[] none
def jn4_6 : Oper := Oper.mk none (Op.store 75 (Operand.tmp 7) (Operand.tmp 18)) 0 "know.go:58" #[Edge.mk 4 Ground.data, Edge.mk 1 Ground.data, Edge.mk 3 Ground.chain, Edge.mk 0 Ground.phase, Edge.mk 1 Ground.phase, Edge.mk 2 (Ground.textOnly Departure.lateStores), Edge.mk 3 (Ground.textOnly Departure.lateStoresUnsure), Edge.mk 4 Ground.phase, Edge.mk 5 Ground.phase] none
def jn4_7 : Oper := Oper.mk none (Op.store 75 (Operand.tmp 8) (Operand.tmp 20)) 0 "know.go:58" #[Edge.mk 5 Ground.data, Edge.mk 3 Ground.data, Edge.mk 6 Ground.chain, Edge.mk 0 Ground.phase, Edge.mk 1 Ground.phase, Edge.mk 2 Ground.phase, Edge.mk 3 Ground.phase, Edge.mk 4 Ground.phase, Edge.mk 5 Ground.phase, Edge.mk 6 Ground.phase] none
def jn4_Ops : Array Oper := #[jn4_0, jn4_1, jn4_2, jn4_3, jn4_4, jn4_5, jn4_6, jn4_7]
set_option maxHeartbeats 200000 in
set_option maxRecDepth 100000 in
theorem jn4_reg (Q : Exit → Act → World → Prop) (hQ : ∀ c a d v w, Q (.panic c) (Act.put a (some d) v) w → Q (.panic c) a w) (a : Act) (w : World) (g0 g1 : Nat) (vv mv vv' mv' : Value) (A A' : Array Value)
    (hsz : a.tmps.size = 44) (h2 : a.eval (.tmp 2) = .pointer (some ⟨g0, 0, none⟩)) (h3 : a.eval (.tmp 3) = .pointer (some ⟨g1, 0, none⟩))
    (hS0 : KS2 g0 g1 vv mv vv' mv' w) (hl0 : g0 < w.heap.size) (hl1 : g1 < w.heap.size)
    (hA5 : A.size = 5) (hA1 : A.all (·.oneCell') = true) (hB5 : A'.size = 5) (hB1 : A'.all (·.oneCell') = true)
    (HC : ∀ w', Gr w w' → Calls Try.prog 46 #[.agg #[vv, mv]] w' fun e w'' => e = .returned (.agg A) ∧ Gr w' w'')
    (HC' : ∀ w', Gr w w' → Calls Try.prog 46 #[.agg #[vv', mv']] w' fun e w'' => e = .returned (.agg A') ∧ Gr w' w'')
    (h : ∀ w' b7 b8, Gr w w' → w.heap.size ≤ b7 → w.heap.size ≤ b8 → b7 ≠ b8 → w'.heap[b7]? = some (.cells A 75 (0, 0)) → w'.heap[b8]? = some (.cells A' 75 (0, 0)) → Q .normal (Act.put (Act.put (Act.put (Act.put (Act.put (Act.put a (some 17) (.agg #[vv, mv])) (some 19) (.agg #[vv', mv'])) (some 18) (.agg A)) (some 20) (.agg A')) (some 7) (.pointer (some ⟨b7, 0, none⟩))) (some 8) (.pointer (some ⟨b8, 0, none⟩))) w') : (Code.region 4 jn4_Ops true).wp Try.prog Q a w := by
  have keep : ∀ x, Gr w x → KS2 g0 g1 vv mv vv' mv' x := fun x gx => ⟨(Below.block gx g0 hl0).trans hS0.1, (Below.block gx g1 hl1).trans hS0.2⟩
  have szA : (Try.prog.info? 75).map (·.size) = some A.size := by rw [hA5]; exact counts_size
  have szB : (Try.prog.info? 75).map (·.size) = some A'.size := by rw [hB5]; exact counts_size
  have fin : ∀ (W : World) (b7 b8 : Nat) (L : Array Bool), L = #[true, true, true, true, true, true, false, false] → Gr w W → w.heap.size ≤ b7 → w.heap.size ≤ b8 → b7 ≠ b8 → W.heap[b7]? = some (.cells zC 75 (0, 0)) → W.heap[b8]? = some (.cells zC 75 (0, 0)) →
      wpAnyH Try.prog .any jn4_Ops Q (KS2 g0 g1 vv mv vv' mv') 2 L (Act.put (Act.put (Act.put (Act.put (Act.put (Act.put a (some 17) (.agg #[vv, mv])) (some 19) (.agg #[vv', mv'])) (some 18) (.agg A)) (some 20) (.agg A')) (some 7) (.pointer (some ⟨b7, 0, none⟩))) (some 8) (.pointer (some ⟨b8, 0, none⟩))) W := by
    intro W b7 b8 L hL hg h7 h8 hne e7 e8
    subst hL
    have l7 := (Array.getElem?_eq_some_iff.1 e7).1
    have l8 := (Array.getElem?_eq_some_iff.1 e8).1
    refine st_one (i := 6) (oi := jn4_6) (by kernel_rfl) rfl rfl ?_
    have gA : Gr w (W.setRow b7 A) := below_setRow hg h7 A
    have e8' : (W.setRow b7 A).heap[b8]? = some (.cells zC 75 (0, 0)) := (setRow_other W b7 b8 A (Ne.symm hne)).trans e8
    have e7' : (W.setRow b7 A).heap[b7]? = some (.cells A 75 (0, 0)) := setRow_heap W b7 _ A _ _ e7
    refine st_row 75 (.tmp 7) (.tmp 18) rfl rfl b7 A (by simp [re_ne, re_eq, re_size, re_const, hsz, h2, h3]) (by simp [re_ne, re_eq, re_size, re_const, hsz, h2, h3]) 75 zC e7 szA (by rw [hA5]; rfl) hA1 (keep _ gA) ?_
    refine st_one (i := 7) (oi := jn4_7) (by kernel_rfl) rfl rfl ?_
    have gB : Gr w ((W.setRow b7 A).setRow b8 A') := below_setRow gA h8 A'
    have e7'' : ((W.setRow b7 A).setRow b8 A').heap[b7]? = some (.cells A 75 (0, 0)) := (setRow_other _ b8 b7 A' hne).trans e7'
    refine st_row 75 (.tmp 8) (.tmp 20) rfl rfl b8 A' (by simp [re_ne, re_eq, re_size, re_const, hsz, h2, h3]) (by simp [re_ne, re_eq, re_size, re_const, hsz, h2, h3]) 75 zC e8' szB (by rw [hB5]; rfl) hB1 (keep _ gB) ?_
    exact wpAnyH_done (by kernel_rfl) (h _ b7 b8 gB h7 h8 hne e7'' (setRow_heap _ b8 _ A' _ _ e8')) _
  refine wp_region_held_drew (S := KS2 g0 g1 vv mv vv' mv') (by kernel_rfl) hS0 (fun hHeld => ?_)
  show wpAnyH Try.prog .any jn4_Ops Q _ 8 (Array.replicate 8 false) a w.drew
  refine re_tk (i := 0) (oi := jn4_0) (v := .agg #[vv, mv]) (d := 17) hQ rfl rfl (by kernel_rfl) (by kernel_rfl) (by kernel_rfl) (Or.inl ⟨re_none _ rfl, fun wx hS => rr_lK _ _ _ _ _ _ _ _ g0 vv mv (by simp [re_ne, re_eq, re_size, re_const, hsz, h2, h3]) (kc0 hS.1) (kc1 hS.1)⟩) hHeld ?_
  refine re_tk (i := 2) (oi := jn4_2) (v := .agg #[vv', mv']) (d := 19) hQ rfl rfl (by kernel_rfl) (by kernel_rfl) (by kernel_rfl) (Or.inl ⟨re_none _ rfl, fun wx hS => rr_lK _ _ _ _ _ _ _ _ g1 vv' mv' (by simp [re_ne, re_eq, re_size, re_const, hsz, h2, h3]) (kc0 hS.2) (kc1 hS.2)⟩) hHeld ?_
  have G0 : Gr w w.drew := (Gr.refl w).drew
  refine st_tri (i := 1) (j := 4) (k := 5) (oi := jn4_1) (oj := jn4_4) (ok := jn4_5) (by kernel_rfl) rfl rfl rfl rfl rfl rfl ?_ ?_ ?_
  · refine st_call (d := 18) rfl (rr_enter1 _ _ _ _ _ _ _ 46 _ (.agg #[vv, mv]) _ (by simp [re_ne, re_eq, re_size, re_const, hsz, h2, h3]) rfl (rr_enter_of Try.func46 (by kernel_rfl) (by kernel_rfl) _ _)) (HC w.drew G0) ?_
    rintro e w1 ⟨rfl, g1x⟩
    have G1 := Gr.trans G0 g1x
    have s1 : w.drew.heap.size ≤ w1.heap.size := g1x.le
    refine ⟨_, rfl, keep _ G1, ?_⟩
    refine st_tri (i := 3) (j := 4) (k := 5) (oi := jn4_3) (oj := jn4_4) (ok := jn4_5) (by kernel_rfl) rfl rfl rfl rfl rfl rfl ?_ ?_ ?_
    · refine st_call (d := 20) rfl (rr_enter1 _ _ _ _ _ _ _ 46 _ (.agg #[vv', mv']) _ (by simp [re_ne, re_eq, re_size, re_const, hsz, h2, h3]) rfl (rr_enter_of Try.func46 (by kernel_rfl) (by kernel_rfl) _ _)) (HC' w1 G1) ?_
      rintro e w2 ⟨rfl, g2x⟩
      have G2 := Gr.trans G1 g2x
      have s2 : w1.heap.size ≤ w2.heap.size := g2x.le
      refine ⟨_, rfl, keep _ G2, ?_⟩
      refine st_pair (i := 4) (j := 5) (oi := jn4_4) (oj := jn4_5) (by kernel_rfl) rfl rfl rfl rfl ?_ ?_
      · have G3 := Gr.alloc G2 (.cells zC 75)
        have f3_4 := al_new w2 (.cells zC 75) _ rfl
        have t3 : w.heap.size ≤ w2.heap.size := G2.le
        have u3 : w2.heap.size = w2.heap.size := rfl
        refine st_val (d := 7) rfl (rr_alloc _ _ _ _ _ _ _ counts_zero) (keep _ G3) ?_
        refine st_one (i := 5) (oi := jn4_5) (by kernel_rfl) rfl rfl ?_
        have G4 := Gr.alloc G3 (.cells zC 75)
        have f4_4 := (Below.heap_alloc (w2.alloc (.cells zC 75)) (.cells zC 75) _ (Array.getElem?_eq_some_iff.1 f3_4).1).trans f3_4
        have f4_5 := al_new (w2.alloc (.cells zC 75)) (.cells zC 75) _ rfl
        have t4 : w.heap.size ≤ (w2.alloc (.cells zC 75)).heap.size := G3.le
        have u4 : (w2.alloc (.cells zC 75)).heap.size = (w2.alloc (.cells zC 75)).heap.size := rfl
        have v4_4 : w2.heap.size < (w2.alloc (.cells zC 75)).heap.size := (Array.getElem?_eq_some_iff.1 f3_4).1
        refine st_val (d := 8) rfl (rr_alloc _ _ _ _ _ _ _ counts_zero) (keep _ G4) ?_
        exact fin ((w2.alloc (.cells zC 75)).alloc (.cells zC 75)) w2.heap.size (w2.alloc (.cells zC 75)).heap.size _ rfl G4 t3 t4 (by have := u3; have := u4; omega) f4_4 f4_5
      · have G5 := Gr.alloc G2 (.cells zC 75)
        have f5_5 := al_new w2 (.cells zC 75) _ rfl
        have t5 : w.heap.size ≤ w2.heap.size := G2.le
        have u5 : w2.heap.size = w2.heap.size := rfl
        refine st_val (d := 8) rfl (rr_alloc _ _ _ _ _ _ _ counts_zero) (keep _ G5) ?_
        refine st_one (i := 4) (oi := jn4_4) (by kernel_rfl) rfl rfl ?_
        have G6 := Gr.alloc G5 (.cells zC 75)
        have f6_5 := (Below.heap_alloc (w2.alloc (.cells zC 75)) (.cells zC 75) _ (Array.getElem?_eq_some_iff.1 f5_5).1).trans f5_5
        have f6_4 := al_new (w2.alloc (.cells zC 75)) (.cells zC 75) _ rfl
        have t6 : w.heap.size ≤ (w2.alloc (.cells zC 75)).heap.size := G5.le
        have u6 : (w2.alloc (.cells zC 75)).heap.size = (w2.alloc (.cells zC 75)).heap.size := rfl
        have v6_5 : w2.heap.size < (w2.alloc (.cells zC 75)).heap.size := (Array.getElem?_eq_some_iff.1 f5_5).1
        refine st_val (d := 7) rfl (rr_alloc _ _ _ _ _ _ _ counts_zero) (keep _ G6) ?_
        rw [re_comm _ 8 7 _ _ (by decide)]
        exact fin ((w2.alloc (.cells zC 75)).alloc (.cells zC 75)) (w2.alloc (.cells zC 75)).heap.size w2.heap.size _ rfl G6 t6 t5 (by have := u6; have := u5; omega) f6_4 f6_5
    · have G7 := Gr.alloc G1 (.cells zC 75)
      have f7_4 := al_new w1 (.cells zC 75) _ rfl
      have t7 : w.heap.size ≤ w1.heap.size := G1.le
      have u7 : w1.heap.size = w1.heap.size := rfl
      refine st_val (d := 7) rfl (rr_alloc _ _ _ _ _ _ _ counts_zero) (keep _ G7) ?_
      refine st_pair (i := 3) (j := 5) (oi := jn4_3) (oj := jn4_5) (by kernel_rfl) rfl rfl rfl rfl ?_ ?_
      · refine st_call (d := 20) rfl (rr_enter1 _ _ _ _ _ _ _ 46 _ (.agg #[vv', mv']) _ (by simp [re_ne, re_eq, re_size, re_const, hsz, h2, h3]) rfl (rr_enter_of Try.func46 (by kernel_rfl) (by kernel_rfl) _ _)) (HC' (w1.alloc (.cells zC 75)) G7) ?_
        rintro e w8 ⟨rfl, g8x⟩
        have G8 := Gr.trans G7 g8x
        have f8_4 := (Below.block g8x _ (Array.getElem?_eq_some_iff.1 f7_4).1).trans f7_4
        have s8 : (w1.alloc (.cells zC 75)).heap.size ≤ w8.heap.size := g8x.le
        refine ⟨_, rfl, keep _ G8, ?_⟩
        refine st_one (i := 5) (oi := jn4_5) (by kernel_rfl) rfl rfl ?_
        have G9 := Gr.alloc G8 (.cells zC 75)
        have f9_4 := (Below.heap_alloc w8 (.cells zC 75) _ (Array.getElem?_eq_some_iff.1 f8_4).1).trans f8_4
        have f9_5 := al_new w8 (.cells zC 75) _ rfl
        have t9 : w.heap.size ≤ w8.heap.size := G8.le
        have u9 : w8.heap.size = w8.heap.size := rfl
        have v9_4 : w1.heap.size < w8.heap.size := (Array.getElem?_eq_some_iff.1 f8_4).1
        refine st_val (d := 8) rfl (rr_alloc _ _ _ _ _ _ _ counts_zero) (keep _ G9) ?_
        rw [re_comm _ 7 20 _ _ (by decide)]
        exact fin (w8.alloc (.cells zC 75)) w1.heap.size w8.heap.size _ rfl G9 t7 t9 (by have := u7; have := u9; omega) f9_4 f9_5
      · have G10 := Gr.alloc G7 (.cells zC 75)
        have f10_4 := (Below.heap_alloc (w1.alloc (.cells zC 75)) (.cells zC 75) _ (Array.getElem?_eq_some_iff.1 f7_4).1).trans f7_4
        have f10_5 := al_new (w1.alloc (.cells zC 75)) (.cells zC 75) _ rfl
        have t10 : w.heap.size ≤ (w1.alloc (.cells zC 75)).heap.size := G7.le
        have u10 : (w1.alloc (.cells zC 75)).heap.size = (w1.alloc (.cells zC 75)).heap.size := rfl
        have v10_4 : w1.heap.size < (w1.alloc (.cells zC 75)).heap.size := (Array.getElem?_eq_some_iff.1 f7_4).1
        refine st_val (d := 8) rfl (rr_alloc _ _ _ _ _ _ _ counts_zero) (keep _ G10) ?_
        refine st_one (i := 3) (oi := jn4_3) (by kernel_rfl) rfl rfl ?_
        refine st_call (d := 20) rfl (rr_enter1 _ _ _ _ _ _ _ 46 _ (.agg #[vv', mv']) _ (by simp [re_ne, re_eq, re_size, re_const, hsz, h2, h3]) rfl (rr_enter_of Try.func46 (by kernel_rfl) (by kernel_rfl) _ _)) (HC' ((w1.alloc (.cells zC 75)).alloc (.cells zC 75)) G10) ?_
        rintro e w11 ⟨rfl, g11x⟩
        have G11 := Gr.trans G10 g11x
        have f11_4 := (Below.block g11x _ (Array.getElem?_eq_some_iff.1 f10_4).1).trans f10_4
        have f11_5 := (Below.block g11x _ (Array.getElem?_eq_some_iff.1 f10_5).1).trans f10_5
        have s11 : ((w1.alloc (.cells zC 75)).alloc (.cells zC 75)).heap.size ≤ w11.heap.size := g11x.le
        refine ⟨_, rfl, keep _ G11, ?_⟩
        rw [re_comm _ 8 20 _ _ (by decide), re_comm _ 7 20 _ _ (by decide)]
        exact fin w11 w1.heap.size (w1.alloc (.cells zC 75)).heap.size _ rfl G11 t7 t10 (by have := u7; have := u10; omega) f11_4 f11_5
    · have G12 := Gr.alloc G1 (.cells zC 75)
      have f12_5 := al_new w1 (.cells zC 75) _ rfl
      have t12 : w.heap.size ≤ w1.heap.size := G1.le
      have u12 : w1.heap.size = w1.heap.size := rfl
      refine st_val (d := 8) rfl (rr_alloc _ _ _ _ _ _ _ counts_zero) (keep _ G12) ?_
      refine st_pair (i := 3) (j := 4) (oi := jn4_3) (oj := jn4_4) (by kernel_rfl) rfl rfl rfl rfl ?_ ?_
      · refine st_call (d := 20) rfl (rr_enter1 _ _ _ _ _ _ _ 46 _ (.agg #[vv', mv']) _ (by simp [re_ne, re_eq, re_size, re_const, hsz, h2, h3]) rfl (rr_enter_of Try.func46 (by kernel_rfl) (by kernel_rfl) _ _)) (HC' (w1.alloc (.cells zC 75)) G12) ?_
        rintro e w13 ⟨rfl, g13x⟩
        have G13 := Gr.trans G12 g13x
        have f13_5 := (Below.block g13x _ (Array.getElem?_eq_some_iff.1 f12_5).1).trans f12_5
        have s13 : (w1.alloc (.cells zC 75)).heap.size ≤ w13.heap.size := g13x.le
        refine ⟨_, rfl, keep _ G13, ?_⟩
        refine st_one (i := 4) (oi := jn4_4) (by kernel_rfl) rfl rfl ?_
        have G14 := Gr.alloc G13 (.cells zC 75)
        have f14_5 := (Below.heap_alloc w13 (.cells zC 75) _ (Array.getElem?_eq_some_iff.1 f13_5).1).trans f13_5
        have f14_4 := al_new w13 (.cells zC 75) _ rfl
        have t14 : w.heap.size ≤ w13.heap.size := G13.le
        have u14 : w13.heap.size = w13.heap.size := rfl
        have v14_5 : w1.heap.size < w13.heap.size := (Array.getElem?_eq_some_iff.1 f13_5).1
        refine st_val (d := 7) rfl (rr_alloc _ _ _ _ _ _ _ counts_zero) (keep _ G14) ?_
        rw [re_comm _ 8 20 _ _ (by decide), re_comm _ 8 7 _ _ (by decide)]
        exact fin (w13.alloc (.cells zC 75)) w13.heap.size w1.heap.size _ rfl G14 t14 t12 (by have := u14; have := u12; omega) f14_4 f14_5
      · have G15 := Gr.alloc G12 (.cells zC 75)
        have f15_5 := (Below.heap_alloc (w1.alloc (.cells zC 75)) (.cells zC 75) _ (Array.getElem?_eq_some_iff.1 f12_5).1).trans f12_5
        have f15_4 := al_new (w1.alloc (.cells zC 75)) (.cells zC 75) _ rfl
        have t15 : w.heap.size ≤ (w1.alloc (.cells zC 75)).heap.size := G12.le
        have u15 : (w1.alloc (.cells zC 75)).heap.size = (w1.alloc (.cells zC 75)).heap.size := rfl
        have v15_5 : w1.heap.size < (w1.alloc (.cells zC 75)).heap.size := (Array.getElem?_eq_some_iff.1 f12_5).1
        refine st_val (d := 7) rfl (rr_alloc _ _ _ _ _ _ _ counts_zero) (keep _ G15) ?_
        refine st_one (i := 3) (oi := jn4_3) (by kernel_rfl) rfl rfl ?_
        refine st_call (d := 20) rfl (rr_enter1 _ _ _ _ _ _ _ 46 _ (.agg #[vv', mv']) _ (by simp [re_ne, re_eq, re_size, re_const, hsz, h2, h3]) rfl (rr_enter_of Try.func46 (by kernel_rfl) (by kernel_rfl) _ _)) (HC' ((w1.alloc (.cells zC 75)).alloc (.cells zC 75)) G15) ?_
        rintro e w16 ⟨rfl, g16x⟩
        have G16 := Gr.trans G15 g16x
        have f16_5 := (Below.block g16x _ (Array.getElem?_eq_some_iff.1 f15_5).1).trans f15_5
        have f16_4 := (Below.block g16x _ (Array.getElem?_eq_some_iff.1 f15_4).1).trans f15_4
        have s16 : ((w1.alloc (.cells zC 75)).alloc (.cells zC 75)).heap.size ≤ w16.heap.size := g16x.le
        refine ⟨_, rfl, keep _ G16, ?_⟩
        rw [re_comm _ 8 7 _ _ (by decide), re_comm _ 8 20 _ _ (by decide), re_comm _ 7 20 _ _ (by decide)]
        exact fin w16 (w1.alloc (.cells zC 75)).heap.size w1.heap.size _ rfl G16 t15 t12 (by have := u15; have := u12; omega) f16_4 f16_5
  · have G17 := Gr.alloc G0 (.cells zC 75)
    have f17_4 := al_new w.drew (.cells zC 75) _ rfl
    have t17 : w.heap.size ≤ w.drew.heap.size := G0.le
    have u17 : w.drew.heap.size = w.drew.heap.size := rfl
    refine st_val (d := 7) rfl (rr_alloc _ _ _ _ _ _ _ counts_zero) (keep _ G17) ?_
    refine st_pair (i := 1) (j := 5) (oi := jn4_1) (oj := jn4_5) (by kernel_rfl) rfl rfl rfl rfl ?_ ?_
    · refine st_call (d := 18) rfl (rr_enter1 _ _ _ _ _ _ _ 46 _ (.agg #[vv, mv]) _ (by simp [re_ne, re_eq, re_size, re_const, hsz, h2, h3]) rfl (rr_enter_of Try.func46 (by kernel_rfl) (by kernel_rfl) _ _)) (HC (w.drew.alloc (.cells zC 75)) G17) ?_
      rintro e w18 ⟨rfl, g18x⟩
      have G18 := Gr.trans G17 g18x
      have f18_4 := (Below.block g18x _ (Array.getElem?_eq_some_iff.1 f17_4).1).trans f17_4
      have s18 : (w.drew.alloc (.cells zC 75)).heap.size ≤ w18.heap.size := g18x.le
      refine ⟨_, rfl, keep _ G18, ?_⟩
      refine st_pair (i := 3) (j := 5) (oi := jn4_3) (oj := jn4_5) (by kernel_rfl) rfl rfl rfl rfl ?_ ?_
      · refine st_call (d := 20) rfl (rr_enter1 _ _ _ _ _ _ _ 46 _ (.agg #[vv', mv']) _ (by simp [re_ne, re_eq, re_size, re_const, hsz, h2, h3]) rfl (rr_enter_of Try.func46 (by kernel_rfl) (by kernel_rfl) _ _)) (HC' w18 G18) ?_
        rintro e w19 ⟨rfl, g19x⟩
        have G19 := Gr.trans G18 g19x
        have f19_4 := (Below.block g19x _ (Array.getElem?_eq_some_iff.1 f18_4).1).trans f18_4
        have s19 : w18.heap.size ≤ w19.heap.size := g19x.le
        refine ⟨_, rfl, keep _ G19, ?_⟩
        refine st_one (i := 5) (oi := jn4_5) (by kernel_rfl) rfl rfl ?_
        have G20 := Gr.alloc G19 (.cells zC 75)
        have f20_4 := (Below.heap_alloc w19 (.cells zC 75) _ (Array.getElem?_eq_some_iff.1 f19_4).1).trans f19_4
        have f20_5 := al_new w19 (.cells zC 75) _ rfl
        have t20 : w.heap.size ≤ w19.heap.size := G19.le
        have u20 : w19.heap.size = w19.heap.size := rfl
        have v20_4 : w.drew.heap.size < w19.heap.size := (Array.getElem?_eq_some_iff.1 f19_4).1
        refine st_val (d := 8) rfl (rr_alloc _ _ _ _ _ _ _ counts_zero) (keep _ G20) ?_
        rw [re_comm _ 7 18 _ _ (by decide), re_comm _ 7 20 _ _ (by decide)]
        exact fin (w19.alloc (.cells zC 75)) w.drew.heap.size w19.heap.size _ rfl G20 t17 t20 (by have := u17; have := u20; omega) f20_4 f20_5
      · have G21 := Gr.alloc G18 (.cells zC 75)
        have f21_4 := (Below.heap_alloc w18 (.cells zC 75) _ (Array.getElem?_eq_some_iff.1 f18_4).1).trans f18_4
        have f21_5 := al_new w18 (.cells zC 75) _ rfl
        have t21 : w.heap.size ≤ w18.heap.size := G18.le
        have u21 : w18.heap.size = w18.heap.size := rfl
        have v21_4 : w.drew.heap.size < w18.heap.size := (Array.getElem?_eq_some_iff.1 f18_4).1
        refine st_val (d := 8) rfl (rr_alloc _ _ _ _ _ _ _ counts_zero) (keep _ G21) ?_
        refine st_one (i := 3) (oi := jn4_3) (by kernel_rfl) rfl rfl ?_
        refine st_call (d := 20) rfl (rr_enter1 _ _ _ _ _ _ _ 46 _ (.agg #[vv', mv']) _ (by simp [re_ne, re_eq, re_size, re_const, hsz, h2, h3]) rfl (rr_enter_of Try.func46 (by kernel_rfl) (by kernel_rfl) _ _)) (HC' (w18.alloc (.cells zC 75)) G21) ?_
        rintro e w22 ⟨rfl, g22x⟩
        have G22 := Gr.trans G21 g22x
        have f22_4 := (Below.block g22x _ (Array.getElem?_eq_some_iff.1 f21_4).1).trans f21_4
        have f22_5 := (Below.block g22x _ (Array.getElem?_eq_some_iff.1 f21_5).1).trans f21_5
        have s22 : (w18.alloc (.cells zC 75)).heap.size ≤ w22.heap.size := g22x.le
        refine ⟨_, rfl, keep _ G22, ?_⟩
        rw [re_comm _ 7 18 _ _ (by decide), re_comm _ 8 20 _ _ (by decide), re_comm _ 7 20 _ _ (by decide)]
        exact fin w22 w.drew.heap.size w18.heap.size _ rfl G22 t17 t21 (by have := u17; have := u21; omega) f22_4 f22_5
    · have G23 := Gr.alloc G17 (.cells zC 75)
      have f23_4 := (Below.heap_alloc (w.drew.alloc (.cells zC 75)) (.cells zC 75) _ (Array.getElem?_eq_some_iff.1 f17_4).1).trans f17_4
      have f23_5 := al_new (w.drew.alloc (.cells zC 75)) (.cells zC 75) _ rfl
      have t23 : w.heap.size ≤ (w.drew.alloc (.cells zC 75)).heap.size := G17.le
      have u23 : (w.drew.alloc (.cells zC 75)).heap.size = (w.drew.alloc (.cells zC 75)).heap.size := rfl
      have v23_4 : w.drew.heap.size < (w.drew.alloc (.cells zC 75)).heap.size := (Array.getElem?_eq_some_iff.1 f17_4).1
      refine st_val (d := 8) rfl (rr_alloc _ _ _ _ _ _ _ counts_zero) (keep _ G23) ?_
      refine st_one (i := 1) (oi := jn4_1) (by kernel_rfl) rfl rfl ?_
      refine st_call (d := 18) rfl (rr_enter1 _ _ _ _ _ _ _ 46 _ (.agg #[vv, mv]) _ (by simp [re_ne, re_eq, re_size, re_const, hsz, h2, h3]) rfl (rr_enter_of Try.func46 (by kernel_rfl) (by kernel_rfl) _ _)) (HC ((w.drew.alloc (.cells zC 75)).alloc (.cells zC 75)) G23) ?_
      rintro e w24 ⟨rfl, g24x⟩
      have G24 := Gr.trans G23 g24x
      have f24_4 := (Below.block g24x _ (Array.getElem?_eq_some_iff.1 f23_4).1).trans f23_4
      have f24_5 := (Below.block g24x _ (Array.getElem?_eq_some_iff.1 f23_5).1).trans f23_5
      have s24 : ((w.drew.alloc (.cells zC 75)).alloc (.cells zC 75)).heap.size ≤ w24.heap.size := g24x.le
      refine ⟨_, rfl, keep _ G24, ?_⟩
      refine st_one (i := 3) (oi := jn4_3) (by kernel_rfl) rfl rfl ?_
      refine st_call (d := 20) rfl (rr_enter1 _ _ _ _ _ _ _ 46 _ (.agg #[vv', mv']) _ (by simp [re_ne, re_eq, re_size, re_const, hsz, h2, h3]) rfl (rr_enter_of Try.func46 (by kernel_rfl) (by kernel_rfl) _ _)) (HC' w24 G24) ?_
      rintro e w25 ⟨rfl, g25x⟩
      have G25 := Gr.trans G24 g25x
      have f25_4 := (Below.block g25x _ (Array.getElem?_eq_some_iff.1 f24_4).1).trans f24_4
      have f25_5 := (Below.block g25x _ (Array.getElem?_eq_some_iff.1 f24_5).1).trans f24_5
      have s25 : w24.heap.size ≤ w25.heap.size := g25x.le
      refine ⟨_, rfl, keep _ G25, ?_⟩
      rw [re_comm _ 8 18 _ _ (by decide), re_comm _ 8 20 _ _ (by decide), re_comm _ 7 18 _ _ (by decide), re_comm _ 7 20 _ _ (by decide)]
      exact fin w25 w.drew.heap.size (w.drew.alloc (.cells zC 75)).heap.size _ rfl G25 t17 t23 (by have := u17; have := u23; omega) f25_4 f25_5
  · have G26 := Gr.alloc G0 (.cells zC 75)
    have f26_5 := al_new w.drew (.cells zC 75) _ rfl
    have t26 : w.heap.size ≤ w.drew.heap.size := G0.le
    have u26 : w.drew.heap.size = w.drew.heap.size := rfl
    refine st_val (d := 8) rfl (rr_alloc _ _ _ _ _ _ _ counts_zero) (keep _ G26) ?_
    refine st_pair (i := 1) (j := 4) (oi := jn4_1) (oj := jn4_4) (by kernel_rfl) rfl rfl rfl rfl ?_ ?_
    · refine st_call (d := 18) rfl (rr_enter1 _ _ _ _ _ _ _ 46 _ (.agg #[vv, mv]) _ (by simp [re_ne, re_eq, re_size, re_const, hsz, h2, h3]) rfl (rr_enter_of Try.func46 (by kernel_rfl) (by kernel_rfl) _ _)) (HC (w.drew.alloc (.cells zC 75)) G26) ?_
      rintro e w27 ⟨rfl, g27x⟩
      have G27 := Gr.trans G26 g27x
      have f27_5 := (Below.block g27x _ (Array.getElem?_eq_some_iff.1 f26_5).1).trans f26_5
      have s27 : (w.drew.alloc (.cells zC 75)).heap.size ≤ w27.heap.size := g27x.le
      refine ⟨_, rfl, keep _ G27, ?_⟩
      refine st_pair (i := 3) (j := 4) (oi := jn4_3) (oj := jn4_4) (by kernel_rfl) rfl rfl rfl rfl ?_ ?_
      · refine st_call (d := 20) rfl (rr_enter1 _ _ _ _ _ _ _ 46 _ (.agg #[vv', mv']) _ (by simp [re_ne, re_eq, re_size, re_const, hsz, h2, h3]) rfl (rr_enter_of Try.func46 (by kernel_rfl) (by kernel_rfl) _ _)) (HC' w27 G27) ?_
        rintro e w28 ⟨rfl, g28x⟩
        have G28 := Gr.trans G27 g28x
        have f28_5 := (Below.block g28x _ (Array.getElem?_eq_some_iff.1 f27_5).1).trans f27_5
        have s28 : w27.heap.size ≤ w28.heap.size := g28x.le
        refine ⟨_, rfl, keep _ G28, ?_⟩
        refine st_one (i := 4) (oi := jn4_4) (by kernel_rfl) rfl rfl ?_
        have G29 := Gr.alloc G28 (.cells zC 75)
        have f29_5 := (Below.heap_alloc w28 (.cells zC 75) _ (Array.getElem?_eq_some_iff.1 f28_5).1).trans f28_5
        have f29_4 := al_new w28 (.cells zC 75) _ rfl
        have t29 : w.heap.size ≤ w28.heap.size := G28.le
        have u29 : w28.heap.size = w28.heap.size := rfl
        have v29_5 : w.drew.heap.size < w28.heap.size := (Array.getElem?_eq_some_iff.1 f28_5).1
        refine st_val (d := 7) rfl (rr_alloc _ _ _ _ _ _ _ counts_zero) (keep _ G29) ?_
        rw [re_comm _ 8 18 _ _ (by decide), re_comm _ 8 20 _ _ (by decide), re_comm _ 8 7 _ _ (by decide)]
        exact fin (w28.alloc (.cells zC 75)) w28.heap.size w.drew.heap.size _ rfl G29 t29 t26 (by have := u29; have := u26; omega) f29_4 f29_5
      · have G30 := Gr.alloc G27 (.cells zC 75)
        have f30_5 := (Below.heap_alloc w27 (.cells zC 75) _ (Array.getElem?_eq_some_iff.1 f27_5).1).trans f27_5
        have f30_4 := al_new w27 (.cells zC 75) _ rfl
        have t30 : w.heap.size ≤ w27.heap.size := G27.le
        have u30 : w27.heap.size = w27.heap.size := rfl
        have v30_5 : w.drew.heap.size < w27.heap.size := (Array.getElem?_eq_some_iff.1 f27_5).1
        refine st_val (d := 7) rfl (rr_alloc _ _ _ _ _ _ _ counts_zero) (keep _ G30) ?_
        refine st_one (i := 3) (oi := jn4_3) (by kernel_rfl) rfl rfl ?_
        refine st_call (d := 20) rfl (rr_enter1 _ _ _ _ _ _ _ 46 _ (.agg #[vv', mv']) _ (by simp [re_ne, re_eq, re_size, re_const, hsz, h2, h3]) rfl (rr_enter_of Try.func46 (by kernel_rfl) (by kernel_rfl) _ _)) (HC' (w27.alloc (.cells zC 75)) G30) ?_
        rintro e w31 ⟨rfl, g31x⟩
        have G31 := Gr.trans G30 g31x
        have f31_5 := (Below.block g31x _ (Array.getElem?_eq_some_iff.1 f30_5).1).trans f30_5
        have f31_4 := (Below.block g31x _ (Array.getElem?_eq_some_iff.1 f30_4).1).trans f30_4
        have s31 : (w27.alloc (.cells zC 75)).heap.size ≤ w31.heap.size := g31x.le
        refine ⟨_, rfl, keep _ G31, ?_⟩
        rw [re_comm _ 8 18 _ _ (by decide), re_comm _ 8 7 _ _ (by decide), re_comm _ 8 20 _ _ (by decide), re_comm _ 7 20 _ _ (by decide)]
        exact fin w31 w27.heap.size w.drew.heap.size _ rfl G31 t30 t26 (by have := u30; have := u26; omega) f31_4 f31_5
    · have G32 := Gr.alloc G26 (.cells zC 75)
      have f32_5 := (Below.heap_alloc (w.drew.alloc (.cells zC 75)) (.cells zC 75) _ (Array.getElem?_eq_some_iff.1 f26_5).1).trans f26_5
      have f32_4 := al_new (w.drew.alloc (.cells zC 75)) (.cells zC 75) _ rfl
      have t32 : w.heap.size ≤ (w.drew.alloc (.cells zC 75)).heap.size := G26.le
      have u32 : (w.drew.alloc (.cells zC 75)).heap.size = (w.drew.alloc (.cells zC 75)).heap.size := rfl
      have v32_5 : w.drew.heap.size < (w.drew.alloc (.cells zC 75)).heap.size := (Array.getElem?_eq_some_iff.1 f26_5).1
      refine st_val (d := 7) rfl (rr_alloc _ _ _ _ _ _ _ counts_zero) (keep _ G32) ?_
      refine st_one (i := 1) (oi := jn4_1) (by kernel_rfl) rfl rfl ?_
      refine st_call (d := 18) rfl (rr_enter1 _ _ _ _ _ _ _ 46 _ (.agg #[vv, mv]) _ (by simp [re_ne, re_eq, re_size, re_const, hsz, h2, h3]) rfl (rr_enter_of Try.func46 (by kernel_rfl) (by kernel_rfl) _ _)) (HC ((w.drew.alloc (.cells zC 75)).alloc (.cells zC 75)) G32) ?_
      rintro e w33 ⟨rfl, g33x⟩
      have G33 := Gr.trans G32 g33x
      have f33_5 := (Below.block g33x _ (Array.getElem?_eq_some_iff.1 f32_5).1).trans f32_5
      have f33_4 := (Below.block g33x _ (Array.getElem?_eq_some_iff.1 f32_4).1).trans f32_4
      have s33 : ((w.drew.alloc (.cells zC 75)).alloc (.cells zC 75)).heap.size ≤ w33.heap.size := g33x.le
      refine ⟨_, rfl, keep _ G33, ?_⟩
      refine st_one (i := 3) (oi := jn4_3) (by kernel_rfl) rfl rfl ?_
      refine st_call (d := 20) rfl (rr_enter1 _ _ _ _ _ _ _ 46 _ (.agg #[vv', mv']) _ (by simp [re_ne, re_eq, re_size, re_const, hsz, h2, h3]) rfl (rr_enter_of Try.func46 (by kernel_rfl) (by kernel_rfl) _ _)) (HC' w33 G33) ?_
      rintro e w34 ⟨rfl, g34x⟩
      have G34 := Gr.trans G33 g34x
      have f34_5 := (Below.block g34x _ (Array.getElem?_eq_some_iff.1 f33_5).1).trans f33_5
      have f34_4 := (Below.block g34x _ (Array.getElem?_eq_some_iff.1 f33_4).1).trans f33_4
      have s34 : w33.heap.size ≤ w34.heap.size := g34x.le
      refine ⟨_, rfl, keep _ G34, ?_⟩
      rw [re_comm _ 8 7 _ _ (by decide), re_comm _ 8 18 _ _ (by decide), re_comm _ 8 20 _ _ (by decide), re_comm _ 7 18 _ _ (by decide), re_comm _ 7 20 _ _ (by decide)]
      exact fin w34 (w.drew.alloc (.cells zC 75)).heap.size w.drew.heap.size _ rfl G34 t32 t26 (by have := u32; have := u26; omega) f34_4 f34_5
end Go.Proofs.Ytbpkfkljeibjoaa

/- know.Add, Join, Meet, Within: the regions that build the answers, over any frame. -/
set_option linter.unusedVariables false
set_option linter.unusedSimpArgs false
namespace Go.Proofs.Ytbpkfkljeibjoaa
open Go.RowKit Rm
section
variable (ev : Operand → Value) (d : Option Tmp) (ty : TypeId) (p : String) (af : Array Edge) (g : Option (Nat × Bool)) (w : World)
theorem rr_bs2 (x y : Operand) (a1 : Option Addr) (n1 c1 : Nat) (a2 : Option Addr) (n2 c2 : Nat) (hx : ev x = .slice a1 n1 c1) (hy : ev y = .slice a2 n2 c2) : (execOp ev (Oper.mk d (.buildSlice 94 2 #[(0, x), (1, y)]) ty p af g)).run Try.prog w = .ok (.value (.slice (some ⟨w.heap.size, 0, none⟩) 2 2)) (w.alloc (.cells #[.slice a1 n1 c1, .slice a2 n2 c2] 28)) := by
  go_simp
theorem rr_bsD (x : Operand) (s c : Nat) (hx : ev x = .agg #[.int .i64 (s : Int), .int .i64 (c : Int)]) : (execOp ev (Oper.mk d (.buildSlice 28 1 #[(0, x)]) ty p af g)).run Try.prog w = .ok (.value (.slice (some ⟨w.heap.size, 0, none⟩) 1 1)) (w.alloc (.cells #[.int .i64 (s : Int), .int .i64 (c : Int)] 24)) := by
  go_simp
end
theorem two_one (a1 : Option Addr) (n1 c1 : Nat) (a2 : Option Addr) (n2 c2 : Nat) : (#[Value.slice a1 n1 c1, .slice a2 n2 c2]).all (·.oneCell') = true := by simp [Value.oneCell']
theorem know_size2 : (Try.prog.info? 30).map (·.size) = some 2 := by kernel_rfl
/-- two sets and some counts in their blocks -/
def KS3 (g0 g1 b7 : Nat) (vv mv vv' mv' : Value) (A : Array Value) (x : World) : Prop := KS2 g0 g1 vv mv vv' mv' x ∧ x.heap[b7]? = some (.cells A 75 (0, 0))
/-- a set and a dot in their blocks -/
def KD2 (g0 g1 : Nat) (vv mv : Value) (s c : Nat) (x : World) : Prop := x.heap[g0]? = some (.cells #[vv, mv] 30 (0, 0)) ∧ x.heap[g1]? = some (.cells #[.int .i64 (s : Int), .int .i64 (c : Int)] 24 (0, 0))
def jn10_0 : Oper := Oper.mk (some 34) (Op.load 75 (Operand.tmp 7)) 75 "know.go:62" #[] none
def jn10_1 : Oper := Oper.mk (some 35) (Op.fieldAddr 30 (Operand.tmp 2) 1) 0 "know.go:62" #[] none
def jn10_2 : Oper := Oper.mk (some 36) (Op.load 28 (Operand.tmp 35)) 28 "know.go:62" #[Edge.mk 1 Ground.data] none
def jn10_3 : Oper := Oper.mk (some 37) (Op.fieldAddr 30 (Operand.tmp 3) 1) 0 "know.go:62" #[] none
def jn10_4 : Oper := Oper.mk (some 38) (Op.load 28 (Operand.tmp 37)) 28 "know.go:62" #[Edge.mk 3 Ground.data] none
def jn10_5 : Oper := Oper.mk (some 39) (Op.buildSlice 94 2 #[(0, Operand.tmp 36), (1, Operand.tmp 38)]) 94 "know.go:62" #[Edge.mk 2 Ground.data, Edge.mk 4 Ground.data] none
def jn10_6 : Oper := Oper.mk (some 40) (Op.call (Call.mk (Callee.value (Operand.func 48)) #[Operand.tmp 39] #[94])) 28 "know.go:62" #[Edge.mk 5 Ground.data] none
def jn10_7 : Oper := Oper.mk (some 41) (Op.call (Call.mk (Callee.value (Operand.func 47)) #[Operand.tmp 34, Operand.tmp 40] #[75, 28])) 36 "know.go:62" #[Edge.mk 0 Ground.data, Edge.mk 6 Ground.data, Edge.mk 6 Ground.chain] none
def jn10_8 : Oper := Oper.mk (some 42) (Op.extract (Operand.tmp 41) 0) 30 "know.go:62" #[Edge.mk 7 Ground.data] none
def jn10_9 : Oper := Oper.mk (some 43) (Op.extract (Operand.tmp 41) 1) 33 "know.go:62" #[Edge.mk 7 Ground.data] none
def jn10_10 : Oper := Oper.mk none (Op.store 30 (Operand.tmp 4) (Operand.tmp 42)) 0 "know.go:62" #[Edge.mk 8 Ground.data, Edge.mk 7 Ground.chain, Edge.mk 0 Ground.phase, Edge.mk 1 Ground.phase, Edge.mk 2 Ground.phase, Edge.mk 3 Ground.phase, Edge.mk 4 Ground.phase, Edge.mk 5 Ground.phase, Edge.mk 6 Ground.phase, Edge.mk 7 Ground.phase, Edge.mk 8 Ground.phase, Edge.mk 9 Ground.phase] none
def jn10_11 : Oper := Oper.mk (some 5) (Op.assign (Operand.tmp 43)) 33 "know.go:62" #[Edge.mk 9 Ground.data, Edge.mk 10 Ground.chain, Edge.mk 0 Ground.phase, Edge.mk 1 Ground.phase, Edge.mk 2 Ground.phase, Edge.mk 3 Ground.phase, Edge.mk 4 Ground.phase, Edge.mk 5 Ground.phase, Edge.mk 6 Ground.phase, Edge.mk 7 Ground.phase, Edge.mk 8 Ground.phase, Edge.mk 9 Ground.phase, Edge.mk 10 Ground.phase] none
def jn10_Ops : Array Oper := #[jn10_0, jn10_1, jn10_2, jn10_3, jn10_4, jn10_5, jn10_6, jn10_7, jn10_8, jn10_9, jn10_10, jn10_11]
set_option maxHeartbeats 1000000 in
set_option maxRecDepth 100000 in
theorem jn10_reg (Q : Exit → Act → World → Prop) (hQ : ∀ c a d v w, Q (.panic c) (Act.put a (some d) v) w → Q (.panic c) a w) (a : Act) (w : World) (g0 g1 g4 b7 : Nat) (vv vv' : Value) (ma ma' : Option Addr) (mn mc mn' mc' : Nat) (A : Array Value)
    (hsz : a.tmps.size = 44) (h2 : a.eval (.tmp 2) = .pointer (some ⟨g0, 0, none⟩)) (h3 : a.eval (.tmp 3) = .pointer (some ⟨g1, 0, none⟩)) (h4 : a.eval (.tmp 4) = .pointer (some ⟨g4, 0, none⟩)) (h7 : a.eval (.tmp 7) = .pointer (some ⟨b7, 0, none⟩))
    (hS0 : KS3 g0 g1 b7 vv (.slice ma mn mc) vv' (.slice ma' mn' mc') A w) (hl0 : g0 < w.heap.size) (hl1 : g1 < w.heap.size) (hl7 : b7 < w.heap.size) (hA5 : A.size = 5)
    (h40 : w.heap[g4]? = some (.cells #[.slice none 0 0, .slice none 0 0] 30 (0, 0))) (hn0 : g0 ≠ g4) (hn1 : g1 ≠ g4) (hn7 : b7 ≠ g4)
    (FC : Value → World → World → Prop) (FB : Option Addr → Nat → Nat → Option Addr → Nat → Nat → Int → World → Prop)
    (HCC : ∀ W b, Gr w W → W.heap[b]? = some (.cells #[.slice ma mn mc, .slice ma' mn' mc'] 28 (0, 0)) → Calls Try.prog 48 #[.slice (some ⟨b, 0, none⟩) 2 2] W fun e W' => ∃ u, e = .returned u ∧ Gr W W' ∧ FC u W W')
    (HB : ∀ W W' u, Gr w W → Gr W W' → FC u W W' → Calls Try.prog 47 #[.agg A, u] W' fun e W'' => ∃ a1 n1 c1 a2 n2 c2 r, e = .returned (.tuple #[.agg #[.slice a1 n1 c1, .slice a2 n2 c2], .int .i64 r]) ∧ Gr w W'' ∧ FB a1 n1 c1 a2 n2 c2 r W'')
    (h : ∀ (W : World) (b39 : Nat) (u : Value) a1 n1 c1 a2 n2 c2 r, Gr w W → FB a1 n1 c1 a2 n2 c2 r W → Q .normal (Act.put (Act.put (Act.put (Act.put (Act.put (Act.put (Act.put (Act.put (Act.put (Act.put (Act.put a (some 34) (.agg A)) (some 35) (.pointer (some ⟨g0, 1, none⟩))) (some 37) (.pointer (some ⟨g1, 1, none⟩))) (some 36) (.slice ma mn mc)) (some 38) (.slice ma' mn' mc')) (some 39) (.slice (some ⟨b39, 0, none⟩) 2 2)) (some 40) (u)) (some 41) (.tuple #[.agg #[.slice a1 n1 c1, .slice a2 n2 c2], .int .i64 r])) (some 42) (.agg #[.slice a1 n1 c1, .slice a2 n2 c2])) (some 43) (.int .i64 r)) (some 5) (.int .i64 r)) (W.setRow g4 #[.slice a1 n1 c1, .slice a2 n2 c2])) : (Code.region 10 jn10_Ops true).wp Try.prog Q a w := by
  have keep : ∀ x, Gr w x → KS3 g0 g1 b7 vv (.slice ma mn mc) vv' (.slice ma' mn' mc') A x := fun x gx => ⟨⟨(Below.block gx g0 hl0).trans hS0.1.1, (Below.block gx g1 hl1).trans hS0.1.2⟩, (Below.block gx b7 hl7).trans hS0.2⟩
  have keep4 : ∀ x, Gr w x → x.heap[g4]? = some (.cells #[.slice none 0 0, .slice none 0 0] 30 (0, 0)) := fun x gx => (Below.block gx g4 (Array.getElem?_eq_some_iff.1 h40).1).trans h40
  have szA : (Try.prog.info? 75).map (·.size) = some A.size := by rw [hA5]; exact counts_size
  refine wp_region_held_drew (S := KS3 g0 g1 b7 vv (.slice ma mn mc) vv' (.slice ma' mn' mc') A) (by kernel_rfl) hS0 (fun hHeld => ?_)
  show wpAnyH Try.prog .any jn10_Ops Q _ 12 (Array.replicate 12 false) a w.drew
  have G0 : Gr w w.drew := (Gr.refl w).drew
  refine re_tk (i := 0) (oi := jn10_0) (v := .agg A) (d := 34) hQ rfl rfl (by kernel_rfl) (by kernel_rfl) (by kernel_rfl) (Or.inl ⟨re_none _ rfl, fun wx hS => rr_row _ _ _ _ _ _ _ 75 _ b7 A (by simp [re_ne, re_eq, re_size, re_const, hsz, h2, h3, h4, h7]) (run_loadVar_row wx b7 75 75 A (0, 0) _ (hS.2) Try.underlying75 rfl szA)⟩) hHeld ?_
  refine re_tk (i := 1) (oi := jn10_1) (v := .pointer (some ⟨g0, 1, none⟩)) (d := 35) hQ rfl rfl (by kernel_rfl) (by kernel_rfl) (by kernel_rfl) (Or.inl ⟨re_none _ rfl, fun wx hS => rr_fK1 _ _ _ _ _ _ _ _ g0 (by simp [re_ne, re_eq, re_size, re_const, hsz, h2, h3, h4, h7])⟩) hHeld ?_
  refine re_tk (i := 3) (oi := jn10_3) (v := .pointer (some ⟨g1, 1, none⟩)) (d := 37) hQ rfl rfl (by kernel_rfl) (by kernel_rfl) (by kernel_rfl) (Or.inl ⟨re_none _ rfl, fun wx hS => rr_fK1 _ _ _ _ _ _ _ _ g1 (by simp [re_ne, re_eq, re_size, re_const, hsz, h2, h3, h4, h7])⟩) hHeld ?_
  refine re_tk (i := 2) (oi := jn10_2) (v := .slice ma mn mc) (d := 36) hQ rfl rfl (by kernel_rfl) (by kernel_rfl) (by kernel_rfl) (Or.inl ⟨re_none _ rfl, fun wx hS => rr_lS _ _ _ _ _ _ _ _ g0 1 (.slice ma mn mc) (by simp [re_ne, re_eq, re_size, re_const, hsz, h2, h3, h4, h7]) (kc1 (hS.1.1))⟩) hHeld ?_
  refine re_tk (i := 4) (oi := jn10_4) (v := .slice ma' mn' mc') (d := 38) hQ rfl rfl (by kernel_rfl) (by kernel_rfl) (by kernel_rfl) (Or.inl ⟨re_none _ rfl, fun wx hS => rr_lS _ _ _ _ _ _ _ _ g1 1 (.slice ma' mn' mc') (by simp [re_ne, re_eq, re_size, re_const, hsz, h2, h3, h4, h7]) (kc1 (hS.1.2))⟩) hHeld ?_
  refine st_one (i := 5) (oi := jn10_5) (by kernel_rfl) rfl rfl ?_
  have f1 := al_new w.drew (.cells #[.slice ma mn mc, .slice ma' mn' mc'] 28) _ rfl
  have G1 := Gr.alloc G0 (.cells #[.slice ma mn mc, .slice ma' mn' mc'] 28)
  have hHeld1 := keep _ G1
  refine st_val (d := 39) rfl (rr_bs2 _ _ _ _ _ _ _ _ _ ma mn mc ma' mn' mc' (by simp [re_ne, re_eq, re_size, re_const, hsz, h2, h3, h4, h7]) (by simp [re_ne, re_eq, re_size, re_const, hsz, h2, h3, h4, h7])) hHeld1 ?_
  refine st_one (i := 6) (oi := jn10_6) (by kernel_rfl) rfl rfl ?_
  refine st_call (d := 40) rfl (rr_enter1 _ _ _ _ _ _ _ 48 _ (.slice (some ⟨w.drew.heap.size, 0, none⟩) 2 2) _ (by simp [re_ne, re_eq, re_size, re_const, hsz, h2, h3, h4, h7]) rfl (rr_enter_of Try.func48 (by kernel_rfl) (by kernel_rfl) _ _)) (HCC _ _ G1 f1) ?_
  rintro e W2 ⟨u, rfl, gC, fC⟩
  have G2 := Gr.trans G1 gC
  have hHeld2 := keep _ G2
  refine ⟨_, rfl, hHeld2, ?_⟩
  refine st_one (i := 7) (oi := jn10_7) (by kernel_rfl) rfl rfl ?_
  refine st_call (d := 41) rfl (rr_enter2 _ _ _ _ _ _ _ 47 _ _ (.agg A) (u) _ (by simp [re_ne, re_eq, re_size, re_const, hsz, h2, h3, h4, h7]) (by simp [re_ne, re_eq, re_size, re_const, hsz, h2, h3, h4, h7]) rfl (rr_enter_of Try.func47 (by kernel_rfl) (by kernel_rfl) _ _)) (HB _ _ u G1 gC fC) ?_
  rintro e W3 ⟨a1, n1, c1, a2, n2, c2, r, rfl, gB, fB⟩
  have G3 := gB
  have hHeld3 := keep _ G3
  refine ⟨_, rfl, hHeld3, ?_⟩
  refine re_tk (i := 8) (oi := jn10_8) (v := .agg #[.slice a1 n1 c1, .slice a2 n2 c2]) (d := 42) hQ rfl rfl (by kernel_rfl) (by kernel_rfl) (by kernel_rfl) (Or.inl ⟨re_none _ rfl, fun wx hS => rr_ext0 _ _ _ _ _ _ _ _ (.agg #[.slice a1 n1 c1, .slice a2 n2 c2]) (.int .i64 r) (by simp [re_ne, re_eq, re_size, re_const, hsz, h2, h3, h4, h7])⟩) hHeld3 ?_
  refine re_tk (i := 9) (oi := jn10_9) (v := .int .i64 r) (d := 43) hQ rfl rfl (by kernel_rfl) (by kernel_rfl) (by kernel_rfl) (Or.inl ⟨re_none _ rfl, fun wx hS => rr_ext1 _ _ _ _ _ _ _ _ (.agg #[.slice a1 n1 c1, .slice a2 n2 c2]) (.int .i64 r) (by simp [re_ne, re_eq, re_size, re_const, hsz, h2, h3, h4, h7])⟩) hHeld3 ?_
  refine st_one (i := 10) (oi := jn10_10) (by kernel_rfl) rfl rfl ?_
  have e4 := keep4 _ G3
  have hSt := (show KS3 g0 g1 b7 vv (.slice ma mn mc) vv' (.slice ma' mn' mc') A _ from ⟨⟨(setRow_other _ g4 g0 #[.slice a1 n1 c1, .slice a2 n2 c2] hn0).trans hHeld3.1.1, (setRow_other _ g4 g1 #[.slice a1 n1 c1, .slice a2 n2 c2] hn1).trans hHeld3.1.2⟩, (setRow_other _ g4 b7 #[.slice a1 n1 c1, .slice a2 n2 c2] hn7).trans hHeld3.2⟩)
  refine st_row 30 (.tmp 4) (.tmp 42) rfl rfl g4 #[.slice a1 n1 c1, .slice a2 n2 c2] (by simp [re_ne, re_eq, re_size, re_const, hsz, h2, h3, h4, h7]) (by simp [re_ne, re_eq, re_size, re_const, hsz, h2, h3, h4, h7]) 30 #[.slice none 0 0, .slice none 0 0] e4 know_size2 rfl (two_one _ _ _ _ _ _) hSt ?_
  refine re_tk (i := 11) (oi := jn10_11) (v := .int .i64 r) (d := 5) hQ rfl rfl (by kernel_rfl) (by kernel_rfl) (by kernel_rfl) (Or.inl ⟨re_none _ rfl, fun wx hS => rr_assign _ _ _ _ _ _ _ _ _ (by simp [re_ne, re_eq, re_size, re_const, hsz, h2, h3, h4, h7])⟩) hSt ?_
  exact wpAnyH_done (by kernel_rfl) (h _ (w.drew.heap.size) u a1 n1 c1 a2 n2 c2 r G3 fB) _
def ad6_0 : Oper := Oper.mk (some 17) (Op.load 30 (Operand.tmp 2)) 30 "know.go:50" #[] none
def ad6_1 : Oper := Oper.mk (some 18) (Op.call (Call.mk (Callee.value (Operand.func 46)) #[Operand.tmp 17] #[30])) 75 "know.go:50" #[Edge.mk 0 Ground.data] none
def ad6_2 : Oper := Oper.mk (some 19) (Op.fieldAddr 30 (Operand.tmp 2) 1) 0 "know.go:50" #[] none
def ad6_3 : Oper := Oper.mk (some 20) (Op.load 28 (Operand.tmp 19)) 28 "know.go:50" #[Edge.mk 2 Ground.data] none
def ad6_4 : Oper := Oper.mk (some 21) (Op.load 24 (Operand.tmp 3)) 24 "know.go:50" #[] none
def ad6_5 : Oper := Oper.mk (some 22) (Op.buildSlice 28 1 #[(0, Operand.tmp 21)]) 28 "know.go:50" #[Edge.mk 4 Ground.data] none
def ad6_6 : Oper := Oper.mk (some 23) (Op.buildSlice 94 2 #[(0, Operand.tmp 20), (1, Operand.tmp 22)]) 94 "know.go:50" #[Edge.mk 3 Ground.data, Edge.mk 5 Ground.data] none
def ad6_7 : Oper := Oper.mk (some 24) (Op.call (Call.mk (Callee.value (Operand.func 48)) #[Operand.tmp 23] #[94])) 28 "know.go:50" #[Edge.mk 6 Ground.data, Edge.mk 1 Ground.chain] none
def ad6_8 : Oper := Oper.mk (some 25) (Op.call (Call.mk (Callee.value (Operand.func 47)) #[Operand.tmp 18, Operand.tmp 24] #[75, 28])) 36 "know.go:50" #[Edge.mk 1 Ground.data, Edge.mk 7 Ground.data, Edge.mk 7 Ground.chain] none
def ad6_9 : Oper := Oper.mk (some 26) (Op.extract (Operand.tmp 25) 0) 30 "know.go:50" #[Edge.mk 8 Ground.data] none
def ad6_10 : Oper := Oper.mk (some 27) (Op.extract (Operand.tmp 25) 1) 33 "know.go:50" #[Edge.mk 8 Ground.data] none
def ad6_11 : Oper := Oper.mk none (Op.store 30 (Operand.tmp 4) (Operand.tmp 26)) 0 "know.go:50" #[Edge.mk 9 Ground.data, Edge.mk 8 Ground.chain, Edge.mk 0 Ground.phase, Edge.mk 1 Ground.phase, Edge.mk 2 Ground.phase, Edge.mk 3 Ground.phase, Edge.mk 4 Ground.phase, Edge.mk 5 Ground.phase, Edge.mk 6 Ground.phase, Edge.mk 7 Ground.phase, Edge.mk 8 Ground.phase, Edge.mk 9 Ground.phase, Edge.mk 10 Ground.phase] none
def ad6_12 : Oper := Oper.mk (some 5) (Op.assign (Operand.tmp 27)) 33 "know.go:50" #[Edge.mk 10 Ground.data, Edge.mk 11 Ground.chain, Edge.mk 0 Ground.phase, Edge.mk 1 Ground.phase, Edge.mk 2 Ground.phase, Edge.mk 3 Ground.phase, Edge.mk 4 Ground.phase, Edge.mk 5 Ground.phase, Edge.mk 6 Ground.phase, Edge.mk 7 Ground.phase, Edge.mk 8 Ground.phase, Edge.mk 9 Ground.phase, Edge.mk 10 Ground.phase, Edge.mk 11 Ground.phase] none
def ad6_Ops : Array Oper := #[ad6_0, ad6_1, ad6_2, ad6_3, ad6_4, ad6_5, ad6_6, ad6_7, ad6_8, ad6_9, ad6_10, ad6_11, ad6_12]
set_option maxHeartbeats 1000000 in
set_option maxRecDepth 100000 in
theorem ad6_reg (Q : Exit → Act → World → Prop) (hQ : ∀ c a d v w, Q (.panic c) (Act.put a (some d) v) w → Q (.panic c) a w) (a : Act) (w : World) (g0 g1 g4 : Nat) (vv : Value) (ma : Option Addr) (mn mc s c : Nat) (A : Array Value)
    (hsz : a.tmps.size = 28) (h2 : a.eval (.tmp 2) = .pointer (some ⟨g0, 0, none⟩)) (h3 : a.eval (.tmp 3) = .pointer (some ⟨g1, 0, none⟩)) (h4 : a.eval (.tmp 4) = .pointer (some ⟨g4, 0, none⟩))
    (hS0 : KD2 g0 g1 vv (.slice ma mn mc) s c w) (hl0 : g0 < w.heap.size) (hl1 : g1 < w.heap.size)
    (h40 : w.heap[g4]? = some (.cells #[.slice none 0 0, .slice none 0 0] 30 (0, 0))) (hn0 : g0 ≠ g4) (hn1 : g1 ≠ g4)
    (FC : Value → World → World → Prop) (FB : Option Addr → Nat → Nat → Option Addr → Nat → Nat → Int → World → Prop)
    (HC : ∀ w', Gr w w' → Calls Try.prog 46 #[.agg #[vv, .slice ma mn mc]] w' fun e w'' => e = .returned (.agg A) ∧ Gr w' w'')
    (HCC : ∀ W b22 b23, Gr w W → W.heap[b22]? = some (.cells #[.int .i64 (s : Int), .int .i64 (c : Int)] 24 (0, 0)) → W.heap[b23]? = some (.cells #[.slice ma mn mc, .slice (some ⟨b22, 0, none⟩) 1 1] 28 (0, 0)) → Calls Try.prog 48 #[.slice (some ⟨b23, 0, none⟩) 2 2] W fun e W' => ∃ u, e = .returned u ∧ Gr W W' ∧ FC u W W')
    (HB : ∀ W W' u, Gr w W → Gr W W' → FC u W W' → Calls Try.prog 47 #[.agg A, u] W' fun e W'' => ∃ a1 n1 c1 a2 n2 c2 r, e = .returned (.tuple #[.agg #[.slice a1 n1 c1, .slice a2 n2 c2], .int .i64 r]) ∧ Gr w W'' ∧ FB a1 n1 c1 a2 n2 c2 r W'')
    (h : ∀ (W : World) (b22 b23 : Nat) (u : Value) a1 n1 c1 a2 n2 c2 r, Gr w W → FB a1 n1 c1 a2 n2 c2 r W → Q .normal (Act.put (Act.put (Act.put (Act.put (Act.put (Act.put (Act.put (Act.put (Act.put (Act.put (Act.put (Act.put a (some 17) (.agg #[vv, .slice ma mn mc])) (some 19) (.pointer (some ⟨g0, 1, none⟩))) (some 21) (.agg #[.int .i64 (s : Int), .int .i64 (c : Int)])) (some 20) (.slice ma mn mc)) (some 18) (.agg A)) (some 22) (.slice (some ⟨b22, 0, none⟩) 1 1)) (some 23) (.slice (some ⟨b23, 0, none⟩) 2 2)) (some 24) (u)) (some 25) (.tuple #[.agg #[.slice a1 n1 c1, .slice a2 n2 c2], .int .i64 r])) (some 26) (.agg #[.slice a1 n1 c1, .slice a2 n2 c2])) (some 27) (.int .i64 r)) (some 5) (.int .i64 r)) (W.setRow g4 #[.slice a1 n1 c1, .slice a2 n2 c2])) : (Code.region 6 ad6_Ops true).wp Try.prog Q a w := by
  have keep : ∀ x, Gr w x → KD2 g0 g1 vv (.slice ma mn mc) s c x := fun x gx => ⟨(Below.block gx g0 hl0).trans hS0.1, (Below.block gx g1 hl1).trans hS0.2⟩
  have keep4 : ∀ x, Gr w x → x.heap[g4]? = some (.cells #[.slice none 0 0, .slice none 0 0] 30 (0, 0)) := fun x gx => (Below.block gx g4 (Array.getElem?_eq_some_iff.1 h40).1).trans h40
  have fin : ∀ (W : World) (b22 b23 : Nat) (L : Array Bool), L = #[true, true, true, true, true, true, true, false, false, false, false, false, false] → KD2 g0 g1 vv (.slice ma mn mc) s c W → Gr w W → W.heap[b22]? = some (.cells #[.int .i64 (s : Int), .int .i64 (c : Int)] 24 (0, 0)) → W.heap[b23]? = some (.cells #[.slice ma mn mc, .slice (some ⟨b22, 0, none⟩) 1 1] 28 (0, 0)) → wpAnyH Try.prog .any ad6_Ops Q (KD2 g0 g1 vv (.slice ma mn mc) s c) 6 L (Act.put (Act.put (Act.put (Act.put (Act.put (Act.put (Act.put a (some 17) (.agg #[vv, .slice ma mn mc])) (some 19) (.pointer (some ⟨g0, 1, none⟩))) (some 21) (.agg #[.int .i64 (s : Int), .int .i64 (c : Int)])) (some 20) (.slice ma mn mc)) (some 18) (.agg A)) (some 22) (.slice (some ⟨b22, 0, none⟩) 1 1)) (some 23) (.slice (some ⟨b23, 0, none⟩) 2 2)) W := by
    intro W b22 b23 L hL hW gW f22 f23
    subst hL
    refine st_one (i := 7) (oi := ad6_7) (by kernel_rfl) rfl rfl ?_
    refine st_call (d := 24) rfl (rr_enter1 _ _ _ _ _ _ _ 48 _ (.slice (some ⟨b23, 0, none⟩) 2 2) _ (by simp [re_ne, re_eq, re_size, re_const, hsz, h2, h3, h4]) rfl (rr_enter_of Try.func48 (by kernel_rfl) (by kernel_rfl) _ _)) (HCC _ _ _ gW f22 f23) ?_
    rintro e W51 ⟨u, rfl, gC, fC⟩
    have G51 := Gr.trans gW gC
    have hHeld51 := keep _ G51
    refine ⟨_, rfl, hHeld51, ?_⟩
    refine st_one (i := 8) (oi := ad6_8) (by kernel_rfl) rfl rfl ?_
    refine st_call (d := 25) rfl (rr_enter2 _ _ _ _ _ _ _ 47 _ _ (.agg A) (u) _ (by simp [re_ne, re_eq, re_size, re_const, hsz, h2, h3, h4]) (by simp [re_ne, re_eq, re_size, re_const, hsz, h2, h3, h4]) rfl (rr_enter_of Try.func47 (by kernel_rfl) (by kernel_rfl) _ _)) (HB _ _ u gW gC fC) ?_
    rintro e W52 ⟨a1, n1, c1, a2, n2, c2, r, rfl, gB, fB⟩
    have G52 := gB
    have hHeld52 := keep _ G52
    refine ⟨_, rfl, hHeld52, ?_⟩
    refine re_tk (i := 9) (oi := ad6_9) (v := .agg #[.slice a1 n1 c1, .slice a2 n2 c2]) (d := 26) hQ rfl rfl (by kernel_rfl) (by kernel_rfl) (by kernel_rfl) (Or.inl ⟨re_none _ rfl, fun wx hS => rr_ext0 _ _ _ _ _ _ _ _ (.agg #[.slice a1 n1 c1, .slice a2 n2 c2]) (.int .i64 r) (by simp [re_ne, re_eq, re_size, re_const, hsz, h2, h3, h4])⟩) hHeld52 ?_
    refine re_tk (i := 10) (oi := ad6_10) (v := .int .i64 r) (d := 27) hQ rfl rfl (by kernel_rfl) (by kernel_rfl) (by kernel_rfl) (Or.inl ⟨re_none _ rfl, fun wx hS => rr_ext1 _ _ _ _ _ _ _ _ (.agg #[.slice a1 n1 c1, .slice a2 n2 c2]) (.int .i64 r) (by simp [re_ne, re_eq, re_size, re_const, hsz, h2, h3, h4])⟩) hHeld52 ?_
    refine st_one (i := 11) (oi := ad6_11) (by kernel_rfl) rfl rfl ?_
    have e4 := keep4 _ G52
    have hSt := (show KD2 g0 g1 vv (.slice ma mn mc) s c _ from ⟨(setRow_other _ g4 g0 #[.slice a1 n1 c1, .slice a2 n2 c2] hn0).trans hHeld52.1, (setRow_other _ g4 g1 #[.slice a1 n1 c1, .slice a2 n2 c2] hn1).trans hHeld52.2⟩)
    refine st_row 30 (.tmp 4) (.tmp 26) rfl rfl g4 #[.slice a1 n1 c1, .slice a2 n2 c2] (by simp [re_ne, re_eq, re_size, re_const, hsz, h2, h3, h4]) (by simp [re_ne, re_eq, re_size, re_const, hsz, h2, h3, h4]) 30 #[.slice none 0 0, .slice none 0 0] e4 know_size2 rfl (two_one _ _ _ _ _ _) hSt ?_
    refine re_tk (i := 12) (oi := ad6_12) (v := .int .i64 r) (d := 5) hQ rfl rfl (by kernel_rfl) (by kernel_rfl) (by kernel_rfl) (Or.inl ⟨re_none _ rfl, fun wx hS => rr_assign _ _ _ _ _ _ _ _ _ (by simp [re_ne, re_eq, re_size, re_const, hsz, h2, h3, h4])⟩) hSt ?_
    exact wpAnyH_done (by kernel_rfl) (h _ b22 b23 u a1 n1 c1 a2 n2 c2 r G52 fB) _
  refine wp_region_held_drew (S := KD2 g0 g1 vv (.slice ma mn mc) s c) (by kernel_rfl) hS0 (fun hHeld => ?_)
  show wpAnyH Try.prog .any ad6_Ops Q _ 13 (Array.replicate 13 false) a w.drew
  have G0 : Gr w w.drew := (Gr.refl w).drew
  refine re_tk (i := 0) (oi := ad6_0) (v := .agg #[vv, .slice ma mn mc]) (d := 17) hQ rfl rfl (by kernel_rfl) (by kernel_rfl) (by kernel_rfl) (Or.inl ⟨re_none _ rfl, fun wx hS => rr_lK _ _ _ _ _ _ _ _ g0 (vv) (.slice ma mn mc) (by simp [re_ne, re_eq, re_size, re_const, hsz, h2, h3, h4]) (kc0 (hS.1)) (kc1 (hS.1))⟩) hHeld ?_
  refine re_tk (i := 2) (oi := ad6_2) (v := .pointer (some ⟨g0, 1, none⟩)) (d := 19) hQ rfl rfl (by kernel_rfl) (by kernel_rfl) (by kernel_rfl) (Or.inl ⟨re_none _ rfl, fun wx hS => rr_fK1 _ _ _ _ _ _ _ _ g0 (by simp [re_ne, re_eq, re_size, re_const, hsz, h2, h3, h4])⟩) hHeld ?_
  refine re_tk (i := 4) (oi := ad6_4) (v := .agg #[.int .i64 (s : Int), .int .i64 (c : Int)]) (d := 21) hQ rfl rfl (by kernel_rfl) (by kernel_rfl) (by kernel_rfl) (Or.inl ⟨re_none _ rfl, fun wx hS => rr_lD _ _ _ _ _ _ _ _ g1 (.int .i64 (s : Int)) (.int .i64 (c : Int)) (by simp [re_ne, re_eq, re_size, re_const, hsz, h2, h3, h4]) (kc0 (hS.2)) (kc1 (hS.2))⟩) hHeld ?_
  refine re_tk (i := 3) (oi := ad6_3) (v := .slice ma mn mc) (d := 20) hQ rfl rfl (by kernel_rfl) (by kernel_rfl) (by kernel_rfl) (Or.inl ⟨re_none _ rfl, fun wx hS => rr_lS _ _ _ _ _ _ _ _ g0 1 (.slice ma mn mc) (by simp [re_ne, re_eq, re_size, re_const, hsz, h2, h3, h4]) (kc1 (hS.1))⟩) hHeld ?_
  refine st_pair (i := 1) (j := 5) (oi := ad6_1) (oj := ad6_5) (by kernel_rfl) rfl rfl rfl rfl ?_ ?_
  · refine st_call (d := 18) rfl (rr_enter1 _ _ _ _ _ _ _ 46 _ (.agg #[vv, .slice ma mn mc]) _ (by simp [re_ne, re_eq, re_size, re_const, hsz, h2, h3, h4]) rfl (rr_enter_of Try.func46 (by kernel_rfl) (by kernel_rfl) _ _)) (HC _ G0) ?_
    rintro e V1 ⟨rfl, g1x⟩
    have GG1 := Gr.trans G0 g1x
    refine ⟨_, rfl, keep _ GG1, ?_⟩
    refine st_one (i := 5) (oi := ad6_5) (by kernel_rfl) rfl rfl ?_
    have GG2 := Gr.alloc GG1 (.cells #[.int .i64 (s : Int), .int .i64 (c : Int)] 24)
    have y2_5 := al_new V1 (.cells #[.int .i64 (s : Int), .int .i64 (c : Int)] 24) _ rfl
    refine st_val (d := 22) rfl (rr_bsD _ _ _ _ _ _ _ _ s c (by simp [re_ne, re_eq, re_size, re_const, hsz, h2, h3, h4])) (keep _ GG2) ?_
    refine st_one (i := 6) (oi := ad6_6) (by kernel_rfl) rfl rfl ?_
    have GG3 := Gr.alloc GG2 (.cells #[.slice ma mn mc, .slice (some ⟨V1.heap.size, 0, none⟩) 1 1] 28)
    have y3_5 := (Below.heap_alloc (V1.alloc (.cells #[.int .i64 (s : Int), .int .i64 (c : Int)] 24)) (.cells #[.slice ma mn mc, .slice (some ⟨V1.heap.size, 0, none⟩) 1 1] 28) _ (Array.getElem?_eq_some_iff.1 y2_5).1).trans y2_5
    have y3_6 := al_new (V1.alloc (.cells #[.int .i64 (s : Int), .int .i64 (c : Int)] 24)) (.cells #[.slice ma mn mc, .slice (some ⟨V1.heap.size, 0, none⟩) 1 1] 28) _ rfl
    refine st_val (d := 23) rfl (rr_bs2 _ _ _ _ _ _ _ _ _ ma mn mc _ 1 1 (by simp [re_ne, re_eq, re_size, re_const, hsz, h2, h3, h4]) (by simp [re_ne, re_eq, re_size, re_const, hsz, h2, h3, h4])) (keep _ GG3) ?_
    exact fin _ _ _ _ rfl (keep _ GG3) GG3 y3_5 y3_6
  · have GG4 := Gr.alloc G0 (.cells #[.int .i64 (s : Int), .int .i64 (c : Int)] 24)
    have y4_5 := al_new w.drew (.cells #[.int .i64 (s : Int), .int .i64 (c : Int)] 24) _ rfl
    refine st_val (d := 22) rfl (rr_bsD _ _ _ _ _ _ _ _ s c (by simp [re_ne, re_eq, re_size, re_const, hsz, h2, h3, h4])) (keep _ GG4) ?_
    refine st_pair (i := 1) (j := 6) (oi := ad6_1) (oj := ad6_6) (by kernel_rfl) rfl rfl rfl rfl ?_ ?_
    · refine st_call (d := 18) rfl (rr_enter1 _ _ _ _ _ _ _ 46 _ (.agg #[vv, .slice ma mn mc]) _ (by simp [re_ne, re_eq, re_size, re_const, hsz, h2, h3, h4]) rfl (rr_enter_of Try.func46 (by kernel_rfl) (by kernel_rfl) _ _)) (HC _ GG4) ?_
      rintro e V5 ⟨rfl, g5x⟩
      have GG5 := Gr.trans GG4 g5x
      have y5_5 := (Below.block g5x _ (Array.getElem?_eq_some_iff.1 y4_5).1).trans y4_5
      refine ⟨_, rfl, keep _ GG5, ?_⟩
      refine st_one (i := 6) (oi := ad6_6) (by kernel_rfl) rfl rfl ?_
      have GG6 := Gr.alloc GG5 (.cells #[.slice ma mn mc, .slice (some ⟨w.drew.heap.size, 0, none⟩) 1 1] 28)
      have y6_5 := (Below.heap_alloc V5 (.cells #[.slice ma mn mc, .slice (some ⟨w.drew.heap.size, 0, none⟩) 1 1] 28) _ (Array.getElem?_eq_some_iff.1 y5_5).1).trans y5_5
      have y6_6 := al_new V5 (.cells #[.slice ma mn mc, .slice (some ⟨w.drew.heap.size, 0, none⟩) 1 1] 28) _ rfl
      refine st_val (d := 23) rfl (rr_bs2 _ _ _ _ _ _ _ _ _ ma mn mc _ 1 1 (by simp [re_ne, re_eq, re_size, re_const, hsz, h2, h3, h4]) (by simp [re_ne, re_eq, re_size, re_const, hsz, h2, h3, h4])) (keep _ GG6) ?_
      rw [re_comm _ 22 18 _ _ (by decide)]
      exact fin _ _ _ _ rfl (keep _ GG6) GG6 y6_5 y6_6
    · have GG7 := Gr.alloc GG4 (.cells #[.slice ma mn mc, .slice (some ⟨w.drew.heap.size, 0, none⟩) 1 1] 28)
      have y7_5 := (Below.heap_alloc (w.drew.alloc (.cells #[.int .i64 (s : Int), .int .i64 (c : Int)] 24)) (.cells #[.slice ma mn mc, .slice (some ⟨w.drew.heap.size, 0, none⟩) 1 1] 28) _ (Array.getElem?_eq_some_iff.1 y4_5).1).trans y4_5
      have y7_6 := al_new (w.drew.alloc (.cells #[.int .i64 (s : Int), .int .i64 (c : Int)] 24)) (.cells #[.slice ma mn mc, .slice (some ⟨w.drew.heap.size, 0, none⟩) 1 1] 28) _ rfl
      refine st_val (d := 23) rfl (rr_bs2 _ _ _ _ _ _ _ _ _ ma mn mc _ 1 1 (by simp [re_ne, re_eq, re_size, re_const, hsz, h2, h3, h4]) (by simp [re_ne, re_eq, re_size, re_const, hsz, h2, h3, h4])) (keep _ GG7) ?_
      refine st_one (i := 1) (oi := ad6_1) (by kernel_rfl) rfl rfl ?_
      refine st_call (d := 18) rfl (rr_enter1 _ _ _ _ _ _ _ 46 _ (.agg #[vv, .slice ma mn mc]) _ (by simp [re_ne, re_eq, re_size, re_const, hsz, h2, h3, h4]) rfl (rr_enter_of Try.func46 (by kernel_rfl) (by kernel_rfl) _ _)) (HC _ GG7) ?_
      rintro e V8 ⟨rfl, g8x⟩
      have GG8 := Gr.trans GG7 g8x
      have y8_5 := (Below.block g8x _ (Array.getElem?_eq_some_iff.1 y7_5).1).trans y7_5
      have y8_6 := (Below.block g8x _ (Array.getElem?_eq_some_iff.1 y7_6).1).trans y7_6
      refine ⟨_, rfl, keep _ GG8, ?_⟩
      rw [re_comm _ 23 18 _ _ (by decide), re_comm _ 22 18 _ _ (by decide)]
      exact fin _ _ _ _ rfl (keep _ GG8) GG8 y8_5 y8_6
end Go.Proofs.Ytbpkfkljeibjoaa

/- know.Join, Meet of sets in their form. -/
set_option linter.unusedVariables false
set_option linter.unusedSimpArgs false
namespace Rm
open Go Go.RowKit
theorem cArr_ext {a b : List Nat} (h : ∀ s, s < 5 → cv a s = cv b s) : cArr a = cArr b := by
  unfold cArr
  rw [h 0 (by omega), h 1 (by omega), h 2 (by omega), h 3 (by omega), h 4 (by omega)]
/-- counts of which the first i are of both -/
def mixV (f : Nat → Nat → Nat) (v v' : List Nat) (i : Nat) : List Nat := (List.range 5).map fun j => if j < i then f (cv v j) (cv v' j) else cv v j
theorem mixV_cv (f : Nat → Nat → Nat) (v v' : List Nat) (i s : Nat) (hs : s < 5) : cv (mixV f v v' i) s = if s < i then f (cv v s) (cv v' s) else cv v s := by
  unfold mixV cv
  rw [List.getD_eq_getElem?_getD, List.getElem?_map, List.getElem?_range hs]
  rfl
theorem mixV_zero (f : Nat → Nat → Nat) (v v' : List Nat) : cArr (mixV f v v' 0) = cArr v := cArr_ext fun s hs => by rw [mixV_cv f v v' 0 s hs, if_neg (by omega)]
theorem mixV_step (f : Nat → Nat → Nat) (v v' : List Nat) (i : Nat) (hi : i < 5) : (cArr (mixV f v v' i)).setIfInBounds i (.int .i64 ((f (cv v i) (cv v' i) : Nat) : Int)) = cArr (mixV f v v' (i + 1)) := by
  rw [cArr_setC _ _ _ hi]
  refine cArr_ext fun s hs => ?_
  rw [cv_setC _ _ _ _ hi hs, mixV_cv f v v' (i + 1) s hs]
  by_cases e : s = i
  · subst e; rw [if_pos rfl, if_pos (by omega)]
  · rw [if_neg e, mixV_cv f v v' i s hs]
    by_cases e' : s < i
    · rw [if_pos e', if_pos (by omega)]
    · rw [if_neg e', if_neg (by omega)]
theorem join_eq {v v' : List Nat} {m m' : List (Nat × Nat)} : EqD (upD (mixV max v v' 5) (m ++ m')) (orD (memB v m) (memB v' m')) := by
  rintro s c ⟨hs, h1, h2⟩
  rw [Bool.eq_iff_iff]
  unfold orD
  rw [Bool.or_eq_true, memB_iff, memB_iff]
  simp only [upD, Bool.or_eq_true, decide_eq_true_eq, List.contains_iff_mem, List.mem_append]
  rw [mixV_cv max v v' 5 s hs, if_pos hs]
  have : c ≤ max (cv v s) (cv v' s) ↔ c ≤ cv v s ∨ c ≤ cv v' s := by omega
  rw [this]
  constructor
  · rintro (⟨_, q | q⟩ | q | q)
    · exact .inl (.inl ⟨h1, q⟩)
    · exact .inr (.inl ⟨h1, q⟩)
    · exact .inl (.inr q)
    · exact .inr (.inr q)
  · rintro ((q | q) | (q | q))
    · exact .inl ⟨h1, .inl q.2⟩
    · exact .inr (.inl q)
    · exact .inl ⟨h1, .inr q.2⟩
    · exact .inr (.inr q)
theorem mix_le {f : Nat → Nat → Nat} (hf : ∀ a b, f a b ≤ max a b) {v v' : List Nat} (h : ∀ x ∈ v, x ≤ 1000) (h' : ∀ x ∈ v', x ≤ 1000) : ∀ s, s < 5 → cv (mixV f v v' 5) s ≤ 1000 := by
  intro s hs
  rw [mixV_cv f v v' 5 s hs, if_pos hs]
  have := hf (cv v s) (cv v' s)
  have := cv_le h s
  have := cv_le h' s
  omega
theorem OkV.ins {v : List Nat} {m : List (Nat × Nat)} (h : OkV v m) : ∀ d ∈ m, Rm.inR d.1 d.2 := fun d hd => by
  have := h.dots d hd
  exact ⟨this.1, by omega, this.2.1⟩
end Rm
namespace Go.Proofs.Ytbpkfkljeibjoaa
open Go.RowKit Rm
theorem grown_setRow (w : World) (g : Nat) (cs : Array Value) : w.grownBy (w.setRow g cs) (some g) := ⟨rfl, rfl, rfl, by simp, fun k _ hk => setRow_other w g k _ (fun e => hk (by rw [e]))⟩
theorem own_setRow {w : World} {base g : Nat} {e : TypeId} {s n : Nat} {v : Value} {xs : List Value} (h : w.ownsRow base e s v n xs) (hg : g < base) (cs : Array Value) : (w.setRow g cs).ownsRow base e s v n xs := by
  refine h.kept (grown_setRow w g cs) ?_
  cases e : v.ownBlock with
  | none => exact .inl rfl
  | some b => exact .inr (fun e' => by have := (h.lt b e).1; have := Option.some.inj e'; omega)
theorem KnO.setRow {base g : Nat} {w : World} {k : Value} {v : List Nat} {m : List (Nat × Nat)} (h : KnO base w k v m) (hg : g < base) (cs : Array Value) : KnO base (w.setRow g cs) k v m := by
  obtain ⟨vv, mv, e, h1, h2⟩ := h
  exact ⟨vv, mv, e, own_setRow h1 hg cs, own_setRow h2 hg cs⟩
theorem frmK.setRow {base g : Nat} {w : World} {e : Ending} {D : DS} (h : frmK base w e D) (hg : g < base) (cs : Array Value) : frmK base (w.setRow g cs) e D := by
  obtain ⟨k, r, h1, ⟨h2, h3, h4⟩ | ⟨h2, h3, h4⟩⟩ := h
  · exact ⟨k, r, h1, .inl ⟨h2, h3, h4.setRow hg cs⟩⟩
  · exact ⟨k, r, h1, .inr ⟨h2, h3, h4.setRow hg cs⟩⟩
theorem frmK.form {base : Nat} {w : World} {e : Ending} {D : DS} (h : frmK base w e D) : ∃ a1 n1 c1 a2 n2 c2 r, e = .returned (.tuple #[.agg #[.slice a1 n1 c1, .slice a2 n2 c2], .int .i64 r]) ∧ frmK base w (.returned (.tuple #[.agg #[.slice a1 n1 c1, .slice a2 n2 c2], .int .i64 r])) D := by
  obtain ⟨k, r, rfl, h1⟩ := id h
  have hk : ∃ v m, KnO base w k v m := by rcases h1 with ⟨_, _, q⟩ | ⟨_, _, q⟩ <;> exact ⟨_, _, q⟩
  obtain ⟨v, m, vv, mv, rfl, o1, o2⟩ := hk
  obtain ⟨a1, c1, rfl, -⟩ := own_formD o1
  obtain ⟨a2, c2, rfl, -⟩ := own_formD o2
  exact ⟨_, _, _, _, _, _, _, rfl, h⟩
theorem src2 {W : World} {b : Nat} {u u' : Value} {t : TypeId} {fr : Nat × Nat} {n n' : Nat} {xs xs' : List Value} (hb : W.heap[b]? = some (.cells #[u, u'] t fr)) (h : RdC 2 W u n xs) (h' : RdC 2 W u' n' xs') : SrcD W b [(n, xs), (n', xs')] := by
  refine ⟨(Array.getElem?_eq_some_iff.1 hb).1, fun i p hp => ?_⟩
  match i, hp with
  | 0, hp => simp at hp; subst hp; exact ⟨u, kc0 hb, h⟩
  | 1, hp => simp at hp; subst hp; exact ⟨u', kc1 hb, h'⟩
  | i + 2, hp => simp at hp
theorem flat_two (l l' : List (Nat × Nat)) : catD [(l.length, flat (pairs l)), (l'.length, flat (pairs l'))] = flat (pairs (l ++ l')) := by simp [catD, pairs, flat]
theorem sum_two (l l' : List (Nat × Nat)) : sumD [(l.length, flat (pairs l)), (l'.length, flat (pairs l'))] = (l ++ l').length := by simp [sumD]
/-- two lists put together -/
theorem concat_two {W : World} {b : Nat} {u u' : Value} {t : TypeId} {fr : Nat × Nat} {l l' : List (Nat × Nat)} (hb : W.heap[b]? = some (.cells #[u, u'] t fr)) (h : RdC 2 W u l.length (flat (pairs l))) (h' : RdC 2 W u' l'.length (flat (pairs l'))) (hl : l.length + l'.length ≤ 1000) :
    Calls Try.prog 48 #[.slice (some ⟨b, 0, none⟩) 2 2] W fun e W' => ∃ u, e = .returned u ∧ Gr W W' ∧ W'.ownsRow W.heap.size 24 2 u (l ++ l').length (flat (pairs (l ++ l'))) := by
  have hs := sum_two l l'
  have := concatD [(l.length, flat (pairs l)), (l'.length, flat (pairs l'))] b 2 W (src2 hb h h') (by rw [hs, List.length_append]; exact hl) (by simp)
  rw [hs, flat_two] at this
  exact this
/-- build, called behind Concat, as the regions ask it -/
theorem build_then {w W W' : World} {u : Value} {V : List Nat} {L : List (Nat × Nat)} (D : DS) (hD : EqD (upD V L) D) (hv : ∀ s, s < 5 → cv V s ≤ 1000) (hL : ∀ d ∈ L, inR d.1 d.2) (hlen : L.length ≤ 1000) (g : Gr w W) (g' : Gr W W') (ho : W'.ownsRow W.heap.size 24 2 u L.length (flat (pairs L))) :
    Calls Try.prog 47 #[.agg (cArr V), u] W' fun e W'' => ∃ a1 n1 c1 a2 n2 c2 r, e = .returned (.tuple #[.agg #[.slice a1 n1 c1, .slice a2 n2 c2], .int .i64 r]) ∧ Gr w W'' ∧ frmK w.heap.size W'' (.returned (.tuple #[.agg #[.slice a1 n1 c1, .slice a2 n2 c2], .int .i64 r])) D := by
  refine (build_any V L u W' W.heap.size hv hL hlen ho g'.le).mono ?_
  rintro e W'' ⟨h1, h2⟩
  obtain ⟨a1, n1, c1, a2, n2, c2, r, he, hf⟩ := (h1.congr hD).form
  exact ⟨a1, n1, c1, a2, n2, c2, r, he, Below.trans (g.trans g') (Below.mono h2 g.le), hf.less (g.trans g').le⟩

set_option maxHeartbeats 2000000 in
set_option maxRecDepth 100000 in
theorem join_ok (k k' : Value) (v v' : List Nat) (m m' : List (Nat × Nat)) (w : World) (hk : KnR w k (ints v) (pairs m)) (hk' : KnR w k' (ints v') (pairs m')) (ho : OkV v m) (ho' : OkV v' m') (hl : m.length ≤ 60) (hl' : m'.length ≤ 60) :
    Calls Try.prog 18 #[k, k'] w fun e w' => frmK w.heap.size w' e (orD (memB v m) (memB v' m')) ∧ Gr w w' := by
  have H1 : Hid (∀ W, Gr w W → Calls Try.prog 45 #[k, k'] W fun e w' => e = .returned (.int .i64 0) ∧ Gr W w') := fun W g => by
    have := kcheckBoth k k' _ _ _ _ W (hk.gr g) (hk'.gr g)
    rw [ho.chk hl, ho'.chk hl'] at this
    simpa using this
  have HC : Hid (∀ W, Gr w W → Calls Try.prog 46 #[k] W fun e w' => e = .returned (.agg (cArr v)) ∧ Gr W w') := fun W g => countsOf_any k v _ W (hk.gr g) ho.len
  have HC' : Hid (∀ W, Gr w W → Calls Try.prog 46 #[k'] W fun e w' => e = .returned (.agg (cArr v')) ∧ Gr W w') := fun W g => countsOf_any k' v' _ W (hk'.gr g) ho'.len
  obtain ⟨vv, mv, rfl, r1, r2, r3⟩ := hk
  obtain ⟨vv', mv', rfl, r1', r2', r3'⟩ := hk'
  obtain ⟨va, vc, rfl, -⟩ := id r1
  obtain ⟨ma, mc, rfl, -⟩ := id r2
  obtain ⟨va', vc', rfl, -⟩ := id r1'
  obtain ⟨ma', mc', rfl, -⟩ := id r2'
  have hpl := pairs_len m
  have hpl' := pairs_len m'
  have R3 := Lib.hid r3
  have R3' := Lib.hid r3'
  have HLv := Lib.hid (fun s => cv_le ho.le s)
  have HLv' := Lib.hid (fun s => cv_le ho'.le s)
  have HML := Lib.hid (mix_le (f := max) (fun a b => by omega) ho.le ho'.le)
  have HIN := Lib.hid ho.ins
  have HIN' := Lib.hid ho'.ins
  generalize hN1 : (ints v).length = N1 at *
  generalize hN2 : (pairs m).length = N2 at *
  generalize hN1' : (ints v').length = N1' at *
  generalize hN2' : (pairs m').length = N2' at *
  have HN2 := Lib.hid hpl
  have HN2' := Lib.hid hpl'
  clear r1 r2 r3 r1' r2' r3' ho ho' hN1 hN2 hN1' hN2' hpl hpl'
  generalize hU : (Value.slice va N1 vc) = U at *
  generalize hU' : (Value.slice va' N1' vc') = U' at *
  have HU := Lib.hid hU
  have HU' := Lib.hid hU'
  clear hU hU'
  have G3 := Lib.hid ((((Gr.refl w).alloc (.cells #[U, .slice ma N2 mc] 30)).alloc (.cells #[U', .slice ma' N2' mc'] 30)).alloc (.cells #[.slice none 0 0, .slice none 0 0] 30))
  have B0 : Hid ((((w.alloc (.cells #[U, .slice ma N2 mc] 30)).alloc (.cells #[U', .slice ma' N2' mc'] 30)).alloc (.cells #[.slice none 0 0, .slice none 0 0] 30)).heap[w.heap.size]? = some (.cells #[U, .slice ma N2 mc] 30 (0, 0))) := (al_old _ _ _ (by simp; omega)).trans ((al_old _ _ _ (by simp)).trans (al_new _ _ _ rfl))
  have B1 : Hid ((((w.alloc (.cells #[U, .slice ma N2 mc] 30)).alloc (.cells #[U', .slice ma' N2' mc'] 30)).alloc (.cells #[.slice none 0 0, .slice none 0 0] 30)).heap[w.heap.size + 1]? = some (.cells #[U', .slice ma' N2' mc'] 30 (0, 0))) := (al_old _ _ _ (by simp)).trans (al_new _ _ _ (by simp))
  have B4 : Hid ((((w.alloc (.cells #[U, .slice ma N2 mc] 30)).alloc (.cells #[U', .slice ma' N2' mc'] 30)).alloc (.cells #[.slice none 0 0, .slice none 0 0] 30)).heap[w.heap.size + 1 + 1]? = some (.cells #[.slice none 0 0, .slice none 0 0] 30 (0, 0))) := al_new _ _ _ (by simp)
  go_enter Try.func18, Try.ntmps18
  go_wp2_with (go_at_call 45; refine (H1.out _ G3.out).mono ?_; rintro e w4 ⟨rfl, g4⟩; have G4 := Lib.hid (G3.out.trans g4); have b0 := (Below.block g4 _ (Array.getElem?_eq_some_iff.1 B0.out).1).trans B0.out; have b1 := (Below.block g4 _ (Array.getElem?_eq_some_iff.1 B1.out).1).trans B1.out; have b4 := (Below.block g4 _ (Array.getElem?_eq_some_iff.1 B4.out).1).trans B4.out; clear g4 B0 B1 B4 G3 H1)
  generalize hg0 : w.heap.size = g0 at *
  have l0 := (Array.getElem?_eq_some_iff.1 b0).1
  have l1 := (Array.getElem?_eq_some_iff.1 b1).1
  have l4 := (Array.getElem?_eq_some_iff.1 b4).1
  refine jn4_reg _ (fun _ _ _ _ _ h => h) _ w4 g0 (g0 + 1) U (.slice ma N2 mc) U' (.slice ma' N2' mc') (cArr v) (cArr v') rfl rfl rfl ⟨b0, b1⟩ l0 l1 rfl (cArr_one v) rfl (cArr_one v') (fun W g => HC.out W (G4.out.trans g)) (fun W g => HC'.out W (G4.out.trans g)) (fun w5 b7 b8 g5 l7 l8 hne e7 e8 => ?_)
  simp only [Act.put, List.setIfInBounds_toArray, List.set_cons_zero, List.set_cons_succ]
  have G5 := Lib.hid (G4.out.trans g5)
  have d0 := Lib.hid ((Below.block g5 _ l0).trans b0)
  have d1 := Lib.hid ((Below.block g5 _ l1).trans b1)
  have d4 := Lib.hid ((Below.block g5 _ l4).trans b4)
  have D7 : Hid (w5.heap[b7]? = some (.cells (cArr (mixV max v v' 0)) 75 (0, 0))) := by rw [mixV_zero]; exact e7
  have D8 := Lib.hid e8
  have hL5 : Hid (w4.heap.size ≤ w5.heap.size) := g5.le
  clear g5 b0 b1 b4 e7 e8 HC HC'
  go_wp2_with fail
  go_loopg [21] 5 (fun gh ix wr => ∃ i : Nat, i ≤ 5 ∧ 5 - i ≤ gh ∧ ix = .int .i64 (i : Int) ∧ Below w4.heap.size w5 wr ∧ wr.heap[b7]? = some (.cells (cArr (mixV max v v' i)) 75 (0, 0)) ∧ wr.heap[b8]? = some (.cells (cArr v') 75 (0, 0)))
  case atStart => exact ⟨0, by omega, by omega, rfl, Below.refl _ _, D7.out, D8.out⟩
  case round =>
    obtain ⟨i, hi, hgh, rfl, hb, e7, e8⟩ := hrel
    have HB := Lib.hid hb
    have E7 := Lib.hid e7
    have E8 := Lib.hid e8
    by_cases hi5 : i < 5
    · have c7 : wr.cell? ⟨b7, i, none⟩ = some (.int .i64 (cv v i : Nat)) := by
        have := cell_cArr e7 hi5
        rw [mixV_cv max v v' i i hi5, if_neg (by omega)] at this
        exact this
      have c8 := cell_cArr e8 hi5
      have f7 : wr.frozen? ⟨b7, i, none⟩ = false := by simp [World.frozen?, e7]
      have HST := Lib.hid (mixV_step max v v' i hi5)
      have hiI : (i : Int) < 5 := by omega
      have q1 : (cv v i : Int) ≤ 1000 := by have := HLv.out i; omega
      have q2 : (cv v' i : Int) ≤ 1000 := by have := HLv'.out i; omega
      have hmx : ((max (cv v i) (cv v' i) : Nat) : Int) = max ((cv v i : Nat) : Int) ((cv v' i : Nat) : Int) := by omega
      have HMX := Lib.hid hmx
      clear e7 e8 hb hmx
      generalize cv v i = x at *
      generalize cv v' i = y at *
      go_wp2_with fail
      go_still_tail 9, (by kernel_rfl)
      repeat still_step
      change wpList _ _ _ _ _ wr.drew
      have HX : Hid (Below w4.heap.size w5 ((wr.drew.setCell ⟨b7, i, none⟩ (.int .i64 (max (x : Int) (y : Int))))) ∧ (wr.drew.setCell ⟨b7, i, none⟩ (.int .i64 (max (x : Int) (y : Int)))).heap[b7]? = some (.cells (cArr (mixV max v v' (i + 1))) 75 (0, 0)) ∧ (wr.drew.setCell ⟨b7, i, none⟩ (.int .i64 (max (x : Int) (y : Int)))).heap[b8]? = some (.cells (cArr v') 75 (0, 0))) := by
        refine ⟨HB.out.drew.setCell l7 _, ?_, ?_⟩
        · rw [← HMX.out, ← HST.out]
          exact hsc (w := wr.drew) E7.out
        · exact (Below.heap_setCell wr.drew _ _ _ (Ne.symm hne)).trans E8.out
      go_wp2_with fail
      go_roundg (5 - (i + 1))
      case measure => omega
      case rel => exact ⟨i + 1, by omega, Nat.le_refl _, by go_num, HX.out.1, HX.out.2.1, HX.out.2.2⟩
    · obtain rfl : i = 5 := by omega
      have GW : Hid (Gr w wr) := Below.trans G5.out (Below.mono HB.out (by rw [hg0]; omega))
      have k0 := (HB.out.block _ l0).trans d0.out
      have k1 := (HB.out.block _ l1).trans d1.out
      have k4 := (HB.out.block _ l4).trans d4.out
      have m0 := (Array.getElem?_eq_some_iff.1 k0).1
      have m1 := (Array.getElem?_eq_some_iff.1 k1).1
      have m4 := (Array.getElem?_eq_some_iff.1 k4).1
      have m7 := (Array.getElem?_eq_some_iff.1 e7).1
      have hR3 : Hid (∀ W, Gr wr W → RdC 2 W (.slice ma N2 mc) m.length (flat (pairs m))) := fun W g => by
        have := (R3.out.gr (GW.out.trans g))
        rw [HN2.out] at this ⊢
        exact this
      have hR3' : Hid (∀ W, Gr wr W → RdC 2 W (.slice ma' N2' mc') m'.length (flat (pairs m'))) := fun W g => by
        have := (R3'.out.gr (GW.out.trans g))
        rw [HN2'.out] at this ⊢
        exact this
      clear e8 E8 D7 D8 HLv HLv' hb
      generalize hV : mixV max v v' 5 = V at *
      go_wp2_with fail
      refine jn10_reg _ (fun _ _ _ _ _ h => h) _ wr g0 (g0 + 1) (g0 + 1 + 1) b7 U U' ma ma' N2 mc N2' mc' (cArr V) rfl rfl rfl rfl rfl ⟨⟨k0, k1⟩, e7⟩ m0 m1 m7 rfl k4 (by omega) (by omega) (by omega)
        (fun u W W' => W'.ownsRow W.heap.size 24 2 u (m ++ m').length (flat (pairs (m ++ m')))) (fun a1 n1 c1 a2 n2 c2 r W'' => frmK wr.heap.size W'' (.returned (.tuple #[.agg #[.slice a1 n1 c1, .slice a2 n2 c2], .int .i64 r])) (orD (memB v m) (memB v' m')))
        (fun W b g hb => concat_two hb (hR3.out W g) (hR3'.out W g) (by omega))
        (fun W W' u g g' f => build_then (orD (memB v m) (memB v' m')) (by rw [← hV]; exact join_eq) HML.out (fun d hd => (List.mem_append.1 hd).elim (HIN.out d) (HIN'.out d)) (by rw [List.length_append]; omega) g g' f) (fun W b39 u a1 n1 c1 a2 n2 c2 r g f => ?_)
      simp only [Act.put, List.setIfInBounds_toArray, List.set_cons_zero, List.set_cons_succ]
      have k4' := (Below.block g _ m4).trans k4
      have k5 := setRow_heap W (g0 + 1 + 1) _ #[.slice a1 n1 c1, .slice a2 n2 c2] _ _ k4'
      have GF : Hid (Gr w (W.setRow (g0 + 1 + 1) #[.slice a1 n1 c1, .slice a2 n2 c2])) := below_setRow (GW.out.trans g) (by omega) _
      have HF := Lib.hid ((f.setRow m4 #[.slice a1 n1 c1, .slice a2 n2 c2]).less (base' := w.heap.size) GW.out.le)
      generalize W.setRow (g0 + 1 + 1) #[.slice a1 n1 c1, .slice a2 n2 c2] = w9 at *
      go_wp2_with fail
      refine bodyPost_ret (res_know Try.results18 _ _ (g0 + 1 + 1) _ _ _ rfl rfl (kc0 k5) (kc1 k5)) rfl ⟨HF.out, GF.out⟩

end Go.Proofs.Ytbpkfkljeibjoaa

/- know.Join, Meet, Within, Add, Count, Has: errors; Within, Add, Count, Has of sets in their form. -/
set_option linter.unusedVariables false
set_option linter.unusedSimpArgs false
namespace Rm
open Go Go.RowKit
theorem add_eq {v : List Nat} {m : List (Nat × Nat)} {a b : Nat} : EqD (upD v (m ++ [(a, b)])) (addD (memB v m) a b) := by
  intro s c _
  rw [Bool.eq_iff_iff]
  unfold addD
  rw [Bool.or_eq_true, memB_iff]
  simp only [upD, Bool.or_eq_true, decide_eq_true_eq, List.contains_iff_mem, List.mem_append, List.mem_singleton, Prod.mk.injEq]
  constructor
  · rintro (q | q | q)
    · exact .inl (.inl q)
    · exact .inl (.inr q)
    · exact .inr q
  · rintro ((q | q) | q)
    · exact .inl q
    · exact .inr (.inl q)
    · exact .inr (.inr q)
end Rm
namespace Go.Proofs.Ytbpkfkljeibjoaa
open Go.RowKit Rm
set_option maxHeartbeats 1000000 in
set_option maxRecDepth 100000 in
theorem hasf_ok (k : Value) (v : List Nat) (m : List (Nat × Nat)) (s c : Nat) (w : World) (hk : KnR w k (ints v) (pairs m)) (ho : OkV v m) (hl : m.length ≤ 60) (hd : inR s c) :
    Calls Try.prog 56 #[k, .agg #[.int .i64 (s : Int), .int .i64 (c : Int)]] w fun e w' => e = .returned (.tuple #[.bool (memB v m s c), .int .i64 0]) ∧ Gr w w' := by
  have H1 : Hid (∀ W, Gr w W → Calls Try.prog 27 #[k] W fun e w' => e = .returned (.int .i64 0) ∧ Gr W w') := fun W g => by
    have := kcheck_any k _ _ W (hk.gr g)
    rwa [ho.chk hl] at this
  have H2 : Hid (∀ W, Calls Try.prog 25 #[.agg #[.int .i64 (s : Int), .int .i64 (c : Int)]] W fun e w' => e = .returned (.bool true) ∧ Gr W w') := fun W => by
    have := dot_any ((s : Int), (c : Int)) W
    have e : dotB ((s : Int), (c : Int)) = true := by rw [dotB_iff]; have := hd.1; have := hd.2.1; have := hd.2.2; simp only; omega
    rwa [e] at this
  have H3 : Hid (∀ W, Gr w W → Calls Try.prog 69 #[k, .agg #[.int .i64 (s : Int), .int .i64 (c : Int)]] W fun e w' => e = .returned (.bool (memB v m s c)) ∧ Gr W w') := fun W g => khas_any k v m s c W (hk.gr g) ho hl hd
  obtain ⟨vv, mv, rfl, -⟩ := hk
  have G2 := Lib.hid (((Gr.refl w).alloc (.cells #[vv, mv] 30)).alloc (.cells #[.int .i64 (s : Int), .int .i64 (c : Int)] 24))
  have B0 : Hid (((w.alloc (.cells #[vv, mv] 30)).alloc (.cells #[.int .i64 (s : Int), .int .i64 (c : Int)] 24)).heap[w.heap.size]? = some (.cells #[vv, mv] 30 (0, 0))) := (al_old _ _ _ (by simp)).trans (al_new _ _ _ rfl)
  have B1 : Hid (((w.alloc (.cells #[vv, mv] 30)).alloc (.cells #[.int .i64 (s : Int), .int .i64 (c : Int)] 24)).heap[w.heap.size + 1]? = some (.cells #[.int .i64 (s : Int), .int .i64 (c : Int)] 24 (0, 0))) := al_new _ _ _ (by simp)
  generalize memB v m s c = R at *
  go_enter Try.func56, Try.ntmps56
  go_wp2_with (first
    | (go_at_call 27; refine (H1.out _ G2.out).mono ?_; rintro e w4 ⟨rfl, g4⟩; have b0 := Lib.hid ((Below.block g4 _ (Array.getElem?_eq_some_iff.1 B0.out).1).trans B0.out); have b1 := Lib.hid ((Below.block g4 _ (Array.getElem?_eq_some_iff.1 B1.out).1).trans B1.out); have c0 := kc0 b1.out; have c1 := kc1 b1.out; have G4 := Lib.hid (G2.out.trans g4); clear g4 B0 B1)
    | (go_at_call 25; refine (H2.out _).mono ?_; rintro e w5 ⟨rfl, g5⟩; have e0 := (Below.block g5 _ (Array.getElem?_eq_some_iff.1 b0.out).1).trans b0.out; have e1 := (Below.block g5 _ (Array.getElem?_eq_some_iff.1 b1.out).1).trans b1.out; have k0 := kc0 e0; have k1 := kc1 e0; have k2 := kc0 e1; have k3 := kc1 e1; have G5 := Lib.hid (G4.out.trans g5); clear g5 e0 e1 c0 c1)
    | (go_at_call 69; refine (H3.out _ G5.out).mono ?_; rintro e w6 ⟨rfl, g6⟩))
  go_ret2
  exact ⟨rfl, G5.out.trans g6⟩
set_option maxHeartbeats 1000000 in
set_option maxRecDepth 100000 in
theorem add_ok (k : Value) (v : List Nat) (m : List (Nat × Nat)) (s c : Nat) (w : World) (hk : KnR w k (ints v) (pairs m)) (ho : OkV v m) (hl : m.length ≤ 60) (hd : inR s c) :
    Calls Try.prog 52 #[k, .agg #[.int .i64 (s : Int), .int .i64 (c : Int)]] w fun e w' => frmK w.heap.size w' e (addD (memB v m) s c) ∧ Gr w w' := by
  have H1 : Hid (∀ W, Gr w W → Calls Try.prog 27 #[k] W fun e w' => e = .returned (.int .i64 0) ∧ Gr W w') := fun W g => by
    have := kcheck_any k _ _ W (hk.gr g)
    rwa [ho.chk hl] at this
  have H2 : Hid (∀ W, Calls Try.prog 25 #[.agg #[.int .i64 (s : Int), .int .i64 (c : Int)]] W fun e w' => e = .returned (.bool true) ∧ Gr W w') := fun W => by
    have := dot_any ((s : Int), (c : Int)) W
    have e : dotB ((s : Int), (c : Int)) = true := by rw [dotB_iff]; have := hd.1; have := hd.2.1; have := hd.2.2; simp only; omega
    rwa [e] at this
  have HC : Hid (∀ W, Gr w W → Calls Try.prog 46 #[k] W fun e w' => e = .returned (.agg (cArr v)) ∧ Gr W w') := fun W g => countsOf_any k v _ W (hk.gr g) ho.len
  obtain ⟨vv, mv, rfl, r1, r2, r3⟩ := hk
  obtain ⟨va, vc, rfl, -⟩ := id r1
  obtain ⟨ma, mc, rfl, -⟩ := id r2
  have R3 := Lib.hid r3
  have hpl := pairs_len m
  have HLv := Lib.hid (fun s (_ : s < 5) => cv_le ho.le s)
  have HIN := Lib.hid ho.ins
  generalize hN1 : (ints v).length = N1 at *
  generalize hN2 : (pairs m).length = N2 at *
  have HN2 := Lib.hid hpl
  clear r1 r2 r3 ho hN1 hN2 hpl
  generalize hU : (Value.slice va N1 vc) = U at *
  clear hU
  have G2 := Lib.hid ((((Gr.refl w).alloc (.cells #[U, .slice ma N2 mc] 30)).alloc (.cells #[.int .i64 (s : Int), .int .i64 (c : Int)] 24)).alloc (.cells #[.slice none 0 0, .slice none 0 0] 30))
  have B0 : Hid ((((w.alloc (.cells #[U, .slice ma N2 mc] 30)).alloc (.cells #[.int .i64 (s : Int), .int .i64 (c : Int)] 24)).alloc (.cells #[.slice none 0 0, .slice none 0 0] 30)).heap[w.heap.size]? = some (.cells #[U, .slice ma N2 mc] 30 (0, 0))) := (al_old _ _ _ (by simp; omega)).trans ((al_old _ _ _ (by simp)).trans (al_new _ _ _ rfl))
  have B1 : Hid ((((w.alloc (.cells #[U, .slice ma N2 mc] 30)).alloc (.cells #[.int .i64 (s : Int), .int .i64 (c : Int)] 24)).alloc (.cells #[.slice none 0 0, .slice none 0 0] 30)).heap[w.heap.size + 1]? = some (.cells #[.int .i64 (s : Int), .int .i64 (c : Int)] 24 (0, 0))) := (al_old _ _ _ (by simp)).trans (al_new _ _ _ (by simp))
  have B4 : Hid ((((w.alloc (.cells #[U, .slice ma N2 mc] 30)).alloc (.cells #[.int .i64 (s : Int), .int .i64 (c : Int)] 24)).alloc (.cells #[.slice none 0 0, .slice none 0 0] 30)).heap[w.heap.size + 1 + 1]? = some (.cells #[.slice none 0 0, .slice none 0 0] 30 (0, 0))) := al_new _ _ _ (by simp)
  go_enter Try.func52, Try.ntmps52
  go_wp2_with (first
    | (go_at_call 27; refine (H1.out _ G2.out).mono ?_; rintro e w4 ⟨rfl, g4⟩; have b0 := Lib.hid ((Below.block g4 _ (Array.getElem?_eq_some_iff.1 B0.out).1).trans B0.out); have b1 := Lib.hid ((Below.block g4 _ (Array.getElem?_eq_some_iff.1 B1.out).1).trans B1.out); have b4 := Lib.hid ((Below.block g4 _ (Array.getElem?_eq_some_iff.1 B4.out).1).trans B4.out); have c0 := kc0 b1.out; have c1 := kc1 b1.out; have G4 := Lib.hid (G2.out.trans g4); clear g4 B0 B1 B4)
    | (go_at_call 25; refine (H2.out _).mono ?_; rintro e w5 ⟨rfl, g5⟩; have e0 := (Below.block g5 _ (Array.getElem?_eq_some_iff.1 b0.out).1).trans b0.out; have e1 := (Below.block g5 _ (Array.getElem?_eq_some_iff.1 b1.out).1).trans b1.out; have e4 := (Below.block g5 _ (Array.getElem?_eq_some_iff.1 b4.out).1).trans b4.out; have G5 := Lib.hid (G4.out.trans g5); clear g5 c0 c1 b0 b1 b4))
  generalize hg0 : w.heap.size = g0 at *
  have m0 := (Array.getElem?_eq_some_iff.1 e0).1
  have m1 := (Array.getElem?_eq_some_iff.1 e1).1
  have m4 := (Array.getElem?_eq_some_iff.1 e4).1
  have hR3 : Hid (∀ W, Gr w5 W → RdC 2 W (.slice ma N2 mc) m.length (flat (pairs m))) := fun W g => by
    have := (R3.out.gr (G5.out.trans g))
    rw [HN2.out] at this ⊢
    exact this
  refine ad6_reg _ (fun _ _ _ _ _ h => h) _ w5 g0 (g0 + 1) (g0 + 1 + 1) U ma N2 mc s c (cArr v) rfl rfl rfl rfl ⟨e0, e1⟩ m0 m1 e4 (by omega) (by omega)
    (fun u W W' => W'.ownsRow W.heap.size 24 2 u (m ++ [(s, c)]).length (flat (pairs (m ++ [(s, c)])))) (fun a1 n1 c1 a2 n2 c2 r W'' => frmK w5.heap.size W'' (.returned (.tuple #[.agg #[.slice a1 n1 c1, .slice a2 n2 c2], .int .i64 r])) (addD (memB v m) s c))
    (fun W g => HC.out W (G5.out.trans g))
    (fun W b22 b23 g h22 h23 => concat_two (l' := [(s, c)]) h23 (hR3.out W g) (by
      refine ⟨rfl, flat_one _, .inr ⟨_, 1, rfl, Nat.le_refl _, fun _ => (Array.getElem?_eq_some_iff.1 h22).1, fun j u hj => ?_⟩⟩
      rw [adn, Nat.zero_add]
      match j, hj with
      | 0, hj => simp [pairs, flat] at hj; subst hj; exact kc0 h22
      | 1, hj => simp [pairs, flat] at hj; subst hj; exact kc1 h22
      | j + 2, hj => simp [pairs, flat] at hj) (by simp; omega))
    (fun W W' u g g' f => build_then (addD (memB v m) s c) add_eq HLv.out (fun d hd' => (List.mem_append.1 hd').elim (HIN.out d) (fun q => by rw [List.mem_singleton] at q; subst q; exact hd)) (by rw [List.length_append]; simp; omega) g g' f) (fun W b22 b23 u a1 n1 c1 a2 n2 c2 r g f => ?_)
  simp only [Act.put, List.setIfInBounds_toArray, List.set_cons_zero, List.set_cons_succ]
  have k4' := (Below.block g _ m4).trans e4
  have k5 := setRow_heap W (g0 + 1 + 1) _ #[.slice a1 n1 c1, .slice a2 n2 c2] _ _ k4'
  have GF : Hid (Gr w (W.setRow (g0 + 1 + 1) #[.slice a1 n1 c1, .slice a2 n2 c2])) := below_setRow (G5.out.trans g) (by omega) _
  have HF := Lib.hid ((f.setRow m4 #[.slice a1 n1 c1, .slice a2 n2 c2]).less (base' := w.heap.size) G5.out.le)
  generalize W.setRow (g0 + 1 + 1) #[.slice a1 n1 c1, .slice a2 n2 c2] = w9 at *
  go_wp2_with fail
  refine bodyPost_ret (res_know Try.results52 _ _ (g0 + 1 + 1) _ _ _ rfl rfl (kc0 k5) (kc1 k5)) rfl ⟨HF.out, GF.out⟩
end Go.Proofs.Ytbpkfkljeibjoaa

/- Versions: as plain data, and as they are read. -/
set_option linter.unusedVariables false
set_option linter.unusedSimpArgs false
namespace Rm
open Go Go.RowKit Gx
structure VerD where
  id : List UInt8
  s : Int
  c : Int
  t : Int
  n : Int
  b : Int
  V : List Int
  M : List (Int × Int)
def ltrB (x : UInt8) : Bool := decide (97 ≤ x.toNat) && decide (x.toNat ≤ 122)
/-- P35 -/
def idB (l : List UInt8) : Bool := decide (0 < l.length) && decide (l.length ≤ 8) && l.all ltrB
def ptB (t n : Int) : Bool := decide (0 ≤ t) && decide (t < 16) && decide (0 ≤ n) && decide (n < 32)
theorem ptB_iff (t n : Int) : ptB t n = true ↔ 0 ≤ t ∧ t < 16 ∧ 0 ≤ n ∧ n < 32 := by simp [ptB, and_assoc]
def memI (V : List Int) (M : List (Int × Int)) (s c : Int) : Bool := memB (V.map Int.toNat) (M.map fun d => (d.1.toNat, d.2.toNat)) s.toNat c.toNat
theorem memI_of (v : List Nat) (m : List (Nat × Nat)) (s c : Nat) : memI (ints v) (pairs m) (s : Int) (c : Int) = memB v m s c := by
  have h1 : (ints v).map Int.toNat = v := by
    unfold ints
    rw [List.map_map]
    conv => rhs; rw [← List.map_id v]
    exact List.map_congr_left fun x _ => by simp
  have h2 : ((pairs m).map fun d => (d.1.toNat, d.2.toNat)) = m := by
    unfold pairs
    rw [List.map_map]
    conv => rhs; rw [← List.map_id m]
    exact List.map_congr_left fun x _ => by simp
  unfold memI
  rw [h1, h2]
  simp
/-- the parts of P36's second error -/
def argB (x : VerD) : Bool := dotB (x.s, x.c) && ptB x.t x.n && decide (0 ≤ x.b) && decide (x.b ≤ 1000000)
/-- P36 -/
def chkOne (x : VerD) : Int := if idB x.id = false then 3 else if argB x = false then 1 else if chkK x.V x.M ≠ 0 then chkK x.V x.M else if memI x.V x.M x.s x.c = true then 3 else 0
theorem chkOne_zero {x : VerD} (h : chkOne x = 0) : idB x.id = true ∧ argB x = true ∧ chkK x.V x.M = 0 ∧ memI x.V x.M x.s x.c = false := by
  unfold chkOne at h
  cases h1 : idB x.id
  · rw [if_pos h1] at h; cases h
  · cases h2 : argB x
    · rw [if_neg (by simp [h1]), if_pos h2] at h; cases h
    · rw [if_neg (by simp [h1]), if_neg (by simp [h2])] at h
      by_cases h3 : chkK x.V x.M = 0
      · rw [if_neg (by simp [h3])] at h
        cases h4 : memI x.V x.M x.s x.c
        · exact ⟨rfl, rfl, h3, rfl⟩
        · rw [if_pos h4] at h; cases h
      · rw [if_pos h3] at h
        exact absurd h h3
theorem argB_dot {x : VerD} (h : argB x = true) : dotB (x.s, x.c) = true := by
  unfold argB at h
  simp only [Bool.and_eq_true] at h
  exact h.1.1.1
/-- a version supersedes another one -/
def ovB (a b : VerD) : Bool := decide (b.id = a.id) && memI a.V a.M b.s b.c
def cmpS (l l' : List UInt8) : Int := if Op.bytesLess l l' = true then -1 else if (!(Op.bytesLess l l' || decide (l = l'))) = true then 1 else 0
def orC (x y : Int) : Int := if x != 0 then x else y
def cmpV (a b : VerD) : Int := orC (cmpS a.id b.id) (orC (Lib.compareInt a.s b.s) (Lib.compareInt a.c b.c))
def chkRow : Option VerD → List VerD → Int
  | _, [] => 0
  | p, x :: r => if chkOne x = 0 then (if (p.any fun y => decide (0 ≤ cmpV y x)) = true then 3 else chkRow (some x) r) else chkOne x
/-- P37 -/
def chkShf (L : List VerD) : Int := if 60 < L.length then 2 else if chkRow none L = 0 then (if (L.any fun v => L.any fun x => ovB v x) = true then 6 else 0) else chkRow none L
/-- a version as it is read -/
structure VerI where
  d : VerD
  va : Option Addr
  vc : Nat
  ma : Option Addr
  mc : Nat
def encVr (x : VerI) : List Value := [.string (bs x.d.id), .int .i64 x.d.s, .int .i64 x.d.c, .int .i64 x.d.t, .int .i64 x.d.n, .int .i64 x.d.b, .slice x.va x.d.V.length x.vc, .slice x.ma x.d.M.length x.mc]
def VerI.k (x : VerI) : Value := .agg #[.slice x.va x.d.V.length x.vc, .slice x.ma x.d.M.length x.mc]
theorem encVr_ok : EncOk encVr 8 := ⟨fun x => rfl, fun x u hu => by
  simp [encVr] at hu
  rcases hu with rfl | rfl | rfl | rfl | rfl | rfl | rfl | rfl <;> rfl⟩
def okVr (x : VerI) : Prop := chkOne x.d = 0
end Rm
namespace Go.Proofs.Ytbpkfkljeibjoaa
open Go.RowKit Rm Gx
def MeanV (w : World) (x : VerI) : Prop := KnR w x.k x.d.V x.d.M
theorem MeanV.gr {w w' : World} {x : VerI} (h : MeanV w x) (g : Gr w w') : MeanV w' x := KnR.gr h g
def MeansV (w : World) (K : List VerI) : Prop := ∀ x ∈ K, MeanV w x
theorem MeansV.gr {w w' : World} {K : List VerI} (h : MeansV w K) (g : Gr w w') : MeansV w' K := fun x hx => (h x hx).gr g
theorem cmpG (x y : Int) (w : World) : Calls Try.prog 67 #[.int .i64 x, .int .i64 y] w fun e w' => e = .returned (.int .i64 (Lib.compareInt x y)) ∧ Gr w w' :=
  (cmp_any x y w).mono fun e w' h => ⟨h.1, by rw [h.2]; exact Gr.refl w⟩
theorem orG (x y : Int) (B : Nat) (t : TypeId) (w : World) (h : Bk w B #[.int .i64 x, .int .i64 y] t) : Calls Try.prog 57 #[.slice (some ⟨B, 0, none⟩) 2 2] w fun e w' => e = .returned (.int .i64 (orC x y)) ∧ Gr w w' :=
  (or_any x y B 2 w (h.cell 0 rfl) (h.cell 1 rfl)).mono fun e w' k => ⟨k.1, by rw [k.2]; exact Gr.refl w⟩
/-- know.Has where both may be -/
theorem khasI (k : Value) (V : List Int) (M : List (Int × Int)) (s c : Int) (w : World) (hk : KnR w k V M) (hc : chkK V M = 0) (hd : dotB (s, c) = true) :
    Calls Try.prog 56 #[k, .agg #[.int .i64 s, .int .i64 c]] w fun e w' => e = .returned (.tuple #[.bool (memI V M s c), .int .i64 0]) ∧ Gr w w' := by
  obtain ⟨v, m, rfl, rfl, ok, hl⟩ := chkK_zero hc
  obtain ⟨h1, h2, h3, h4⟩ := (dotB_iff _).1 hd
  simp only at h1 h2 h3 h4
  obtain ⟨a, rfl⟩ : ∃ n : Nat, s = n := ⟨s.toNat, by omega⟩
  obtain ⟨b, rfl⟩ : ∃ n : Nat, c = n := ⟨c.toNat, by omega⟩
  rw [memI_of]
  exact hasf_ok k v m a b w hk ok hl ⟨by omega, by omega, by omega⟩
end Go.Proofs.Ytbpkfkljeibjoaa

/- A range over a string, by steps. -/
set_option linter.unusedVariables false
set_option linter.unusedSimpArgs false
namespace Gx
open Go Go.RowKit Rm
section
variable {P : Program} {ops : Array Oper} {rest : List Oper} {o : Oper} {a : Act} {w w' : World} {Q : Exit → Act → World → Prop} {N d : Nat} {s : ByteArray} {k pos : Nat}
theorem it_gr {ob : Obj} (h : w.heap[k]? = some ob) (g : Gr w w') : w'.heap[k]? = some ob := (g.block k (Array.getElem?_eq_some_iff.1 h).1).trans h
theorem s_rg {T : TypeId} {x : Operand} {ty : TypeId} {p : String} {af : Array Edge} {g : Option (Nat × Bool)} (ok : Ok N a) (hw : Region.wanted (Oper.mk (some d) (.range T x) ty p af g) (yielded ops a.tmps) = true) (hN : Nat.blt d N = true) (hx : a.eval x = .string s) (hu : P.underlying T = some .string)
    (h : ∀ a' w' k, Gr w w' → k = w.heap.size → w'.heap[k]? = some (.stringIter s 0) → Nx N a a' d (.pointer (some ⟨k, 0, none⟩)) → wpList P ops Q rest a' w') : wpList P ops Q (Oper.mk (some d) (.range T x) ty p af g :: rest) a w := by
  refine sv (d := d) ok rfl hw hN (v := .pointer (some ⟨w.heap.size, 0, none⟩)) (w' := w.iter s 0) ?_ (fun a' n => h a' _ w.heap.size ((Gr.refl w).alloc _) rfl (World.iter_heap w s 0) n)
  have h1 := run_range_string (P := P) w T s hu
  unfold execOp
  simp only [hx, Sem.run_bind, h1, Result.andThen_ok]
  rfl
theorem s_nxT {x : Operand} {ty : TypeId} {p : String} {af : Array Edge} {g : Option (Nat × Bool)} (ok : Ok N a) (hw : Region.wanted (Oper.mk (some d) (.next x true) ty p af g) (yielded ops a.tmps) = true) (hN : Nat.blt d N = true) (hx : a.eval x = .pointer (some ⟨k, 0, none⟩)) (hk : w.heap[k]? = some (.stringIter s pos)) (hp : pos < s.size)
    (h : ∀ a' w', Below k w w' → w'.heap[k]? = some (.stringIter s (pos + (Utf8.decode s pos).2)) → Nx N a a' d (.tuple #[.bool true, .int .i64 (pos : Int), .int .i32 ((Utf8.decode s pos).1 : Int)]) → wpList P ops Q rest a' w') : wpList P ops Q (Oper.mk (some d) (.next x true) ty p af g :: rest) a w := by
  refine sv (d := d) ok rfl hw hN (w' := w.iterAt k s (pos + (Utf8.decode s pos).2)) ?_ (fun a' n => h a' _ (Lib.below_iterAt (Below.refl _ _) (k := k) (Nat.le_refl _) s _) (Lib.iterAt_heap w k s pos _ hk) n)
  have h1 := fun ty => Lib.run_next_any_at (P := P) w k s pos ty hk hp
  unfold execOp
  simp only [hx, Sem.run_bind, h1, Result.andThen_ok]
  rfl
theorem s_nxF {x : Operand} {ty : TypeId} {p : String} {af : Array Edge} {g : Option (Nat × Bool)} (ok : Ok N a) (hw : Region.wanted (Oper.mk (some d) (.next x true) ty p af g) (yielded ops a.tmps) = true) (hN : Nat.blt d N = true) (hx : a.eval x = .pointer (some ⟨k, 0, none⟩)) (hk : w.heap[k]? = some (.stringIter s pos)) (hp : ¬ pos < s.size)
    (h : ∀ a', Nx N a a' d (.tuple #[.bool false]) → wpList P ops Q rest a' w) : wpList P ops Q (Oper.mk (some d) (.next x true) ty p af g :: rest) a w := by
  refine sv (d := d) ok rfl hw hN (w' := w) ?_ (fun a' n => h a' n)
  have h1 := fun ty => Lib.run_next_end_at (P := P) w k s pos ty hk hp
  unfold execOp
  simp only [hx, Sem.run_bind, h1, Result.andThen_ok]
  rfl
theorem dec_big (s : ByteArray) (i : Nat) (h : 128 ≤ (s.get! (i + 0)).toNat) : 128 ≤ (Utf8.decode s i).1 := by
  unfold Utf8.decode
  simp only [Utf8.runeError]
  split
  · omega
  · split
    · split <;> simp only <;> omega
    · split
      · split
        · rename_i q; simp only [ge_iff_le, Bool.and_eq_true, decide_eq_true_eq] at q; simp only; omega
        · simp only; omega
      · split
        · split
          · rename_i q; simp only [ge_iff_le, Bool.and_eq_true, decide_eq_true_eq] at q; simp only; omega
          · simp only; omega
        · simp only; omega
theorem bs_get {l : List UInt8} {i : Nat} {x : UInt8} (h : l[i]? = some x) : (bs l).get! (i + 0) = x := by
  obtain ⟨h1, h2⟩ := List.getElem?_eq_some_iff.1 h
  show (bs l).data[i]! = x
  show (l.toArray)[i]! = x
  rw [getElem!_pos _ _ (by simpa using h1)]
  simpa using h2
/-- the rune is no letter: neither is the byte; else the rune is the byte -/
theorem dec_letter {l : List UInt8} {i : Nat} {x : UInt8} (h : l[i]? = some x) (h1 : 97 ≤ (Utf8.decode (bs l) i).1) (h2 : (Utf8.decode (bs l) i).1 ≤ 122) : 97 ≤ x.toNat ∧ x.toNat ≤ 122 ∧ (Utf8.decode (bs l) i).2 = 1 := by
  have hi := (List.getElem?_eq_some_iff.1 h).1
  have hg := bs_get h
  by_cases q : x.toNat < 128
  · have hs : i < (bs l).size := by rw [bs_size]; exact hi
    have e : (bs l)[i]'hs = x := by
      have := (List.getElem?_eq_some_iff.1 h).2
      exact this
    have hd := decode_ascii (bs l) i hs (by rw [e]; exact q)
    rw [hd, e] at h1 h2
    rw [hd]
    exact ⟨h1, h2, rfl⟩
  · have := dec_big (bs l) i (by rw [hg]; omega)
    omega
theorem dec_other {l : List UInt8} {i : Nat} {x : UInt8} (h : l[i]? = some x) (h1 : (Utf8.decode (bs l) i).1 < 97 ∨ 122 < (Utf8.decode (bs l) i).1) : x.toNat < 97 ∨ 122 < x.toNat := by
  have hi := (List.getElem?_eq_some_iff.1 h).1
  by_cases q : x.toNat < 128
  · have hs : i < (bs l).size := by rw [bs_size]; exact hi
    have e : (bs l)[i]'hs = x := by
      have := (List.getElem?_eq_some_iff.1 h).2
      exact this
    have hd := decode_ascii (bs l) i hs (by rw [e]; exact q)
    rw [hd, e] at h1
    exact h1
  · omega
end
end Gx

/- shelf.Id, has, One; filter.Point. -/
set_option linter.unusedVariables false
set_option linter.unusedSimpArgs false
namespace Rm
open Go Go.RowKit Gx
def outB (r : Int) : Bool := decide (r < 97) || decide (122 < r)
end Rm
namespace Go.Proofs.Ytbpkfkljeibjoaa
open Go.RowKit Rm Gx
set_option maxHeartbeats 8000000 in
set_option maxRecDepth 100000 in
theorem point2_any (t n : Int) (w : World) :
    Calls Try.prog 26 #[.agg #[.int .i64 (t), .int .i64 (n)]] w fun e w' => e = .returned (.bool (ptB t n)) ∧ Gr w w' := by
  refine enter (N := 21) Try.func26 rfl rfl rfl (fun a0 ok0 h0 => ?_)
  have e0_0 : a0.eval (.tmp 0) = .agg #[.int .i64 (t), .int .i64 (n)] := h0 0 _ rfl
  clear h0
  have G0 := Gr.refl w
  refine wp_seq_k (fun K1 hK1 => ?_)
  refine wp_region_lit ?_
  refine sal (cs := #[.int .i64 (t), .int .i64 (n)]) ok0 rfl (wn _ rfl) rfl (o_box e0_0) (fun an2 w4 b3 W5 n2 => ?_)
  have l6 : w.heap.size ≤ b3 := by rw [W5.eq]; exact G0.size
  have G7 := G0.trans W5.gr
  refine sv n2.ok rfl (wn _ rfl) rfl (o_as ev_const) (fun an8 n8 => ?_)
  refine wpList_nil ?_
  refine th_n (hK1 _ _ ?_)
  refine wp_seq_k (fun K9 hK9 => ?_)
  refine wp_region_lit ?_
  refine sv n8.ok rfl (wn _ rfl) rfl (o_fa (z := 1) (n8.ne rfl n2.at_) Try.underlying26 rfl (by kernel_rfl) rfl rfl) (fun an10 n10 => ?_)
  refine sv n10.ok rfl (wn _ rfl) rfl (o_ld n10.at_ (Try.isAgg3 _) (W5.bk.cell _ rfl)) (fun an11 n11 => ?_)
  refine sv n11.ok rfl (wn _ rfl) rfl (o_geI n11.at_ ev_const) (fun an12 n12 => ?_)
  refine sv n12.ok rfl (wn _ rfl) rfl (o_mv n12.at_) (fun an13 n13 => ?_)
  by_cases c14 : (0 : Int) ≤ t
  · have e15 := (n13.at_).trans (congrArg Value.bool (decide_eq_true c14))
    have e16 := ((n13.ne rfl n12.at_)).trans (congrArg Value.bool (decide_eq_true c14))
    have e17 := n13.ne rfl (n12.ne rfl (n11.ne rfl (n10.ne rfl (n8.ne rfl n2.at_))))
    refine sv n13.ok rfl (wgT rfl (yl 3 true rfl e15) rfl) rfl (o_fa (z := 1) e17 Try.underlying26 rfl (by kernel_rfl) rfl rfl) (fun an18 n18 => ?_)
    refine sv n18.ok rfl (wgT rfl (yl 3 true rfl (n18.ne rfl e15)) rfl) rfl (o_ld n18.at_ (Try.isAgg3 _) (W5.bk.cell _ rfl)) (fun an19 n19 => ?_)
    refine sv n19.ok rfl (wgT rfl (yl 3 true rfl (n19.ne rfl (n18.ne rfl e15))) rfl) rfl (o_ltI n19.at_ ev_const) (fun an20 n20 => ?_)
    have e21 := n20.ne rfl (n19.ne rfl (n18.ne rfl e15))
    refine sv n20.ok rfl (wn _ rfl) rfl (o_pkT e21 n20.at_) (fun an22 n22 => ?_)
    refine sv n22.ok rfl (wn _ rfl) rfl (o_mv n22.at_) (fun an23 n23 => ?_)
    by_cases c24 : t < 16
    · have e25 := (n23.at_).trans (congrArg Value.bool (decide_eq_true c24))
      have e26 := ((n23.ne rfl (n22.ne rfl n20.at_))).trans (congrArg Value.bool (decide_eq_true c24))
      have e27 := ((n23.ne rfl n22.at_)).trans (congrArg Value.bool (decide_eq_true c24))
      have e28 := n23.ne rfl (n22.ne rfl (n20.ne rfl (n19.ne rfl (n18.ne rfl e17))))
      refine sv n23.ok rfl (wgT rfl (yl 8 true rfl e25) rfl) rfl (o_fa (z := 1) e28 Try.underlying26 rfl (by kernel_rfl) rfl rfl) (fun an29 n29 => ?_)
      refine sv n29.ok rfl (wgT rfl (yl 8 true rfl (n29.ne rfl e25)) rfl) rfl (o_ld n29.at_ (Try.isAgg3 _) (W5.bk.cell _ rfl)) (fun an30 n30 => ?_)
      refine sv n30.ok rfl (wgT rfl (yl 8 true rfl (n30.ne rfl (n29.ne rfl e25))) rfl) rfl (o_geI n30.at_ ev_const) (fun an31 n31 => ?_)
      have e32 := n31.ne rfl (n30.ne rfl (n29.ne rfl e25))
      refine sv n31.ok rfl (wn _ rfl) rfl (o_pkT e32 n31.at_) (fun an33 n33 => ?_)
      refine sv n33.ok rfl (wn _ rfl) rfl (o_mv n33.at_) (fun an34 n34 => ?_)
      by_cases c35 : (0 : Int) ≤ n
      · have e36 := (n34.at_).trans (congrArg Value.bool (decide_eq_true c35))
        have e37 := ((n34.ne rfl (n33.ne rfl n31.at_))).trans (congrArg Value.bool (decide_eq_true c35))
        have e38 := ((n34.ne rfl n33.at_)).trans (congrArg Value.bool (decide_eq_true c35))
        have e39 := n34.ne rfl (n33.ne rfl (n31.ne rfl (n30.ne rfl (n29.ne rfl e28))))
        refine sv n34.ok rfl (wgT rfl (yl 13 true rfl e36) rfl) rfl (o_fa (z := 1) e39 Try.underlying26 rfl (by kernel_rfl) rfl rfl) (fun an40 n40 => ?_)
        refine sv n40.ok rfl (wgT rfl (yl 13 true rfl (n40.ne rfl e36)) rfl) rfl (o_ld n40.at_ (Try.isAgg3 _) (W5.bk.cell _ rfl)) (fun an41 n41 => ?_)
        refine sv n41.ok rfl (wgT rfl (yl 13 true rfl (n41.ne rfl (n40.ne rfl e36))) rfl) rfl (o_ltI n41.at_ ev_const) (fun an42 n42 => ?_)
        have e43 := n42.ne rfl (n41.ne rfl (n40.ne rfl e36))
        refine sv n42.ok rfl (wn _ rfl) rfl (o_pkT e43 n42.at_) (fun an44 n44 => ?_)
        refine sv n44.ok rfl (wn _ rfl) rfl (o_as n44.at_) (fun an45 n45 => ?_)
        refine wpList_nil ?_
        refine th_n (hK9 _ _ ?_)
        refine wp_ret ?_
        exact ret1 n45.ok rfl (n45.at_) ⟨by unfold ptB; rw [decide_eq_true (show 0 ≤ t by omega), decide_eq_true (show t < 16 by omega), decide_eq_true (show 0 ≤ n by omega)]; simp, G7⟩
      · have e46 := (n34.at_).trans (congrArg Value.bool (decide_eq_false c35))
        have e47 := ((n34.ne rfl (n33.ne rfl n31.at_))).trans (congrArg Value.bool (decide_eq_false c35))
        have e48 := ((n34.ne rfl n33.at_)).trans (congrArg Value.bool (decide_eq_false c35))
        refine sn n34.ok rfl (wgF rfl (yl 13 false rfl e46) rfl) rfl (fun an49 n49 => ?_)
        refine sn n49.ok rfl (wgF rfl (yl 13 false rfl (n49.ne rfl e46)) rfl) rfl (fun an50 n50 => ?_)
        refine sn n50.ok rfl (wgF rfl (yl 13 false rfl (n50.ne rfl (n49.ne rfl e46))) rfl) rfl (fun an51 n51 => ?_)
        have e52 := n51.ne rfl (n50.ne rfl (n49.ne rfl e46))
        refine sv n51.ok rfl (wn _ rfl) rfl (o_pkF e52 ev_const) (fun an53 n53 => ?_)
        refine sv n53.ok rfl (wn _ rfl) rfl (o_as n53.at_) (fun an54 n54 => ?_)
        refine wpList_nil ?_
        refine th_n (hK9 _ _ ?_)
        refine wp_ret ?_
        exact ret1 n54.ok rfl (n54.at_) ⟨by unfold ptB; rw [decide_eq_false (show ¬ 0 ≤ n by omega)]; simp, G7⟩
    · have e55 := (n23.at_).trans (congrArg Value.bool (decide_eq_false c24))
      have e56 := ((n23.ne rfl (n22.ne rfl n20.at_))).trans (congrArg Value.bool (decide_eq_false c24))
      have e57 := ((n23.ne rfl n22.at_)).trans (congrArg Value.bool (decide_eq_false c24))
      refine sn n23.ok rfl (wgF rfl (yl 8 false rfl e55) rfl) rfl (fun an58 n58 => ?_)
      refine sn n58.ok rfl (wgF rfl (yl 8 false rfl (n58.ne rfl e55)) rfl) rfl (fun an59 n59 => ?_)
      refine sn n59.ok rfl (wgF rfl (yl 8 false rfl (n59.ne rfl (n58.ne rfl e55))) rfl) rfl (fun an60 n60 => ?_)
      have e61 := n60.ne rfl (n59.ne rfl (n58.ne rfl e55))
      refine sv n60.ok rfl (wn _ rfl) rfl (o_pkF e61 ev_const) (fun an62 n62 => ?_)
      refine sv n62.ok rfl (wn _ rfl) rfl (o_mv n62.at_) (fun an63 n63 => ?_)
      refine sn n63.ok rfl (wgF rfl (yl 13 false rfl n63.at_) rfl) rfl (fun an64 n64 => ?_)
      refine sn n64.ok rfl (wgF rfl (yl 13 false rfl (n64.ne rfl n63.at_)) rfl) rfl (fun an65 n65 => ?_)
      refine sn n65.ok rfl (wgF rfl (yl 13 false rfl (n65.ne rfl (n64.ne rfl n63.at_))) rfl) rfl (fun an66 n66 => ?_)
      have e67 := n66.ne rfl (n65.ne rfl (n64.ne rfl n63.at_))
      refine sv n66.ok rfl (wn _ rfl) rfl (o_pkF e67 ev_const) (fun an68 n68 => ?_)
      refine sv n68.ok rfl (wn _ rfl) rfl (o_as n68.at_) (fun an69 n69 => ?_)
      refine wpList_nil ?_
      refine th_n (hK9 _ _ ?_)
      refine wp_ret ?_
      exact ret1 n69.ok rfl (n69.at_) ⟨by unfold ptB; rw [decide_eq_false (show ¬ t < 16 by omega)]; simp, G7⟩
  · have e70 := (n13.at_).trans (congrArg Value.bool (decide_eq_false c14))
    have e71 := ((n13.ne rfl n12.at_)).trans (congrArg Value.bool (decide_eq_false c14))
    refine sn n13.ok rfl (wgF rfl (yl 3 false rfl e70) rfl) rfl (fun an72 n72 => ?_)
    refine sn n72.ok rfl (wgF rfl (yl 3 false rfl (n72.ne rfl e70)) rfl) rfl (fun an73 n73 => ?_)
    refine sn n73.ok rfl (wgF rfl (yl 3 false rfl (n73.ne rfl (n72.ne rfl e70))) rfl) rfl (fun an74 n74 => ?_)
    have e75 := n74.ne rfl (n73.ne rfl (n72.ne rfl e70))
    refine sv n74.ok rfl (wn _ rfl) rfl (o_pkF e75 ev_const) (fun an76 n76 => ?_)
    refine sv n76.ok rfl (wn _ rfl) rfl (o_mv n76.at_) (fun an77 n77 => ?_)
    refine sn n77.ok rfl (wgF rfl (yl 8 false rfl n77.at_) rfl) rfl (fun an78 n78 => ?_)
    refine sn n78.ok rfl (wgF rfl (yl 8 false rfl (n78.ne rfl n77.at_)) rfl) rfl (fun an79 n79 => ?_)
    refine sn n79.ok rfl (wgF rfl (yl 8 false rfl (n79.ne rfl (n78.ne rfl n77.at_))) rfl) rfl (fun an80 n80 => ?_)
    have e81 := n80.ne rfl (n79.ne rfl (n78.ne rfl n77.at_))
    refine sv n80.ok rfl (wn _ rfl) rfl (o_pkF e81 ev_const) (fun an82 n82 => ?_)
    refine sv n82.ok rfl (wn _ rfl) rfl (o_mv n82.at_) (fun an83 n83 => ?_)
    refine sn n83.ok rfl (wgF rfl (yl 13 false rfl n83.at_) rfl) rfl (fun an84 n84 => ?_)
    refine sn n84.ok rfl (wgF rfl (yl 13 false rfl (n84.ne rfl n83.at_)) rfl) rfl (fun an85 n85 => ?_)
    refine sn n85.ok rfl (wgF rfl (yl 13 false rfl (n85.ne rfl (n84.ne rfl n83.at_))) rfl) rfl (fun an86 n86 => ?_)
    have e87 := n86.ne rfl (n85.ne rfl (n84.ne rfl n83.at_))
    refine sv n86.ok rfl (wn _ rfl) rfl (o_pkF e87 ev_const) (fun an88 n88 => ?_)
    refine sv n88.ok rfl (wn _ rfl) rfl (o_as n88.at_) (fun an89 n89 => ?_)
    refine wpList_nil ?_
    refine th_n (hK9 _ _ ?_)
    refine wp_ret ?_
    exact ret1 n89.ok rfl (n89.at_) ⟨by unfold ptB; rw [decide_eq_false (show ¬ 0 ≤ t by omega)]; simp, G7⟩
set_option maxHeartbeats 8000000 in
set_option maxRecDepth 100000 in
theorem out_any (r : Int) (w : World) :
    Calls Try.prog 23 #[.int .i32 (r)] w fun e w' => e = .returned (.bool (outB r)) ∧ Gr w w' := by
  refine enter (N := 9) Try.func23 rfl rfl rfl (fun a0 ok0 h0 => ?_)
  have e0_0 : a0.eval (.tmp 0) = .int .i32 (r) := h0 0 _ rfl
  clear h0
  have G0 := Gr.refl w
  refine wp_seq_k (fun K1 hK1 => ?_)
  refine wp_region_lit ?_
  refine sv ok0 rfl (wn _ rfl) rfl (o_as ev_const) (fun an2 n2 => ?_)
  refine wpList_nil ?_
  refine th_n (hK1 _ _ ?_)
  refine wp_seq_k (fun K3 hK3 => ?_)
  refine wp_region_lit ?_
  refine sv n2.ok rfl (wn _ rfl) rfl (o_mv (n2.ne rfl e0_0)) (fun an4 n4 => ?_)
  refine sv n4.ok rfl (wn _ rfl) rfl (o_ltI n4.at_ ev_const) (fun an5 n5 => ?_)
  refine sv n5.ok rfl (wn _ rfl) rfl (o_mv n5.at_) (fun an6 n6 => ?_)
  by_cases c7 : r < 97
  · have e8 := (n6.at_).trans (congrArg Value.bool (decide_eq_true c7))
    have e9 := ((n6.ne rfl n5.at_)).trans (congrArg Value.bool (decide_eq_true c7))
    refine sn n6.ok rfl (wgF rfl (yl 2 true rfl e8) rfl) rfl (fun an10 n10 => ?_)
    refine sn n10.ok rfl (wgF rfl (yl 2 true rfl (n10.ne rfl e8)) rfl) rfl (fun an11 n11 => ?_)
    refine sv n11.ok rfl (wn _ rfl) rfl (o_pkT (n11.ne rfl (n10.ne rfl e8)) ev_const) (fun an12 n12 => ?_)
    refine sv n12.ok rfl (wn _ rfl) rfl (o_as n12.at_) (fun an13 n13 => ?_)
    refine wpList_nil ?_
    refine th_n (hK3 _ _ ?_)
    refine wp_ret ?_
    exact ret1 n13.ok rfl (n13.at_) ⟨by unfold outB; rw [decide_eq_true (show r < 97 by omega)]; simp, G0⟩
  · have e14 := (n6.at_).trans (congrArg Value.bool (decide_eq_false c7))
    have e15 := ((n6.ne rfl n5.at_)).trans (congrArg Value.bool (decide_eq_false c7))
    have e16 := n6.ne rfl (n5.ne rfl (n4.ne rfl (n2.ne rfl e0_0)))
    refine sv n6.ok rfl (wgT rfl (yl 2 false rfl e14) rfl) rfl (o_mv e16) (fun an17 n17 => ?_)
    refine sv n17.ok rfl (wgT rfl (yl 2 false rfl (n17.ne rfl e14)) rfl) rfl (o_gtI n17.at_ ev_const) (fun an18 n18 => ?_)
    refine sv n18.ok rfl (wn _ rfl) rfl (o_pkF (n18.ne rfl (n17.ne rfl e14)) n18.at_) (fun an19 n19 => ?_)
    refine sv n19.ok rfl (wn _ rfl) rfl (o_as n19.at_) (fun an20 n20 => ?_)
    refine wpList_nil ?_
    refine th_n (hK3 _ _ ?_)
    refine wp_ret ?_
    exact ret1 n20.ok rfl (n20.at_) ⟨by unfold outB; rw [decide_eq_false (show ¬ r < 97 by omega)]; simp, G0⟩
set_option maxHeartbeats 8000000 in
set_option maxRecDepth 100000 in
theorem indexId_any (l : List UInt8) (w : World) :
    Calls Try.prog 68 #[.string (bs l), .func (.func 23) #[] #[], .bool true] w fun e w' => ∃ r : Int, e = .returned (.int .i64 r) ∧ (0 ≤ r ↔ l.all ltrB = false) ∧ Gr w w' := by
  refine enter (N := 21) Try.func68 rfl rfl rfl (fun a0 ok0 h0 => ?_)
  have e0_0 : a0.eval (.tmp 0) = .string (bs l) := h0 0 _ rfl
  have e0_1 : a0.eval (.tmp 1) = .func (.func 23) #[] #[] := h0 1 _ rfl
  have e0_2 : a0.eval (.tmp 2) = .bool true := h0 2 _ rfl
  clear h0
  have G0 := Gr.refl w
  refine wp_seq_k (fun K1 hK1 => ?_)
  refine wp_region_lit ?_
  refine sv ok0 rfl (wn _ rfl) rfl (o_as ev_const) (fun an2 n2 => ?_)
  refine wpList_nil ?_
  refine th_n (hK1 _ _ ?_)
  refine wp_seq_k (fun K3 hK3 => ?_)
  refine wp_seq_k (fun K4 hK4 => ?_)
  refine wp_region_lit ?_
  refine sv n2.ok rfl (wn _ rfl) rfl (o_mv (n2.ne rfl e0_0)) (fun an5 n5 => ?_)
  refine s_rg n5.ok (wn _ rfl) rfl n5.at_ Try.underlying9 (fun an6 w7 IT g8 hIT hit n6 => ?_)
  have G9 := G0.trans g8
  have hITb : w.heap.size ≤ IT := by rw [hIT]; exact Nat.le_refl _
  refine wpList_nil ?_
  refine th_n (hK4 _ _ ?_)
  refine wp_block ?_
  have e11 := n6.ne rfl (n5.ne rfl (n2.ne rfl e0_1))
  have e12 := n6.ne rfl (n5.ne rfl (n2.ne rfl e0_2))
  refine lp (fun (nL : Nat) (aL : Act) (wL : World) => ∃ pos : Nat, nL = l.length - pos ∧ Ok 21 aL ∧ Gr w wL ∧ (aL.eval (.tmp 1) = .func (.func 23) #[] #[]) ∧ (aL.eval (.tmp 2) = .bool true) ∧ (aL.eval (.tmp 6) = .int .i64 0) ∧ (aL.eval (.tmp 10) = .pointer (some ⟨IT, 0, none⟩)) ∧ (wL.heap[IT]? = some (.stringIter (bs l) pos)) ∧ (pos ≤ l.length) ∧ (∀ j y, j < pos → l[j]? = some y → ltrB y = true)) _ ⟨0, rfl, n6.ok, G9, e11, e12, (n6.ne rfl (n5.ne rfl n2.at_)), n6.at_, hit, by omega, fun j y hj => by omega⟩ ?_
  rintro m13 aI10 w15 ⟨pos, hmI10, okI10, GI10, s1I10, s2I10, s6I10, s10I10, fitI10, hiI10, hbI10⟩ KI10 hKI10
  refine wp_seq_k (fun K16 hK16 => ?_)
  refine wp_region_lit ?_
  by_cases hp : pos < l.length
  · have hps : pos < (bs l).size := by rw [bs_size]; exact hp
    refine s_nxT okI10 (wn _ rfl) rfl s10I10 fitI10 hps (fun an17 w18 g19 hit2 n17 => ?_)
    have G20 : Gr w w18 := Below.trans GI10 (Below.mono g19 hITb)
    refine sv n17.ok rfl (wn _ rfl) rfl (o_ex n17.at_ rfl) (fun an21 n21 => ?_)
    refine wpList_nil ?_
    refine th_n (hK16 _ _ ?_)
    refine wp_seq_k (fun K22 hK22 => ?_)
    refine wp_cond_true (n21.at_) ?_
    refine wp_skip ?_
    refine th_n (hK22 _ _ ?_)
    refine wp_block ?_
    refine wp_seq_k (fun K23 hK23 => ?_)
    refine wp_region_lit ?_
    refine sv n21.ok rfl (wn _ rfl) rfl (o_ex (n21.ne rfl n17.at_) rfl) (fun an24 n24 => ?_)
    refine sv n24.ok rfl (wn _ rfl) rfl (o_ex (n24.ne rfl (n21.ne rfl n17.at_)) rfl) (fun an25 n25 => ?_)
    refine sv n25.ok rfl (wn _ rfl) rfl (o_as (n25.ne rfl n24.at_)) (fun an26 n26 => ?_)
    refine sv n26.ok rfl (wn _ rfl) rfl (o_as (n26.ne rfl n25.at_)) (fun an27 n27 => ?_)
    refine wpList_nil ?_
    refine th_n (hK23 _ _ ?_)
    refine wp_seq_k (fun K28 hK28 => ?_)
    refine wp_region_lit ?_
    have e29 := n27.ne rfl (n26.ne rfl (n25.ne rfl (n24.ne rfl (n21.ne rfl (n17.ne rfl s1I10)))))
    refine sv n27.ok rfl (wn _ rfl) rfl (o_mv e29) (fun an30 n30 => ?_)
    refine sv n30.ok rfl (wn _ rfl) rfl (o_mv (n30.ne rfl n27.at_)) (fun an31 n31 => ?_)
    refine sc n31.ok rfl (wn _ rfl) rfl (o_fv1 (caps := []) ⟨_, Try.func23, rfl, rfl⟩ (n31.ne rfl n30.at_) n31.at_) (out_any (((Utf8.decode (bs l) pos).1 : Nat) : Int) w18) ?_
    rintro _ w33 ⟨rfl, g34⟩
    refine ⟨_, rfl, fun an32 n32 => ?_⟩
    have G35 := G20.trans g34
    have F36 := it_gr hit2 g34
    have e37 := n32.ne rfl (n31.ne rfl (n30.ne rfl (n27.ne rfl (n26.ne rfl (n25.ne rfl (n24.ne rfl (n21.ne rfl (n17.ne rfl s2I10))))))))
    refine sv n32.ok rfl (wn _ rfl) rfl (o_mv e37) (fun an38 n38 => ?_)
    refine sv n38.ok rfl (wn _ rfl) rfl (o_eqB (n38.ne rfl n32.at_) n38.at_ rfl Try.underlying4) (fun an39 n39 => ?_)
    refine wpList_nil ?_
    refine th_n (hK28 _ _ ?_)
    cases c40 : ((outB (((Utf8.decode (bs l) pos).1 : Nat) : Int)) == true)
    · refine wp_cond_false ((n39.at_).trans (congrArg Value.bool (c40))) ?_
      refine wp_skip ?_
      refine ib_n ?_
      obtain ⟨x, hx⟩ : ∃ x, l[pos]? = some x := ⟨_, List.getElem?_eq_getElem hp⟩
      have ho : outB (((Utf8.decode (bs l) pos).1 : Nat) : Int) = false := by simpa using c40
      unfold outB at ho
      simp only [Bool.or_eq_false_iff, decide_eq_false_iff_not] at ho
      obtain ⟨hx1, hx2, hx3⟩ := dec_letter hx (by omega) (by omega)
      have e41 := n39.ne rfl (n38.ne rfl (n32.ne rfl (n31.ne rfl (n30.ne rfl e29))))
      have e42 := n39.ne rfl (n38.ne rfl (n32.ne rfl (n31.ne rfl (n30.ne rfl (n27.ne rfl (n26.ne rfl (n25.ne rfl (n24.ne rfl (n21.ne rfl (n17.ne rfl s6I10))))))))))
      have e43 := n39.ne rfl (n38.ne rfl (n32.ne rfl (n31.ne rfl (n30.ne rfl (n27.ne rfl (n26.ne rfl (n25.ne rfl (n24.ne rfl (n21.ne rfl (n17.ne rfl s10I10))))))))))
      exact th_n (hKI10 _ _ _ (by omega) ⟨pos + 1, rfl, n39.ok, G35, e41, (n39.ne rfl (n38.ne rfl e37)), e42, e43, by have h := F36; rw [hx3] at h; exact h, by omega, fun j y hj hy => by
          rcases Nat.lt_or_ge j pos with q | q
          · exact hbI10 j y q hy
          · obtain rfl : j = pos := by omega
            rw [hx] at hy
            cases hy
            unfold ltrB; rw [decide_eq_true hx1, decide_eq_true hx2]; rfl⟩)
    · refine wp_cond_true ((n39.at_).trans (congrArg Value.bool (c40))) ?_
      refine wp_seq_k (fun K44 hK44 => ?_)
      refine wp_region_lit ?_
      have e45 := n39.ne rfl (n38.ne rfl (n32.ne rfl (n31.ne rfl (n30.ne rfl (n27.ne rfl n26.at_)))))
      refine sv n39.ok rfl (wn _ rfl) rfl (o_mv e45) (fun an46 n46 => ?_)
      refine sv n46.ok rfl (wn _ rfl) rfl (o_as n46.at_) (fun an47 n47 => ?_)
      refine wpList_nil ?_
      refine th_n (hK44 _ _ ?_)
      refine wp_ret ?_
      refine ib_r ?_
      refine th_r ?_
      refine ib_r ?_
      refine th_r ?_
      obtain ⟨x, hx⟩ : ∃ x, l[pos]? = some x := ⟨_, List.getElem?_eq_getElem hp⟩
      have ho : outB (((Utf8.decode (bs l) pos).1 : Nat) : Int) = true := by simpa using c40
      unfold outB at ho
      simp only [Bool.or_eq_true, decide_eq_true_eq] at ho
      have hx1 := dec_other hx (by omega)
      exact ret1 n47.ok rfl (n47.at_) ⟨_, rfl, ⟨fun _ => by
          rw [List.all_eq_false]
          refine ⟨x, List.mem_of_getElem? hx, ?_⟩
          unfold ltrB
          simp only [Bool.and_eq_true, decide_eq_true_eq]
          omega, fun _ => by omega⟩, G35⟩
  · have hps : ¬ pos < (bs l).size := by rw [bs_size]; exact hp
    refine s_nxF okI10 (wn _ rfl) rfl s10I10 fitI10 hps (fun an48 n48 => ?_)
    refine sv n48.ok rfl (wn _ rfl) rfl (o_ex n48.at_ rfl) (fun an52 n52 => ?_)
    refine wpList_nil ?_
    refine th_n (hK16 _ _ ?_)
    refine wp_seq_k (fun K53 hK53 => ?_)
    refine wp_cond_false (n52.at_) ?_
    refine wp_exit ?_
    refine th_x ?_
    refine th_x ?_
    refine ib_x ?_
    refine th_n (hK3 _ _ ?_)
    refine wp_seq_k (fun K54 hK54 => ?_)
    refine wp_region_lit ?_
    refine sv n52.ok rfl (wn _ rfl) rfl (o_as ev_const) (fun an55 n55 => ?_)
    refine wpList_nil ?_
    refine th_n (hK54 _ _ ?_)
    refine wp_ret ?_
    exact ret1 n55.ok rfl (n55.at_) ⟨-1, rfl, ⟨fun h => by omega, fun h => by
        rw [List.all_eq_false] at h
        obtain ⟨y, hy, hn⟩ := h
        obtain ⟨j, hj⟩ := List.getElem?_of_mem hy
        have hjl := (List.getElem?_eq_some_iff.1 hj).1
        exact absurd (hbI10 j y (by omega) hj) hn⟩, GI10⟩
set_option maxHeartbeats 8000000 in
set_option maxRecDepth 100000 in
theorem indexId (l : List UInt8) (w : World) :
    Calls Try.prog 53 #[.string (bs l), .func (.func 23) #[] #[]] w fun e w' => ∃ r : Int, e = .returned (.int .i64 r) ∧ (0 ≤ r ↔ l.all ltrB = false) ∧ Gr w w' := by
  refine enter (N := 8) Try.func53 rfl rfl rfl (fun a0 ok0 h0 => ?_)
  have e0_0 : a0.eval (.tmp 0) = .string (bs l) := h0 0 _ rfl
  have e0_1 : a0.eval (.tmp 1) = .func (.func 23) #[] #[] := h0 1 _ rfl
  clear h0
  have G0 := Gr.refl w
  refine wp_seq_k (fun K1 hK1 => ?_)
  refine wp_region_lit ?_
  refine sv ok0 rfl (wn _ rfl) rfl (o_as ev_const) (fun an2 n2 => ?_)
  refine wpList_nil ?_
  refine th_n (hK1 _ _ ?_)
  refine wp_seq_k (fun K3 hK3 => ?_)
  refine wp_region_lit ?_
  refine sv n2.ok rfl (wn _ rfl) rfl (o_mv (n2.ne rfl e0_0)) (fun an4 n4 => ?_)
  refine sv n4.ok rfl (wn _ rfl) rfl (o_mv (n4.ne rfl (n2.ne rfl e0_1))) (fun an5 n5 => ?_)
  refine sc n5.ok rfl (wn _ rfl) rfl (o_f3 Try.func68 rfl rfl rfl (n5.ne rfl n4.at_) n5.at_ ev_const) (indexId_any l w) ?_
  rintro _ w7 ⟨r, rfl, hr, g8⟩
  refine ⟨_, rfl, fun an6 n6 => ?_⟩
  have G9 := G0.trans g8
  refine sv n6.ok rfl (wn _ rfl) rfl (o_as n6.at_) (fun an10 n10 => ?_)
  refine wpList_nil ?_
  refine th_n (hK3 _ _ ?_)
  refine wp_ret ?_
  exact ret1 n10.ok rfl (n10.at_) ⟨r, rfl, hr, G9⟩
set_option maxHeartbeats 8000000 in
set_option maxRecDepth 100000 in
theorem containsId (l : List UInt8) (w : World) :
    Calls Try.prog 22 #[.string (bs l), .func (.func 23) #[] #[]] w fun e w' => e = .returned (.bool (!l.all ltrB)) ∧ Gr w w' := by
  refine enter (N := 9) Try.func22 rfl rfl rfl (fun a0 ok0 h0 => ?_)
  have e0_0 : a0.eval (.tmp 0) = .string (bs l) := h0 0 _ rfl
  have e0_1 : a0.eval (.tmp 1) = .func (.func 23) #[] #[] := h0 1 _ rfl
  clear h0
  have G0 := Gr.refl w
  refine wp_seq_k (fun K1 hK1 => ?_)
  refine wp_region_lit ?_
  refine sv ok0 rfl (wn _ rfl) rfl (o_as ev_const) (fun an2 n2 => ?_)
  refine wpList_nil ?_
  refine th_n (hK1 _ _ ?_)
  refine wp_seq_k (fun K3 hK3 => ?_)
  refine wp_region_lit ?_
  refine sv n2.ok rfl (wn _ rfl) rfl (o_mv (n2.ne rfl e0_0)) (fun an4 n4 => ?_)
  refine sv n4.ok rfl (wn _ rfl) rfl (o_mv (n4.ne rfl (n2.ne rfl e0_1))) (fun an5 n5 => ?_)
  refine sc n5.ok rfl (wn _ rfl) rfl (o_f2 Try.func53 rfl rfl rfl (n5.ne rfl n4.at_) n5.at_) (indexId l w) ?_
  rintro _ w7 ⟨r, rfl, hr, g8⟩
  refine ⟨_, rfl, fun an6 n6 => ?_⟩
  have G9 := G0.trans g8
  refine sv n6.ok rfl (wn _ rfl) rfl (o_geI n6.at_ ev_const) (fun an10 n10 => ?_)
  refine sv n10.ok rfl (wn _ rfl) rfl (o_as n10.at_) (fun an11 n11 => ?_)
  refine wpList_nil ?_
  refine th_n (hK3 _ _ ?_)
  refine wp_ret ?_
  exact ret1 n11.ok rfl (n11.at_) ⟨congrArg (fun b => Ending.returned (Value.bool b)) (by rw [Bool.eq_iff_iff, decide_eq_true_eq, hr]; simp), G9⟩
set_option maxHeartbeats 8000000 in
set_option maxRecDepth 100000 in
theorem id_any (l : List UInt8) (w : World) :
    Calls Try.prog 7 #[.string (bs l)] w fun e w' => e = .returned (.bool (idB l)) ∧ Gr w w' := by
  refine enter (N := 16) Try.func7 rfl rfl rfl (fun a0 ok0 h0 => ?_)
  have e0_0 : a0.eval (.tmp 0) = .string (bs l) := h0 0 _ rfl
  clear h0
  have G0 := Gr.refl w
  refine wp_seq_k (fun K1 hK1 => ?_)
  refine wp_region_lit ?_
  refine sv ok0 rfl (wn _ rfl) rfl (o_as ev_const) (fun an2 n2 => ?_)
  refine wpList_nil ?_
  refine th_n (hK1 _ _ ?_)
  refine wp_seq_k (fun K3 hK3 => ?_)
  refine wp_region_lit ?_
  refine sv n2.ok rfl (wn _ rfl) rfl (o_mv (n2.ne rfl e0_0)) (fun an4 n4 => ?_)
  refine sv n4.ok rfl (wn _ rfl) rfl (o_lenS n4.at_ Try.underlying9) (fun an5 n5 => ?_)
  refine sv n5.ok rfl (wn _ rfl) rfl (o_gtI n5.at_ ev_const) (fun an6 n6 => ?_)
  refine sv n6.ok rfl (wn _ rfl) rfl (o_mv n6.at_) (fun an7 n7 => ?_)
  by_cases c8 : (0 : Int) < ((l.length : Nat) : Int)
  · have e9 := (n7.at_).trans (congrArg Value.bool (decide_eq_true c8))
    have e10 := ((n7.ne rfl n6.at_)).trans (congrArg Value.bool (decide_eq_true c8))
    have e11 := n7.ne rfl (n6.ne rfl (n5.ne rfl (n4.ne rfl (n2.ne rfl e0_0))))
    refine sv n7.ok rfl (wgT rfl (yl 3 true rfl e9) rfl) rfl (o_mv e11) (fun an12 n12 => ?_)
    refine sv n12.ok rfl (wgT rfl (yl 3 true rfl (n12.ne rfl e9)) rfl) rfl (o_lenS n12.at_ Try.underlying9) (fun an13 n13 => ?_)
    refine sv n13.ok rfl (wgT rfl (yl 3 true rfl (n13.ne rfl (n12.ne rfl e9))) rfl) rfl (o_leI n13.at_ ev_const) (fun an14 n14 => ?_)
    have e15 := n14.ne rfl (n13.ne rfl (n12.ne rfl e9))
    refine sv n14.ok rfl (wn _ rfl) rfl (o_pkT e15 n14.at_) (fun an16 n16 => ?_)
    refine sv n16.ok rfl (wn _ rfl) rfl (o_mv n16.at_) (fun an17 n17 => ?_)
    by_cases c18 : ((l.length : Nat) : Int) ≤ 8
    · have e19 := (n17.at_).trans (congrArg Value.bool (decide_eq_true c18))
      have e20 := ((n17.ne rfl (n16.ne rfl n14.at_))).trans (congrArg Value.bool (decide_eq_true c18))
      have e21 := ((n17.ne rfl n16.at_)).trans (congrArg Value.bool (decide_eq_true c18))
      have e22 := n17.ne rfl (n16.ne rfl (n14.ne rfl (n13.ne rfl (n12.ne rfl e11))))
      refine sv n17.ok rfl (wgT rfl (yl 8 true rfl e19) rfl) rfl (o_mv e22) (fun an23 n23 => ?_)
      refine sc n23.ok rfl (wgT rfl (yl 8 true rfl (n23.ne rfl e19)) rfl) rfl (o_f2 Try.func22 rfl rfl rfl n23.at_ ev_func) (containsId l w) ?_
      rintro _ w25 ⟨rfl, g26⟩
      refine ⟨_, rfl, fun an24 n24 => ?_⟩
      have G27 := G0.trans g26
      refine sv n24.ok rfl (wgT rfl (yl 8 true rfl (n24.ne rfl (n23.ne rfl e19))) rfl) rfl (o_notI n24.at_) (fun an28 n28 => ?_)
      have e29 := n28.ne rfl (n24.ne rfl (n23.ne rfl e19))
      refine sv n28.ok rfl (wn _ rfl) rfl (o_pkT e29 n28.at_) (fun an30 n30 => ?_)
      refine sv n30.ok rfl (wn _ rfl) rfl (o_as n30.at_) (fun an31 n31 => ?_)
      refine wpList_nil ?_
      refine th_n (hK3 _ _ ?_)
      refine wp_ret ?_
      exact ret1 n31.ok rfl (n31.at_) ⟨by unfold idB; rw [decide_eq_true (show 0 < l.length by omega), decide_eq_true (show l.length ≤ 8 by omega)]; simp, G27⟩
    · have e32 := (n17.at_).trans (congrArg Value.bool (decide_eq_false c18))
      have e33 := ((n17.ne rfl (n16.ne rfl n14.at_))).trans (congrArg Value.bool (decide_eq_false c18))
      have e34 := ((n17.ne rfl n16.at_)).trans (congrArg Value.bool (decide_eq_false c18))
      refine sn n17.ok rfl (wgF rfl (yl 8 false rfl e32) rfl) rfl (fun an35 n35 => ?_)
      refine sn n35.ok rfl (wgF rfl (yl 8 false rfl (n35.ne rfl e32)) rfl) rfl (fun an36 n36 => ?_)
      refine sn n36.ok rfl (wgF rfl (yl 8 false rfl (n36.ne rfl (n35.ne rfl e32))) rfl) rfl (fun an37 n37 => ?_)
      have e38 := n37.ne rfl (n36.ne rfl (n35.ne rfl e32))
      refine sv n37.ok rfl (wn _ rfl) rfl (o_pkF e38 ev_const) (fun an39 n39 => ?_)
      refine sv n39.ok rfl (wn _ rfl) rfl (o_as n39.at_) (fun an40 n40 => ?_)
      refine wpList_nil ?_
      refine th_n (hK3 _ _ ?_)
      refine wp_ret ?_
      exact ret1 n40.ok rfl (n40.at_) ⟨by unfold idB; rw [decide_eq_false (show ¬ l.length ≤ 8 by omega)]; simp, G0⟩
  · have e41 := (n7.at_).trans (congrArg Value.bool (decide_eq_false c8))
    have e42 := ((n7.ne rfl n6.at_)).trans (congrArg Value.bool (decide_eq_false c8))
    refine sn n7.ok rfl (wgF rfl (yl 3 false rfl e41) rfl) rfl (fun an43 n43 => ?_)
    refine sn n43.ok rfl (wgF rfl (yl 3 false rfl (n43.ne rfl e41)) rfl) rfl (fun an44 n44 => ?_)
    refine sn n44.ok rfl (wgF rfl (yl 3 false rfl (n44.ne rfl (n43.ne rfl e41))) rfl) rfl (fun an45 n45 => ?_)
    have e46 := n45.ne rfl (n44.ne rfl (n43.ne rfl e41))
    refine sv n45.ok rfl (wn _ rfl) rfl (o_pkF e46 ev_const) (fun an47 n47 => ?_)
    refine sv n47.ok rfl (wn _ rfl) rfl (o_mv n47.at_) (fun an48 n48 => ?_)
    refine sn n48.ok rfl (wgF rfl (yl 8 false rfl n48.at_) rfl) rfl (fun an49 n49 => ?_)
    refine sn n49.ok rfl (wgF rfl (yl 8 false rfl (n49.ne rfl n48.at_)) rfl) rfl (fun an50 n50 => ?_)
    refine sn n50.ok rfl (wgF rfl (yl 8 false rfl (n50.ne rfl (n49.ne rfl n48.at_))) rfl) rfl (fun an51 n51 => ?_)
    have e52 := n51.ne rfl (n50.ne rfl (n49.ne rfl n48.at_))
    refine sv n51.ok rfl (wn _ rfl) rfl (o_pkF e52 ev_const) (fun an53 n53 => ?_)
    refine sv n53.ok rfl (wn _ rfl) rfl (o_as n53.at_) (fun an54 n54 => ?_)
    refine wpList_nil ?_
    refine th_n (hK3 _ _ ?_)
    refine wp_ret ?_
    exact ret1 n54.ok rfl (n54.at_) ⟨by unfold idB; rw [decide_eq_false (show ¬ 0 < l.length by omega)]; rfl, G0⟩
set_option maxHeartbeats 8000000 in
set_option maxRecDepth 100000 in
theorem vhas_any (va ma : Option Addr) (vc mc : Nat) (V : List Int) (M : List (Int × Int)) (s c : Int) (hc : chkK V M = 0) (hd : dotB (s, c) = true) (w : World) (hk : KnR w (.agg #[.slice va V.length vc, .slice ma M.length mc]) V M) :
    Calls Try.prog 28 #[.agg #[.slice va V.length vc, .slice ma M.length mc], .agg #[.int .i64 (s), .int .i64 (c)]] w fun e w' => e = .returned (.bool (memI V M s c)) ∧ Gr w w' := by
  refine enter (N := 14) Try.func28 rfl rfl rfl (fun a0 ok0 h0 => ?_)
  have e0_0 : a0.eval (.tmp 0) = .agg #[.slice va V.length vc, .slice ma M.length mc] := h0 0 _ rfl
  have e0_1 : a0.eval (.tmp 1) = .agg #[.int .i64 (s), .int .i64 (c)] := h0 1 _ rfl
  clear h0
  have G0 := Gr.refl w
  refine wp_seq_k (fun K1 hK1 => ?_)
  refine wp_region_lit ?_
  refine sal (cs := #[.slice va V.length vc, .slice ma M.length mc]) ok0 rfl (wn _ rfl) rfl (o_box e0_0) (fun an2 w4 b3 W5 n2 => ?_)
  have l6 : w.heap.size ≤ b3 := by rw [W5.eq]; exact G0.size
  have G7 := G0.trans W5.gr
  refine sal (cs := #[.int .i64 (s), .int .i64 (c)]) n2.ok rfl (wn _ rfl) rfl (o_box (n2.ne rfl e0_1)) (fun an8 w10 b9 W11 n8 => ?_)
  have l12 : b3 < b9 := by rw [W11.eq]; exact W5.bk.lt
  have l13 : w.heap.size ≤ b9 := by rw [W11.eq]; exact G7.size
  have G14 := G7.trans W11.gr
  have B15 := W5.bk.gr W11.gr
  refine sv n8.ok rfl (wn _ rfl) rfl (o_as ev_const) (fun an16 n16 => ?_)
  refine wpList_nil ?_
  refine th_n (hK1 _ _ ?_)
  refine wp_seq_k (fun K17 hK17 => ?_)
  refine wp_region_lit ?_
  refine sv n16.ok rfl (wn _ rfl) rfl (o_ldR (n16.ne rfl (n8.ne rfl n2.at_)) B15 Try.underlying30 rfl (by kernel_rfl)) (fun an18 n18 => ?_)
  refine sv n18.ok rfl (wn _ rfl) rfl (o_ldR (n18.ne rfl (n16.ne rfl n8.at_)) W11.bk Try.underlying24 rfl (by kernel_rfl)) (fun an19 n19 => ?_)
  refine sc n19.ok rfl (wn _ rfl) rfl (o_f2 Try.func56 rfl rfl rfl (n19.ne rfl n18.at_) n19.at_) (khasI _ V M s c w10 (hk.gr G14) hc hd) ?_
  rintro _ w21 ⟨rfl, g22⟩
  refine ⟨_, rfl, fun an20 n20 => ?_⟩
  have G23 := G14.trans g22
  have B24 := B15.gr g22
  have B25 := W11.bk.gr g22
  refine sv n20.ok rfl (wn _ rfl) rfl (o_mv n20.at_) (fun an26 n26 => ?_)
  refine sv n26.ok rfl (wn _ rfl) rfl (o_ex n26.at_ rfl) (fun an27 n27 => ?_)
  refine sv n27.ok rfl (wn _ rfl) rfl (o_ex (n27.ne rfl n26.at_) rfl) (fun an28 n28 => ?_)
  refine sv n28.ok rfl (wn _ rfl) rfl (o_as (n28.ne rfl n27.at_)) (fun an29 n29 => ?_)
  refine sv n29.ok rfl (wn _ rfl) rfl (o_as (n29.ne rfl n28.at_)) (fun an30 n30 => ?_)
  refine wpList_nil ?_
  refine th_n (hK17 _ _ ?_)
  refine wp_seq_k (fun K31 hK31 => ?_)
  refine wp_region_lit ?_
  refine sv n30.ok rfl (wn _ rfl) rfl (o_mv (n30.ne rfl n29.at_)) (fun an32 n32 => ?_)
  refine sv n32.ok rfl (wn _ rfl) rfl (o_as n32.at_) (fun an33 n33 => ?_)
  refine wpList_nil ?_
  refine th_n (hK31 _ _ ?_)
  refine wp_ret ?_
  exact ret1 n33.ok rfl (n33.at_) ⟨rfl, G23⟩
set_option maxHeartbeats 8000000 in
set_option maxRecDepth 100000 in
theorem vone_any (x : VerI) (w : World) (hm : MeanV w x) :
    Calls Try.prog 9 #[.agg #[.string (bs x.d.id), .int .i64 (x.d.s), .int .i64 (x.d.c), .int .i64 (x.d.t), .int .i64 (x.d.n), .int .i64 (x.d.b), .slice x.va x.d.V.length x.vc, .slice x.ma x.d.M.length x.mc]] w fun e w' => e = .returned (.int .i64 (chkOne x.d)) ∧ Gr w w' := by
  refine enter (N := 39) Try.func9 rfl rfl rfl (fun a0 ok0 h0 => ?_)
  have e0_0 : a0.eval (.tmp 0) = .agg #[.string (bs x.d.id), .int .i64 (x.d.s), .int .i64 (x.d.c), .int .i64 (x.d.t), .int .i64 (x.d.n), .int .i64 (x.d.b), .slice x.va x.d.V.length x.vc, .slice x.ma x.d.M.length x.mc] := h0 0 _ rfl
  clear h0
  have G0 := Gr.refl w
  refine wp_seq_k (fun K1 hK1 => ?_)
  refine wp_region_lit ?_
  refine sal (cs := #[.string (bs x.d.id), .int .i64 (x.d.s), .int .i64 (x.d.c), .int .i64 (x.d.t), .int .i64 (x.d.n), .int .i64 (x.d.b), .slice x.va x.d.V.length x.vc, .slice x.ma x.d.M.length x.mc]) ok0 rfl (wn _ rfl) rfl (o_box e0_0) (fun an2 w4 b3 W5 n2 => ?_)
  have l6 : w.heap.size ≤ b3 := by rw [W5.eq]; exact G0.size
  have G7 := G0.trans W5.gr
  refine sv n2.ok rfl (wn _ rfl) rfl (o_as ev_const) (fun an8 n8 => ?_)
  refine wpList_nil ?_
  refine th_n (hK1 _ _ ?_)
  refine wp_seq_k (fun K9 hK9 => ?_)
  refine wp_seq_k (fun K10 hK10 => ?_)
  refine wp_region_lit ?_
  refine sv n8.ok rfl (wn _ rfl) rfl (o_fa (z := 1) (n8.ne rfl n2.at_) Try.underlying32 rfl (by kernel_rfl) rfl rfl) (fun an11 n11 => ?_)
  refine sv n11.ok rfl (wn _ rfl) rfl (o_ld n11.at_ (Try.isAgg9 _) (W5.bk.cell _ rfl)) (fun an12 n12 => ?_)
  refine sc n12.ok rfl (wn _ rfl) rfl (o_f1 Try.func7 rfl rfl rfl n12.at_) (id_any x.d.id w4) ?_
  rintro _ w14 ⟨rfl, g15⟩
  refine ⟨_, rfl, fun an13 n13 => ?_⟩
  have G16 := G7.trans g15
  have B17 := W5.bk.gr g15
  refine sv n13.ok rfl (wn _ rfl) rfl (o_notI n13.at_) (fun an18 n18 => ?_)
  refine wpList_nil ?_
  refine th_n (hK10 _ _ ?_)
  cases c19 : (!(idB x.d.id))
  · refine wp_cond_false ((n18.at_).trans (congrArg Value.bool (c19))) ?_
    have hI : idB x.d.id = true := by simpa using c19
    refine wp_skip ?_
    refine th_n (hK9 _ _ ?_)
    refine wp_seq_k (fun K20 hK20 => ?_)
    refine wp_seq_k (fun K21 hK21 => ?_)
    refine wp_region_lit ?_
    have e22 := n18.ne rfl (n13.ne rfl (n12.ne rfl (n11.ne rfl (n8.ne rfl n2.at_))))
    refine sv n18.ok rfl (wn _ rfl) rfl (o_fa (z := 2) e22 Try.underlying32 rfl (by kernel_rfl) rfl rfl) (fun an23 n23 => ?_)
    refine sv n23.ok rfl (wn _ rfl) rfl (o_ldA (k := 1) (cs := [.int .i64 (x.d.s), .int .i64 (x.d.c)]) n23.at_ (bk_part B17 rfl) Try.underlying24 rfl (by kernel_rfl)) (fun an24 n24 => ?_)
    refine sc n24.ok rfl (wn _ rfl) rfl (o_f1 Try.func25 rfl rfl rfl n24.at_) (dot_any (x.d.s, x.d.c) w14) ?_
    rintro _ w26 ⟨rfl, g27⟩
    refine ⟨_, rfl, fun an25 n25 => ?_⟩
    have G28 := G16.trans g27
    have B29 := B17.gr g27
    refine sv n25.ok rfl (wn _ rfl) rfl (o_notI n25.at_) (fun an30 n30 => ?_)
    refine sv n30.ok rfl (wn _ rfl) rfl (o_mv n30.at_) (fun an31 n31 => ?_)
    cases c32 : (!(dotB (x.d.s, x.d.c)))
    · have e33 := (n31.at_).trans (congrArg Value.bool (c32))
      have e34 := ((n31.ne rfl n30.at_)).trans (congrArg Value.bool (c32))
      have e35 := n31.ne rfl (n30.ne rfl (n25.ne rfl (n24.ne rfl (n23.ne rfl e22))))
      refine sv n31.ok rfl (wgT rfl (yl 4 false rfl e33) rfl) rfl (o_fa (z := 2) e35 Try.underlying32 rfl (by kernel_rfl) rfl rfl) (fun an36 n36 => ?_)
      refine sv n36.ok rfl (wgT rfl (yl 4 false rfl (n36.ne rfl e33)) rfl) rfl (o_ldA (k := 3) (cs := [.int .i64 (x.d.t), .int .i64 (x.d.n)]) n36.at_ (bk_part B29 rfl) Try.underlying26 rfl (by kernel_rfl)) (fun an37 n37 => ?_)
      refine sc n37.ok rfl (wgT rfl (yl 4 false rfl (n37.ne rfl (n36.ne rfl e33))) rfl) rfl (o_f1 Try.func26 rfl rfl rfl n37.at_) (point2_any x.d.t x.d.n w26) ?_
      rintro _ w39 ⟨rfl, g40⟩
      refine ⟨_, rfl, fun an38 n38 => ?_⟩
      have G41 := G28.trans g40
      have B42 := B29.gr g40
      have e43 := n38.ne rfl (n37.ne rfl (n36.ne rfl e33))
      refine sv n38.ok rfl (wgT rfl (yl 4 false rfl e43) rfl) rfl (o_notI n38.at_) (fun an44 n44 => ?_)
      refine sv n44.ok rfl (wn _ rfl) rfl (o_pkF (n44.ne rfl e43) n44.at_) (fun an45 n45 => ?_)
      refine sv n45.ok rfl (wn _ rfl) rfl (o_mv n45.at_) (fun an46 n46 => ?_)
      cases c47 : (!(ptB x.d.t x.d.n))
      · have e48 := (n46.at_).trans (congrArg Value.bool (c47))
        have e49 := ((n46.ne rfl (n45.ne rfl n44.at_))).trans (congrArg Value.bool (c47))
        have e50 := ((n46.ne rfl n45.at_)).trans (congrArg Value.bool (c47))
        have e51 := n46.ne rfl (n45.ne rfl (n44.ne rfl (n38.ne rfl (n37.ne rfl (n36.ne rfl e35)))))
        refine sv n46.ok rfl (wgT rfl (yl 10 false rfl e48) rfl) rfl (o_fa (z := 1) e51 Try.underlying32 rfl (by kernel_rfl) rfl rfl) (fun an52 n52 => ?_)
        refine sv n52.ok rfl (wgT rfl (yl 10 false rfl (n52.ne rfl e48)) rfl) rfl (o_ld n52.at_ (Try.isAgg3 _) (B42.cell _ rfl)) (fun an53 n53 => ?_)
        refine sv n53.ok rfl (wgT rfl (yl 10 false rfl (n53.ne rfl (n52.ne rfl e48))) rfl) rfl (o_ltI n53.at_ ev_const) (fun an54 n54 => ?_)
        have e55 := n54.ne rfl (n53.ne rfl (n52.ne rfl e48))
        refine sv n54.ok rfl (wn _ rfl) rfl (o_pkF e55 n54.at_) (fun an56 n56 => ?_)
        refine sv n56.ok rfl (wn _ rfl) rfl (o_mv n56.at_) (fun an57 n57 => ?_)
        by_cases c58 : x.d.b < 0
        · have e59 := (n57.at_).trans (congrArg Value.bool (decide_eq_true c58))
          have e60 := ((n57.ne rfl (n56.ne rfl n54.at_))).trans (congrArg Value.bool (decide_eq_true c58))
          have e61 := ((n57.ne rfl n56.at_)).trans (congrArg Value.bool (decide_eq_true c58))
          refine sn n57.ok rfl (wgF rfl (yl 15 true rfl e59) rfl) rfl (fun an62 n62 => ?_)
          refine sn n62.ok rfl (wgF rfl (yl 15 true rfl (n62.ne rfl e59)) rfl) rfl (fun an63 n63 => ?_)
          refine sn n63.ok rfl (wgF rfl (yl 15 true rfl (n63.ne rfl (n62.ne rfl e59))) rfl) rfl (fun an64 n64 => ?_)
          have e65 := n64.ne rfl (n63.ne rfl (n62.ne rfl e59))
          refine sv n64.ok rfl (wn _ rfl) rfl (o_pkT e65 ev_const) (fun an66 n66 => ?_)
          refine wpList_nil ?_
          refine th_n (hK21 _ _ ?_)
          refine wp_cond_true (n66.at_) ?_
          refine wp_seq_k (fun K67 hK67 => ?_)
          refine wp_region_lit ?_
          refine sv n66.ok rfl (wn _ rfl) rfl (o_as ev_const) (fun an68 n68 => ?_)
          refine wpList_nil ?_
          refine th_n (hK67 _ _ ?_)
          refine wp_ret ?_
          refine th_r ?_
          exact ret1 n68.ok rfl (n68.at_) ⟨congrArg (fun n => Ending.returned (Value.int .i64 n)) (Eq.symm (by unfold chkOne; rw [if_neg (by rw [hI]; simp), if_pos (show argB x.d = false by unfold argB; rw [decide_eq_false (show ¬ 0 ≤ x.d.b by omega)]; simp)])), G41⟩
        · have e69 := (n57.at_).trans (congrArg Value.bool (decide_eq_false c58))
          have e70 := ((n57.ne rfl (n56.ne rfl n54.at_))).trans (congrArg Value.bool (decide_eq_false c58))
          have e71 := ((n57.ne rfl n56.at_)).trans (congrArg Value.bool (decide_eq_false c58))
          have e72 := n57.ne rfl (n56.ne rfl (n54.ne rfl (n53.ne rfl (n52.ne rfl e51))))
          refine sv n57.ok rfl (wgT rfl (yl 15 false rfl e69) rfl) rfl (o_fa (z := 1) e72 Try.underlying32 rfl (by kernel_rfl) rfl rfl) (fun an73 n73 => ?_)
          refine sv n73.ok rfl (wgT rfl (yl 15 false rfl (n73.ne rfl e69)) rfl) rfl (o_ld n73.at_ (Try.isAgg3 _) (B42.cell _ rfl)) (fun an74 n74 => ?_)
          refine sv n74.ok rfl (wgT rfl (yl 15 false rfl (n74.ne rfl (n73.ne rfl e69))) rfl) rfl (o_gtI n74.at_ ev_const) (fun an75 n75 => ?_)
          have e76 := n75.ne rfl (n74.ne rfl (n73.ne rfl e69))
          refine sv n75.ok rfl (wn _ rfl) rfl (o_pkF e76 n75.at_) (fun an77 n77 => ?_)
          refine wpList_nil ?_
          refine th_n (hK21 _ _ ?_)
          by_cases c78 : (1000000 : Int) < x.d.b
          · refine wp_cond_true ((n77.at_).trans (congrArg Value.bool (decide_eq_true c78))) ?_
            refine wp_seq_k (fun K79 hK79 => ?_)
            refine wp_region_lit ?_
            refine sv n77.ok rfl (wn _ rfl) rfl (o_as ev_const) (fun an80 n80 => ?_)
            refine wpList_nil ?_
            refine th_n (hK79 _ _ ?_)
            refine wp_ret ?_
            refine th_r ?_
            exact ret1 n80.ok rfl (n80.at_) ⟨congrArg (fun n => Ending.returned (Value.int .i64 n)) (Eq.symm (by unfold chkOne; rw [if_neg (by rw [hI]; simp), if_pos (show argB x.d = false by unfold argB; rw [decide_eq_false (show ¬ x.d.b ≤ 1000000 by omega)]; simp)])), G41⟩
          · refine wp_cond_false ((n77.at_).trans (congrArg Value.bool (decide_eq_false c78))) ?_
            have hA : argB x.d = true := by unfold argB; rw [show dotB (x.d.s, x.d.c) = true by simpa using c32, show ptB x.d.t x.d.n = true by simpa using c47, decide_eq_true (show 0 ≤ x.d.b by omega), decide_eq_true (show x.d.b ≤ 1000000 by omega)]; rfl
            refine wp_skip ?_
            refine th_n (hK20 _ _ ?_)
            refine wp_seq_k (fun K81 hK81 => ?_)
            refine wp_seq_k (fun K82 hK82 => ?_)
            refine wp_region_lit ?_
            have e83 := n77.ne rfl (n75.ne rfl (n74.ne rfl (n73.ne rfl e72)))
            refine sv n77.ok rfl (wn _ rfl) rfl (o_fa (z := 2) e83 Try.underlying32 rfl (by kernel_rfl) rfl rfl) (fun an84 n84 => ?_)
            refine sv n84.ok rfl (wn _ rfl) rfl (o_ldA (k := 6) (cs := [.slice x.va x.d.V.length x.vc, .slice x.ma x.d.M.length x.mc]) n84.at_ (bk_part B42 rfl) Try.underlying30 rfl (by kernel_rfl)) (fun an85 n85 => ?_)
            refine sc n85.ok rfl (wn _ rfl) rfl (o_f1 Try.func27 rfl rfl rfl n85.at_) (kcheck_any _ _ _ w39 (MeanV.gr hm G41)) ?_
            rintro _ w87 ⟨rfl, g88⟩
            refine ⟨_, rfl, fun an86 n86 => ?_⟩
            have G89 := G41.trans g88
            have B90 := B42.gr g88
            refine sv n86.ok rfl (wn _ rfl) rfl (o_as n86.at_) (fun an91 n91 => ?_)
            refine wpList_nil ?_
            refine th_n (hK82 _ _ ?_)
            refine wp_seq_k (fun K92 hK92 => ?_)
            refine wp_region_lit ?_
            refine sv n91.ok rfl (wn _ rfl) rfl (o_mv n91.at_) (fun an93 n93 => ?_)
            refine sv n93.ok rfl (wn _ rfl) rfl (o_neI n93.at_ ev_const) (fun an94 n94 => ?_)
            refine wpList_nil ?_
            refine th_n (hK92 _ _ ?_)
            by_cases c95 : ¬ (chkK x.d.V x.d.M) = 0
            · refine wp_cond_true ((n94.at_).trans (congrArg Value.bool (decide_eq_true c95))) ?_
              refine wp_seq_k (fun K96 hK96 => ?_)
              refine wp_region_lit ?_
              refine sv n94.ok rfl (wn _ rfl) rfl (o_mv (n94.ne rfl (n93.ne rfl n91.at_))) (fun an97 n97 => ?_)
              refine sv n97.ok rfl (wn _ rfl) rfl (o_as n97.at_) (fun an98 n98 => ?_)
              refine wpList_nil ?_
              refine th_n (hK96 _ _ ?_)
              refine wp_ret ?_
              refine th_r ?_
              exact ret1 n98.ok rfl (n98.at_) ⟨congrArg (fun n => Ending.returned (Value.int .i64 n)) (Eq.symm (by unfold chkOne; rw [if_neg (by rw [hI]; simp), if_neg (by rw [hA]; simp), if_pos c95])), G89⟩
            · refine wp_cond_false ((n94.at_).trans (congrArg Value.bool (decide_eq_false c95))) ?_
              refine wp_skip ?_
              refine th_n (hK81 _ _ ?_)
              refine wp_seq_k (fun K99 hK99 => ?_)
              refine wp_seq_k (fun K100 hK100 => ?_)
              refine wp_region_lit ?_
              have e101 := n94.ne rfl (n93.ne rfl (n91.ne rfl (n86.ne rfl (n85.ne rfl (n84.ne rfl e83)))))
              refine sv n94.ok rfl (wn _ rfl) rfl (o_fa (z := 2) e101 Try.underlying32 rfl (by kernel_rfl) rfl rfl) (fun an102 n102 => ?_)
              refine sv n102.ok rfl (wn _ rfl) rfl (o_ldA (k := 6) (cs := [.slice x.va x.d.V.length x.vc, .slice x.ma x.d.M.length x.mc]) n102.at_ (bk_part B90 rfl) Try.underlying30 rfl (by kernel_rfl)) (fun an103 n103 => ?_)
              refine sv n103.ok rfl (wn _ rfl) rfl (o_fa (z := 2) (n103.ne rfl (n102.ne rfl e101)) Try.underlying32 rfl (by kernel_rfl) rfl rfl) (fun an104 n104 => ?_)
              refine sv n104.ok rfl (wn _ rfl) rfl (o_ldA (k := 1) (cs := [.int .i64 (x.d.s), .int .i64 (x.d.c)]) n104.at_ (bk_part B90 rfl) Try.underlying24 rfl (by kernel_rfl)) (fun an105 n105 => ?_)
              refine sc n105.ok rfl (wn _ rfl) rfl (o_f2 Try.func28 rfl rfl rfl (n105.ne rfl (n104.ne rfl n103.at_)) n105.at_) (vhas_any x.va x.ma x.vc x.mc x.d.V x.d.M x.d.s x.d.c (Decidable.of_not_not c95) (argB_dot hA) w87 (MeanV.gr hm G89)) ?_
              rintro _ w107 ⟨rfl, g108⟩
              refine ⟨_, rfl, fun an106 n106 => ?_⟩
              have G109 := G89.trans g108
              have B110 := B90.gr g108
              refine wpList_nil ?_
              refine th_n (hK100 _ _ ?_)
              cases c111 : (memI x.d.V x.d.M x.d.s x.d.c)
              · refine wp_cond_false ((n106.at_).trans (congrArg Value.bool (c111))) ?_
                refine wp_skip ?_
                refine th_n (hK99 _ _ ?_)
                refine wp_seq_k (fun K112 hK112 => ?_)
                refine wp_region_lit ?_
                refine sv n106.ok rfl (wn _ rfl) rfl (o_as ev_const) (fun an113 n113 => ?_)
                refine wpList_nil ?_
                refine th_n (hK112 _ _ ?_)
                refine wp_ret ?_
                exact ret1 n113.ok rfl (n113.at_) ⟨congrArg (fun n => Ending.returned (Value.int .i64 n)) (Eq.symm (by unfold chkOne; rw [if_neg (by rw [hI]; simp), if_neg (by rw [hA]; simp), if_neg c95, if_neg (by rw [c111]; simp)])), G109⟩
              · refine wp_cond_true ((n106.at_).trans (congrArg Value.bool (c111))) ?_
                refine wp_seq_k (fun K114 hK114 => ?_)
                refine wp_region_lit ?_
                refine sv n106.ok rfl (wn _ rfl) rfl (o_as ev_const) (fun an115 n115 => ?_)
                refine wpList_nil ?_
                refine th_n (hK114 _ _ ?_)
                refine wp_ret ?_
                refine th_r ?_
                exact ret1 n115.ok rfl (n115.at_) ⟨congrArg (fun n => Ending.returned (Value.int .i64 n)) (Eq.symm (by unfold chkOne; rw [if_neg (by rw [hI]; simp), if_neg (by rw [hA]; simp), if_neg c95, if_pos c111])), G109⟩
      · have e116 := (n46.at_).trans (congrArg Value.bool (c47))
        have e117 := ((n46.ne rfl (n45.ne rfl n44.at_))).trans (congrArg Value.bool (c47))
        have e118 := ((n46.ne rfl n45.at_)).trans (congrArg Value.bool (c47))
        refine sn n46.ok rfl (wgF rfl (yl 10 true rfl e116) rfl) rfl (fun an119 n119 => ?_)
        refine sn n119.ok rfl (wgF rfl (yl 10 true rfl (n119.ne rfl e116)) rfl) rfl (fun an120 n120 => ?_)
        refine sn n120.ok rfl (wgF rfl (yl 10 true rfl (n120.ne rfl (n119.ne rfl e116))) rfl) rfl (fun an121 n121 => ?_)
        have e122 := n121.ne rfl (n120.ne rfl (n119.ne rfl e116))
        refine sv n121.ok rfl (wn _ rfl) rfl (o_pkT e122 ev_const) (fun an123 n123 => ?_)
        refine sv n123.ok rfl (wn _ rfl) rfl (o_mv n123.at_) (fun an124 n124 => ?_)
        refine sn n124.ok rfl (wgF rfl (yl 15 true rfl n124.at_) rfl) rfl (fun an125 n125 => ?_)
        refine sn n125.ok rfl (wgF rfl (yl 15 true rfl (n125.ne rfl n124.at_)) rfl) rfl (fun an126 n126 => ?_)
        refine sn n126.ok rfl (wgF rfl (yl 15 true rfl (n126.ne rfl (n125.ne rfl n124.at_))) rfl) rfl (fun an127 n127 => ?_)
        have e128 := n127.ne rfl (n126.ne rfl (n125.ne rfl n124.at_))
        refine sv n127.ok rfl (wn _ rfl) rfl (o_pkT e128 ev_const) (fun an129 n129 => ?_)
        refine wpList_nil ?_
        refine th_n (hK21 _ _ ?_)
        refine wp_cond_true (n129.at_) ?_
        refine wp_seq_k (fun K130 hK130 => ?_)
        refine wp_region_lit ?_
        refine sv n129.ok rfl (wn _ rfl) rfl (o_as ev_const) (fun an131 n131 => ?_)
        refine wpList_nil ?_
        refine th_n (hK130 _ _ ?_)
        refine wp_ret ?_
        refine th_r ?_
        exact ret1 n131.ok rfl (n131.at_) ⟨congrArg (fun n => Ending.returned (Value.int .i64 n)) (Eq.symm (by unfold chkOne; rw [if_neg (by rw [hI]; simp), if_pos (show argB x.d = false by unfold argB; rw [show ptB x.d.t x.d.n = false by simpa using c47]; simp)])), G41⟩
    · have e132 := (n31.at_).trans (congrArg Value.bool (c32))
      have e133 := ((n31.ne rfl n30.at_)).trans (congrArg Value.bool (c32))
      refine sn n31.ok rfl (wgF rfl (yl 4 true rfl e132) rfl) rfl (fun an134 n134 => ?_)
      refine sn n134.ok rfl (wgF rfl (yl 4 true rfl (n134.ne rfl e132)) rfl) rfl (fun an135 n135 => ?_)
      refine sn n135.ok rfl (wgF rfl (yl 4 true rfl (n135.ne rfl (n134.ne rfl e132))) rfl) rfl (fun an136 n136 => ?_)
      have e137 := n136.ne rfl (n135.ne rfl (n134.ne rfl e132))
      refine sn n136.ok rfl (wgF rfl (yl 4 true rfl e137) rfl) rfl (fun an138 n138 => ?_)
      refine sv n138.ok rfl (wn _ rfl) rfl (o_pkT (n138.ne rfl e137) ev_const) (fun an139 n139 => ?_)
      refine sv n139.ok rfl (wn _ rfl) rfl (o_mv n139.at_) (fun an140 n140 => ?_)
      refine sn n140.ok rfl (wgF rfl (yl 10 true rfl n140.at_) rfl) rfl (fun an141 n141 => ?_)
      refine sn n141.ok rfl (wgF rfl (yl 10 true rfl (n141.ne rfl n140.at_)) rfl) rfl (fun an142 n142 => ?_)
      refine sn n142.ok rfl (wgF rfl (yl 10 true rfl (n142.ne rfl (n141.ne rfl n140.at_))) rfl) rfl (fun an143 n143 => ?_)
      have e144 := n143.ne rfl (n142.ne rfl (n141.ne rfl n140.at_))
      refine sv n143.ok rfl (wn _ rfl) rfl (o_pkT e144 ev_const) (fun an145 n145 => ?_)
      refine sv n145.ok rfl (wn _ rfl) rfl (o_mv n145.at_) (fun an146 n146 => ?_)
      refine sn n146.ok rfl (wgF rfl (yl 15 true rfl n146.at_) rfl) rfl (fun an147 n147 => ?_)
      refine sn n147.ok rfl (wgF rfl (yl 15 true rfl (n147.ne rfl n146.at_)) rfl) rfl (fun an148 n148 => ?_)
      refine sn n148.ok rfl (wgF rfl (yl 15 true rfl (n148.ne rfl (n147.ne rfl n146.at_))) rfl) rfl (fun an149 n149 => ?_)
      have e150 := n149.ne rfl (n148.ne rfl (n147.ne rfl n146.at_))
      refine sv n149.ok rfl (wn _ rfl) rfl (o_pkT e150 ev_const) (fun an151 n151 => ?_)
      refine wpList_nil ?_
      refine th_n (hK21 _ _ ?_)
      refine wp_cond_true (n151.at_) ?_
      refine wp_seq_k (fun K152 hK152 => ?_)
      refine wp_region_lit ?_
      refine sv n151.ok rfl (wn _ rfl) rfl (o_as ev_const) (fun an153 n153 => ?_)
      refine wpList_nil ?_
      refine th_n (hK152 _ _ ?_)
      refine wp_ret ?_
      refine th_r ?_
      exact ret1 n153.ok rfl (n153.at_) ⟨congrArg (fun n => Ending.returned (Value.int .i64 n)) (Eq.symm (by unfold chkOne; rw [if_neg (by rw [hI]; simp), if_pos (show argB x.d = false by unfold argB; rw [show dotB (x.d.s, x.d.c) = false by simpa using c32]; rfl)])), G28⟩
  · refine wp_cond_true ((n18.at_).trans (congrArg Value.bool (c19))) ?_
    refine wp_seq_k (fun K154 hK154 => ?_)
    refine wp_region_lit ?_
    refine sv n18.ok rfl (wn _ rfl) rfl (o_as ev_const) (fun an155 n155 => ?_)
    refine wpList_nil ?_
    refine th_n (hK154 _ _ ?_)
    refine wp_ret ?_
    refine th_r ?_
    exact ret1 n155.ok rfl (n155.at_) ⟨congrArg (fun n => Ending.returned (Value.int .i64 n)) (Eq.symm (by unfold chkOne; rw [if_pos (show idB x.d.id = false by simpa using c19)])), G16⟩
end Go.Proofs.Ytbpkfkljeibjoaa

/- A region that draws its order, where one call changes a row of one's own. -/
set_option linter.unusedVariables false
set_option linter.unusedSimpArgs false
namespace Gx
open Go Go.RowKit Rm
/-- what an operation finds: the slots of before, and what it waited for -/
structure PreD (ops : Array Oper) (m : Nat) (js : Js) (N : Nat) (a₀ : Act) (w₀ : World) (r : Option Nat) (c i : Nat) (o : Oper) (a : Act) (w : World) : Prop where
  ok : Ok N a
  gr : w₀.grownBy w r
  gr0 : i = c → Gr w₀ w
  old : ∀ t, (fd ops m).all (fun d => !Nat.beq t d) = true → a.eval (.tmp t) = a₀.eval (.tmp t)
  pre : ∀ j, waits o j = true → jAt js j (a.eval (.tmp (dstAt ops j))) w
/-- what is to be shown of the call that changes the row -/
def DoesC (P : Program) (ops : Array Oper) (Q : Exit → Act → World → Prop) (r : Option Nat) (J : Value → World → Prop) (o : Oper) (a : Act) (w : World) : Prop :=
  isAl o = false ∧ if Region.wanted o (yielded ops a.tmps) = true then o.wp P a w (fun a' w' => ∃ v, a' = a.put o.dst v ∧ w.grownBy w' r ∧ J v w') Q else J undef w
theorem DoesC.call {P : Program} {ops : Array Oper} {Q : Exit → Act → World → Prop} {r : Option Nat} {J : Value → World → Prop} {o : Oper} {a : Act} {w : World} {f : FuncId} {args : Array Value} {R : Ending → World → Prop} (hw : Region.wanted o (yielded ops a.tmps) = true)
    (hrun : (execOp a.eval o).run P w = .ok (.enter f args) w) (hc : Calls P f args w R) (h : ∀ e w', R e w' → ∃ v, e = .returned v ∧ w.grownBy w' r ∧ J v w') (hal : isAl o = false) : DoesC P ops Q r J o a w := by
  unfold DoesC
  rw [if_pos hw]
  refine ⟨hal, ?_⟩
  unfold Oper.wp
  rw [hrun, Oper.upon_enter]
  refine hc.mono ?_
  intro e w' hR
  obtain ⟨v, rfl, g, hj⟩ := h e w' hR
  exact ⟨v, rfl, g, hj⟩
structure RegD (P : Program) (ops : Array Oper) (Q : Exit → Act → World → Prop) (N : Nat) (a₀ : Act) (w₀ : World) (r : Option Nat) (c m n : Nat) (js : Js) : Prop where
  back : backs ops = true
  top : ∀ i, n ≤ i → jAt js i = fun _ _ => True
  mono : ∀ i v w w', i ≠ c → w.grownBy w' r → jAt js i v w → jAt js i v w'
  monoC : ∀ v w w', Gr w w' → jAt js c v w → jAt js c v w'
  does : ∀ i o, i < n → i ≠ c → ops[i]? = some o → ∀ a w, PreD ops m js N a₀ w₀ r c i o a w → Does P ops Q (jAt js i) o a w
  doesC : ∀ o, c < n → ops[c]? = some o → ∀ a w, PreD ops m js N a₀ w₀ r c c o a w → DoesC P ops Q r (jAt js c) o a w
section
variable {P : Program} {ops : Array Oper} {Q : Exit → Act → World → Prop} {N : Nat} {a₀ : Act} {w₀ : World} {r : Option Nat} {c : Nat}
theorem RegD.nil {m : Nat} (hb : backs ops = true) : RegD P ops Q N a₀ w₀ r c m 0 [] := ⟨hb, fun _ _ => rfl, fun i v w w' _ _ _ => trivial, fun v w w' _ _ => trivial, fun i o h => absurd h (Nat.not_lt_zero _), fun o h => absurd h (Nat.not_lt_zero _)⟩
theorem pre_drop {m n i : Nat} {js : Js} {J : Value → World → Prop} {o' : Oper} {a : Act} {w : World} (hb : backs ops = true) (hi : i < n + 1) (ho' : ops[i]? = some o') (p : PreD ops m ((n, J) :: js) N a₀ w₀ r c i o' a w) : PreD ops m js N a₀ w₀ r c i o' a w := by
  refine ⟨p.ok, p.gr, p.gr0, p.old, fun j hj => ?_⟩
  have h1 := p.pre j hj
  have hlt : j < n := by
    unfold waits at hj
    obtain ⟨e, he, hh⟩ := List.any_eq_true.1 hj
    have h2 := backs_spec hb i o' ho' e (by simpa using he) (Bool.and_eq_true_iff.1 hh).1
    simp only [Bool.and_eq_true] at hh
    have h3 := Nat.eq_of_beq_eq_true hh.2
    omega
  rwa [jAt_ne (by omega)] at h1
/-- the next operation -/
theorem RegD.snoc {m n n' : Nat} {js : Js} (R : RegD P ops Q N a₀ w₀ r c m n js) (hn : n + 1 = n') (hc : Nat.beq n c = false) (J : Value → World → Prop) {o : Oper} (ho : ops[n]? = some o) (hm : ∀ v w w', w.grownBy w' r → J v w → J v w')
    (h : ∀ a w, PreD ops m js N a₀ w₀ r c n o a w → Does P ops Q J o a w) : RegD P ops Q N a₀ w₀ r c m n' ((n, J) :: js) where
  back := R.back
  top i hi := by rw [jAt_ne (by omega)]; exact R.top i (by omega)
  mono i v w w' hic g hj := by
    by_cases q : n = i
    · subst q; rw [jAt_eq] at *; exact hm v w w' g hj
    · rw [jAt_ne q] at *; exact R.mono i v w w' hic g hj
  monoC v w w' g hj := by
    rw [jAt_ne (Nat.ne_of_beq_eq_false hc)] at *; exact R.monoC v w w' g hj
  does i o' hi hic ho' a w p := by
    have p' := pre_drop R.back (by omega) ho' p
    by_cases q : n = i
    · subst q
      rw [jAt_eq]
      obtain rfl : o = o' := Option.some.inj (ho.symm.trans ho')
      exact h a w p'
    · rw [jAt_ne q]
      exact R.does i o' (by omega) hic ho' a w p'
  doesC o' hi ho' a w p := by
    have p' := pre_drop R.back (by omega) ho' p
    have q := Nat.ne_of_beq_eq_false hc
    rw [jAt_ne q]
    exact R.doesC o' (by omega) ho' a w p'
/-- behind the first operations -/
structure PostD (ops : Array Oper) (m : Nat) (js : Js) (N : Nat) (a₀ : Act) (w₀ : World) (r : Option Nat) (a : Act) (w : World) : Prop where
  ok : Ok N a
  gr : w₀.grownBy w r
  old : ∀ t, (fd ops m).all (fun d => !Nat.beq t d) = true → a.eval (.tmp t) = a₀.eval (.tmp t)
  js : ∀ j, Nat.blt j m = true → jAt js j (a.eval (.tmp (dstAt ops j))) w
  dis : ∀ i j b b', Nat.blt i m = true → Nat.blt j m = true → Nat.beq i j = false → alAt ops i = true → alAt ops j = true → a.eval (.tmp (dstAt ops i)) = .pointer (some ⟨b, 0, none⟩) → a.eval (.tmp (dstAt ops j)) = .pointer (some ⟨b', 0, none⟩) → b ≠ b'
/-- the state on the way -/
structure WayD (ops : Array Oper) (m : Nat) (js : Js) (N : Nat) (a₀ : Act) (w₀ : World) (r : Option Nat) (c : Nat) (U : List Nat) (L : Array Bool) (a : Act) (w : World) : Prop where
  ok : Ok N a
  gr : w₀.grownBy w r
  gr0 : L.getD c false = false → Gr w₀ w
  old : ∀ t, (fd ops m).all (fun d => !Nat.beq t d) = true → a.eval (.tmp t) = a₀.eval (.tmp t)
  size : L.size = ops.size
  closed : Closed ops L
  nodup : U.Nodup
  un : ∀ j, j < m → (L.getD j false = false ↔ j ∈ U)
  lt : ∀ j ∈ U, j < m
  tail : ∀ j, m ≤ j → L.getD j false = false
  js : ∀ j, j < m → L.getD j false = true → jAt js j (a.eval (.tmp (dstAt ops j))) w
  dis : ∀ i j, i < m → j < m → i ≠ j → L.getD i false = true → L.getD j false = true → alAt ops i = true → alAt ops j = true → ∃ b b', a.eval (.tmp (dstAt ops i)) = .pointer (some ⟨b, 0, none⟩) ∧ a.eval (.tmp (dstAt ops j)) = .pointer (some ⟨b', 0, none⟩) ∧ b ≠ b'
  low : ∀ i, i < m → L.getD i false = true → alAt ops i = true → ∃ b, a.eval (.tmp (dstAt ops i)) = .pointer (some ⟨b, 0, none⟩) ∧ b < w.heap.size
theorem RegD.way {m : Nat} {js : Js} (R : RegD P ops Q N a₀ w₀ r c m m js) (hs : shape ops m = true) (hN : ((List.range m).all fun i => Nat.blt (dstAt ops i) N) = true)
    (hend : ∀ a w, PostD ops m js N a₀ w₀ r a w → wpAny P .any ops Q (ops.size - m) (firsts ops.size m) a w) :
    ∀ (U : List Nat) (L : Array Bool) (a : Act) (w : World), WayD ops m js N a₀ w₀ r c U L a w → wpAny P .any ops Q (U.length + (ops.size - m)) L a w := by
  obtain ⟨hm, hd, hdd, ht⟩ := shape_spec hs
  have hb := backs_spec R.back
  intro U
  generalize hn : U.length = n
  induction n generalizing U with
  | zero =>
    intro L a w W
    have hU : U = [] := List.eq_nil_of_length_eq_zero hn
    subst hU
    have hall : ∀ j, j < m → L.getD j false = true := fun j hj => by
      have := (W.un j hj)
      cases e : L.getD j false
      · rw [e] at this; exact absurd (this.1 rfl) (by simp)
      · rfl
    have hL : L = firsts ops.size m := by
      apply Array.ext
      · simp [firsts, W.size]
      · intro i h1 h2
        have e1 : L[i] = L.getD i false := by simp [Array.getD, h1]
        rw [e1]
        simp only [firsts, List.getElem_toArray, List.getElem_map, List.getElem_range]
        by_cases q : i < m
        · rw [hall i q]; simp [q]
        · rw [W.tail i (by omega)]
          cases e : Nat.blt i m
          · rfl
          · exact absurd (by simpa using e) q
    subst hL
    rw [Nat.zero_add]
    exact hend a w ⟨W.ok, W.gr, W.old, fun j hj => by
      have hj : j < m := by simpa using hj
      exact W.js j hj (hall j hj), fun i j b b' hi hj hij h1 h2 e1 e2 => by
      have hi : i < m := by simpa using hi
      have hj : j < m := by simpa using hj
      obtain ⟨c, c', q1, q2, q3⟩ := W.dis i j hi hj (Nat.ne_of_beq_eq_false hij) (hall i hi) (hall j hj) h1 h2
      rw [e1] at q1
      rw [e2] at q2
      cases q1
      cases q2
      exact q3⟩
  | succ n ih =>
    intro L a w W
    rw [Nat.succ_add]
    -- the least one that is not listed may come up
    have hne : Region.ready .any ops L ≠ [] := by
      obtain ⟨u, hu⟩ : ∃ u, u ∈ U := List.exists_mem_of_length_pos (by omega)
      have hlu := W.lt u hu
      have hex : ∃ k, k < m ∧ L.getD k false = false := ⟨u, hlu, (W.un u hlu).2 hu⟩
      obtain ⟨k, ⟨hk1, hk2⟩, hk3⟩ := exists_least hex
      have hki : k < L.size := by rw [W.size]; omega
      obtain ⟨o, ho, -⟩ := hd k hk1
      have : k ∈ Region.ready .any ops L := by
        rw [mem_ready]
        refine ⟨by rw [getD_lt hki true false]; exact hk2, o, ho, fun e he hbd => ?_⟩
        have hlt := hb k o ho e he hbd
        cases q : L.getD e.on false
        · have := hk3 e.on ⟨by omega, q⟩; omega
        · rfl
      intro e
      rw [e] at this
      cases this
    refine ⟨fun h => absurd h hne, fun i hi => ?_⟩
    obtain ⟨hil, o, ho, hall⟩ := mem_ready.1 hi
    have his : i < ops.size := (Array.getElem?_eq_some_iff.1 ho).1
    have hiL : i < L.size := by rw [W.size]; exact his
    have hil' : L.getD i false = false := by rw [getD_lt hiL false true]; exact hil
    have him : i < m := by
      rcases Nat.lt_or_ge i m with q | q
      · exact q
      · exfalso
        obtain ⟨u, hu⟩ : ∃ u, u ∈ U := List.exists_mem_of_length_pos (by omega)
        have hlu := W.lt u hu
        have h1 := reach_listed W.closed ops.size i u (fun o' ho' e he hbd => by
          obtain rfl : o = o' := Option.some.inj (ho.symm.trans ho')
          exact hall e he hbd) (ht i his q u hlu)
        rw [(W.un u hlu).2 hu] at h1
        cases h1
    have hiU : i ∈ U := (W.un i him).1 hil'
    obtain ⟨o', ho', hdst⟩ := hd i him
    obtain rfl : o = o' := Option.some.inj (ho.symm.trans ho')
    have hpre : PreD ops m js N a₀ w₀ r c i o a w := ⟨W.ok, W.gr, fun e => W.gr0 (by rw [← e]; exact hil'), W.old, fun j hj => by
        unfold waits at hj
        obtain ⟨e, he, hh⟩ := List.any_eq_true.1 hj
        have he : e ∈ o.after := by simpa using he
        simp only [Bool.and_eq_true] at hh
        have h2 := Nat.eq_of_beq_eq_true hh.2
        have h3 := hall e he hh.1
        rw [h2] at h3
        have hji : j < i := by have := hb i o ho e he hh.1; omega
        exact W.js j (by omega) h3⟩
    have hdN : Nat.blt (dstAt ops i) N = true := List.all_eq_true.1 hN i (List.mem_range.2 him)
    have next : ∀ v w', w.grownBy w' r → (i ≠ c → Gr w w') → jAt js i v w' → (isAl o = true → v = .pointer (some ⟨w.heap.size, 0, none⟩) ∧ w.heap.size < w'.heap.size) → wpAny P .any ops Q (n + (ops.size - m)) (L.setIfInBounds i true) (a.put o.dst v) w' := by
      intro v w' g gN hJ hA
      rw [hdst]
      have nx := Nx.put W.ok hdN v
      refine ih (U.erase i) (by rw [List.length_erase_of_mem hiU, hn]; rfl) (L.setIfInBounds i true) _ w' ?_
      refine ⟨nx.ok, gb_gb W.gr g, fun hcl => ?_, fun t ht => ?_, by simp [W.size], ?_, W.nodup.erase _, ?_, fun j hj => W.lt j (List.mem_of_mem_erase hj), ?_, ?_, ?_, ?_⟩
      · rw [getD_set hiL] at hcl
        by_cases q : i = c
        · rw [if_pos q] at hcl; cases hcl
        · rw [if_neg q] at hcl
          exact (W.gr0 hcl).trans (gN q)
      · have := List.all_eq_true.1 ht _ (fd_mem ho him hdst)
        rw [Bool.not_eq_true'] at this
        exact (nx.oth t this).trans (W.old t ht)
      · intro k ok hk hok e he hbd
        rw [getD_set hiL] at hk ⊢
        split
        · rfl
        · by_cases q : i = k
          · subst q
            obtain rfl : o = ok := Option.some.inj (ho.symm.trans hok)
            exact hall e he hbd
          · rw [if_neg q] at hk
            exact W.closed k ok hk hok e he hbd
      · intro j hj
        rw [getD_set hiL, W.nodup.mem_erase_iff]
        by_cases q : i = j
        · subst q; simp
        · rw [if_neg q, W.un j hj]
          exact ⟨fun h => ⟨fun e => q e.symm, h⟩, fun h => h.2⟩
      · intro j hj
        rw [getD_set hiL, if_neg (by omega)]
        exact W.tail j hj
      · intro j hj hl
        by_cases q : i = j
        · subst q
          rw [nx.at_]
          exact hJ
        · rw [getD_set hiL, if_neg q] at hl
          have h1 := W.js j hj hl
          rw [nx.oth _ (by
            have := hdd i j him hj q
            cases e : Nat.beq (dstAt ops j) (dstAt ops i)
            · rfl
            · exact absurd (Nat.eq_of_beq_eq_true e) this)]
          by_cases qc : j = c
          · subst qc
            exact R.monoC _ _ _ (gN q) h1
          · exact R.mono j _ _ _ qc g h1
      · intro j k hj hk hjk hlj hlk haj hak
        have other : ∀ j, j < m → i ≠ j → (L.setIfInBounds i true).getD j false = true → L.getD j false = true ∧ (a.put (some (dstAt ops i)) v).eval (.tmp (dstAt ops j)) = a.eval (.tmp (dstAt ops j)) := by
          intro j hj q hl
          rw [getD_set hiL, if_neg q] at hl
          refine ⟨hl, nx.oth _ ?_⟩
          have := hdd i j him hj q
          cases e : Nat.beq (dstAt ops j) (dstAt ops i)
          · rfl
          · exact absurd (Nat.eq_of_beq_eq_true e) this
        have hio : ∀ q : alAt ops i = true, isAl o = true := fun q => by unfold alAt at q; rw [ho] at q; exact q
        by_cases q1 : i = j
        · subst q1
          obtain ⟨hl, he⟩ := other k hk hjk hlk
          obtain ⟨b, h1, h2⟩ := W.low k hk hl hak
          obtain ⟨h3, h4⟩ := hA (hio haj)
          exact ⟨_, b, by rw [nx.at_, h3], by rw [he]; exact h1, by omega⟩
        · by_cases q2 : i = k
          · subst q2
            obtain ⟨hl, he⟩ := other j hj q1 hlj
            obtain ⟨b, h1, h2⟩ := W.low j hj hl haj
            obtain ⟨h3, h4⟩ := hA (hio hak)
            exact ⟨b, _, by rw [he]; exact h1, by rw [nx.at_, h3], by omega⟩
          · obtain ⟨hl, he⟩ := other j hj q1 hlj
            obtain ⟨hl', he'⟩ := other k hk q2 hlk
            obtain ⟨b, b', h1, h2, h3⟩ := W.dis j k hj hk hjk hl hl' haj hak
            exact ⟨b, b', by rw [he]; exact h1, by rw [he']; exact h2, h3⟩
      · intro j hj hl haj
        by_cases q : i = j
        · subst q
          have hio : isAl o = true := by unfold alAt at haj; rw [ho] at haj; exact haj
          obtain ⟨h3, h4⟩ := hA hio
          exact ⟨_, by rw [nx.at_, h3], h4⟩
        · rw [getD_set hiL, if_neg q] at hl
          obtain ⟨b, h1, h2⟩ := W.low j hj hl haj
          refine ⟨b, ?_, Nat.lt_of_lt_of_le h2 g.size⟩
          rw [nx.oth _ (by
            have := hdd i j him hj q
            cases e : Nat.beq (dstAt ops j) (dstAt ops i)
            · rfl
            · exact absurd (Nat.eq_of_beq_eq_true e) this)]
          exact h1
    unfold wpOp
    rw [ho]
    by_cases qc : i = c
    · have hdoes : DoesC P ops Q r (jAt js i) o a w := by
        subst qc
        exact R.doesC o him ho a w hpre
      unfold DoesC at hdoes
      obtain ⟨hnal, hdoes⟩ := hdoes
      by_cases hw : Region.wanted o (yielded ops a.tmps) = true
      · rw [if_pos hw] at hdoes
        simp only [hw, if_true]
        left
        refine Oper.wp_mono ?_ hdoes
        rintro a' w' ⟨v, rfl, g, hj⟩
        exact next v w' g (fun e => absurd qc e) hj (fun e => by rw [hnal] at e; cases e)
      · rw [if_neg hw] at hdoes
        simp only [hw, if_false, Bool.false_eq_true]
        exact next undef w gb_self (fun _ => Gr.refl w) hdoes (fun e => by rw [hnal] at e; cases e)
    · have hdoes := R.does i o him qc ho a w hpre
      unfold Does at hdoes
      by_cases hw : Region.wanted o (yielded ops a.tmps) = true
      · rw [if_pos hw] at hdoes
        simp only [hw, if_true]
        left
        refine Oper.wp_mono ?_ hdoes
        rintro a' w' ⟨v, rfl, g, hj, hA⟩
        exact next v w' (gb_of g) (fun _ => g) hj hA
      · rw [if_neg hw] at hdoes
        simp only [hw, if_false, Bool.false_eq_true]
        exact next undef w gb_self (fun _ => Gr.refl w) hdoes.1 (fun e => by rw [hdoes.2] at e; cases e)
/-- a region that draws its order -/
theorem RegD.run {id m : Nat} {js : Js} {a : Act} {w : World} (R : RegD P ops Q N a w.drew r c m m js) {k : Nat} {L : Array Bool} (hk : ops.size - m = k) (hL : firsts ops.size m = L) (hf : P.follows .mixedOrders = true) (ok : Ok N a) (hs : shape ops m = true) (hN : ((List.range m).all fun i => Nat.blt (dstAt ops i) N) = true)
    (hend : ∀ a' w', PostD ops m js N a w.drew r a' w' → wpAny P .any ops Q k L a' w') : (Code.region id ops true).wp P Q a w := by
  subst hk hL
  refine wp_region_any hf ?_
  have hm := (shape_spec hs).1
  have h := R.way hs hN hend (List.range m) (Array.replicate ops.size false) a w.drew
    { ok := ok, gr := gb_self, gr0 := fun _ => Gr.refl _, old := fun _ _ => rfl, size := by simp
      closed := fun i o h => by rw [replicate_getD] at h; cases h
      nodup := List.nodup_range
      un := fun j hj => by rw [replicate_getD]; simp [hj]
      lt := fun j hj => List.mem_range.1 hj
      tail := fun j _ => replicate_getD _ _
      js := fun j _ h => by rw [replicate_getD] at h; cases h
      dis := fun i j _ _ _ h => by rw [replicate_getD] at h; cases h
      low := fun i _ h => by rw [replicate_getD] at h; cases h }
  rw [List.length_range, Nat.add_sub_cancel' hm] at h
  exact h
end
end Gx

/- Parts: as they lie in memory, and what they say. -/
set_option linter.unusedVariables false
set_option linter.unusedSimpArgs false
namespace Rm
open Go Go.RowKit Gx
/-- where a function stops -/
def ixF {E : Type} (p : E → Bool) : List E → Nat → Int
  | [], _ => -1
  | x :: r, i => if p x then (i : Int) else ixF p r (i + 1)
theorem ixF_none {E : Type} {p : E → Bool} : ∀ (K : List E) (i : Nat), (∀ x ∈ K, p x = false) → ixF p K i = -1 := by
  intro K
  induction K with
  | nil => intro i _; rfl
  | cons a K ih =>
    intro i h
    unfold ixF
    rw [h a (List.mem_cons_self ..)]
    exact ih (i + 1) fun x hx => h x (List.mem_cons_of_mem _ hx)
theorem ixF_some {E : Type} {p : E → Bool} : ∀ (K : List E) (i j : Nat) (x : E), K[j]? = some x → p x = true → (∀ k y, k < j → K[k]? = some y → p y = false) → ixF p K i = ((i + j : Nat) : Int) := by
  intro K
  induction K with
  | nil => intro i j x h; simp at h
  | cons a K ih =>
    intro i j x h hp hb
    unfold ixF
    cases j with
    | zero => simp at h; subst h; rw [if_pos hp]; rfl
    | succ j =>
      rw [hb 0 a (by omega) (by simp)]
      simp only [Bool.false_eq_true, if_false]
      rw [ih (i + 1) j x (by simpa using h) hp (fun k y hk hy => hb (k + 1) y (by omega) (by simpa using hy)), show i + 1 + j = i + (j + 1) by omega]
theorem ixF_any {E : Type} (p : E → Bool) : ∀ (K : List E) (i : Nat), decide ((0 : Int) ≤ ixF p K i) = K.any p := by
  intro K
  induction K with
  | nil => intro i; rfl
  | cons a K ih =>
    intro i
    unfold ixF
    cases h : p a
    · simp only [Bool.false_eq_true, if_false, List.any_cons, h, Bool.false_or]; exact ih (i + 1)
    · simp only [if_true, List.any_cons, h, Bool.true_or]; simp
/-- the first i are kept where the predicate says no, the others lie as they lay -/
structure DelAt {E : Type} (p : E → Bool) (K M : List E) (i j : Nat) : Prop where
  len : M.length = K.length
  lt : i < j
  jle : j ≤ K.length
  pre : M.take i = (K.take j).filter (fun x => !p x)
  rest : ∀ q, j ≤ q → M[q]? = K[q]?
theorem DelAt.start {E : Type} {p : E → Bool} {K : List E} {j : Nat} {x : E} (h : K[j]? = some x) (hp : p x = true) (hb : ∀ k y, k < j → K[k]? = some y → p y = false) : DelAt p K K j (j + 1) where
  len := rfl
  lt := by omega
  jle := by have := (List.getElem?_eq_some_iff.1 h).1; omega
  pre := by
    have e : (K.take j).filter (fun x => !p x) = K.take j := by
      rw [List.filter_eq_self]
      intro y hy
      obtain ⟨k, hk⟩ := List.getElem?_of_mem hy
      have hlt : k < j := by
        have := (List.getElem?_eq_some_iff.1 hk).1
        rw [List.length_take] at this; omega
      rw [List.getElem?_take_of_lt hlt] at hk
      simp [hb k y hlt hk]
    rw [List.take_add_one, h, List.filter_append, e]
    simp [hp]
  rest q _ := rfl
theorem DelAt.skip {E : Type} {p : E → Bool} {K M : List E} {i j : Nat} {x : E} (h : DelAt p K M i j) (hx : K[j]? = some x) (hp : p x = true) : DelAt p K M i (j + 1) where
  len := h.len
  lt := by have := h.lt; omega
  jle := by have := (List.getElem?_eq_some_iff.1 hx).1; omega
  pre := by rw [h.pre, List.take_add_one, hx, List.filter_append]; simp [hp]
  rest q hq := h.rest q (by omega)
theorem DelAt.keep {E : Type} {p : E → Bool} {K M : List E} {i j : Nat} {x : E} (h : DelAt p K M i j) (hx : K[j]? = some x) (hp : p x = false) : DelAt p K (M.set i x) (i + 1) (j + 1) where
  len := by rw [List.length_set]; exact h.len
  lt := by have := h.lt; omega
  jle := by have := (List.getElem?_eq_some_iff.1 hx).1; omega
  pre := by
    have hj := (List.getElem?_eq_some_iff.1 hx).1
    have hi : i < M.length := by have := h.lt; have := h.len; omega
    rw [List.take_add_one, List.take_set_of_le (Nat.le_refl _), h.pre, List.getElem?_set_self hi, List.take_add_one, hx, List.filter_append]
    simp [hp]
  rest q hq := by
    have := h.lt
    rw [List.getElem?_set_ne (by omega)]
    exact h.rest q (by omega)
theorem DelAt.end_ {E : Type} {p : E → Bool} {K M : List E} {i : Nat} (h : DelAt p K M i K.length) : M.take i = K.filter (fun x => !p x) := by
  rw [h.pre, List.take_length]
theorem DelAt.count {E : Type} {p : E → Bool} {K M : List E} {i : Nat} (h : DelAt p K M i K.length) : i = (K.filter (fun x => !p x)).length := by
  have := h.lt
  have := h.len
  rw [← h.end_, List.length_take]; omega
end Rm

/- The document's sets of dots, a bit a dot: the plain side, Has. -/
namespace Rm
open Go Go.RowKit
/-- the words of a set, as an array -/
def wArr (X : Nat → Nat) : Array Value := ((List.range 80).map fun i => Value.int .u64 (X i : Nat)).toArray
theorem wArr_size (X : Nat → Nat) : (wArr X).size = 80 := by simp [wArr]
theorem wArr_at (X : Nat → Nat) (i : Nat) (h : i < 80) : (wArr X)[i]? = some (.int .u64 (X i : Nat)) := by simp [wArr, h]
theorem wArr_ext {X Y : Nat → Nat} (h : ∀ i, i < 80 → X i = Y i) : wArr X = wArr Y := by
  unfold wArr
  congr 1
  apply List.map_congr_left
  intro i hi
  rw [h i (List.mem_range.1 hi)]
theorem wArr_set (X : Nat → Nat) (k n : Nat) : (wArr X).setIfInBounds k (.int .u64 (n : Nat)) = wArr (fun i => if i = k then n else X i) := by
  unfold wArr
  rw [List.setIfInBounds_toArray]
  congr 1
  apply List.ext_getElem?
  intro i
  rw [List.getElem?_set, List.getElem?_map, List.getElem?_map]
  by_cases hi : i < 80
  · rw [List.getElem?_range hi]
    by_cases e : k = i
    · subst e; simp [hi]
    · have e' : ¬ i = k := fun q => e q.symm
      simp [e, e']
  · rw [List.getElem?_eq_none (by simp; omega)]
    by_cases e : k = i
    · subst e; simp [hi]
    · simp [e]
theorem wArr_one (X : Nat → Nat) : (wArr X).all (·.oneCell') = true := by
  simp only [wArr, List.all_toArray, List.all_map, List.all_eq_true]
  intro x _
  rfl
/-- what the words say -/
def dsX (X : Nat → Nat) : DS := fun s c => (X (s * 16 + c / 64)).testBit (c % 64)
def OkX (X : Nat → Nat) : Prop := ∀ i, X i < 2 ^ 64
def withX (X : Nat → Nat) (s c : Nat) : Nat → Nat := fun i => if i = s * 16 + c / 64 then X i ||| 2 ^ (c % 64) else X i
theorem OkX.with {X : Nat → Nat} (h : OkX X) (s c : Nat) : OkX (withX X s c) := by
  intro i
  unfold withX
  split
  · exact Nat.or_lt_two_pow (h i) (Nat.pow_lt_pow_right (by omega) (by omega))
  · exact h i
theorem dsX_with (X : Nat → Nat) (s c t n : Nat) (hc : c < 1024) (hn : n < 1024) : dsX (withX X s c) t n = (dsX X t n || decide (t = s ∧ n = c)) := by
  unfold dsX withX
  by_cases e : t * 16 + n / 64 = s * 16 + c / 64
  · rw [if_pos e, Nat.testBit_or, Nat.testBit_two_pow]
    congr 1
    rw [Bool.eq_iff_iff]
    simp only [decide_eq_true_eq]
    omega
  · rw [if_neg e]
    have : decide (t = s ∧ n = c) = false := by
      rw [decide_eq_false_iff_not]
      rintro ⟨rfl, rfl⟩
      exact e rfl
    rw [this, Bool.or_false]
theorem OkX.or {X Y : Nat → Nat} (h : OkX X) (k : OkX Y) : OkX (fun i => X i ||| Y i) := fun i => Nat.or_lt_two_pow (h i) (k i)
theorem OkX.and {X Y : Nat → Nat} (k : OkX Y) : OkX (fun i => X i &&& Y i) := fun i => Nat.and_lt_two_pow _ (k i)
theorem OkX.zero : OkX (fun _ => 0) := fun _ => Nat.two_pow_pos 64
theorem dsX_zero (s c : Nat) : dsX (fun _ => 0) s c = false := by simp [dsX]
end Rm
namespace Go.Proofs.Ytbpkfkljeibjoaa
open Go.RowKit Rm
set_option linter.unusedVariables false
set_option linter.unusedSimpArgs false
theorem quo64 (t : TypeId) (c : Nat) (hc : c < 1024) (wx : World) : (binOp .quo t (.int .i64 (c : Int)) (.int .i64 64)).run Try.prog wx = .ok (.int .i64 ((c / 64 : Nat) : Int)) wx := by
  have h1 : (c : Int).tdiv 64 = ((c / 64 : Nat) : Int) := by rw [Int.tdiv_eq_ediv_of_nonneg (by omega)]; omega
  have h2 : IntKind.i64.wrap ((c / 64 : Nat) : Int) = ((c / 64 : Nat) : Int) := IntWalk.i64_in _ (by omega)
  simp only [binOp, Op.intDiv]
  rw [h1, h2]
  rfl
theorem rem64 (t : TypeId) (c : Nat) (hc : c < 1024) (wx : World) : (binOp .rem t (.int .i64 (c : Int)) (.int .i64 64)).run Try.prog wx = .ok (.int .i64 ((c % 64 : Nat) : Int)) wx := by
  have h1 : (c : Int).tmod 64 = ((c % 64 : Nat) : Int) := by rw [Int.tmod_eq_emod_of_nonneg (by omega)]; omega
  simp only [binOp, Op.intDiv]
  rw [h1]
  rfl
theorem shr64 (t : TypeId) (x n : Nat) (hn : n < 64) (wx : World) : (binOp .shr t (.int .u64 (x : Int)) (.int .i64 (n : Int))).run Try.prog wx = .ok (.int .u64 ((x / 2 ^ n : Nat) : Int)) wx := by
  have h1 : min (n : Int).toNat IntKind.u64.bits = n := by simp [IntKind.bits]; omega
  have h2 : (x : Int).fdiv (2 ^ n) = ((x / 2 ^ n : Nat) : Int) := by
    rw [show (2 : Int) ^ n = ((2 ^ n : Nat) : Int) by simp]
    rw [Int.fdiv_eq_ediv_of_nonneg _ (Int.natCast_nonneg _)]
    rfl
  simp only [binOp, Op.shift]
  rw [if_neg (by omega), h1, h2]
  rfl
theorem shl64 (t : TypeId) (n : Nat) (hn : n < 64) (wx : World) : (binOp .shl t (.int .u64 1) (.int .i64 (n : Int))).run Try.prog wx = .ok (.int .u64 ((2 ^ n : Nat) : Int)) wx := by
  have h1 : min (n : Int).toNat IntKind.u64.bits = n := by simp [IntKind.bits]; omega
  have h3 : 2 ^ n < 2 ^ 64 := Nat.pow_lt_pow_right (by omega) hn
  have h2 : IntKind.u64.wrap (1 * 2 ^ n) = ((2 ^ n : Nat) : Int) := by
    rw [Int.one_mul, show (2 : Int) ^ n = ((2 ^ n : Nat) : Int) by simp]
    exact IntWalk.u64_in _ ⟨Int.natCast_nonneg _, by omega⟩
  simp only [binOp, Op.shift]
  rw [if_neg (by omega), h1, h2]
  rfl
theorem toNat64 (x : Nat) (hx : x < 2 ^ 64) : (BitVec.ofInt 64 (x : Int)).toNat = x := by simp [BitVec.toNat_ofInt]; omega
theorem bits_and (x y : Nat) (hx : x < 2 ^ 64) (hy : y < 2 ^ 64) : bits .and .u64 (x : Int) (y : Int) = ((x &&& y : Nat) : Int) := by
  have h1 : (BitVec.ofInt 64 (x : Int) &&& BitVec.ofInt 64 (y : Int)).toNat = x &&& y := by rw [BitVec.toNat_and, toNat64 x hx, toNat64 y hy]
  have h4 : x &&& y < 2 ^ 64 := Nat.and_lt_two_pow _ hy
  have h2 : IntKind.u64.wrap ((x &&& y : Nat) : Int) = ((x &&& y : Nat) : Int) := IntWalk.u64_in _ ⟨Int.natCast_nonneg _, by omega⟩
  have h3 : bits .and .u64 (x : Int) (y : Int) = IntKind.u64.wrap ((BitVec.ofInt 64 (x : Int) &&& BitVec.ofInt 64 (y : Int)).toNat : Nat) := rfl
  rw [h3, h1, h2]
theorem bits_or (x y : Nat) (hx : x < 2 ^ 64) (hy : y < 2 ^ 64) : bits .or .u64 (x : Int) (y : Int) = ((x ||| y : Nat) : Int) := by
  have h1 : (BitVec.ofInt 64 (x : Int) ||| BitVec.ofInt 64 (y : Int)).toNat = x ||| y := by rw [BitVec.toNat_or, toNat64 x hx, toNat64 y hy]
  have h4 : x ||| y < 2 ^ 64 := Nat.or_lt_two_pow hx hy
  have h2 : IntKind.u64.wrap ((x ||| y : Nat) : Int) = ((x ||| y : Nat) : Int) := IntWalk.u64_in _ ⟨Int.natCast_nonneg _, by omega⟩
  have h3 : bits .or .u64 (x : Int) (y : Int) = IntKind.u64.wrap ((BitVec.ofInt 64 (x : Int) ||| BitVec.ofInt 64 (y : Int)).toNat : Nat) := rfl
  rw [h3, h1, h2]
theorem shr_int (x n : Nat) : (x : Int) / 2 ^ n = ((x / 2 ^ n : Nat) : Int) := by
  rw [show (2 : Int) ^ n = ((2 ^ n : Nat) : Int) by simp]
  rfl
theorem bit_int (x n : Nat) (hx : x < 2 ^ 64) : (bits .and .u64 ((x : Int) / 2 ^ n) 1 == 1) = x.testBit n := by
  have h1 : bits .and .u64 ((x / 2 ^ n : Nat) : Int) ((1 : Nat) : Int) = _ := bits_and (x / 2 ^ n) 1 (Nat.lt_of_le_of_lt (Nat.div_le_self _ _) hx) (by decide)
  rw [shr_int, show (1 : Int) = ((1 : Nat) : Int) from rfl, h1, Nat.testBit_eq_decide_div_mod_eq, Nat.and_one_is_mod, Bool.eq_iff_iff]
  simp only [beq_iff_eq, decide_eq_true_eq]
  omega
set_option maxHeartbeats 1000000 in
set_option maxRecDepth 100000 in
theorem rhas_any (X : Nat → Nat) (s c : Nat) (w : World) (hX : OkX X) (hs : s < 5) (hc : c < 1024) :
    Calls Try.prog 33 #[.agg (wArr X), .agg #[.int .i64 (s : Int), .int .i64 (c : Int)]] w fun e w' => e = .returned (.bool (dsX X s c)) ∧ Gr w w' := by
  have hi : s * 16 + c / 64 < 80 := by omega
  have G1 := Lib.hid (((Gr.refl w).alloc (.cells (wArr X) 61)).alloc (.cells #[.int .i64 (s : Int), .int .i64 (c : Int)] 24))
  have c0 : ((w.alloc (.cells (wArr X) 61)).alloc (.cells #[.int .i64 (s : Int), .int .i64 (c : Int)] 24)).cell? ⟨w.heap.size, s * 16 + c / 64, none⟩ = some (.int .u64 (X (s * 16 + c / 64) : Nat)) := by
    rw [cell_of_row _ _ _ _ _ _ (heap_alloc2_old _ _ _), wArr_at _ _ hi]
  have T1 := Two.new (w.alloc (.cells (wArr X) 61)) s c 24
  rw [World.size_alloc] at T1
  have HD : Hid (dsX X s c = (X (s * 16 + c / 64)).testBit (c % 64)) := rfl
  have hlt := hX (s * 16 + c / 64)
  generalize dsX X s c = r at *
  generalize X (s * 16 + c / 64) = x at *
  have hsI : (s : Int) < 5 := by omega
  have hcI : (c : Int) < 1024 := by omega
  have hq := fun wx => quo64 3 c hc wx
  have hm := fun wx => rem64 3 c hc wx
  have hsh := fun wx => shr64 58 x (c % 64) (by omega) wx
  have HR : Hid (r = (bits .and .u64 ((x : Int) / 2 ^ (c % 64)) 1 == 1)) := by
    show _ = _
    rw [HD.out, bit_int x _ hlt]
  have hdq : ((c / 64 : Nat) : Int) < 16 := by omega
  go_enter Try.func33, Try.ntmps33
  go_wp2_with fail
  generalize (w.alloc (.cells (wArr X) 61)).alloc (.cells #[.int .i64 (s : Int), .int .i64 (c : Int)] 24) = w1 at *
  obtain ⟨t0, t1, t2⟩ := T1
  go_quiet (fail)
  go_wp2
  go_ret
  exact ⟨by rw [HR.out]; rfl, G1.out.drewN _⟩
end Go.Proofs.Ytbpkfkljeibjoaa

/- The document's sets of dots: With. -/
set_option linter.unusedVariables false
set_option linter.unusedSimpArgs false
namespace Go.Proofs.Ytbpkfkljeibjoaa
open Go.RowKit Rm
theorem alz {t : TypeId} {cs : Array Value} (hz : (Try.prog.info? t).bind (·.zero) = some (.agg cs)) (ev : Operand → Value) (o : Oper) (ho : o.op = .alloc t) (w : World) (N : Nat) (hN : w.heap.size = N) :
    (execOp ev o).run Try.prog w = .ok (.value (.pointer (some ⟨N, 0, none⟩))) (w.alloc (.cells cs t)) := by
  subst hN
  cases hq : Try.prog.info? t with
  | none => rw [hq] at hz; simp at hz
  | some i =>
    rw [hq] at hz
    simp only [Option.bind_some] at hz
    unfold execOp
    simp [ho, Instr.alloc, Sem.run_bind, zeroValue, typeInfo, hq, hz, newVar, newRow, Value.cells]
theorem dots_zero : (Try.prog.info? 61).bind (·.zero) = some (.agg (wArr fun _ => 0)) := by kernel_rfl
theorem dots_size : (Try.prog.info? 61).map (·.size) = some 80 := by kernel_rfl
theorem dots_sz (X : Nat → Nat) : (Try.prog.info? 61).map (·.size) = some (wArr X).size := by rw [wArr_size]; exact dots_size
theorem ahn (w : World) (o : Obj) (n : Nat) (h : n = w.heap.size) : (w.alloc o).heap[n]? = some o := by subst h; show (w.heap.push o)[w.heap.size]? = _; simp
theorem aho (w : World) (o : Obj) (n : Nat) (h : n < w.heap.size) : (w.alloc o).heap[n]? = w.heap[n]? := by show (w.heap.push o)[n]? = _; rw [Array.getElem?_push_lt h, Array.getElem?_eq_getElem h]
theorem wArr_put {w : World} {B k n : Nat} {X : Nat → Nat} (h : w.heap[B]? = some (.cells (wArr X) 61 (0, 0))) : (w.setCell ⟨B, k, none⟩ (.int .u64 (n : Nat))).heap[B]? = some (.cells (wArr fun i => if i = k then n else X i) 61 (0, 0)) := by
  rw [← wArr_set]
  simp [World.setCell, Array.getElem?_modify, h]
theorem withX_eq (X : Nat → Nat) (s c : Nat) : (fun i => if i = s * 16 + c / 64 then X (s * 16 + c / 64) ||| 2 ^ (c % 64) else X i) = withX X s c := by
  funext i
  unfold withX
  by_cases e : i = s * 16 + c / 64
  · rw [if_pos e, if_pos e, e]
  · rw [if_neg e, if_neg e]
set_option maxHeartbeats 1000000 in
set_option maxRecDepth 100000 in
theorem rwith_any (X : Nat → Nat) (s c : Nat) (w : World) (hX : OkX X) (hs : s < 5) (hc : c < 1024) :
    Calls Try.prog 40 #[.agg (wArr X), .agg #[.int .i64 (s : Int), .int .i64 (c : Int)]] w fun e w' => e = .returned (.agg (wArr (withX X s c))) ∧ Gr w w' := by
  have hi : s * 16 + c / 64 < 80 := by omega
  have PZ := Lib.hid (fun (ev : Operand → Value) (o : Oper) (ho : o.op = .alloc 61) (wx : World) (N : Nat) (hN : wx.heap.size = N) => alz dots_zero ev o ho wx N hN)
  have G1 := Lib.hid ((((Gr.refl w).alloc (.cells (wArr X) 61)).alloc (.cells #[.int .i64 (s : Int), .int .i64 (c : Int)] 24)).alloc (.cells (wArr fun _ => 0) 61))
  have B0 : Hid ((((w.alloc (.cells (wArr X) 61)).alloc (.cells #[.int .i64 (s : Int), .int .i64 (c : Int)] 24)).alloc (.cells (wArr fun _ => 0) 61)).heap[w.heap.size]? = some (.cells (wArr X) 61 (0, 0))) := (aho _ _ _ (by simp; omega)).trans ((aho _ _ _ (by simp)).trans (ahn _ _ _ rfl))
  have B2 : Hid ((((w.alloc (.cells (wArr X) 61)).alloc (.cells #[.int .i64 (s : Int), .int .i64 (c : Int)] 24)).alloc (.cells (wArr fun _ => 0) 61)).heap[w.heap.size + 1 + 1]? = some (.cells (wArr fun _ => 0) 61 (0, 0))) := ahn _ _ _ (by simp)
  have T1 := (Two.new (w.alloc (.cells (wArr X) 61)) s c 24).alloc (.cells (wArr fun _ => 0) 61)
  rw [World.size_alloc] at T1
  have hlt := hX (s * 16 + c / 64)
  have HW := Lib.hid (withX_eq X s c)
  have hsI : (s : Int) < 5 := by omega
  have hcI : (c : Int) < 1024 := by omega
  have hm2 : 2 ^ (c % 64) < 2 ^ 64 := Nat.pow_lt_pow_right (by omega) (by omega)
  have hsh := fun wx => shl64 58 (c % 64) (by omega) wx
  have hr64 : c % 64 < 64 := by omega
  have hq16 : c / 64 < 16 := by omega
  have hcq : (c : Int) / 64 = ((c / 64 : Nat) : Int) := by omega
  have hcr : (c : Int) % 64 = ((c % 64 : Nat) : Int) := by omega
  have hct : (c : Int).tmod 64 = ((c % 64 : Nat) : Int) := by rw [Int.tmod_eq_emod_of_nonneg (by omega)]; omega
  generalize c / 64 = q at *
  generalize c % 64 = r at *
  have hwq : IntKind.i64.wrap (q : Int) = (q : Int) := IntWalk.i64_in _ (by omega)
  have hdq : (q : Int) < 16 := by omega
  have hdr : (r : Int) < 64 := by omega
  have hbo : bits .or .u64 ((X (s * 16 + q) : Nat) : Int) ((2 ^ r : Nat) : Int) = ((X (s * 16 + q) ||| 2 ^ r : Nat) : Int) := bits_or (X (s * 16 + q)) (2 ^ r) hlt hm2
  generalize hx : X (s * 16 + q) = x at *
  generalize hp : 2 ^ r = p at *
  have hx64 : (x : Int) < 18446744073709551616 := by omega
  have hp64 : (p : Int) < 18446744073709551616 := by omega
  generalize hz : x ||| p = z at *
  have hwp : IntKind.u64.wrap ((2 : Int) ^ r) = (p : Int) := by rw [← hp, show (2 : Int) ^ r = ((2 ^ r : Nat) : Int) by simp]; exact IntWalk.u64_in _ ⟨Int.natCast_nonneg _, by omega⟩
  go_enter Try.func40, Try.ntmps40
  go_wp2_with (refine Go.Great.wpList_allocTo rfl _ rfl _ _ (PZ.out _ _ rfl _ (w.heap.size + 1 + 1) (by simp)) ?_)
  generalize ((w.alloc (.cells (wArr X) 61)).alloc (.cells #[.int .i64 (s : Int), .int .i64 (c : Int)] 24)).alloc (.cells (wArr fun _ => 0) 61) = w1 at *
  obtain ⟨t0, t1, t2⟩ := T1
  have c0 : w1.cell? ⟨w.heap.size, s * 16 + q, none⟩ = some (.int .u64 (x : Nat)) := by
    rw [cell_of_row _ _ _ _ _ _ B0.out, wArr_at _ _ hi, hx]
  have f0 : w1.frozen? ⟨w.heap.size, s * 16 + q, none⟩ = false := by simp [World.frozen?, B0.out]
  have HX := Lib.hid hx
  have HZ := Lib.hid hz
  clear hx hz hp
  go_still_tail 15, (by kernel_rfl)
  repeat still_step
  change wpList _ _ _ _ _ w1.drew
  have K0 : Hid ((w1.setCell ⟨w.heap.size, s * 16 + q, none⟩ (.int .u64 (z : Nat))).drew.heap[w.heap.size]? = some (.cells (wArr (withX X s c)) 61 (0, 0))) := by
    have := wArr_put (w := w1) (k := s * 16 + q) (n := z) B0.out
    rw [HW.out] at this
    exact this
  have K2 : Hid ((w1.setCell ⟨w.heap.size, s * 16 + q, none⟩ (.int .u64 (z : Nat))).drew.heap[w.heap.size + 1 + 1]? = some (.cells (wArr fun _ => 0) 61 (0, 0))) := (Below.heap_setCell w1 _ _ _ (by show w.heap.size + 1 + 1 ≠ w.heap.size; omega)).trans B2.out
  have GF : Hid (Gr w (w1.setCell ⟨w.heap.size, s * 16 + q, none⟩ (.int .u64 (z : Nat))).drew) := (G1.out.setCell (Nat.le_refl _) _).drew
  have HSZ := Lib.hid (dots_sz (withX X s c))
  have HON := Lib.hid (wArr_one (withX X s c))
  have HZZ : Hid ((wArr fun _ => 0).size = (wArr (withX X s c)).size) := by show _ = _; rw [wArr_size, wArr_size]
  generalize hA : wArr (withX X s c) = A at *
  generalize wArr (fun _ => 0) = Z at *
  go_wp2_with (first
    | (refine Go.wpList_load_row rfl 61 (.tmp 2) rfl w.heap.size rfl 61 A (0, 0) _ K0.out Try.underlying61 rfl HSZ.out ?_)
    | (refine Go.wpList_store_row rfl 61 (.tmp 4) (.tmp 20) rfl (w.heap.size + 1 + 1) A rfl rfl 61 Z K2.out HSZ.out HZZ.out HON.out ?_))
  refine bodyPost_ret (v := .agg A) (results_cell_row Try.results40 _ _ (w.heap.size + 1 + 1) 61 _ (0, 0) _ rfl (setRow_heap _ _ _ _ _ _ K2.out) Try.underlying61 rfl HSZ.out) rfl ⟨by rw [hA], ?_⟩
  exact Go.below_setRow GF.out (by omega) _
end Go.Proofs.Ytbpkfkljeibjoaa

/- The document's sets of dots: Join, Meet. -/
set_option linter.unusedVariables false
set_option linter.unusedSimpArgs false
namespace Rm
/-- two rows of words, done up to a number -/
def upto (X Y : Nat → Nat) (f : Nat → Nat → Nat) (n : Nat) : Nat → Nat := fun j => if j < n then f (X j) (Y j) else X j
end Rm
namespace Gx
open Go Go.RowKit Rm
section
variable {P : Program} {ev : Operand → Value} {d : Option Tmp} {ty : TypeId} {p : String} {af : Array Edge} {g : Option (Nat × Bool)} {w : World}
theorem o_orU {t t' : TypeId} {x y : Operand} {i j : Nat} (hx : ev x = .int .u64 (i : Int)) (hy : ev y = .int .u64 (j : Int)) (hi : i < 2 ^ 64) (hj : j < 2 ^ 64) : (execOp ev (Oper.mk d (.binOp .or t x y t') ty p af g)).run P w = .ok (.value (.int .u64 ((i ||| j : Nat) : Int))) w := by
  have h := Go.Proofs.Ytbpkfkljeibjoaa.bits_or i j hi hj
  unfold execOp
  simp only [hx, hy, eqGuard, binOp, Sem.run_bind]
  rw [← h]
  rfl
end
end Gx
namespace Go.Proofs.Ytbpkfkljeibjoaa
open Go.RowKit Rm Gx
theorem upto_zero (X Y : Nat → Nat) (f : Nat → Nat → Nat) : upto X Y f 0 = X := by funext q; simp [upto]
theorem upto_lt (X Y : Nat → Nat) (f : Nat → Nat → Nat) (n j : Nat) (h : j < n) : upto X Y f n j = f (X j) (Y j) := if_pos h
theorem upto_get (X Y : Nat → Nat) (f : Nat → Nat → Nat) (n m : Nat) (h : m = n) (h8 : m < 80) : (wArr (upto X Y f n))[m]? = some (.int .u64 ((X m : Nat) : Int)) := by
  subst h
  rw [wArr_at _ _ h8]
  simp [upto]
theorem upto_put (X Y : Nat → Nat) (f : Nat → Nat → Nat) (n m : Nat) (h : m = n) : (wArr (upto X Y f n)).setIfInBounds m (.int .u64 ((f (X m) (Y m) : Nat) : Int)) = wArr (upto X Y f (n + 1)) := by
  subst h
  rw [wArr_set]
  congr 1
  funext q
  unfold upto
  rcases Nat.lt_trichotomy q m with h | h | h
  · rw [if_neg (by omega), if_pos h, if_pos (by omega)]
  · subst h; simp
  · rw [if_neg (by omega), if_neg (by omega), if_neg (by omega)]
set_option maxHeartbeats 8000000 in
set_option maxRecDepth 100000 in
theorem djoin_any (X Y : Nat → Nat) (hX : OkX X) (hY : OkX Y) (w : World) :
    Calls Try.prog 39 #[.agg (wArr X), .agg (wArr Y)] w fun e w' => e = .returned (.agg (wArr fun i => X i ||| Y i)) ∧ Gr w w' := by
  refine enter (N := 29) Try.func39 rfl rfl rfl (fun a0 ok0 h0 => ?_)
  have e0_0 : a0.eval (.tmp 0) = .agg (wArr X) := h0 0 _ rfl
  have e0_1 : a0.eval (.tmp 1) = .agg (wArr Y) := h0 1 _ rfl
  clear h0
  have G0 := Gr.refl w
  refine wp_seq_k (fun K1 hK1 => ?_)
  refine wp_region_lit ?_
  refine sal (cs := wArr X) ok0 rfl (wn _ rfl) rfl (o_box e0_0) (fun an2 w4 b3 W5 n2 => ?_)
  have l6 : w.heap.size ≤ b3 := by rw [W5.eq]; exact G0.size
  have G7 := G0.trans W5.gr
  refine sal (cs := wArr Y) n2.ok rfl (wn _ rfl) rfl (o_box (n2.ne rfl e0_1)) (fun an8 w10 b9 W11 n8 => ?_)
  have l12 : b3 < b9 := by rw [W11.eq]; exact W5.bk.lt
  have l13 : w.heap.size ≤ b9 := by rw [W11.eq]; exact G7.size
  have G14 := G7.trans W11.gr
  have B15 := W5.bk.gr W11.gr
  refine sal (cs := wArr (fun _ => 0)) n8.ok rfl (wn _ rfl) rfl (o_al (z := .agg (wArr (fun _ => 0))) dots_zero) (fun an16 w18 b17 W19 n16 => ?_)
  have l20 : b3 < b17 := by rw [W19.eq]; exact B15.lt
  have l21 : b9 < b17 := by rw [W19.eq]; exact W11.bk.lt
  have l22 : w.heap.size ≤ b17 := by rw [W19.eq]; exact G14.size
  have G23 := G14.trans W19.gr
  have B24 := B15.gr W19.gr
  have B25 := W11.bk.gr W19.gr
  refine wpList_nil ?_
  refine th_n (hK1 _ _ ?_)
  refine wp_seq_k (fun K26 hK26 => ?_)
  refine wp_seq_k (fun K27 hK27 => ?_)
  refine wp_region_lit ?_
  refine sv n16.ok rfl (wn _ rfl) rfl (o_mv ev_const) (fun an28 n28 => ?_)
  refine wpList_nil ?_
  refine th_n (hK27 _ _ ?_)
  refine wp_block ?_
  have e30 := n28.ne rfl (n16.ne rfl (n8.ne rfl n2.at_))
  refine lp (fun (nL : Nat) (aL : Act) (wL : World) => ∃ i : Nat, nL = 5 - i ∧ Ok 29 aL ∧ Gr w wL ∧ (aL.eval (.tmp 2) = .pointer (some ⟨b3, 0, none⟩)) ∧ (aL.eval (.tmp 3) = .pointer (some ⟨b9, 0, none⟩)) ∧ (aL.eval (.tmp 4) = .pointer (some ⟨b17, 0, none⟩)) ∧ (aL.eval (.tmp 7) = .int .i64 (i : Int)) ∧ (Bk wL b3 (wArr (upto X Y (· ||| ·) (i * 16))) 61) ∧ (Bk wL b9 (wArr Y) 61) ∧ (Bk wL b17 (wArr (fun _ => 0)) 61) ∧ (i ≤ 5)) _ ⟨0, rfl, n28.ok, G23, e30, (n28.ne rfl (n16.ne rfl n8.at_)), (n28.ne rfl n16.at_), n28.at_, (by rw [Nat.zero_mul, upto_zero]; exact B24), B25, W19.bk, by omega⟩ ?_
  rintro m31 aI29 w33 ⟨i, hmI29, okI29, GI29, s2I29, s3I29, s4I29, s7I29, kb3I29, kb9I29, kb17I29, hiI29⟩ KI29 hKI29
  refine wp_seq_k (fun K34 hK34 => ?_)
  refine wp_region_lit ?_
  refine sv okI29 rfl (wn _ rfl) rfl (o_ltI s7I29 ev_const) (fun an35 n35 => ?_)
  refine wpList_nil ?_
  refine th_n (hK34 _ _ ?_)
  refine wp_seq_k (fun K36 hK36 => ?_)
  by_cases c37 : (i : Int) < 5
  · refine wp_cond_true ((n35.at_).trans (congrArg Value.bool (decide_eq_true c37))) ?_
    refine wp_skip ?_
    refine th_n (hK36 _ _ ?_)
    refine wp_seq_k (fun K38 hK38 => ?_)
    refine wp_block ?_
    refine wp_seq_k (fun K39 hK39 => ?_)
    refine wp_region_lit ?_
    refine sv n35.ok rfl (wn _ rfl) rfl (o_mv (n35.ne rfl s7I29)) (fun an40 n40 => ?_)
    refine sv n40.ok rfl (wn _ rfl) rfl (o_as n40.at_) (fun an41 n41 => ?_)
    refine wpList_nil ?_
    refine th_n (hK39 _ _ ?_)
    refine wp_seq_k (fun K42 hK42 => ?_)
    refine wp_region_lit ?_
    refine sv n41.ok rfl (wn _ rfl) rfl (o_mv ev_const) (fun an43 n43 => ?_)
    refine wpList_nil ?_
    refine th_n (hK42 _ _ ?_)
    refine wp_block ?_
    have e45 := n43.ne rfl (n41.ne rfl (n40.ne rfl (n35.ne rfl s2I29)))
    have e46 := n43.ne rfl (n41.ne rfl (n40.ne rfl (n35.ne rfl s3I29)))
    have e47 := n43.ne rfl (n41.ne rfl (n40.ne rfl (n35.ne rfl s4I29)))
    have e48 := n43.ne rfl (n41.ne rfl (n40.ne rfl (n35.ne rfl s7I29)))
    refine lp (fun (nL : Nat) (aL : Act) (wL : World) => ∃ k : Nat, nL = 16 - k ∧ Ok 29 aL ∧ Gr w wL ∧ (aL.eval (.tmp 2) = .pointer (some ⟨b3, 0, none⟩)) ∧ (aL.eval (.tmp 3) = .pointer (some ⟨b9, 0, none⟩)) ∧ (aL.eval (.tmp 4) = .pointer (some ⟨b17, 0, none⟩)) ∧ (aL.eval (.tmp 5) = .int .i64 (i : Int)) ∧ (aL.eval (.tmp 7) = .int .i64 (i : Int)) ∧ (aL.eval (.tmp 10) = .int .i64 (k : Int)) ∧ (Bk wL b3 (wArr (upto X Y (· ||| ·) (i * 16 + k))) 61) ∧ (Bk wL b9 (wArr Y) 61) ∧ (Bk wL b17 (wArr (fun _ => 0)) 61) ∧ (k ≤ 16)) _ ⟨0, rfl, n43.ok, GI29, e45, e46, e47, (n43.ne rfl n41.at_), e48, n43.at_, kb3I29, kb9I29, kb17I29, by omega⟩ ?_
    rintro m49 aI44 w51 ⟨k, hmI44, okI44, GI44, s2I44, s3I44, s4I44, s5I44, s7I44, s10I44, kb3I44, kb9I44, kb17I44, hkI44⟩ KI44 hKI44
    refine wp_seq_k (fun K52 hK52 => ?_)
    refine wp_region_lit ?_
    refine sv okI44 rfl (wn _ rfl) rfl (o_ltI s10I44 ev_const) (fun an53 n53 => ?_)
    refine wpList_nil ?_
    refine th_n (hK52 _ _ ?_)
    refine wp_seq_k (fun K54 hK54 => ?_)
    by_cases c55 : (k : Int) < 16
    · refine wp_cond_true ((n53.at_).trans (congrArg Value.bool (decide_eq_true c55))) ?_
      refine wp_skip ?_
      refine th_n (hK54 _ _ ?_)
      refine wp_seq_k (fun K56 hK56 => ?_)
      refine wp_block ?_
      refine wp_seq_k (fun K57 hK57 => ?_)
      refine wp_region_lit ?_
      refine sv n53.ok rfl (wn _ rfl) rfl (o_mv (n53.ne rfl s10I44)) (fun an58 n58 => ?_)
      refine sv n58.ok rfl (wn _ rfl) rfl (o_as n58.at_) (fun an59 n59 => ?_)
      refine wpList_nil ?_
      refine th_n (hK57 _ _ ?_)
      refine reg_start (N := 29) (m := 13) (by kernel_rfl) (fun R600 => ?_)
      have e61 := n59.ne rfl (n58.ne rfl (n53.ne rfl s5I44))
      have R601 := R600.snoc (n' := 1) rfl (fun vJ _ => vJ = .int .i64 (i : Int)) rfl (fun _ _ _ _ h => h) (fun aS wS pS => by
          exact Does.val (wn _ rfl) (o_mv ((pS.old 5 rfl).trans e61)) (Gr.refl _) rfl rfl)
      have R602 := R601.snoc (n' := 2) rfl (fun vJ _ => vJ = .int .i64 (k : Int)) rfl (fun _ _ _ _ h => h) (fun aS wS pS => by
          exact Does.val (wn _ rfl) (o_mv ((pS.old 6 rfl).trans n59.at_)) (Gr.refl _) rfl rfl)
      have e62 := n59.ne rfl (n58.ne rfl (n53.ne rfl s2I44))
      have R603 := R602.snoc (n' := 3) rfl (fun vJ _ => vJ = .pointer (some ⟨b3, 0 + i * 16, none⟩)) rfl (fun _ _ _ _ h => h) (fun aS wS pS => by
          have eR60_0 : aS.eval (.tmp 13) = .int .i64 (i : Int) := pS.pre 0 rfl
          exact Does.val (wn _ rfl) (o_iaA (i := i) (s := 16) ((pS.old 2 rfl).trans e62) (eR60_0) Try.underlying61 (by kernel_rfl) (by omega)) (Gr.refl _) rfl rfl)
      have R604 := R603.snoc (n' := 4) rfl (fun vJ _ => vJ = .pointer (some ⟨b3, 0 + i * 16 + k * 1, none⟩)) rfl (fun _ _ _ _ h => h) (fun aS wS pS => by
          have eR60_1 : aS.eval (.tmp 14) = .int .i64 (k : Int) := pS.pre 1 rfl
          have eR60_2 : aS.eval (.tmp 15) = .pointer (some ⟨b3, 0 + i * 16, none⟩) := pS.pre 2 rfl
          exact Does.val (wn _ rfl) (o_iaA (i := k) (s := 1) (eR60_2) (eR60_1) Try.underlying59 (by kernel_rfl) (by omega)) (Gr.refl _) rfl rfl)
      have R605 := R604.snoc (n' := 5) rfl (fun vJ _ => vJ = .int .u64 ((X (0 + i * 16 + k * 1) : Nat) : Int)) rfl (fun _ _ _ _ h => h) (fun aS wS pS => by
          have eR60_3 : aS.eval (.tmp 16) = .pointer (some ⟨b3, 0 + i * 16 + k * 1, none⟩) := pS.pre 3 rfl
          exact Does.val (wn _ rfl) (o_ld (eR60_3) (Try.isAgg58 _) ((Bk.gr kb3I44 (gr_drew pS.gr)).cell _ (upto_get X Y (· ||| ·) _ _ (by omega) (by omega)))) (Gr.refl _) rfl rfl)
      have R606 := R605.snoc (n' := 6) rfl (fun vJ _ => vJ = .int .i64 (i : Int)) rfl (fun _ _ _ _ h => h) (fun aS wS pS => by
          exact Does.val (wn _ rfl) (o_mv ((pS.old 5 rfl).trans e61)) (Gr.refl _) rfl rfl)
      have R607 := R606.snoc (n' := 7) rfl (fun vJ _ => vJ = .int .i64 (k : Int)) rfl (fun _ _ _ _ h => h) (fun aS wS pS => by
          exact Does.val (wn _ rfl) (o_mv ((pS.old 6 rfl).trans n59.at_)) (Gr.refl _) rfl rfl)
      have e63 := n59.ne rfl (n58.ne rfl (n53.ne rfl s3I44))
      have R608 := R607.snoc (n' := 8) rfl (fun vJ _ => vJ = .pointer (some ⟨b9, 0 + i * 16, none⟩)) rfl (fun _ _ _ _ h => h) (fun aS wS pS => by
          have eR60_5 : aS.eval (.tmp 18) = .int .i64 (i : Int) := pS.pre 5 rfl
          exact Does.val (wn _ rfl) (o_iaA (i := i) (s := 16) ((pS.old 3 rfl).trans e63) (eR60_5) Try.underlying61 (by kernel_rfl) (by omega)) (Gr.refl _) rfl rfl)
      have R609 := R608.snoc (n' := 9) rfl (fun vJ _ => vJ = .pointer (some ⟨b9, 0 + i * 16 + k * 1, none⟩)) rfl (fun _ _ _ _ h => h) (fun aS wS pS => by
          have eR60_6 : aS.eval (.tmp 19) = .int .i64 (k : Int) := pS.pre 6 rfl
          have eR60_7 : aS.eval (.tmp 20) = .pointer (some ⟨b9, 0 + i * 16, none⟩) := pS.pre 7 rfl
          exact Does.val (wn _ rfl) (o_iaA (i := k) (s := 1) (eR60_7) (eR60_6) Try.underlying59 (by kernel_rfl) (by omega)) (Gr.refl _) rfl rfl)
      have R6010 := R609.snoc (n' := 10) rfl (fun vJ _ => vJ = .int .u64 ((Y (0 + i * 16 + k * 1) : Nat) : Int)) rfl (fun _ _ _ _ h => h) (fun aS wS pS => by
          have eR60_8 : aS.eval (.tmp 21) = .pointer (some ⟨b9, 0 + i * 16 + k * 1, none⟩) := pS.pre 8 rfl
          exact Does.val (wn _ rfl) (o_ld (eR60_8) (Try.isAgg58 _) ((Bk.gr kb9I44 (gr_drew pS.gr)).cell _ (wArr_at Y (0 + i * 16 + k * 1) (by omega)))) (Gr.refl _) rfl rfl)
      have R6011 := R6010.snoc (n' := 11) rfl (fun vJ _ => vJ = .int .u64 ((X (0 + i * 16 + k * 1) ||| Y (0 + i * 16 + k * 1) : Nat) : Int)) rfl (fun _ _ _ _ h => h) (fun aS wS pS => by
          have eR60_4 : aS.eval (.tmp 17) = .int .u64 ((X (0 + i * 16 + k * 1) : Nat) : Int) := pS.pre 4 rfl
          have eR60_9 : aS.eval (.tmp 22) = .int .u64 ((Y (0 + i * 16 + k * 1) : Nat) : Int) := pS.pre 9 rfl
          exact Does.val (wn _ rfl) (o_orU (eR60_4) (eR60_9) (hX _) (hY _)) (Gr.refl _) rfl rfl)
      have R6012 := R6011.snoc (n' := 12) rfl (fun vJ _ => vJ = .pointer (some ⟨b3, 0 + i * 16, none⟩)) rfl (fun _ _ _ _ h => h) (fun aS wS pS => by
          have eR60_0 : aS.eval (.tmp 13) = .int .i64 (i : Int) := pS.pre 0 rfl
          exact Does.val (wn _ rfl) (o_iaA (i := i) (s := 16) ((pS.old 2 rfl).trans e62) (eR60_0) Try.underlying61 (by kernel_rfl) (by omega)) (Gr.refl _) rfl rfl)
      have R6013 := R6012.snoc (n' := 13) rfl (fun vJ _ => vJ = .pointer (some ⟨b3, 0 + i * 16 + k * 1, none⟩)) rfl (fun _ _ _ _ h => h) (fun aS wS pS => by
          have eR60_1 : aS.eval (.tmp 14) = .int .i64 (k : Int) := pS.pre 1 rfl
          have eR60_11 : aS.eval (.tmp 24) = .pointer (some ⟨b3, 0 + i * 16, none⟩) := pS.pre 11 rfl
          exact Does.val (wn _ rfl) (o_iaA (i := k) (s := 1) (eR60_11) (eR60_1) Try.underlying59 (by kernel_rfl) (by omega)) (Gr.refl _) rfl rfl)
      refine R6013.run (k := 1) (L := #[true, true, true, true, true, true, true, true, true, true, true, true, true, false]) (by kernel_rfl) (by kernel_rfl) (by kernel_rfl) n59.ok (by kernel_rfl) (by kernel_rfl) (fun ap65 w66 p65 => ?_)
      have g67 := gr_drew p65.gr
      have G68 := GI44.trans g67
      have B69 := kb3I44.gr g67
      have B70 := kb9I44.gr g67
      have B71 := kb17I44.gr g67
      have ep65_12 : ap65.eval (.tmp 25) = .pointer (some ⟨b3, 0 + i * 16 + k * 1, none⟩) := p65.js 12 rfl
      have ep65_10 : ap65.eval (.tmp 23) = .int .u64 ((X (0 + i * 16 + k * 1) ||| Y (0 + i * 16 + k * 1) : Nat) : Int) := p65.js 10 rfl
      refine t_stC (i := 13) (by kernel_rfl) rfl rfl (wn _ rfl) (o_st ep65_12 ep65_10 B69 (upto_get X Y (· ||| ·) _ _ (by omega) (by omega)) (by kernel_rfl) rfl) B69 (fun w72 u73 u73b => ?_)
      have G74 : Gr w w72 := Below.upd G68 l6 u73
      have B75 := B70.upd u73 (Nat.ne_of_gt l12)
      have B76 := B71.upd u73 (Nat.ne_of_gt l20)
      have B77 : Bk w72 b3 (wArr (upto X Y (· ||| ·) (i * 16 + k + 1))) 61 := (by rw [← upto_put X Y (· ||| ·) (i * 16 + k) (0 + i * 16 + k * 1) (by omega)]; exact u73b)
      refine wpAny_done (by kernel_rfl) ?_ _
      refine ib_n ?_
      refine th_n (hK56 _ _ ?_)
      refine wp_region_lit ?_
      have e78 := (p65.old 10 rfl).trans (n59.ne rfl (n58.ne rfl (n53.ne rfl s10I44)))
      refine sv p65.ok rfl (wn _ rfl) rfl (o_add (r := ((k + 1 : Nat) : Int)) e78 ev_const (by omega) (by omega)) (fun an79 n79 => ?_)
      refine sv n79.ok rfl (wn _ rfl) rfl (o_mv n79.at_) (fun an80 n80 => ?_)
      refine wpList_nil ?_
      have e81 := n80.ne rfl (n79.ne rfl ((p65.old 2 rfl).trans e62))
      have e82 := n80.ne rfl (n79.ne rfl ((p65.old 3 rfl).trans e63))
      have e83 := n80.ne rfl (n79.ne rfl ((p65.old 4 rfl).trans (n59.ne rfl (n58.ne rfl (n53.ne rfl s4I44)))))
      have e84 := n80.ne rfl (n79.ne rfl ((p65.old 5 rfl).trans e61))
      have e85 := n80.ne rfl (n79.ne rfl ((p65.old 7 rfl).trans (n59.ne rfl (n58.ne rfl (n53.ne rfl s7I44)))))
      exact th_n (hKI44 _ _ _ (by omega) ⟨k + 1, rfl, n80.ok, G74, e81, e82, e83, e84, e85, n80.at_, B77, B75, B76, by omega⟩)
    · refine wp_cond_false ((n53.at_).trans (congrArg Value.bool (decide_eq_false c55))) ?_
      refine wp_exit ?_
      refine th_x ?_
      refine th_x ?_
      refine ib_x ?_
      refine ib_n ?_
      refine th_n (hK38 _ _ ?_)
      refine wp_region_lit ?_
      refine sv n53.ok rfl (wn _ rfl) rfl (o_add (r := ((i + 1 : Nat) : Int)) (n53.ne rfl s7I44) ev_const (by omega) (by omega)) (fun an86 n86 => ?_)
      refine sv n86.ok rfl (wn _ rfl) rfl (o_mv n86.at_) (fun an87 n87 => ?_)
      refine wpList_nil ?_
      have e88 := n87.ne rfl (n86.ne rfl (n53.ne rfl s2I44))
      have e89 := n87.ne rfl (n86.ne rfl (n53.ne rfl s3I44))
      have e90 := n87.ne rfl (n86.ne rfl (n53.ne rfl s4I44))
      exact th_n (hKI29 _ _ _ (by omega) ⟨i + 1, rfl, n87.ok, GI44, e88, e89, e90, n87.at_, (by rw [show (i + 1) * 16 = i * 16 + k by omega]; exact kb3I44), kb9I44, kb17I44, by omega⟩)
  · refine wp_cond_false ((n35.at_).trans (congrArg Value.bool (decide_eq_false c37))) ?_
    refine wp_exit ?_
    refine th_x ?_
    refine th_x ?_
    refine ib_x ?_
    refine th_n (hK26 _ _ ?_)
    refine wp_seq_k (fun K91 hK91 => ?_)
    refine wp_region_lit ?_
    refine sv n35.ok rfl (wn _ rfl) rfl (o_ldR (n35.ne rfl s2I29) kb3I29 Try.underlying61 rfl (dots_sz (upto X Y (· ||| ·) (i * 16)))) (fun an92 n92 => ?_)
    refine ssR rfl (wn _ rfl) (o_stR (n92.ne rfl (n35.ne rfl s4I29)) n92.at_ kb17I29 (dots_sz (upto X Y (· ||| ·) (i * 16))) (by rw [wArr_size, wArr_size]) (wArr_one (upto X Y (· ||| ·) (i * 16)))) kb17I29 (fun w93 u94 u94b => ?_)
    have G95 : Gr w w93 := Below.upd GI29 l22 u94
    have B96 := kb3I29.upd u94 (Nat.ne_of_lt l20)
    have B97 := kb9I29.upd u94 (Nat.ne_of_lt l21)
    refine wpList_nil ?_
    refine th_n (hK91 _ _ ?_)
    refine wp_ret ?_
    exact ret1 n92.ok rfl (⟨_, _, (n92.ne rfl (n35.ne rfl s4I29)), ld_row u94b Try.underlying61 rfl (dots_sz (upto X Y (· ||| ·) (i * 16)))⟩) ⟨by rw [wArr_ext fun j hj => upto_lt X Y (· ||| ·) _ j (by omega)], G95⟩
end Go.Proofs.Ytbpkfkljeibjoaa

/- slices.Equal at integers and at dots; the document's SameKnow. -/
set_option linter.unusedVariables false
set_option linter.unusedSimpArgs false
namespace Go.Proofs.Ytbpkfkljeibjoaa
open Go.RowKit Rm

set_option maxHeartbeats 1000000 in
set_option maxRecDepth 100000 in
theorem equalI (x y : Value) (l l' : List (Int)) (w : World) (h : R1 w x l) (h' : R1 w y l') (hl : l.length ≤ 100000) :
    Calls Try.prog 37 #[x, y] w fun e w' => e = .returned (.bool (decide (l = l'))) ∧ Gr w w' := by
  obtain ⟨a, c, rfl, hc, hx⟩ := h
  obtain ⟨a', c', rfl, hc', hx'⟩ := h'
  have HX := Lib.hid hx
  have HX' := Lib.hid hx'
  clear hx hx'
  by_cases hlen : l.length = l'.length
  · have hlI : (l.length : Int) ≤ 100000 := by omega
    rw [← hlen] at hc' ⊢
    have HLN := Lib.hid hlen
    clear hlen
    go_enter Try.func37, Try.ntmps37
    go_wp2
    go_loopg [13] l.length (fun gh ix wr => ∃ i : Nat, i ≤ l.length ∧ l.length - i ≤ gh ∧ ix = .int .i64 (i : Int) ∧ (∃ q, wr = w.drewN q) ∧ ∀ j, j < i → l[j]? = l'[j]?)
    case atStart => exact ⟨0, by omega, by omega, rfl, ⟨0, rfl⟩, fun j hj => by omega⟩
    case round =>
      obtain ⟨i, hi, hgh, rfl, ⟨q, hwr⟩, hall⟩ := hrel
      have HW := Lib.hid hwr
      have HA := Lib.hid hall
      have GW : Hid (Gr w wr) := by rw [hwr]; exact (Gr.refl w).drewN q
      clear hwr hall
      by_cases hil : i < l.length
      · obtain ⟨p, hp⟩ : ∃ p, l[i]? = some p := ⟨_, List.getElem?_eq_getElem hil⟩
        obtain ⟨p', hp'⟩ : ∃ p', l'[i]? = some p' := ⟨_, List.getElem?_eq_getElem (by have := HLN.out; omega)⟩
        obtain ⟨b, off, hab, hb, hcell⟩ := HX.out (by intro e; rw [e] at hil; simp at hil)
        obtain ⟨b', off', hab', hb', hcell'⟩ := HX'.out (by intro e; have hq := HLN.out; rw [e] at hq; simp at hq; rw [hq] at hil; simp at hil)
        subst hab
        subst hab'
        have q1 := (GW.out.cells.1 b (off + i) hb).trans (hcell i p hp)
        have q2 := (GW.out.cells.1 b' (off' + i) hb').trans (hcell' i p' hp')
        have hiI : (i : Int) < (l.length : Int) := by omega
        have HP := Lib.hid hp
        have HP' := Lib.hid hp'
        clear hcell hcell' hp hp'
        by_cases he : p = p'
        · subst he
          have HN : Hid (∀ j, j < i + 1 → l[j]? = l'[j]?) := fun j hj => by
            by_cases e : j = i
            · subst e; rw [HP.out, HP'.out]
            · exact HA.out j (by omega)
          go_wp2_with fail
          go_quiet (fail)
          go_wp2
          go_roundg (l.length - (i + 1))
          case measure => omega
          case rel => exact ⟨i + 1, by omega, Nat.le_refl _, by go_num, ⟨q + nq, by rw [HW.out]; exact drewN_add ..⟩, HN.out⟩
        · have HF : Hid (decide (l = l') = false) := by
            show _ = _
            rw [decide_eq_false_iff_not]
            rintro rfl
            have := HP.out.symm.trans HP'.out
            exact he (Option.some.inj this)
          go_wp2_with fail
          go_quiet (fail)
          go_wp2
          go_ret
          exact ⟨by rw [HF.out]; rfl, GW.out.drewN _⟩
      · obtain rfl : i = l.length := by omega
        have HT : Hid (decide (l = l') = true) := by
          show _ = _
          rw [decide_eq_true_eq]
          apply List.ext_getElem?
          intro j
          by_cases hj : j < l.length
          · exact HA.out j hj
          · rw [List.getElem?_eq_none (by omega), List.getElem?_eq_none (by have := HLN.out; omega)]
        go_wp2
        go_ret
        exact ⟨by rw [HT.out]; rfl, GW.out⟩
  · have HF : Hid (decide (l = l') = false) := by
      show _ = _
      rw [decide_eq_false_iff_not]
      rintro rfl
      exact hlen rfl
    have hI : ¬ (l.length : Int) = (l'.length : Int) := by omega
    go_enter Try.func37, Try.ntmps37
    go_wp2
    go_ret
    exact ⟨by rw [HF.out]; rfl, Gr.refl _⟩

set_option maxHeartbeats 1000000 in
set_option maxRecDepth 100000 in
theorem equalD (x y : Value) (l l' : List (Int × Int)) (w : World) (h : Rd2 w x l) (h' : Rd2 w y l') (hl : l.length ≤ 100000) :
    Calls Try.prog 38 #[x, y] w fun e w' => e = .returned (.bool (decide (l = l'))) ∧ Gr w w' := by
  obtain ⟨a, c, rfl, hc, hx⟩ := h
  obtain ⟨a', c', rfl, hc', hx'⟩ := h'
  have HX := Lib.hid hx
  have HX' := Lib.hid hx'
  clear hx hx'
  by_cases hlen : l.length = l'.length
  · have hlI : (l.length : Int) ≤ 100000 := by omega
    rw [← hlen] at hc' ⊢
    have HLN := Lib.hid hlen
    clear hlen
    go_enter Try.func38, Try.ntmps38
    go_wp2
    go_loopg [13] l.length (fun gh ix wr => ∃ i : Nat, i ≤ l.length ∧ l.length - i ≤ gh ∧ ix = .int .i64 (i : Int) ∧ (∃ q, wr = w.drewN q) ∧ ∀ j, j < i → l[j]? = l'[j]?)
    case atStart => exact ⟨0, by omega, by omega, rfl, ⟨0, rfl⟩, fun j hj => by omega⟩
    case round =>
      obtain ⟨i, hi, hgh, rfl, ⟨q, hwr⟩, hall⟩ := hrel
      have HW := Lib.hid hwr
      have HA := Lib.hid hall
      have GW : Hid (Gr w wr) := by rw [hwr]; exact (Gr.refl w).drewN q
      clear hwr hall
      by_cases hil : i < l.length
      · obtain ⟨p, hp⟩ : ∃ p, l[i]? = some p := ⟨_, List.getElem?_eq_getElem hil⟩
        obtain ⟨p', hp'⟩ : ∃ p', l'[i]? = some p' := ⟨_, List.getElem?_eq_getElem (by have := HLN.out; omega)⟩
        obtain ⟨b, off, hab, hb, hcell⟩ := HX.out (by intro e; rw [e] at hil; simp at hil)
        obtain ⟨b', off', hab', hb', hcell'⟩ := HX'.out (by intro e; have hq := HLN.out; rw [e] at hq; simp at hq; rw [hq] at hil; simp at hil)
        subst hab
        subst hab'
        obtain ⟨u, v⟩ := p
        obtain ⟨u', v'⟩ := p'
        have q1 := (GW.out.cells.1 b (off + i * 2) hb).trans (hcell i _ hp).1
        have q2 := (GW.out.cells.1 b (off + i * 2 + 1) hb).trans (hcell i _ hp).2
        have q3 := (GW.out.cells.1 b' (off' + i * 2) hb').trans (hcell' i _ hp').1
        have q4 := (GW.out.cells.1 b' (off' + i * 2 + 1) hb').trans (hcell' i _ hp').2
        simp only at q1 q2 q3 q4
        have hiI : (i : Int) < (l.length : Int) := by omega
        have HP := Lib.hid hp
        have HP' := Lib.hid hp'
        clear hcell hcell' hp hp'
        by_cases he : (u, v) = (u', v')
        · obtain ⟨rfl, rfl⟩ := Prod.mk.inj he
          have HN : Hid (∀ j, j < i + 1 → l[j]? = l'[j]?) := fun j hj => by
            by_cases e : j = i
            · subst e; rw [HP.out, HP'.out]
            · exact HA.out j (by omega)
          go_wp2_with fail
          go_quiet (fail)
          go_wp2
          go_roundg (l.length - (i + 1))
          case measure => omega
          case rel => exact ⟨i + 1, by omega, Nat.le_refl _, by go_num, ⟨q + nq, by rw [HW.out]; exact drewN_add ..⟩, HN.out⟩
        · have HF : Hid (decide (l = l') = false) := by
            show _ = _
            rw [decide_eq_false_iff_not]
            rintro rfl
            have := HP.out.symm.trans HP'.out
            exact he (Option.some.inj this)
          by_cases hu : u = u'
          · subst hu
            have hv : ¬ v = v' := fun e => he (by rw [e])
            clear he
            go_wp2_with fail
            go_quiet (fail)
            go_wp2
            go_ret
            exact ⟨by rw [HF.out]; rfl, GW.out.drewN _⟩
          · clear he
            go_wp2_with fail
            go_quiet (fail)
            go_wp2
            go_ret
            exact ⟨by rw [HF.out]; rfl, GW.out.drewN _⟩
      · obtain rfl : i = l.length := by omega
        have HT : Hid (decide (l = l') = true) := by
          show _ = _
          rw [decide_eq_true_eq]
          apply List.ext_getElem?
          intro j
          by_cases hj : j < l.length
          · exact HA.out j hj
          · rw [List.getElem?_eq_none (by omega), List.getElem?_eq_none (by have := HLN.out; omega)]
        go_wp2
        go_ret
        exact ⟨by rw [HT.out]; rfl, GW.out⟩
  · have HF : Hid (decide (l = l') = false) := by
      show _ = _
      rw [decide_eq_false_iff_not]
      rintro rfl
      exact hlen rfl
    have hI : ¬ (l.length : Int) = (l'.length : Int) := by omega
    go_enter Try.func38, Try.ntmps38
    go_wp2
    go_ret
    exact ⟨by rw [HF.out]; rfl, Gr.refl _⟩

/-- the first is compared first -/
theorem sameK_any (k k' : Value) (V V' : List Int) (M M' : List (Int × Int)) (w : World) (hk : KnR w k V M) (hk' : KnR w k' V' M') (hl : V.length ≤ 100000) (hl' : M.length ≤ 100000) :
    Calls Try.prog 12 #[k, k'] w fun e w' => e = .returned (.bool (decide (V = V') && decide (M = M'))) ∧ Gr w w' := by
  obtain ⟨vv, mv, rfl, r1, r2, r3⟩ := hk
  obtain ⟨vv', mv', rfl, r1', r2', r3'⟩ := hk'
  have H1 : Hid (∀ W, Gr w W → Calls Try.prog 37 #[vv, vv'] W fun e w' => e = .returned (.bool (decide (V = V'))) ∧ Gr W w') := fun W g => equalI vv vv' V V' W (r1.gr g) (r1'.gr g) hl
  have H2 : Hid (∀ W, Gr w W → Calls Try.prog 38 #[mv, mv'] W fun e w' => e = .returned (.bool (decide (M = M'))) ∧ Gr W w') := fun W g => equalD mv mv' M M' W (r2.gr g) (r2'.gr g) hl'
  clear r1 r2 r3 r1' r2' r3'
  have G2 := Lib.hid (((Gr.refl w).alloc (.cells #[vv, mv] 30)).alloc (.cells #[vv', mv'] 30))
  have B0 : Hid (((w.alloc (.cells #[vv, mv] 30)).alloc (.cells #[vv', mv'] 30)).heap[w.heap.size]? = some (.cells #[vv, mv] 30 (0, 0))) := (al_old _ _ _ (by simp)).trans (al_new _ _ _ rfl)
  have B1 : Hid (((w.alloc (.cells #[vv, mv] 30)).alloc (.cells #[vv', mv'] 30)).heap[w.heap.size + 1]? = some (.cells #[vv', mv'] 30 (0, 0))) := al_new _ _ _ (by simp)
  generalize decide (V = V') = p at *
  generalize decide (M = M') = q at *
  cases p
  · go_enter Try.func12, Try.ntmps12
    go_wp2_with (go_at_call 37; refine (H1.out _ G2.out).mono ?_; rintro e w4 ⟨rfl, g4⟩)
    go_ret
    exact ⟨rfl, G2.out.trans g4⟩
  · go_enter Try.func12, Try.ntmps12
    go_wp2_with (first
      | (go_at_call 37; refine (H1.out _ G2.out).mono ?_; rintro e w4 ⟨rfl, g4⟩; have b0 := (Below.block g4 _ (Array.getElem?_eq_some_iff.1 B0.out).1).trans B0.out; have b1 := (Below.block g4 _ (Array.getElem?_eq_some_iff.1 B1.out).1).trans B1.out; have c0 := kc1 b0; have c1 := kc1 b1; have G4 := Lib.hid (G2.out.trans g4); clear g4 b0 b1 B0 B1)
      | (go_at_call 38; refine (H2.out _ G4.out).mono ?_; rintro e w5 ⟨rfl, g5⟩))
    go_ret
    exact ⟨by simp, G4.out.trans g5⟩
end Go.Proofs.Ytbpkfkljeibjoaa

