/- The drawn regions of FormGrows, over any state of the frame. -/
import Derived.Test.YthnoafmdecehcaaReg
import Derived.IntWalk
import Derived.Test.YthnoafmdecehcaaFormD
import Derived.Test.YthnoafmdecehcaaFormB
namespace Go.Proofs.Ythnoafmdecehcaa
open Go.RowKit Rm
set_option linter.unusedVariables false
set_option linter.unusedSimpArgs false
theorem gpoint_info : (Try.prog.info? 24).map (·.size) = some 2 := by kernel_rfl
section
variable (ev : Operand → Value) (d : Option Tmp) (ty : TypeId) (p : String) (af : Array Edge) (g : Option (Nat × Bool)) (w : World)
theorem rr_loadP (x : Operand) (B : Nat) (t n : Int) (h : ev x = .pointer (some ⟨B, 0, none⟩)) (hc : w.heap[B]? = some (.cells #[.int .i64 t, .int .i64 n] 24 (0, 0))) : (execOp ev (Oper.mk d (.load 24 x) ty p af g)).run Try.prog w = .ok (.value (.agg #[.int .i64 t, .int .i64 n])) w := by
  unfold execOp
  simp only [h, Instr.loadAt, Instr.sureAddr, Sem.run_bind, Sem.run_pure, Result.andThen_ok, run_loadVar_row w B 24 24 #[.int .i64 t, .int .i64 n] (0, 0) _ hc Try.underlying24 rfl gpoint_info]
theorem rr_node1 (k : Int) (hk : ev (.const (.int .i64 k)) = .int .i64 k) : (execOp ev (Oper.mk d (.build 46 #[(0, .const (.int .i64 k))]) ty p af g)).run Try.prog w = .ok (.value (.agg #[.int .i64 k, .int .i64 0, .int .i64 0])) w := by
  go_simp
theorem rr_node2 (k : Int) (x : Operand) (a : Int) (hk : ev (.const (.int .i64 k)) = .int .i64 k) (hx : ev x = .int .i64 a) : (execOp ev (Oper.mk d (.build 46 #[(0, .const (.int .i64 k)), (1, x)]) ty p af g)).run Try.prog w = .ok (.value (.agg #[.int .i64 k, .int .i64 a, .int .i64 0])) w := by
  go_simp
theorem rr_node3 (k : Int) (x y : Operand) (a b : Int) (hk : ev (.const (.int .i64 k)) = .int .i64 k) (hx : ev x = .int .i64 a) (hy : ev y = .int .i64 b) : (execOp ev (Oper.mk d (.build 46 #[(0, .const (.int .i64 k)), (1, x), (2, y)]) ty p af g)).run Try.prog w = .ok (.value (.agg #[.int .i64 k, .int .i64 a, .int .i64 b])) w := by
  go_simp
theorem rr_slice1 (x : Operand) (k a b : Int) (hx : ev x = .agg #[.int .i64 k, .int .i64 a, .int .i64 b]) : (execOp ev (Oper.mk d (.buildSlice 22 1 #[(0, x)]) ty p af g)).run Try.prog w = .ok (.value (.slice (some ⟨w.heap.size, 0, none⟩) 1 1)) (w.alloc (.cells #[.int .i64 k, .int .i64 a, .int .i64 b] 46)) := by
  go_simp
theorem rr_add1 (x : Operand) (n : Nat) (hn : n ≤ 1000) (hx : ev x = .int .i64 (n : Int)) (hk : ev (.const (.int .i64 1)) = .int .i64 1) : (execOp ev (Oper.mk d (.binOp .add 3 x (.const (.int .i64 1)) 3) ty p af g)).run Try.prog w = .ok (.value (.int .i64 ((n + 1 : Nat) : Int))) w := by
  have hw : IntKind.i64.wrap ((n : Int) + 1) = (n : Int) + 1 := IntWalk.i64_in _ (by omega)
  go_simp
theorem rr_cut (x y : Operand) (ad : Option Addr) (n c k : Nat) (hx : ev x = .slice ad n c) (hy : ev y = .int .i64 (k : Int)) (hk : k ≤ c) (hk0 : (k : Int) ≤ (c : Int)) : (execOp ev (Oper.mk d (.slice 22 x none (some y) none) ty p af g)).run Try.prog w = .ok (.value (.slice ad k c)) w := by
  go_simp
end
def fg7_0 : Oper := Oper.mk (some 60) (Op.move (Operand.tmp 0)) 22 "more.go:226" #[] none
def fg7_1 : Oper := Oper.mk (some 61) (Op.move (Operand.tmp 1)) 3 "more.go:226" #[] none
def fg7_2 : Oper := Oper.mk (some 62) (Op.binOp BinOp.add 3 (Operand.tmp 61) (Operand.const (Value.int IntKind.i64 1)) 3) 3 "more.go:226" #[Edge.mk 1 Ground.data] none
def fg7_3 : Oper := Oper.mk (some 63) (Op.slice 22 (Operand.tmp 60) none (some (Operand.tmp 62)) none) 22 "more.go:226" #[Edge.mk 0 Ground.data, Edge.mk 2 Ground.data] none
def fg7_4 : Oper := Oper.mk (some 64) (Op.load 24 (Operand.tmp 7)) 24 "more.go:226" #[] none
def fg7_5 : Oper := Oper.mk (some 65) (Op.call (Call.mk (Callee.value (Operand.func 9)) #[Operand.tmp 63, Operand.tmp 64] #[22, 24])) 26 "more.go:226" #[Edge.mk 3 Ground.data, Edge.mk 4 Ground.data] none
def fg7_6 : Oper := Oper.mk (some 59) (Op.move (Operand.tmp 65)) 26 "more.go:226" #[Edge.mk 5 Ground.data] none
def fg7_7 : Oper := Oper.mk (some 66) (Op.extract (Operand.tmp 59) 0) 4 "more.go:226" #[Edge.mk 6 Ground.data] none
def fg7_8 : Oper := Oper.mk (some 67) (Op.extract (Operand.tmp 59) 1) 25 "more.go:226" #[Edge.mk 6 Ground.data, Edge.mk 9 (Ground.gcOnly Departure.lateStores)] none
def fg7_9 : Oper := Oper.mk (some 11) (Op.assign (Operand.tmp 66)) 4 "more.go:226" #[Edge.mk 7 Ground.data, Edge.mk 5 Ground.chain, Edge.mk 0 Ground.phase, Edge.mk 1 Ground.phase, Edge.mk 2 Ground.phase, Edge.mk 3 Ground.phase, Edge.mk 4 Ground.phase, Edge.mk 5 Ground.phase, Edge.mk 6 Ground.phase, Edge.mk 7 Ground.phase, Edge.mk 8 (Ground.textOnly Departure.lateStores)] none
def fg7_10 : Oper := Oper.mk (some 12) (Op.assign (Operand.tmp 67)) 25 "more.go:226" #[Edge.mk 8 Ground.data, Edge.mk 9 Ground.chain, Edge.mk 0 Ground.phase, Edge.mk 1 Ground.phase, Edge.mk 2 Ground.phase, Edge.mk 3 Ground.phase, Edge.mk 4 Ground.phase, Edge.mk 5 Ground.phase, Edge.mk 6 Ground.phase, Edge.mk 7 Ground.phase, Edge.mk 8 Ground.phase, Edge.mk 9 Ground.phase] none
def fg7_Ops : Array Oper := #[fg7_0, fg7_1, fg7_2, fg7_3, fg7_4, fg7_5, fg7_6, fg7_7, fg7_8, fg7_9, fg7_10]

set_option maxHeartbeats 4000000 in
set_option maxRecDepth 100000 in
theorem fg_reg7 (Q : Exit → Act → World → Prop) (hQ : ∀ c a d v w, Q (.panic c) (Act.put a (some d) v) w → Q (.panic c) a w) (a : Act) (w : World) (B : Nat) (va : Option Addr) (vc : Nat) (l : List Nd) (t x A : Nat) (hsz : a.tmps.size = 160) (h0 : a.eval (.tmp 0) = .slice va l.length vc) (h1 : a.eval (.tmp 1) = .int .i64 (A : Int)) (h7 : a.eval (.tmp 7) = .pointer (some ⟨B, 0, none⟩))
    (hB : w.heap[B]? = some (.cells #[.int .i64 (t : Int), .int .i64 (x : Int)] 24 (0, 0))) (hr : RdN w (.slice va l.length vc) l) (hok : OkL l) (hA : A < l.length) (hvc : l.length ≤ vc) (ht : t < 16) (hx : x < 32)
    (h : ∀ w', Gr w w' → Q .normal (Act.put (Act.put (Act.put (Act.put (Act.put (Act.put (Act.put (Act.put (Act.put (Act.put (Act.put a (some 60) (.slice va l.length vc)) (some 61) (.int .i64 (A : Int))) (some 62) (.int .i64 ((A + 1 : Nat) : Int))) (some 63) (.slice va (A + 1) vc)) (some 64) (.agg #[.int .i64 (t : Int), .int .i64 (x : Int)])) (some 65) (.tuple #[.bool (formP (l.take (A + 1)) t x), .int .i64 0])) (some 59) (.tuple #[.bool (formP (l.take (A + 1)) t x), .int .i64 0])) (some 66) (.bool (formP (l.take (A + 1)) t x))) (some 67) (.int .i64 0)) (some 11) (.bool (formP (l.take (A + 1)) t x))) (some 12) (.int .i64 0)) w') : (Code.region 7 fg7_Ops true).wp Try.prog Q a w := by
  have hl30 := hok.2.1
  refine wp_region_held_drew (S := fun z => z.heap[B]? = some (.cells #[.int .i64 (t : Int), .int .i64 (x : Int)] 24 (0, 0))) (by kernel_rfl) hB (fun hHeld => ?_)
  show wpAnyH Try.prog .any fg7_Ops Q _ 11 (Array.replicate 11 false) a w.drew
  refine re_tk (i := 0) (oi := fg7_0) (v := .slice va l.length vc) (d := 60) hQ rfl rfl (by kernel_rfl) (by kernel_rfl) (by kernel_rfl) (Or.inl ⟨re_none _ rfl, fun wx hS => rr_move _ _ _ _ _ _ _ _ _ (by simp [re_ne, re_eq, re_size, re_const, hsz, h0, h1, h7])⟩) hHeld ?_
  refine re_tk (i := 1) (oi := fg7_1) (v := .int .i64 (A : Int)) (d := 61) hQ rfl rfl (by kernel_rfl) (by kernel_rfl) (by kernel_rfl) (Or.inl ⟨re_none _ rfl, fun wx hS => rr_move _ _ _ _ _ _ _ _ _ (by simp [re_ne, re_eq, re_size, re_const, hsz, h0, h1, h7])⟩) hHeld ?_
  refine re_tk (i := 2) (oi := fg7_2) (v := .int .i64 ((A + 1 : Nat) : Int)) (d := 62) hQ rfl rfl (by kernel_rfl) (by kernel_rfl) (by kernel_rfl) (Or.inl ⟨re_none _ rfl, fun wx hS => rr_add1 _ _ _ _ _ _ _ _ A (by omega) (by simp [re_ne, re_eq, re_size, re_const, hsz, h0, h1, h7]) rfl⟩) hHeld ?_
  refine re_tk (i := 3) (oi := fg7_3) (v := .slice va (A + 1) vc) (d := 63) hQ rfl rfl (by kernel_rfl) (by kernel_rfl) (by kernel_rfl) (Or.inl ⟨re_none _ rfl, fun wx hS => rr_cut _ _ _ _ _ _ _ _ _ va l.length vc (A + 1) (by simp [re_ne, re_eq, re_size, re_const, hsz, h0, h1, h7]) (by simp [re_ne, re_eq, re_size, re_const, hsz, h0, h1, h7]) (by omega) (by omega)⟩) hHeld ?_
  refine re_tk (i := 4) (oi := fg7_4) (v := .agg #[.int .i64 (t : Int), .int .i64 (x : Int)]) (d := 64) hQ rfl rfl (by kernel_rfl) (by kernel_rfl) (by kernel_rfl) (Or.inl ⟨re_none _ rfl, fun wx hS => rr_loadP _ _ _ _ _ _ _ _ B _ _ (by simp [re_ne, re_eq, re_size, re_const, hsz, h0, h1, h7]) hS⟩) hHeld ?_
  refine re_one (i := 5) (oi := fg7_5) (by kernel_rfl) rfl (re_none _ rfl) (fun K hK => ?_)
  refine re_wcall (d := 65) rfl (rr_enter2 _ _ _ _ _ _ _ 9 _ _ (.slice va (A + 1) vc) (.agg #[.int .i64 (t : Int), .int .i64 (x : Int)]) _ (by simp [re_ne, re_eq, re_size, re_const, hsz, h0, h1, h7]) (by simp [re_ne, re_eq, re_size, re_const, hsz, h0, h1, h7]) rfl (rr_enter_of Try.func9 (by kernel_rfl) (by kernel_rfl) _ _)) (is_ok (w := w.drew) (hr.take (by omega : A + 1 ≤ l.length)).drew (hok.take hA) ht hx) ?_
  rintro e w1 ⟨rfl, g1⟩
  have hHeld1 : w1.heap[B]? = some (.cells #[.int .i64 (t : Int), .int .i64 (x : Int)] 24 (0, 0)) := (Below.block g1 _ (Blk_lt hHeld)).trans hHeld
  refine ⟨_, rfl, hK _ _ hHeld1 ?_⟩
  refine re_tk (i := 6) (oi := fg7_6) (v := .tuple #[.bool (formP (l.take (A + 1)) t x), .int .i64 0]) (d := 59) hQ rfl rfl (by kernel_rfl) (by kernel_rfl) (by kernel_rfl) (Or.inl ⟨re_none _ rfl, fun wx hS => rr_move _ _ _ _ _ _ _ _ _ (by simp [re_ne, re_eq, re_size, re_const, hsz, h0, h1, h7])⟩) hHeld1 ?_
  refine re_tk (i := 7) (oi := fg7_7) (v := .bool (formP (l.take (A + 1)) t x)) (d := 66) hQ rfl rfl (by kernel_rfl) (by kernel_rfl) (by kernel_rfl) (Or.inl ⟨re_none _ rfl, fun wx hS => rr_ext0 _ _ _ _ _ _ _ _ (.bool (formP (l.take (A + 1)) t x)) (.int .i64 0) (by simp [re_ne, re_eq, re_size, re_const, hsz, h0, h1, h7])⟩) hHeld1 ?_
  refine re_tk (i := 8) (oi := fg7_8) (v := .int .i64 0) (d := 67) hQ rfl rfl (by kernel_rfl) (by kernel_rfl) (by kernel_rfl) (Or.inl ⟨re_none _ rfl, fun wx hS => rr_ext1 _ _ _ _ _ _ _ _ (.bool (formP (l.take (A + 1)) t x)) (.int .i64 0) (by simp [re_ne, re_eq, re_size, re_const, hsz, h0, h1, h7])⟩) hHeld1 ?_
  refine re_tk (i := 9) (oi := fg7_9) (v := .bool (formP (l.take (A + 1)) t x)) (d := 11) hQ rfl rfl (by kernel_rfl) (by kernel_rfl) (by kernel_rfl) (Or.inl ⟨re_none _ rfl, fun wx hS => rr_assign _ _ _ _ _ _ _ _ _ (by simp [re_ne, re_eq, re_size, re_const, hsz, h0, h1, h7])⟩) hHeld1 ?_
  refine re_tk (i := 10) (oi := fg7_10) (v := .int .i64 0) (d := 12) hQ rfl rfl (by kernel_rfl) (by kernel_rfl) (by kernel_rfl) (Or.inl ⟨re_none _ rfl, fun wx hS => rr_assign _ _ _ _ _ _ _ _ _ (by simp [re_ne, re_eq, re_size, re_const, hsz, h0, h1, h7])⟩) hHeld1 ?_
  exact wpAnyH_done (by kernel_rfl) (h _ ((Gr.refl w).drew.trans g1)) _
def fg8_0 : Oper := Oper.mk (some 69) (Op.move (Operand.tmp 0)) 22 "more.go:227" #[] none
def fg8_1 : Oper := Oper.mk (some 70) (Op.move (Operand.tmp 2)) 3 "more.go:227" #[] none
def fg8_2 : Oper := Oper.mk (some 71) (Op.binOp BinOp.add 3 (Operand.tmp 70) (Operand.const (Value.int IntKind.i64 1)) 3) 3 "more.go:227" #[Edge.mk 1 Ground.data] none
def fg8_3 : Oper := Oper.mk (some 72) (Op.slice 22 (Operand.tmp 69) none (some (Operand.tmp 71)) none) 22 "more.go:227" #[Edge.mk 0 Ground.data, Edge.mk 2 Ground.data] none
def fg8_4 : Oper := Oper.mk (some 73) (Op.load 24 (Operand.tmp 7)) 24 "more.go:227" #[] none
def fg8_5 : Oper := Oper.mk (some 74) (Op.call (Call.mk (Callee.value (Operand.func 9)) #[Operand.tmp 72, Operand.tmp 73] #[22, 24])) 26 "more.go:227" #[Edge.mk 3 Ground.data, Edge.mk 4 Ground.data] none
def fg8_6 : Oper := Oper.mk (some 68) (Op.move (Operand.tmp 74)) 26 "more.go:227" #[Edge.mk 5 Ground.data] none
def fg8_7 : Oper := Oper.mk (some 75) (Op.extract (Operand.tmp 68) 0) 4 "more.go:227" #[Edge.mk 6 Ground.data] none
def fg8_8 : Oper := Oper.mk (some 76) (Op.extract (Operand.tmp 68) 1) 25 "more.go:227" #[Edge.mk 6 Ground.data, Edge.mk 9 (Ground.gcOnly Departure.lateStores)] none
def fg8_9 : Oper := Oper.mk (some 13) (Op.assign (Operand.tmp 75)) 4 "more.go:227" #[Edge.mk 7 Ground.data, Edge.mk 5 Ground.chain, Edge.mk 0 Ground.phase, Edge.mk 1 Ground.phase, Edge.mk 2 Ground.phase, Edge.mk 3 Ground.phase, Edge.mk 4 Ground.phase, Edge.mk 5 Ground.phase, Edge.mk 6 Ground.phase, Edge.mk 7 Ground.phase, Edge.mk 8 (Ground.textOnly Departure.lateStores)] none
def fg8_10 : Oper := Oper.mk (some 14) (Op.assign (Operand.tmp 76)) 25 "more.go:227" #[Edge.mk 8 Ground.data, Edge.mk 9 Ground.chain, Edge.mk 0 Ground.phase, Edge.mk 1 Ground.phase, Edge.mk 2 Ground.phase, Edge.mk 3 Ground.phase, Edge.mk 4 Ground.phase, Edge.mk 5 Ground.phase, Edge.mk 6 Ground.phase, Edge.mk 7 Ground.phase, Edge.mk 8 Ground.phase, Edge.mk 9 Ground.phase] none
def fg8_Ops : Array Oper := #[fg8_0, fg8_1, fg8_2, fg8_3, fg8_4, fg8_5, fg8_6, fg8_7, fg8_8, fg8_9, fg8_10]

set_option maxHeartbeats 4000000 in
set_option maxRecDepth 100000 in
theorem fg_reg8 (Q : Exit → Act → World → Prop) (hQ : ∀ c a d v w, Q (.panic c) (Act.put a (some d) v) w → Q (.panic c) a w) (a : Act) (w : World) (B : Nat) (va : Option Addr) (vc : Nat) (l : List Nd) (t x A : Nat) (hsz : a.tmps.size = 160) (h0 : a.eval (.tmp 0) = .slice va l.length vc) (h2 : a.eval (.tmp 2) = .int .i64 (A : Int)) (h7 : a.eval (.tmp 7) = .pointer (some ⟨B, 0, none⟩))
    (hB : w.heap[B]? = some (.cells #[.int .i64 (t : Int), .int .i64 (x : Int)] 24 (0, 0))) (hr : RdN w (.slice va l.length vc) l) (hok : OkL l) (hA : A < l.length) (hvc : l.length ≤ vc) (ht : t < 16) (hx : x < 32)
    (h : ∀ w', Gr w w' → Q .normal (Act.put (Act.put (Act.put (Act.put (Act.put (Act.put (Act.put (Act.put (Act.put (Act.put (Act.put a (some 69) (.slice va l.length vc)) (some 70) (.int .i64 (A : Int))) (some 71) (.int .i64 ((A + 1 : Nat) : Int))) (some 72) (.slice va (A + 1) vc)) (some 73) (.agg #[.int .i64 (t : Int), .int .i64 (x : Int)])) (some 74) (.tuple #[.bool (formP (l.take (A + 1)) t x), .int .i64 0])) (some 68) (.tuple #[.bool (formP (l.take (A + 1)) t x), .int .i64 0])) (some 75) (.bool (formP (l.take (A + 1)) t x))) (some 76) (.int .i64 0)) (some 13) (.bool (formP (l.take (A + 1)) t x))) (some 14) (.int .i64 0)) w') : (Code.region 8 fg8_Ops true).wp Try.prog Q a w := by
  have hl30 := hok.2.1
  refine wp_region_held_drew (S := fun z => z.heap[B]? = some (.cells #[.int .i64 (t : Int), .int .i64 (x : Int)] 24 (0, 0))) (by kernel_rfl) hB (fun hHeld => ?_)
  show wpAnyH Try.prog .any fg8_Ops Q _ 11 (Array.replicate 11 false) a w.drew
  refine re_tk (i := 0) (oi := fg8_0) (v := .slice va l.length vc) (d := 69) hQ rfl rfl (by kernel_rfl) (by kernel_rfl) (by kernel_rfl) (Or.inl ⟨re_none _ rfl, fun wx hS => rr_move _ _ _ _ _ _ _ _ _ (by simp [re_ne, re_eq, re_size, re_const, hsz, h0, h2, h7])⟩) hHeld ?_
  refine re_tk (i := 1) (oi := fg8_1) (v := .int .i64 (A : Int)) (d := 70) hQ rfl rfl (by kernel_rfl) (by kernel_rfl) (by kernel_rfl) (Or.inl ⟨re_none _ rfl, fun wx hS => rr_move _ _ _ _ _ _ _ _ _ (by simp [re_ne, re_eq, re_size, re_const, hsz, h0, h2, h7])⟩) hHeld ?_
  refine re_tk (i := 2) (oi := fg8_2) (v := .int .i64 ((A + 1 : Nat) : Int)) (d := 71) hQ rfl rfl (by kernel_rfl) (by kernel_rfl) (by kernel_rfl) (Or.inl ⟨re_none _ rfl, fun wx hS => rr_add1 _ _ _ _ _ _ _ _ A (by omega) (by simp [re_ne, re_eq, re_size, re_const, hsz, h0, h2, h7]) rfl⟩) hHeld ?_
  refine re_tk (i := 3) (oi := fg8_3) (v := .slice va (A + 1) vc) (d := 72) hQ rfl rfl (by kernel_rfl) (by kernel_rfl) (by kernel_rfl) (Or.inl ⟨re_none _ rfl, fun wx hS => rr_cut _ _ _ _ _ _ _ _ _ va l.length vc (A + 1) (by simp [re_ne, re_eq, re_size, re_const, hsz, h0, h2, h7]) (by simp [re_ne, re_eq, re_size, re_const, hsz, h0, h2, h7]) (by omega) (by omega)⟩) hHeld ?_
  refine re_tk (i := 4) (oi := fg8_4) (v := .agg #[.int .i64 (t : Int), .int .i64 (x : Int)]) (d := 73) hQ rfl rfl (by kernel_rfl) (by kernel_rfl) (by kernel_rfl) (Or.inl ⟨re_none _ rfl, fun wx hS => rr_loadP _ _ _ _ _ _ _ _ B _ _ (by simp [re_ne, re_eq, re_size, re_const, hsz, h0, h2, h7]) hS⟩) hHeld ?_
  refine re_one (i := 5) (oi := fg8_5) (by kernel_rfl) rfl (re_none _ rfl) (fun K hK => ?_)
  refine re_wcall (d := 74) rfl (rr_enter2 _ _ _ _ _ _ _ 9 _ _ (.slice va (A + 1) vc) (.agg #[.int .i64 (t : Int), .int .i64 (x : Int)]) _ (by simp [re_ne, re_eq, re_size, re_const, hsz, h0, h2, h7]) (by simp [re_ne, re_eq, re_size, re_const, hsz, h0, h2, h7]) rfl (rr_enter_of Try.func9 (by kernel_rfl) (by kernel_rfl) _ _)) (is_ok (w := w.drew) (hr.take (by omega : A + 1 ≤ l.length)).drew (hok.take hA) ht hx) ?_
  rintro e w1 ⟨rfl, g1⟩
  have hHeld1 : w1.heap[B]? = some (.cells #[.int .i64 (t : Int), .int .i64 (x : Int)] 24 (0, 0)) := (Below.block g1 _ (Blk_lt hHeld)).trans hHeld
  refine ⟨_, rfl, hK _ _ hHeld1 ?_⟩
  refine re_tk (i := 6) (oi := fg8_6) (v := .tuple #[.bool (formP (l.take (A + 1)) t x), .int .i64 0]) (d := 68) hQ rfl rfl (by kernel_rfl) (by kernel_rfl) (by kernel_rfl) (Or.inl ⟨re_none _ rfl, fun wx hS => rr_move _ _ _ _ _ _ _ _ _ (by simp [re_ne, re_eq, re_size, re_const, hsz, h0, h2, h7])⟩) hHeld1 ?_
  refine re_tk (i := 7) (oi := fg8_7) (v := .bool (formP (l.take (A + 1)) t x)) (d := 75) hQ rfl rfl (by kernel_rfl) (by kernel_rfl) (by kernel_rfl) (Or.inl ⟨re_none _ rfl, fun wx hS => rr_ext0 _ _ _ _ _ _ _ _ (.bool (formP (l.take (A + 1)) t x)) (.int .i64 0) (by simp [re_ne, re_eq, re_size, re_const, hsz, h0, h2, h7])⟩) hHeld1 ?_
  refine re_tk (i := 8) (oi := fg8_8) (v := .int .i64 0) (d := 76) hQ rfl rfl (by kernel_rfl) (by kernel_rfl) (by kernel_rfl) (Or.inl ⟨re_none _ rfl, fun wx hS => rr_ext1 _ _ _ _ _ _ _ _ (.bool (formP (l.take (A + 1)) t x)) (.int .i64 0) (by simp [re_ne, re_eq, re_size, re_const, hsz, h0, h2, h7])⟩) hHeld1 ?_
  refine re_tk (i := 9) (oi := fg8_9) (v := .bool (formP (l.take (A + 1)) t x)) (d := 13) hQ rfl rfl (by kernel_rfl) (by kernel_rfl) (by kernel_rfl) (Or.inl ⟨re_none _ rfl, fun wx hS => rr_assign _ _ _ _ _ _ _ _ _ (by simp [re_ne, re_eq, re_size, re_const, hsz, h0, h2, h7])⟩) hHeld1 ?_
  refine re_tk (i := 10) (oi := fg8_10) (v := .int .i64 0) (d := 14) hQ rfl rfl (by kernel_rfl) (by kernel_rfl) (by kernel_rfl) (Or.inl ⟨re_none _ rfl, fun wx hS => rr_assign _ _ _ _ _ _ _ _ _ (by simp [re_ne, re_eq, re_size, re_const, hsz, h0, h2, h7])⟩) hHeld1 ?_
  exact wpAnyH_done (by kernel_rfl) (h _ ((Gr.refl w).drew.trans g1)) _
def fg9_0 : Oper := Oper.mk (some 78) (Op.move (Operand.tmp 0)) 22 "more.go:228" #[] none
def fg9_1 : Oper := Oper.mk (some 79) (Op.call (Call.mk (Callee.value (Operand.func 22)) #[Operand.tmp 78] #[22])) 22 "more.go:228" #[Edge.mk 0 Ground.data] none
def fg9_2 : Oper := Oper.mk (some 80) (Op.move (Operand.tmp 1)) 3 "more.go:228" #[] none
def fg9_3 : Oper := Oper.mk (some 81) (Op.build 46 #[(0, Operand.const (Value.int IntKind.i64 4)), (1, Operand.tmp 80)]) 46 "more.go:228" #[Edge.mk 2 Ground.data] none
def fg9_4 : Oper := Oper.mk (some 82) (Op.buildSlice 22 1 #[(0, Operand.tmp 81)]) 22 "more.go:228" #[Edge.mk 3 Ground.data] none
def fg9_5 : Oper := Oper.mk (some 83) (Op.call (Call.mk (Callee.builtin Builtin.append) #[Operand.tmp 79, Operand.tmp 82] #[22, 22])) 22 "more.go:228" #[Edge.mk 1 Ground.data, Edge.mk 4 Ground.data, Edge.mk 1 Ground.chain] none
def fg9_6 : Oper := Oper.mk (some 84) (Op.load 24 (Operand.tmp 7)) 24 "more.go:228" #[] none
def fg9_7 : Oper := Oper.mk (some 85) (Op.call (Call.mk (Callee.value (Operand.func 9)) #[Operand.tmp 83, Operand.tmp 84] #[22, 24])) 26 "more.go:228" #[Edge.mk 5 Ground.data, Edge.mk 6 Ground.data, Edge.mk 5 Ground.chain] none
def fg9_8 : Oper := Oper.mk (some 77) (Op.move (Operand.tmp 85)) 26 "more.go:228" #[Edge.mk 7 Ground.data] none
def fg9_9 : Oper := Oper.mk (some 86) (Op.extract (Operand.tmp 77) 0) 4 "more.go:228" #[Edge.mk 8 Ground.data] none
def fg9_10 : Oper := Oper.mk (some 87) (Op.extract (Operand.tmp 77) 1) 25 "more.go:228" #[Edge.mk 8 Ground.data, Edge.mk 11 (Ground.gcOnly Departure.lateStores)] none
def fg9_11 : Oper := Oper.mk (some 15) (Op.assign (Operand.tmp 86)) 4 "more.go:228" #[Edge.mk 9 Ground.data, Edge.mk 7 Ground.chain, Edge.mk 0 Ground.phase, Edge.mk 1 Ground.phase, Edge.mk 2 Ground.phase, Edge.mk 3 Ground.phase, Edge.mk 4 Ground.phase, Edge.mk 5 Ground.phase, Edge.mk 6 Ground.phase, Edge.mk 7 Ground.phase, Edge.mk 8 Ground.phase, Edge.mk 9 Ground.phase, Edge.mk 10 (Ground.textOnly Departure.lateStores)] none
def fg9_12 : Oper := Oper.mk (some 16) (Op.assign (Operand.tmp 87)) 25 "more.go:228" #[Edge.mk 10 Ground.data, Edge.mk 11 Ground.chain, Edge.mk 0 Ground.phase, Edge.mk 1 Ground.phase, Edge.mk 2 Ground.phase, Edge.mk 3 Ground.phase, Edge.mk 4 Ground.phase, Edge.mk 5 Ground.phase, Edge.mk 6 Ground.phase, Edge.mk 7 Ground.phase, Edge.mk 8 Ground.phase, Edge.mk 9 Ground.phase, Edge.mk 10 Ground.phase, Edge.mk 11 Ground.phase] none
def fg9_Ops : Array Oper := #[fg9_0, fg9_1, fg9_2, fg9_3, fg9_4, fg9_5, fg9_6, fg9_7, fg9_8, fg9_9, fg9_10, fg9_11, fg9_12]

set_option maxHeartbeats 4000000 in
set_option maxRecDepth 100000 in
theorem fg_tail9 (Q : Exit → Act → World → Prop) (hQ : ∀ c a d v w, Q (.panic c) (Act.put a (some d) v) w → Q (.panic c) a w) (a : Act) (w : World) (B : Nat) (v : Value) (l : List Nd) (t x A C : Nat) (hsz : a.tmps.size = 160) (h0 : a.eval (.tmp 0) = v) (h1 : a.eval (.tmp 1) = .int .i64 (A : Int)) (h2 : a.eval (.tmp 2) = .int .i64 (C : Int)) (h7 : a.eval (.tmp 7) = .pointer (some ⟨B, 0, none⟩)) (hB : w.heap[B]? = some (.cells #[.int .i64 (t : Int), .int .i64 (x : Int)] 24 (0, 0))) (hne : l ≠ []) (hl : l.length ≤ 29) (hok : OkL (l ++ [(4, (A : Int), 0)])) (ht : t < 16) (hx : x < 32)
    (h : ∀ w' c1 c2 c3, Gr w w' → Q .normal (Act.put (Act.put (Act.put (Act.put (Act.put (Act.put (Act.put (Act.put (Act.put (Act.put (Act.put (Act.put (Act.put a (some 78) (v)) (some 80) (.int .i64 (A : Int))) (some 81) (.agg #[.int .i64 4, .int .i64 (A : Int), .int .i64 0])) (some 84) (.agg #[.int .i64 (t : Int), .int .i64 (x : Int)])) (some 79) (c1)) (some 82) (c2)) (some 83) (c3)) (some 85) (.tuple #[.bool (formP (l ++ [(4, (A : Int), 0)]) t x), .int .i64 0])) (some 77) (.tuple #[.bool (formP (l ++ [(4, (A : Int), 0)]) t x), .int .i64 0])) (some 86) (.bool (formP (l ++ [(4, (A : Int), 0)]) t x))) (some 87) (.int .i64 0)) (some 15) (.bool (formP (l ++ [(4, (A : Int), 0)]) t x))) (some 16) (.int .i64 0)) w')
    (w2 : World) (c1 : Value) (base nb : Nat) (g2 : Gr w w2) (hbase : w.heap.size ≤ base) (hown : OwnN base w2 c1 l) (hnb : w2.heap[nb]? = some (.cells #[.int .i64 4, .int .i64 (A : Int), .int .i64 0] 46 (0, 0))) (hbw : base ≤ w2.heap.size) :
    wpAnyH Try.prog .any fg9_Ops Q (fun z => z.heap[B]? = some (.cells #[.int .i64 (t : Int), .int .i64 (x : Int)] 24 (0, 0))) 7 (Array.setIfInBounds (Array.setIfInBounds (Array.setIfInBounds (Array.setIfInBounds (Array.setIfInBounds (Array.setIfInBounds (Array.replicate 13 false) 0 true) 2 true) 3 true) 6 true) 1 true) 4 true) (Act.put (Act.put (Act.put (Act.put (Act.put (Act.put a (some 78) (v)) (some 80) (.int .i64 (A : Int))) (some 81) (.agg #[.int .i64 4, .int .i64 (A : Int), .int .i64 0])) (some 84) (.agg #[.int .i64 (t : Int), .int .i64 (x : Int)])) (some 79) (c1)) (some 82) (.slice (some ⟨nb, 0, none⟩) 1 1)) w2 := by
  obtain ⟨i0, hi0, hz0, hz1, hz2⟩ := info_parts node_info
  have hHeld : w2.heap[B]? = some (.cells #[.int .i64 (t : Int), .int .i64 (x : Int)] 24 (0, 0)) := (Below.block g2 _ (Blk_lt hB)).trans hB
  refine re_one (i := 5) (oi := fg9_5) (by kernel_rfl) rfl (re_none _ rfl) (fun K hK => ?_)
  refine wp_append_own _ (.tmp 79) (.tmp 82) 22 rfl base 46 i0 _ 3 24 Try.underlying22 hi0 hz0 hz1 hz2 rfl (by omega) c1 l.length (flatN l) (by simp [re_ne, re_eq, re_size, re_const, hsz, h0, h1, h2, h7]) hown ⟨nb, 0, none⟩ 1 1 [.int .i64 4, .int .i64 (A : Int), .int .i64 0] (by simp [re_ne, re_eq, re_size, re_const, hsz, h0, h1, h2, h7]) rfl ?_ (by simp [Value.oneCell']) (by simp only [maxLen]; omega) (by omega) hbw ?_
  · intro j u hu
    have ea : (⟨nb, 0, none⟩ : Addr).add j = ⟨nb, j, none⟩ := by unfold Addr.add; by_cases h : j = 0 <;> simp [h]
    rw [ea, cell_of_row _ _ _ _ _ _ hnb]
    simpa using hu
  intro c3 w3 hn3 hg3 _
  change K (Act.put _ (some 83) c3) w3
  have g3 : Gr w w3 := g2.grown hg3 (fun k hk => by have := (World.ownsRow.lt hown k hk).1; omega)
  have hHeld3 : w3.heap[B]? = some (.cells #[.int .i64 (t : Int), .int .i64 (x : Int)] 24 (0, 0)) := (Below.block g3 _ (Blk_lt hB)).trans hB
  have O3 : OwnN base w3 c3 (l ++ [(4, (A : Int), 0)]) := OwnN.app (r := [(4, (A : Int), 0)]) hn3 (by simp) rfl
  clear hn3 hg3 hown hnb
  refine hK _ _ hHeld3 ?_
  refine re_one (i := 7) (oi := fg9_7) (by kernel_rfl) rfl (re_none _ rfl) (fun K hK => ?_)
  refine re_wcall (d := 85) rfl (rr_enter2 _ _ _ _ _ _ _ 9 _ _ c3 (.agg #[.int .i64 (t : Int), .int .i64 (x : Int)]) _ (by simp [re_ne, re_eq, re_size, re_const, hsz, h0, h1, h2, h7]) (by simp [re_ne, re_eq, re_size, re_const, hsz, h0, h1, h2, h7]) rfl (rr_enter_of Try.func9 (by kernel_rfl) (by kernel_rfl) _ _)) (is_ok O3.rd hok ht hx) ?_
  rintro e w4 ⟨rfl, g4⟩
  have hHeld4 : w4.heap[B]? = some (.cells #[.int .i64 (t : Int), .int .i64 (x : Int)] 24 (0, 0)) := (Below.block g4 _ (Blk_lt hHeld3)).trans hHeld3
  refine ⟨_, rfl, hK _ _ hHeld4 ?_⟩
  refine re_tk (i := 8) (oi := fg9_8) (v := .tuple #[.bool (formP (l ++ [(4, (A : Int), 0)]) t x), .int .i64 0]) (d := 77) hQ rfl rfl (by kernel_rfl) (by kernel_rfl) (by kernel_rfl) (Or.inl ⟨re_none _ rfl, fun wx hS => rr_move _ _ _ _ _ _ _ _ _ (by simp [re_ne, re_eq, re_size, re_const, hsz, h0, h1, h2, h7])⟩) hHeld4 ?_
  refine re_tk (i := 9) (oi := fg9_9) (v := .bool (formP (l ++ [(4, (A : Int), 0)]) t x)) (d := 86) hQ rfl rfl (by kernel_rfl) (by kernel_rfl) (by kernel_rfl) (Or.inl ⟨re_none _ rfl, fun wx hS => rr_ext0 _ _ _ _ _ _ _ _ (.bool (formP (l ++ [(4, (A : Int), 0)]) t x)) (.int .i64 0) (by simp [re_ne, re_eq, re_size, re_const, hsz, h0, h1, h2, h7])⟩) hHeld4 ?_
  refine re_tk (i := 10) (oi := fg9_10) (v := .int .i64 0) (d := 87) hQ rfl rfl (by kernel_rfl) (by kernel_rfl) (by kernel_rfl) (Or.inl ⟨re_none _ rfl, fun wx hS => rr_ext1 _ _ _ _ _ _ _ _ (.bool (formP (l ++ [(4, (A : Int), 0)]) t x)) (.int .i64 0) (by simp [re_ne, re_eq, re_size, re_const, hsz, h0, h1, h2, h7])⟩) hHeld4 ?_
  refine re_tk (i := 11) (oi := fg9_11) (v := .bool (formP (l ++ [(4, (A : Int), 0)]) t x)) (d := 15) hQ rfl rfl (by kernel_rfl) (by kernel_rfl) (by kernel_rfl) (Or.inl ⟨re_none _ rfl, fun wx hS => rr_assign _ _ _ _ _ _ _ _ _ (by simp [re_ne, re_eq, re_size, re_const, hsz, h0, h1, h2, h7])⟩) hHeld4 ?_
  refine re_tk (i := 12) (oi := fg9_12) (v := .int .i64 0) (d := 16) hQ rfl rfl (by kernel_rfl) (by kernel_rfl) (by kernel_rfl) (Or.inl ⟨re_none _ rfl, fun wx hS => rr_assign _ _ _ _ _ _ _ _ _ (by simp [re_ne, re_eq, re_size, re_const, hsz, h0, h1, h2, h7])⟩) hHeld4 ?_
  exact wpAnyH_done (by kernel_rfl) (h _ _ _ _ (g3.trans g4)) _
set_option maxHeartbeats 4000000 in
set_option maxRecDepth 100000 in
theorem fg_reg9 (Q : Exit → Act → World → Prop) (hQ : ∀ c a d v w, Q (.panic c) (Act.put a (some d) v) w → Q (.panic c) a w) (a : Act) (w : World) (B : Nat) (v : Value) (l : List Nd) (t x A C : Nat) (hsz : a.tmps.size = 160) (h0 : a.eval (.tmp 0) = v) (h1 : a.eval (.tmp 1) = .int .i64 (A : Int)) (h2 : a.eval (.tmp 2) = .int .i64 (C : Int)) (h7 : a.eval (.tmp 7) = .pointer (some ⟨B, 0, none⟩)) (hB : w.heap[B]? = some (.cells #[.int .i64 (t : Int), .int .i64 (x : Int)] 24 (0, 0))) (hne : l ≠ []) (hl : l.length ≤ 29) (hok : OkL (l ++ [(4, (A : Int), 0)])) (ht : t < 16) (hx : x < 32) (hr : RdN w v l)
    (h : ∀ w' c1 c2 c3, Gr w w' → Q .normal (Act.put (Act.put (Act.put (Act.put (Act.put (Act.put (Act.put (Act.put (Act.put (Act.put (Act.put (Act.put (Act.put a (some 78) (v)) (some 80) (.int .i64 (A : Int))) (some 81) (.agg #[.int .i64 4, .int .i64 (A : Int), .int .i64 0])) (some 84) (.agg #[.int .i64 (t : Int), .int .i64 (x : Int)])) (some 79) (c1)) (some 82) (c2)) (some 83) (c3)) (some 85) (.tuple #[.bool (formP (l ++ [(4, (A : Int), 0)]) t x), .int .i64 0])) (some 77) (.tuple #[.bool (formP (l ++ [(4, (A : Int), 0)]) t x), .int .i64 0])) (some 86) (.bool (formP (l ++ [(4, (A : Int), 0)]) t x))) (some 87) (.int .i64 0)) (some 15) (.bool (formP (l ++ [(4, (A : Int), 0)]) t x))) (some 16) (.int .i64 0)) w') : (Code.region 9 fg9_Ops true).wp Try.prog Q a w := by
  refine wp_region_held_drew (S := fun z => z.heap[B]? = some (.cells #[.int .i64 (t : Int), .int .i64 (x : Int)] 24 (0, 0))) (by kernel_rfl) hB (fun hHeld => ?_)
  show wpAnyH Try.prog .any fg9_Ops Q _ 13 (Array.replicate 13 false) a w.drew
  refine re_tk (i := 0) (oi := fg9_0) (v := v) (d := 78) hQ rfl rfl (by kernel_rfl) (by kernel_rfl) (by kernel_rfl) (Or.inl ⟨re_none _ rfl, fun wx hS => rr_move _ _ _ _ _ _ _ _ _ (by simp [re_ne, re_eq, re_size, re_const, hsz, h0, h1, h2, h7])⟩) hHeld ?_
  refine re_tk (i := 2) (oi := fg9_2) (v := .int .i64 (A : Int)) (d := 80) hQ rfl rfl (by kernel_rfl) (by kernel_rfl) (by kernel_rfl) (Or.inl ⟨re_none _ rfl, fun wx hS => rr_move _ _ _ _ _ _ _ _ _ (by simp [re_ne, re_eq, re_size, re_const, hsz, h0, h1, h2, h7])⟩) hHeld ?_
  refine re_tk (i := 3) (oi := fg9_3) (v := .agg #[.int .i64 4, .int .i64 (A : Int), .int .i64 0]) (d := 81) hQ rfl rfl (by kernel_rfl) (by kernel_rfl) (by kernel_rfl) (Or.inl ⟨re_none _ rfl, fun wx hS => rr_node2 _ _ _ _ _ _ _ 4 _ _ rfl (by simp [re_ne, re_eq, re_size, re_const, hsz, h0, h1, h2, h7])⟩) hHeld ?_
  refine re_tk (i := 6) (oi := fg9_6) (v := .agg #[.int .i64 (t : Int), .int .i64 (x : Int)]) (d := 84) hQ rfl rfl (by kernel_rfl) (by kernel_rfl) (by kernel_rfl) (Or.inl ⟨re_none _ rfl, fun wx hS => rr_loadP _ _ _ _ _ _ _ _ B _ _ (by simp [re_ne, re_eq, re_size, re_const, hsz, h0, h1, h2, h7]) hS⟩) hHeld ?_
  refine re_pair (i := 1) (j := 4) (oi := fg9_1) (oj := fg9_4) (by kernel_rfl) rfl rfl (re_none _ rfl) (re_none _ rfl) (fun K hK => ?_) (fun K hK => ?_)
  · refine re_wcall (d := 79) rfl (rr_enter1 _ _ _ _ _ _ _ 22 _ v _ (by simp [re_ne, re_eq, re_size, re_const, hsz, h0, h1, h2, h7]) rfl (rr_enter_of Try.func22 (by kernel_rfl) (by kernel_rfl) _ _)) (clone_nodes (w := w.drew) (hr.drew) hne (by omega)) ?_
    rintro e w1 ⟨c1, rfl, ho, g1⟩
    have hHeld1 : w1.heap[B]? = some (.cells #[.int .i64 (t : Int), .int .i64 (x : Int)] 24 (0, 0)) := (Below.block g1 _ (Blk_lt hHeld)).trans hHeld
    refine ⟨c1, rfl, hK _ _ hHeld1 ?_⟩
    refine re_one (i := 4) (oi := fg9_4) (by kernel_rfl) rfl (re_none _ rfl) (fun K hK => ?_)
    refine re_wval (d := 82) rfl (rr_slice1 _ _ _ _ _ _ _ _ 4 (A : Int) 0 (by simp [re_ne, re_eq, re_size, re_const, hsz, h0, h1, h2, h7])) ?_
    have hHeld2 := (Below.block ((Gr.refl w1).alloc (.cells #[.int .i64 4, .int .i64 (A : Int), .int .i64 0] 46)) _ (Blk_lt hHeld1)).trans hHeld1
    refine hK _ _ hHeld2 ?_
    exact fg_tail9 Q hQ a w B v l t x A C hsz h0 h1 h2 h7 hB hne hl hok ht hx h _ c1 w.heap.size w1.heap.size (((Gr.refl w).drew.trans g1).alloc _) (Nat.le_refl _) (ho.gr ((Gr.refl w1).alloc _)) (heap_alloc_new _ _) (by have := (((Gr.refl w).drew.trans g1).alloc (.cells #[.int .i64 4, .int .i64 (A : Int), .int .i64 0] 46)).le; exact this)
  · refine re_wval (d := 82) rfl (rr_slice1 _ _ _ _ _ _ _ _ 4 (A : Int) 0 (by simp [re_ne, re_eq, re_size, re_const, hsz, h0, h1, h2, h7])) ?_
    have hHeld1 := (Below.block ((Gr.refl w.drew).alloc (.cells #[.int .i64 4, .int .i64 (A : Int), .int .i64 0] 46)) _ (Blk_lt hHeld)).trans hHeld
    refine hK _ _ hHeld1 ?_
    refine re_one (i := 1) (oi := fg9_1) (by kernel_rfl) rfl (re_none _ rfl) (fun K hK => ?_)
    refine re_wcall (d := 79) rfl (rr_enter1 _ _ _ _ _ _ _ 22 _ v _ (by simp [re_ne, re_eq, re_size, re_const, hsz, h0, h1, h2, h7]) rfl (rr_enter_of Try.func22 (by kernel_rfl) (by kernel_rfl) _ _)) (clone_nodes (w := w.drew.alloc (.cells #[.int .i64 4, .int .i64 (A : Int), .int .i64 0] 46)) (hr.drew.alloc _) hne (by omega)) ?_
    rintro e w1 ⟨c1, rfl, ho, g1⟩
    have hHeld2 := (Below.block g1 _ (Blk_lt hHeld1)).trans hHeld1
    refine ⟨c1, rfl, hK _ _ hHeld2 ?_⟩
    rw [re_comm _ 82 79 _ _ (by decide)]
    exact fg_tail9 Q hQ a w B v l t x A C hsz h0 h1 h2 h7 hB hne hl hok ht hx h _ c1 (w.heap.size + 1) w.heap.size (((Gr.refl w).drew.alloc _).trans g1) (by omega) (by have := ho; simpa using this) ((Below.block g1 _ (by simp)).trans (heap_alloc_new _ _)) (by have := g1.le; simpa using this)
def fg10_0 : Oper := Oper.mk (some 89) (Op.move (Operand.tmp 0)) 22 "more.go:229" #[] none
def fg10_1 : Oper := Oper.mk (some 90) (Op.call (Call.mk (Callee.value (Operand.func 22)) #[Operand.tmp 89] #[22])) 22 "more.go:229" #[Edge.mk 0 Ground.data] none
def fg10_2 : Oper := Oper.mk (some 91) (Op.move (Operand.tmp 1)) 3 "more.go:229" #[] none
def fg10_3 : Oper := Oper.mk (some 92) (Op.move (Operand.tmp 2)) 3 "more.go:229" #[] none
def fg10_4 : Oper := Oper.mk (some 93) (Op.build 46 #[(0, Operand.const (Value.int IntKind.i64 5)), (1, Operand.tmp 91), (2, Operand.tmp 92)]) 46 "more.go:229" #[Edge.mk 2 Ground.data, Edge.mk 3 Ground.data] none
def fg10_5 : Oper := Oper.mk (some 94) (Op.buildSlice 22 1 #[(0, Operand.tmp 93)]) 22 "more.go:229" #[Edge.mk 4 Ground.data] none
def fg10_6 : Oper := Oper.mk (some 95) (Op.call (Call.mk (Callee.builtin Builtin.append) #[Operand.tmp 90, Operand.tmp 94] #[22, 22])) 22 "more.go:229" #[Edge.mk 1 Ground.data, Edge.mk 5 Ground.data, Edge.mk 1 Ground.chain] none
def fg10_7 : Oper := Oper.mk (some 96) (Op.load 24 (Operand.tmp 7)) 24 "more.go:229" #[] none
def fg10_8 : Oper := Oper.mk (some 97) (Op.call (Call.mk (Callee.value (Operand.func 9)) #[Operand.tmp 95, Operand.tmp 96] #[22, 24])) 26 "more.go:229" #[Edge.mk 6 Ground.data, Edge.mk 7 Ground.data, Edge.mk 6 Ground.chain] none
def fg10_9 : Oper := Oper.mk (some 88) (Op.move (Operand.tmp 97)) 26 "more.go:229" #[Edge.mk 8 Ground.data] none
def fg10_10 : Oper := Oper.mk (some 98) (Op.extract (Operand.tmp 88) 0) 4 "more.go:229" #[Edge.mk 9 Ground.data] none
def fg10_11 : Oper := Oper.mk (some 99) (Op.extract (Operand.tmp 88) 1) 25 "more.go:229" #[Edge.mk 9 Ground.data, Edge.mk 12 (Ground.gcOnly Departure.lateStores)] none
def fg10_12 : Oper := Oper.mk (some 17) (Op.assign (Operand.tmp 98)) 4 "more.go:229" #[Edge.mk 10 Ground.data, Edge.mk 8 Ground.chain, Edge.mk 0 Ground.phase, Edge.mk 1 Ground.phase, Edge.mk 2 Ground.phase, Edge.mk 3 Ground.phase, Edge.mk 4 Ground.phase, Edge.mk 5 Ground.phase, Edge.mk 6 Ground.phase, Edge.mk 7 Ground.phase, Edge.mk 8 Ground.phase, Edge.mk 9 Ground.phase, Edge.mk 10 Ground.phase, Edge.mk 11 (Ground.textOnly Departure.lateStores)] none
def fg10_13 : Oper := Oper.mk (some 18) (Op.assign (Operand.tmp 99)) 25 "more.go:229" #[Edge.mk 11 Ground.data, Edge.mk 12 Ground.chain, Edge.mk 0 Ground.phase, Edge.mk 1 Ground.phase, Edge.mk 2 Ground.phase, Edge.mk 3 Ground.phase, Edge.mk 4 Ground.phase, Edge.mk 5 Ground.phase, Edge.mk 6 Ground.phase, Edge.mk 7 Ground.phase, Edge.mk 8 Ground.phase, Edge.mk 9 Ground.phase, Edge.mk 10 Ground.phase, Edge.mk 11 Ground.phase, Edge.mk 12 Ground.phase] none
def fg10_Ops : Array Oper := #[fg10_0, fg10_1, fg10_2, fg10_3, fg10_4, fg10_5, fg10_6, fg10_7, fg10_8, fg10_9, fg10_10, fg10_11, fg10_12, fg10_13]

set_option maxHeartbeats 4000000 in
set_option maxRecDepth 100000 in
theorem fg_tail10 (Q : Exit → Act → World → Prop) (hQ : ∀ c a d v w, Q (.panic c) (Act.put a (some d) v) w → Q (.panic c) a w) (a : Act) (w : World) (B : Nat) (v : Value) (l : List Nd) (t x A C : Nat) (hsz : a.tmps.size = 160) (h0 : a.eval (.tmp 0) = v) (h1 : a.eval (.tmp 1) = .int .i64 (A : Int)) (h2 : a.eval (.tmp 2) = .int .i64 (C : Int)) (h7 : a.eval (.tmp 7) = .pointer (some ⟨B, 0, none⟩)) (hB : w.heap[B]? = some (.cells #[.int .i64 (t : Int), .int .i64 (x : Int)] 24 (0, 0))) (hne : l ≠ []) (hl : l.length ≤ 29) (hok : OkL (l ++ [(5, (A : Int), (C : Int))])) (ht : t < 16) (hx : x < 32)
    (h : ∀ w' c1 c2 c3, Gr w w' → Q .normal (Act.put (Act.put (Act.put (Act.put (Act.put (Act.put (Act.put (Act.put (Act.put (Act.put (Act.put (Act.put (Act.put (Act.put a (some 89) (v)) (some 91) (.int .i64 (A : Int))) (some 92) (.int .i64 (C : Int))) (some 93) (.agg #[.int .i64 5, .int .i64 (A : Int), .int .i64 (C : Int)])) (some 96) (.agg #[.int .i64 (t : Int), .int .i64 (x : Int)])) (some 90) (c1)) (some 94) (c2)) (some 95) (c3)) (some 97) (.tuple #[.bool (formP (l ++ [(5, (A : Int), (C : Int))]) t x), .int .i64 0])) (some 88) (.tuple #[.bool (formP (l ++ [(5, (A : Int), (C : Int))]) t x), .int .i64 0])) (some 98) (.bool (formP (l ++ [(5, (A : Int), (C : Int))]) t x))) (some 99) (.int .i64 0)) (some 17) (.bool (formP (l ++ [(5, (A : Int), (C : Int))]) t x))) (some 18) (.int .i64 0)) w')
    (w2 : World) (c1 : Value) (base nb : Nat) (g2 : Gr w w2) (hbase : w.heap.size ≤ base) (hown : OwnN base w2 c1 l) (hnb : w2.heap[nb]? = some (.cells #[.int .i64 5, .int .i64 (A : Int), .int .i64 (C : Int)] 46 (0, 0))) (hbw : base ≤ w2.heap.size) :
    wpAnyH Try.prog .any fg10_Ops Q (fun z => z.heap[B]? = some (.cells #[.int .i64 (t : Int), .int .i64 (x : Int)] 24 (0, 0))) 7 (Array.setIfInBounds (Array.setIfInBounds (Array.setIfInBounds (Array.setIfInBounds (Array.setIfInBounds (Array.setIfInBounds (Array.setIfInBounds (Array.replicate 14 false) 0 true) 2 true) 3 true) 4 true) 7 true) 1 true) 5 true) (Act.put (Act.put (Act.put (Act.put (Act.put (Act.put (Act.put a (some 89) (v)) (some 91) (.int .i64 (A : Int))) (some 92) (.int .i64 (C : Int))) (some 93) (.agg #[.int .i64 5, .int .i64 (A : Int), .int .i64 (C : Int)])) (some 96) (.agg #[.int .i64 (t : Int), .int .i64 (x : Int)])) (some 90) (c1)) (some 94) (.slice (some ⟨nb, 0, none⟩) 1 1)) w2 := by
  obtain ⟨i0, hi0, hz0, hz1, hz2⟩ := info_parts node_info
  have hHeld : w2.heap[B]? = some (.cells #[.int .i64 (t : Int), .int .i64 (x : Int)] 24 (0, 0)) := (Below.block g2 _ (Blk_lt hB)).trans hB
  refine re_one (i := 6) (oi := fg10_6) (by kernel_rfl) rfl (re_none _ rfl) (fun K hK => ?_)
  refine wp_append_own _ (.tmp 90) (.tmp 94) 22 rfl base 46 i0 _ 3 24 Try.underlying22 hi0 hz0 hz1 hz2 rfl (by omega) c1 l.length (flatN l) (by simp [re_ne, re_eq, re_size, re_const, hsz, h0, h1, h2, h7]) hown ⟨nb, 0, none⟩ 1 1 [.int .i64 5, .int .i64 (A : Int), .int .i64 (C : Int)] (by simp [re_ne, re_eq, re_size, re_const, hsz, h0, h1, h2, h7]) rfl ?_ (by simp [Value.oneCell']) (by simp only [maxLen]; omega) (by omega) hbw ?_
  · intro j u hu
    have ea : (⟨nb, 0, none⟩ : Addr).add j = ⟨nb, j, none⟩ := by unfold Addr.add; by_cases h : j = 0 <;> simp [h]
    rw [ea, cell_of_row _ _ _ _ _ _ hnb]
    simpa using hu
  intro c3 w3 hn3 hg3 _
  change K (Act.put _ (some 95) c3) w3
  have g3 : Gr w w3 := g2.grown hg3 (fun k hk => by have := (World.ownsRow.lt hown k hk).1; omega)
  have hHeld3 : w3.heap[B]? = some (.cells #[.int .i64 (t : Int), .int .i64 (x : Int)] 24 (0, 0)) := (Below.block g3 _ (Blk_lt hB)).trans hB
  have O3 : OwnN base w3 c3 (l ++ [(5, (A : Int), (C : Int))]) := OwnN.app (r := [(5, (A : Int), (C : Int))]) hn3 (by simp) rfl
  clear hn3 hg3 hown hnb
  refine hK _ _ hHeld3 ?_
  refine re_one (i := 8) (oi := fg10_8) (by kernel_rfl) rfl (re_none _ rfl) (fun K hK => ?_)
  refine re_wcall (d := 97) rfl (rr_enter2 _ _ _ _ _ _ _ 9 _ _ c3 (.agg #[.int .i64 (t : Int), .int .i64 (x : Int)]) _ (by simp [re_ne, re_eq, re_size, re_const, hsz, h0, h1, h2, h7]) (by simp [re_ne, re_eq, re_size, re_const, hsz, h0, h1, h2, h7]) rfl (rr_enter_of Try.func9 (by kernel_rfl) (by kernel_rfl) _ _)) (is_ok O3.rd hok ht hx) ?_
  rintro e w4 ⟨rfl, g4⟩
  have hHeld4 : w4.heap[B]? = some (.cells #[.int .i64 (t : Int), .int .i64 (x : Int)] 24 (0, 0)) := (Below.block g4 _ (Blk_lt hHeld3)).trans hHeld3
  refine ⟨_, rfl, hK _ _ hHeld4 ?_⟩
  refine re_tk (i := 9) (oi := fg10_9) (v := .tuple #[.bool (formP (l ++ [(5, (A : Int), (C : Int))]) t x), .int .i64 0]) (d := 88) hQ rfl rfl (by kernel_rfl) (by kernel_rfl) (by kernel_rfl) (Or.inl ⟨re_none _ rfl, fun wx hS => rr_move _ _ _ _ _ _ _ _ _ (by simp [re_ne, re_eq, re_size, re_const, hsz, h0, h1, h2, h7])⟩) hHeld4 ?_
  refine re_tk (i := 10) (oi := fg10_10) (v := .bool (formP (l ++ [(5, (A : Int), (C : Int))]) t x)) (d := 98) hQ rfl rfl (by kernel_rfl) (by kernel_rfl) (by kernel_rfl) (Or.inl ⟨re_none _ rfl, fun wx hS => rr_ext0 _ _ _ _ _ _ _ _ (.bool (formP (l ++ [(5, (A : Int), (C : Int))]) t x)) (.int .i64 0) (by simp [re_ne, re_eq, re_size, re_const, hsz, h0, h1, h2, h7])⟩) hHeld4 ?_
  refine re_tk (i := 11) (oi := fg10_11) (v := .int .i64 0) (d := 99) hQ rfl rfl (by kernel_rfl) (by kernel_rfl) (by kernel_rfl) (Or.inl ⟨re_none _ rfl, fun wx hS => rr_ext1 _ _ _ _ _ _ _ _ (.bool (formP (l ++ [(5, (A : Int), (C : Int))]) t x)) (.int .i64 0) (by simp [re_ne, re_eq, re_size, re_const, hsz, h0, h1, h2, h7])⟩) hHeld4 ?_
  refine re_tk (i := 12) (oi := fg10_12) (v := .bool (formP (l ++ [(5, (A : Int), (C : Int))]) t x)) (d := 17) hQ rfl rfl (by kernel_rfl) (by kernel_rfl) (by kernel_rfl) (Or.inl ⟨re_none _ rfl, fun wx hS => rr_assign _ _ _ _ _ _ _ _ _ (by simp [re_ne, re_eq, re_size, re_const, hsz, h0, h1, h2, h7])⟩) hHeld4 ?_
  refine re_tk (i := 13) (oi := fg10_13) (v := .int .i64 0) (d := 18) hQ rfl rfl (by kernel_rfl) (by kernel_rfl) (by kernel_rfl) (Or.inl ⟨re_none _ rfl, fun wx hS => rr_assign _ _ _ _ _ _ _ _ _ (by simp [re_ne, re_eq, re_size, re_const, hsz, h0, h1, h2, h7])⟩) hHeld4 ?_
  exact wpAnyH_done (by kernel_rfl) (h _ _ _ _ (g3.trans g4)) _
set_option maxHeartbeats 4000000 in
set_option maxRecDepth 100000 in
theorem fg_reg10 (Q : Exit → Act → World → Prop) (hQ : ∀ c a d v w, Q (.panic c) (Act.put a (some d) v) w → Q (.panic c) a w) (a : Act) (w : World) (B : Nat) (v : Value) (l : List Nd) (t x A C : Nat) (hsz : a.tmps.size = 160) (h0 : a.eval (.tmp 0) = v) (h1 : a.eval (.tmp 1) = .int .i64 (A : Int)) (h2 : a.eval (.tmp 2) = .int .i64 (C : Int)) (h7 : a.eval (.tmp 7) = .pointer (some ⟨B, 0, none⟩)) (hB : w.heap[B]? = some (.cells #[.int .i64 (t : Int), .int .i64 (x : Int)] 24 (0, 0))) (hne : l ≠ []) (hl : l.length ≤ 29) (hok : OkL (l ++ [(5, (A : Int), (C : Int))])) (ht : t < 16) (hx : x < 32) (hr : RdN w v l)
    (h : ∀ w' c1 c2 c3, Gr w w' → Q .normal (Act.put (Act.put (Act.put (Act.put (Act.put (Act.put (Act.put (Act.put (Act.put (Act.put (Act.put (Act.put (Act.put (Act.put a (some 89) (v)) (some 91) (.int .i64 (A : Int))) (some 92) (.int .i64 (C : Int))) (some 93) (.agg #[.int .i64 5, .int .i64 (A : Int), .int .i64 (C : Int)])) (some 96) (.agg #[.int .i64 (t : Int), .int .i64 (x : Int)])) (some 90) (c1)) (some 94) (c2)) (some 95) (c3)) (some 97) (.tuple #[.bool (formP (l ++ [(5, (A : Int), (C : Int))]) t x), .int .i64 0])) (some 88) (.tuple #[.bool (formP (l ++ [(5, (A : Int), (C : Int))]) t x), .int .i64 0])) (some 98) (.bool (formP (l ++ [(5, (A : Int), (C : Int))]) t x))) (some 99) (.int .i64 0)) (some 17) (.bool (formP (l ++ [(5, (A : Int), (C : Int))]) t x))) (some 18) (.int .i64 0)) w') : (Code.region 10 fg10_Ops true).wp Try.prog Q a w := by
  refine wp_region_held_drew (S := fun z => z.heap[B]? = some (.cells #[.int .i64 (t : Int), .int .i64 (x : Int)] 24 (0, 0))) (by kernel_rfl) hB (fun hHeld => ?_)
  show wpAnyH Try.prog .any fg10_Ops Q _ 14 (Array.replicate 14 false) a w.drew
  refine re_tk (i := 0) (oi := fg10_0) (v := v) (d := 89) hQ rfl rfl (by kernel_rfl) (by kernel_rfl) (by kernel_rfl) (Or.inl ⟨re_none _ rfl, fun wx hS => rr_move _ _ _ _ _ _ _ _ _ (by simp [re_ne, re_eq, re_size, re_const, hsz, h0, h1, h2, h7])⟩) hHeld ?_
  refine re_tk (i := 2) (oi := fg10_2) (v := .int .i64 (A : Int)) (d := 91) hQ rfl rfl (by kernel_rfl) (by kernel_rfl) (by kernel_rfl) (Or.inl ⟨re_none _ rfl, fun wx hS => rr_move _ _ _ _ _ _ _ _ _ (by simp [re_ne, re_eq, re_size, re_const, hsz, h0, h1, h2, h7])⟩) hHeld ?_
  refine re_tk (i := 3) (oi := fg10_3) (v := .int .i64 (C : Int)) (d := 92) hQ rfl rfl (by kernel_rfl) (by kernel_rfl) (by kernel_rfl) (Or.inl ⟨re_none _ rfl, fun wx hS => rr_move _ _ _ _ _ _ _ _ _ (by simp [re_ne, re_eq, re_size, re_const, hsz, h0, h1, h2, h7])⟩) hHeld ?_
  refine re_tk (i := 4) (oi := fg10_4) (v := .agg #[.int .i64 5, .int .i64 (A : Int), .int .i64 (C : Int)]) (d := 93) hQ rfl rfl (by kernel_rfl) (by kernel_rfl) (by kernel_rfl) (Or.inl ⟨re_none _ rfl, fun wx hS => rr_node3 _ _ _ _ _ _ _ 5 _ _ _ _ rfl (by simp [re_ne, re_eq, re_size, re_const, hsz, h0, h1, h2, h7]) (by simp [re_ne, re_eq, re_size, re_const, hsz, h0, h1, h2, h7])⟩) hHeld ?_
  refine re_tk (i := 7) (oi := fg10_7) (v := .agg #[.int .i64 (t : Int), .int .i64 (x : Int)]) (d := 96) hQ rfl rfl (by kernel_rfl) (by kernel_rfl) (by kernel_rfl) (Or.inl ⟨re_none _ rfl, fun wx hS => rr_loadP _ _ _ _ _ _ _ _ B _ _ (by simp [re_ne, re_eq, re_size, re_const, hsz, h0, h1, h2, h7]) hS⟩) hHeld ?_
  refine re_pair (i := 1) (j := 5) (oi := fg10_1) (oj := fg10_5) (by kernel_rfl) rfl rfl (re_none _ rfl) (re_none _ rfl) (fun K hK => ?_) (fun K hK => ?_)
  · refine re_wcall (d := 90) rfl (rr_enter1 _ _ _ _ _ _ _ 22 _ v _ (by simp [re_ne, re_eq, re_size, re_const, hsz, h0, h1, h2, h7]) rfl (rr_enter_of Try.func22 (by kernel_rfl) (by kernel_rfl) _ _)) (clone_nodes (w := w.drew) (hr.drew) hne (by omega)) ?_
    rintro e w1 ⟨c1, rfl, ho, g1⟩
    have hHeld1 : w1.heap[B]? = some (.cells #[.int .i64 (t : Int), .int .i64 (x : Int)] 24 (0, 0)) := (Below.block g1 _ (Blk_lt hHeld)).trans hHeld
    refine ⟨c1, rfl, hK _ _ hHeld1 ?_⟩
    refine re_one (i := 5) (oi := fg10_5) (by kernel_rfl) rfl (re_none _ rfl) (fun K hK => ?_)
    refine re_wval (d := 94) rfl (rr_slice1 _ _ _ _ _ _ _ _ 5 (A : Int) (C : Int) (by simp [re_ne, re_eq, re_size, re_const, hsz, h0, h1, h2, h7])) ?_
    have hHeld2 := (Below.block ((Gr.refl w1).alloc (.cells #[.int .i64 5, .int .i64 (A : Int), .int .i64 (C : Int)] 46)) _ (Blk_lt hHeld1)).trans hHeld1
    refine hK _ _ hHeld2 ?_
    exact fg_tail10 Q hQ a w B v l t x A C hsz h0 h1 h2 h7 hB hne hl hok ht hx h _ c1 w.heap.size w1.heap.size (((Gr.refl w).drew.trans g1).alloc _) (Nat.le_refl _) (ho.gr ((Gr.refl w1).alloc _)) (heap_alloc_new _ _) (by have := (((Gr.refl w).drew.trans g1).alloc (.cells #[.int .i64 5, .int .i64 (A : Int), .int .i64 (C : Int)] 46)).le; exact this)
  · refine re_wval (d := 94) rfl (rr_slice1 _ _ _ _ _ _ _ _ 5 (A : Int) (C : Int) (by simp [re_ne, re_eq, re_size, re_const, hsz, h0, h1, h2, h7])) ?_
    have hHeld1 := (Below.block ((Gr.refl w.drew).alloc (.cells #[.int .i64 5, .int .i64 (A : Int), .int .i64 (C : Int)] 46)) _ (Blk_lt hHeld)).trans hHeld
    refine hK _ _ hHeld1 ?_
    refine re_one (i := 1) (oi := fg10_1) (by kernel_rfl) rfl (re_none _ rfl) (fun K hK => ?_)
    refine re_wcall (d := 90) rfl (rr_enter1 _ _ _ _ _ _ _ 22 _ v _ (by simp [re_ne, re_eq, re_size, re_const, hsz, h0, h1, h2, h7]) rfl (rr_enter_of Try.func22 (by kernel_rfl) (by kernel_rfl) _ _)) (clone_nodes (w := w.drew.alloc (.cells #[.int .i64 5, .int .i64 (A : Int), .int .i64 (C : Int)] 46)) (hr.drew.alloc _) hne (by omega)) ?_
    rintro e w1 ⟨c1, rfl, ho, g1⟩
    have hHeld2 := (Below.block g1 _ (Blk_lt hHeld1)).trans hHeld1
    refine ⟨c1, rfl, hK _ _ hHeld2 ?_⟩
    rw [re_comm _ 94 90 _ _ (by decide)]
    exact fg_tail10 Q hQ a w B v l t x A C hsz h0 h1 h2 h7 hB hne hl hok ht hx h _ c1 (w.heap.size + 1) w.heap.size (((Gr.refl w).drew.alloc _).trans g1) (by omega) (by have := ho; simpa using this) ((Below.block g1 _ (by simp)).trans (heap_alloc_new _ _)) (by have := g1.le; simpa using this)
def fg11_0 : Oper := Oper.mk (some 101) (Op.move (Operand.tmp 0)) 22 "more.go:230" #[] none
def fg11_1 : Oper := Oper.mk (some 102) (Op.call (Call.mk (Callee.value (Operand.func 22)) #[Operand.tmp 101] #[22])) 22 "more.go:230" #[Edge.mk 0 Ground.data] none
def fg11_2 : Oper := Oper.mk (some 103) (Op.move (Operand.tmp 1)) 3 "more.go:230" #[] none
def fg11_3 : Oper := Oper.mk (some 104) (Op.move (Operand.tmp 2)) 3 "more.go:230" #[] none
def fg11_4 : Oper := Oper.mk (some 105) (Op.build 46 #[(0, Operand.const (Value.int IntKind.i64 6)), (1, Operand.tmp 103), (2, Operand.tmp 104)]) 46 "more.go:230" #[Edge.mk 2 Ground.data, Edge.mk 3 Ground.data] none
def fg11_5 : Oper := Oper.mk (some 106) (Op.buildSlice 22 1 #[(0, Operand.tmp 105)]) 22 "more.go:230" #[Edge.mk 4 Ground.data] none
def fg11_6 : Oper := Oper.mk (some 107) (Op.call (Call.mk (Callee.builtin Builtin.append) #[Operand.tmp 102, Operand.tmp 106] #[22, 22])) 22 "more.go:230" #[Edge.mk 1 Ground.data, Edge.mk 5 Ground.data, Edge.mk 1 Ground.chain] none
def fg11_7 : Oper := Oper.mk (some 108) (Op.load 24 (Operand.tmp 7)) 24 "more.go:230" #[] none
def fg11_8 : Oper := Oper.mk (some 109) (Op.call (Call.mk (Callee.value (Operand.func 9)) #[Operand.tmp 107, Operand.tmp 108] #[22, 24])) 26 "more.go:230" #[Edge.mk 6 Ground.data, Edge.mk 7 Ground.data, Edge.mk 6 Ground.chain] none
def fg11_9 : Oper := Oper.mk (some 100) (Op.move (Operand.tmp 109)) 26 "more.go:230" #[Edge.mk 8 Ground.data] none
def fg11_10 : Oper := Oper.mk (some 110) (Op.extract (Operand.tmp 100) 0) 4 "more.go:230" #[Edge.mk 9 Ground.data] none
def fg11_11 : Oper := Oper.mk (some 111) (Op.extract (Operand.tmp 100) 1) 25 "more.go:230" #[Edge.mk 9 Ground.data, Edge.mk 12 (Ground.gcOnly Departure.lateStores)] none
def fg11_12 : Oper := Oper.mk (some 19) (Op.assign (Operand.tmp 110)) 4 "more.go:230" #[Edge.mk 10 Ground.data, Edge.mk 8 Ground.chain, Edge.mk 0 Ground.phase, Edge.mk 1 Ground.phase, Edge.mk 2 Ground.phase, Edge.mk 3 Ground.phase, Edge.mk 4 Ground.phase, Edge.mk 5 Ground.phase, Edge.mk 6 Ground.phase, Edge.mk 7 Ground.phase, Edge.mk 8 Ground.phase, Edge.mk 9 Ground.phase, Edge.mk 10 Ground.phase, Edge.mk 11 (Ground.textOnly Departure.lateStores)] none
def fg11_13 : Oper := Oper.mk (some 20) (Op.assign (Operand.tmp 111)) 25 "more.go:230" #[Edge.mk 11 Ground.data, Edge.mk 12 Ground.chain, Edge.mk 0 Ground.phase, Edge.mk 1 Ground.phase, Edge.mk 2 Ground.phase, Edge.mk 3 Ground.phase, Edge.mk 4 Ground.phase, Edge.mk 5 Ground.phase, Edge.mk 6 Ground.phase, Edge.mk 7 Ground.phase, Edge.mk 8 Ground.phase, Edge.mk 9 Ground.phase, Edge.mk 10 Ground.phase, Edge.mk 11 Ground.phase, Edge.mk 12 Ground.phase] none
def fg11_Ops : Array Oper := #[fg11_0, fg11_1, fg11_2, fg11_3, fg11_4, fg11_5, fg11_6, fg11_7, fg11_8, fg11_9, fg11_10, fg11_11, fg11_12, fg11_13]

set_option maxHeartbeats 4000000 in
set_option maxRecDepth 100000 in
theorem fg_tail11 (Q : Exit → Act → World → Prop) (hQ : ∀ c a d v w, Q (.panic c) (Act.put a (some d) v) w → Q (.panic c) a w) (a : Act) (w : World) (B : Nat) (v : Value) (l : List Nd) (t x A C : Nat) (hsz : a.tmps.size = 160) (h0 : a.eval (.tmp 0) = v) (h1 : a.eval (.tmp 1) = .int .i64 (A : Int)) (h2 : a.eval (.tmp 2) = .int .i64 (C : Int)) (h7 : a.eval (.tmp 7) = .pointer (some ⟨B, 0, none⟩)) (hB : w.heap[B]? = some (.cells #[.int .i64 (t : Int), .int .i64 (x : Int)] 24 (0, 0))) (hne : l ≠ []) (hl : l.length ≤ 29) (hok : OkL (l ++ [(6, (A : Int), (C : Int))])) (ht : t < 16) (hx : x < 32)
    (h : ∀ w' c1 c2 c3, Gr w w' → Q .normal (Act.put (Act.put (Act.put (Act.put (Act.put (Act.put (Act.put (Act.put (Act.put (Act.put (Act.put (Act.put (Act.put (Act.put a (some 101) (v)) (some 103) (.int .i64 (A : Int))) (some 104) (.int .i64 (C : Int))) (some 105) (.agg #[.int .i64 6, .int .i64 (A : Int), .int .i64 (C : Int)])) (some 108) (.agg #[.int .i64 (t : Int), .int .i64 (x : Int)])) (some 102) (c1)) (some 106) (c2)) (some 107) (c3)) (some 109) (.tuple #[.bool (formP (l ++ [(6, (A : Int), (C : Int))]) t x), .int .i64 0])) (some 100) (.tuple #[.bool (formP (l ++ [(6, (A : Int), (C : Int))]) t x), .int .i64 0])) (some 110) (.bool (formP (l ++ [(6, (A : Int), (C : Int))]) t x))) (some 111) (.int .i64 0)) (some 19) (.bool (formP (l ++ [(6, (A : Int), (C : Int))]) t x))) (some 20) (.int .i64 0)) w')
    (w2 : World) (c1 : Value) (base nb : Nat) (g2 : Gr w w2) (hbase : w.heap.size ≤ base) (hown : OwnN base w2 c1 l) (hnb : w2.heap[nb]? = some (.cells #[.int .i64 6, .int .i64 (A : Int), .int .i64 (C : Int)] 46 (0, 0))) (hbw : base ≤ w2.heap.size) :
    wpAnyH Try.prog .any fg11_Ops Q (fun z => z.heap[B]? = some (.cells #[.int .i64 (t : Int), .int .i64 (x : Int)] 24 (0, 0))) 7 (Array.setIfInBounds (Array.setIfInBounds (Array.setIfInBounds (Array.setIfInBounds (Array.setIfInBounds (Array.setIfInBounds (Array.setIfInBounds (Array.replicate 14 false) 0 true) 2 true) 3 true) 4 true) 7 true) 1 true) 5 true) (Act.put (Act.put (Act.put (Act.put (Act.put (Act.put (Act.put a (some 101) (v)) (some 103) (.int .i64 (A : Int))) (some 104) (.int .i64 (C : Int))) (some 105) (.agg #[.int .i64 6, .int .i64 (A : Int), .int .i64 (C : Int)])) (some 108) (.agg #[.int .i64 (t : Int), .int .i64 (x : Int)])) (some 102) (c1)) (some 106) (.slice (some ⟨nb, 0, none⟩) 1 1)) w2 := by
  obtain ⟨i0, hi0, hz0, hz1, hz2⟩ := info_parts node_info
  have hHeld : w2.heap[B]? = some (.cells #[.int .i64 (t : Int), .int .i64 (x : Int)] 24 (0, 0)) := (Below.block g2 _ (Blk_lt hB)).trans hB
  refine re_one (i := 6) (oi := fg11_6) (by kernel_rfl) rfl (re_none _ rfl) (fun K hK => ?_)
  refine wp_append_own _ (.tmp 102) (.tmp 106) 22 rfl base 46 i0 _ 3 24 Try.underlying22 hi0 hz0 hz1 hz2 rfl (by omega) c1 l.length (flatN l) (by simp [re_ne, re_eq, re_size, re_const, hsz, h0, h1, h2, h7]) hown ⟨nb, 0, none⟩ 1 1 [.int .i64 6, .int .i64 (A : Int), .int .i64 (C : Int)] (by simp [re_ne, re_eq, re_size, re_const, hsz, h0, h1, h2, h7]) rfl ?_ (by simp [Value.oneCell']) (by simp only [maxLen]; omega) (by omega) hbw ?_
  · intro j u hu
    have ea : (⟨nb, 0, none⟩ : Addr).add j = ⟨nb, j, none⟩ := by unfold Addr.add; by_cases h : j = 0 <;> simp [h]
    rw [ea, cell_of_row _ _ _ _ _ _ hnb]
    simpa using hu
  intro c3 w3 hn3 hg3 _
  change K (Act.put _ (some 107) c3) w3
  have g3 : Gr w w3 := g2.grown hg3 (fun k hk => by have := (World.ownsRow.lt hown k hk).1; omega)
  have hHeld3 : w3.heap[B]? = some (.cells #[.int .i64 (t : Int), .int .i64 (x : Int)] 24 (0, 0)) := (Below.block g3 _ (Blk_lt hB)).trans hB
  have O3 : OwnN base w3 c3 (l ++ [(6, (A : Int), (C : Int))]) := OwnN.app (r := [(6, (A : Int), (C : Int))]) hn3 (by simp) rfl
  clear hn3 hg3 hown hnb
  refine hK _ _ hHeld3 ?_
  refine re_one (i := 8) (oi := fg11_8) (by kernel_rfl) rfl (re_none _ rfl) (fun K hK => ?_)
  refine re_wcall (d := 109) rfl (rr_enter2 _ _ _ _ _ _ _ 9 _ _ c3 (.agg #[.int .i64 (t : Int), .int .i64 (x : Int)]) _ (by simp [re_ne, re_eq, re_size, re_const, hsz, h0, h1, h2, h7]) (by simp [re_ne, re_eq, re_size, re_const, hsz, h0, h1, h2, h7]) rfl (rr_enter_of Try.func9 (by kernel_rfl) (by kernel_rfl) _ _)) (is_ok O3.rd hok ht hx) ?_
  rintro e w4 ⟨rfl, g4⟩
  have hHeld4 : w4.heap[B]? = some (.cells #[.int .i64 (t : Int), .int .i64 (x : Int)] 24 (0, 0)) := (Below.block g4 _ (Blk_lt hHeld3)).trans hHeld3
  refine ⟨_, rfl, hK _ _ hHeld4 ?_⟩
  refine re_tk (i := 9) (oi := fg11_9) (v := .tuple #[.bool (formP (l ++ [(6, (A : Int), (C : Int))]) t x), .int .i64 0]) (d := 100) hQ rfl rfl (by kernel_rfl) (by kernel_rfl) (by kernel_rfl) (Or.inl ⟨re_none _ rfl, fun wx hS => rr_move _ _ _ _ _ _ _ _ _ (by simp [re_ne, re_eq, re_size, re_const, hsz, h0, h1, h2, h7])⟩) hHeld4 ?_
  refine re_tk (i := 10) (oi := fg11_10) (v := .bool (formP (l ++ [(6, (A : Int), (C : Int))]) t x)) (d := 110) hQ rfl rfl (by kernel_rfl) (by kernel_rfl) (by kernel_rfl) (Or.inl ⟨re_none _ rfl, fun wx hS => rr_ext0 _ _ _ _ _ _ _ _ (.bool (formP (l ++ [(6, (A : Int), (C : Int))]) t x)) (.int .i64 0) (by simp [re_ne, re_eq, re_size, re_const, hsz, h0, h1, h2, h7])⟩) hHeld4 ?_
  refine re_tk (i := 11) (oi := fg11_11) (v := .int .i64 0) (d := 111) hQ rfl rfl (by kernel_rfl) (by kernel_rfl) (by kernel_rfl) (Or.inl ⟨re_none _ rfl, fun wx hS => rr_ext1 _ _ _ _ _ _ _ _ (.bool (formP (l ++ [(6, (A : Int), (C : Int))]) t x)) (.int .i64 0) (by simp [re_ne, re_eq, re_size, re_const, hsz, h0, h1, h2, h7])⟩) hHeld4 ?_
  refine re_tk (i := 12) (oi := fg11_12) (v := .bool (formP (l ++ [(6, (A : Int), (C : Int))]) t x)) (d := 19) hQ rfl rfl (by kernel_rfl) (by kernel_rfl) (by kernel_rfl) (Or.inl ⟨re_none _ rfl, fun wx hS => rr_assign _ _ _ _ _ _ _ _ _ (by simp [re_ne, re_eq, re_size, re_const, hsz, h0, h1, h2, h7])⟩) hHeld4 ?_
  refine re_tk (i := 13) (oi := fg11_13) (v := .int .i64 0) (d := 20) hQ rfl rfl (by kernel_rfl) (by kernel_rfl) (by kernel_rfl) (Or.inl ⟨re_none _ rfl, fun wx hS => rr_assign _ _ _ _ _ _ _ _ _ (by simp [re_ne, re_eq, re_size, re_const, hsz, h0, h1, h2, h7])⟩) hHeld4 ?_
  exact wpAnyH_done (by kernel_rfl) (h _ _ _ _ (g3.trans g4)) _
set_option maxHeartbeats 4000000 in
set_option maxRecDepth 100000 in
theorem fg_reg11 (Q : Exit → Act → World → Prop) (hQ : ∀ c a d v w, Q (.panic c) (Act.put a (some d) v) w → Q (.panic c) a w) (a : Act) (w : World) (B : Nat) (v : Value) (l : List Nd) (t x A C : Nat) (hsz : a.tmps.size = 160) (h0 : a.eval (.tmp 0) = v) (h1 : a.eval (.tmp 1) = .int .i64 (A : Int)) (h2 : a.eval (.tmp 2) = .int .i64 (C : Int)) (h7 : a.eval (.tmp 7) = .pointer (some ⟨B, 0, none⟩)) (hB : w.heap[B]? = some (.cells #[.int .i64 (t : Int), .int .i64 (x : Int)] 24 (0, 0))) (hne : l ≠ []) (hl : l.length ≤ 29) (hok : OkL (l ++ [(6, (A : Int), (C : Int))])) (ht : t < 16) (hx : x < 32) (hr : RdN w v l)
    (h : ∀ w' c1 c2 c3, Gr w w' → Q .normal (Act.put (Act.put (Act.put (Act.put (Act.put (Act.put (Act.put (Act.put (Act.put (Act.put (Act.put (Act.put (Act.put (Act.put a (some 101) (v)) (some 103) (.int .i64 (A : Int))) (some 104) (.int .i64 (C : Int))) (some 105) (.agg #[.int .i64 6, .int .i64 (A : Int), .int .i64 (C : Int)])) (some 108) (.agg #[.int .i64 (t : Int), .int .i64 (x : Int)])) (some 102) (c1)) (some 106) (c2)) (some 107) (c3)) (some 109) (.tuple #[.bool (formP (l ++ [(6, (A : Int), (C : Int))]) t x), .int .i64 0])) (some 100) (.tuple #[.bool (formP (l ++ [(6, (A : Int), (C : Int))]) t x), .int .i64 0])) (some 110) (.bool (formP (l ++ [(6, (A : Int), (C : Int))]) t x))) (some 111) (.int .i64 0)) (some 19) (.bool (formP (l ++ [(6, (A : Int), (C : Int))]) t x))) (some 20) (.int .i64 0)) w') : (Code.region 11 fg11_Ops true).wp Try.prog Q a w := by
  refine wp_region_held_drew (S := fun z => z.heap[B]? = some (.cells #[.int .i64 (t : Int), .int .i64 (x : Int)] 24 (0, 0))) (by kernel_rfl) hB (fun hHeld => ?_)
  show wpAnyH Try.prog .any fg11_Ops Q _ 14 (Array.replicate 14 false) a w.drew
  refine re_tk (i := 0) (oi := fg11_0) (v := v) (d := 101) hQ rfl rfl (by kernel_rfl) (by kernel_rfl) (by kernel_rfl) (Or.inl ⟨re_none _ rfl, fun wx hS => rr_move _ _ _ _ _ _ _ _ _ (by simp [re_ne, re_eq, re_size, re_const, hsz, h0, h1, h2, h7])⟩) hHeld ?_
  refine re_tk (i := 2) (oi := fg11_2) (v := .int .i64 (A : Int)) (d := 103) hQ rfl rfl (by kernel_rfl) (by kernel_rfl) (by kernel_rfl) (Or.inl ⟨re_none _ rfl, fun wx hS => rr_move _ _ _ _ _ _ _ _ _ (by simp [re_ne, re_eq, re_size, re_const, hsz, h0, h1, h2, h7])⟩) hHeld ?_
  refine re_tk (i := 3) (oi := fg11_3) (v := .int .i64 (C : Int)) (d := 104) hQ rfl rfl (by kernel_rfl) (by kernel_rfl) (by kernel_rfl) (Or.inl ⟨re_none _ rfl, fun wx hS => rr_move _ _ _ _ _ _ _ _ _ (by simp [re_ne, re_eq, re_size, re_const, hsz, h0, h1, h2, h7])⟩) hHeld ?_
  refine re_tk (i := 4) (oi := fg11_4) (v := .agg #[.int .i64 6, .int .i64 (A : Int), .int .i64 (C : Int)]) (d := 105) hQ rfl rfl (by kernel_rfl) (by kernel_rfl) (by kernel_rfl) (Or.inl ⟨re_none _ rfl, fun wx hS => rr_node3 _ _ _ _ _ _ _ 6 _ _ _ _ rfl (by simp [re_ne, re_eq, re_size, re_const, hsz, h0, h1, h2, h7]) (by simp [re_ne, re_eq, re_size, re_const, hsz, h0, h1, h2, h7])⟩) hHeld ?_
  refine re_tk (i := 7) (oi := fg11_7) (v := .agg #[.int .i64 (t : Int), .int .i64 (x : Int)]) (d := 108) hQ rfl rfl (by kernel_rfl) (by kernel_rfl) (by kernel_rfl) (Or.inl ⟨re_none _ rfl, fun wx hS => rr_loadP _ _ _ _ _ _ _ _ B _ _ (by simp [re_ne, re_eq, re_size, re_const, hsz, h0, h1, h2, h7]) hS⟩) hHeld ?_
  refine re_pair (i := 1) (j := 5) (oi := fg11_1) (oj := fg11_5) (by kernel_rfl) rfl rfl (re_none _ rfl) (re_none _ rfl) (fun K hK => ?_) (fun K hK => ?_)
  · refine re_wcall (d := 102) rfl (rr_enter1 _ _ _ _ _ _ _ 22 _ v _ (by simp [re_ne, re_eq, re_size, re_const, hsz, h0, h1, h2, h7]) rfl (rr_enter_of Try.func22 (by kernel_rfl) (by kernel_rfl) _ _)) (clone_nodes (w := w.drew) (hr.drew) hne (by omega)) ?_
    rintro e w1 ⟨c1, rfl, ho, g1⟩
    have hHeld1 : w1.heap[B]? = some (.cells #[.int .i64 (t : Int), .int .i64 (x : Int)] 24 (0, 0)) := (Below.block g1 _ (Blk_lt hHeld)).trans hHeld
    refine ⟨c1, rfl, hK _ _ hHeld1 ?_⟩
    refine re_one (i := 5) (oi := fg11_5) (by kernel_rfl) rfl (re_none _ rfl) (fun K hK => ?_)
    refine re_wval (d := 106) rfl (rr_slice1 _ _ _ _ _ _ _ _ 6 (A : Int) (C : Int) (by simp [re_ne, re_eq, re_size, re_const, hsz, h0, h1, h2, h7])) ?_
    have hHeld2 := (Below.block ((Gr.refl w1).alloc (.cells #[.int .i64 6, .int .i64 (A : Int), .int .i64 (C : Int)] 46)) _ (Blk_lt hHeld1)).trans hHeld1
    refine hK _ _ hHeld2 ?_
    exact fg_tail11 Q hQ a w B v l t x A C hsz h0 h1 h2 h7 hB hne hl hok ht hx h _ c1 w.heap.size w1.heap.size (((Gr.refl w).drew.trans g1).alloc _) (Nat.le_refl _) (ho.gr ((Gr.refl w1).alloc _)) (heap_alloc_new _ _) (by have := (((Gr.refl w).drew.trans g1).alloc (.cells #[.int .i64 6, .int .i64 (A : Int), .int .i64 (C : Int)] 46)).le; exact this)
  · refine re_wval (d := 106) rfl (rr_slice1 _ _ _ _ _ _ _ _ 6 (A : Int) (C : Int) (by simp [re_ne, re_eq, re_size, re_const, hsz, h0, h1, h2, h7])) ?_
    have hHeld1 := (Below.block ((Gr.refl w.drew).alloc (.cells #[.int .i64 6, .int .i64 (A : Int), .int .i64 (C : Int)] 46)) _ (Blk_lt hHeld)).trans hHeld
    refine hK _ _ hHeld1 ?_
    refine re_one (i := 1) (oi := fg11_1) (by kernel_rfl) rfl (re_none _ rfl) (fun K hK => ?_)
    refine re_wcall (d := 102) rfl (rr_enter1 _ _ _ _ _ _ _ 22 _ v _ (by simp [re_ne, re_eq, re_size, re_const, hsz, h0, h1, h2, h7]) rfl (rr_enter_of Try.func22 (by kernel_rfl) (by kernel_rfl) _ _)) (clone_nodes (w := w.drew.alloc (.cells #[.int .i64 6, .int .i64 (A : Int), .int .i64 (C : Int)] 46)) (hr.drew.alloc _) hne (by omega)) ?_
    rintro e w1 ⟨c1, rfl, ho, g1⟩
    have hHeld2 := (Below.block g1 _ (Blk_lt hHeld1)).trans hHeld1
    refine ⟨c1, rfl, hK _ _ hHeld2 ?_⟩
    rw [re_comm _ 106 102 _ _ (by decide)]
    exact fg_tail11 Q hQ a w B v l t x A C hsz h0 h1 h2 h7 hB hne hl hok ht hx h _ c1 (w.heap.size + 1) w.heap.size (((Gr.refl w).drew.alloc _).trans g1) (by omega) (by have := ho; simpa using this) ((Below.block g1 _ (by simp)).trans (heap_alloc_new _ _)) (by have := g1.le; simpa using this)
def fg12_0 : Oper := Oper.mk (some 113) (Op.move (Operand.tmp 0)) 22 "more.go:231" #[] none
def fg12_1 : Oper := Oper.mk (some 114) (Op.call (Call.mk (Callee.value (Operand.func 22)) #[Operand.tmp 113] #[22])) 22 "more.go:231" #[Edge.mk 0 Ground.data] none
def fg12_2 : Oper := Oper.mk (some 115) (Op.build 46 #[(0, Operand.const (Value.int IntKind.i64 1))]) 46 "more.go:231" #[] none
def fg12_3 : Oper := Oper.mk (some 116) (Op.buildSlice 22 1 #[(0, Operand.tmp 115)]) 22 "more.go:231" #[Edge.mk 2 Ground.data] none
def fg12_4 : Oper := Oper.mk (some 117) (Op.call (Call.mk (Callee.builtin Builtin.append) #[Operand.tmp 114, Operand.tmp 116] #[22, 22])) 22 "more.go:231" #[Edge.mk 1 Ground.data, Edge.mk 3 Ground.data, Edge.mk 1 Ground.chain] none
def fg12_5 : Oper := Oper.mk (some 118) (Op.load 24 (Operand.tmp 7)) 24 "more.go:231" #[] none
def fg12_6 : Oper := Oper.mk (some 119) (Op.call (Call.mk (Callee.value (Operand.func 9)) #[Operand.tmp 117, Operand.tmp 118] #[22, 24])) 26 "more.go:231" #[Edge.mk 4 Ground.data, Edge.mk 5 Ground.data, Edge.mk 4 Ground.chain] none
def fg12_7 : Oper := Oper.mk (some 112) (Op.move (Operand.tmp 119)) 26 "more.go:231" #[Edge.mk 6 Ground.data] none
def fg12_8 : Oper := Oper.mk (some 120) (Op.extract (Operand.tmp 112) 0) 4 "more.go:231" #[Edge.mk 7 Ground.data] none
def fg12_9 : Oper := Oper.mk (some 121) (Op.extract (Operand.tmp 112) 1) 25 "more.go:231" #[Edge.mk 7 Ground.data, Edge.mk 10 (Ground.gcOnly Departure.lateStores)] none
def fg12_10 : Oper := Oper.mk (some 21) (Op.assign (Operand.tmp 120)) 4 "more.go:231" #[Edge.mk 8 Ground.data, Edge.mk 6 Ground.chain, Edge.mk 0 Ground.phase, Edge.mk 1 Ground.phase, Edge.mk 2 Ground.phase, Edge.mk 3 Ground.phase, Edge.mk 4 Ground.phase, Edge.mk 5 Ground.phase, Edge.mk 6 Ground.phase, Edge.mk 7 Ground.phase, Edge.mk 8 Ground.phase, Edge.mk 9 (Ground.textOnly Departure.lateStores)] none
def fg12_11 : Oper := Oper.mk (some 22) (Op.assign (Operand.tmp 121)) 25 "more.go:231" #[Edge.mk 9 Ground.data, Edge.mk 10 Ground.chain, Edge.mk 0 Ground.phase, Edge.mk 1 Ground.phase, Edge.mk 2 Ground.phase, Edge.mk 3 Ground.phase, Edge.mk 4 Ground.phase, Edge.mk 5 Ground.phase, Edge.mk 6 Ground.phase, Edge.mk 7 Ground.phase, Edge.mk 8 Ground.phase, Edge.mk 9 Ground.phase, Edge.mk 10 Ground.phase] none
def fg12_Ops : Array Oper := #[fg12_0, fg12_1, fg12_2, fg12_3, fg12_4, fg12_5, fg12_6, fg12_7, fg12_8, fg12_9, fg12_10, fg12_11]

set_option maxHeartbeats 4000000 in
set_option maxRecDepth 100000 in
theorem fg_tail12 (Q : Exit → Act → World → Prop) (hQ : ∀ c a d v w, Q (.panic c) (Act.put a (some d) v) w → Q (.panic c) a w) (a : Act) (w : World) (B : Nat) (v : Value) (l : List Nd) (t x A C : Nat) (hsz : a.tmps.size = 160) (h0 : a.eval (.tmp 0) = v) (h1 : a.eval (.tmp 1) = .int .i64 (A : Int)) (h2 : a.eval (.tmp 2) = .int .i64 (C : Int)) (h7 : a.eval (.tmp 7) = .pointer (some ⟨B, 0, none⟩)) (hB : w.heap[B]? = some (.cells #[.int .i64 (t : Int), .int .i64 (x : Int)] 24 (0, 0))) (hne : l ≠ []) (hl : l.length ≤ 29) (hok : OkL (l ++ [(1, 0, 0)])) (ht : t < 16) (hx : x < 32)
    (h : ∀ w' c1 c2 c3, Gr w w' → Q .normal (Act.put (Act.put (Act.put (Act.put (Act.put (Act.put (Act.put (Act.put (Act.put (Act.put (Act.put (Act.put a (some 113) (v)) (some 115) (.agg #[.int .i64 1, .int .i64 0, .int .i64 0])) (some 118) (.agg #[.int .i64 (t : Int), .int .i64 (x : Int)])) (some 114) (c1)) (some 116) (c2)) (some 117) (c3)) (some 119) (.tuple #[.bool (formP (l ++ [(1, 0, 0)]) t x), .int .i64 0])) (some 112) (.tuple #[.bool (formP (l ++ [(1, 0, 0)]) t x), .int .i64 0])) (some 120) (.bool (formP (l ++ [(1, 0, 0)]) t x))) (some 121) (.int .i64 0)) (some 21) (.bool (formP (l ++ [(1, 0, 0)]) t x))) (some 22) (.int .i64 0)) w')
    (w2 : World) (c1 : Value) (base nb : Nat) (g2 : Gr w w2) (hbase : w.heap.size ≤ base) (hown : OwnN base w2 c1 l) (hnb : w2.heap[nb]? = some (.cells #[.int .i64 1, .int .i64 0, .int .i64 0] 46 (0, 0))) (hbw : base ≤ w2.heap.size) :
    wpAnyH Try.prog .any fg12_Ops Q (fun z => z.heap[B]? = some (.cells #[.int .i64 (t : Int), .int .i64 (x : Int)] 24 (0, 0))) 7 (Array.setIfInBounds (Array.setIfInBounds (Array.setIfInBounds (Array.setIfInBounds (Array.setIfInBounds (Array.replicate 12 false) 0 true) 2 true) 5 true) 1 true) 3 true) (Act.put (Act.put (Act.put (Act.put (Act.put a (some 113) (v)) (some 115) (.agg #[.int .i64 1, .int .i64 0, .int .i64 0])) (some 118) (.agg #[.int .i64 (t : Int), .int .i64 (x : Int)])) (some 114) (c1)) (some 116) (.slice (some ⟨nb, 0, none⟩) 1 1)) w2 := by
  obtain ⟨i0, hi0, hz0, hz1, hz2⟩ := info_parts node_info
  have hHeld : w2.heap[B]? = some (.cells #[.int .i64 (t : Int), .int .i64 (x : Int)] 24 (0, 0)) := (Below.block g2 _ (Blk_lt hB)).trans hB
  refine re_one (i := 4) (oi := fg12_4) (by kernel_rfl) rfl (re_none _ rfl) (fun K hK => ?_)
  refine wp_append_own _ (.tmp 114) (.tmp 116) 22 rfl base 46 i0 _ 3 24 Try.underlying22 hi0 hz0 hz1 hz2 rfl (by omega) c1 l.length (flatN l) (by simp [re_ne, re_eq, re_size, re_const, hsz, h0, h1, h2, h7]) hown ⟨nb, 0, none⟩ 1 1 [.int .i64 1, .int .i64 0, .int .i64 0] (by simp [re_ne, re_eq, re_size, re_const, hsz, h0, h1, h2, h7]) rfl ?_ (by simp [Value.oneCell']) (by simp only [maxLen]; omega) (by omega) hbw ?_
  · intro j u hu
    have ea : (⟨nb, 0, none⟩ : Addr).add j = ⟨nb, j, none⟩ := by unfold Addr.add; by_cases h : j = 0 <;> simp [h]
    rw [ea, cell_of_row _ _ _ _ _ _ hnb]
    simpa using hu
  intro c3 w3 hn3 hg3 _
  change K (Act.put _ (some 117) c3) w3
  have g3 : Gr w w3 := g2.grown hg3 (fun k hk => by have := (World.ownsRow.lt hown k hk).1; omega)
  have hHeld3 : w3.heap[B]? = some (.cells #[.int .i64 (t : Int), .int .i64 (x : Int)] 24 (0, 0)) := (Below.block g3 _ (Blk_lt hB)).trans hB
  have O3 : OwnN base w3 c3 (l ++ [(1, 0, 0)]) := OwnN.app (r := [(1, 0, 0)]) hn3 (by simp) rfl
  clear hn3 hg3 hown hnb
  refine hK _ _ hHeld3 ?_
  refine re_one (i := 6) (oi := fg12_6) (by kernel_rfl) rfl (re_none _ rfl) (fun K hK => ?_)
  refine re_wcall (d := 119) rfl (rr_enter2 _ _ _ _ _ _ _ 9 _ _ c3 (.agg #[.int .i64 (t : Int), .int .i64 (x : Int)]) _ (by simp [re_ne, re_eq, re_size, re_const, hsz, h0, h1, h2, h7]) (by simp [re_ne, re_eq, re_size, re_const, hsz, h0, h1, h2, h7]) rfl (rr_enter_of Try.func9 (by kernel_rfl) (by kernel_rfl) _ _)) (is_ok O3.rd hok ht hx) ?_
  rintro e w4 ⟨rfl, g4⟩
  have hHeld4 : w4.heap[B]? = some (.cells #[.int .i64 (t : Int), .int .i64 (x : Int)] 24 (0, 0)) := (Below.block g4 _ (Blk_lt hHeld3)).trans hHeld3
  refine ⟨_, rfl, hK _ _ hHeld4 ?_⟩
  refine re_tk (i := 7) (oi := fg12_7) (v := .tuple #[.bool (formP (l ++ [(1, 0, 0)]) t x), .int .i64 0]) (d := 112) hQ rfl rfl (by kernel_rfl) (by kernel_rfl) (by kernel_rfl) (Or.inl ⟨re_none _ rfl, fun wx hS => rr_move _ _ _ _ _ _ _ _ _ (by simp [re_ne, re_eq, re_size, re_const, hsz, h0, h1, h2, h7])⟩) hHeld4 ?_
  refine re_tk (i := 8) (oi := fg12_8) (v := .bool (formP (l ++ [(1, 0, 0)]) t x)) (d := 120) hQ rfl rfl (by kernel_rfl) (by kernel_rfl) (by kernel_rfl) (Or.inl ⟨re_none _ rfl, fun wx hS => rr_ext0 _ _ _ _ _ _ _ _ (.bool (formP (l ++ [(1, 0, 0)]) t x)) (.int .i64 0) (by simp [re_ne, re_eq, re_size, re_const, hsz, h0, h1, h2, h7])⟩) hHeld4 ?_
  refine re_tk (i := 9) (oi := fg12_9) (v := .int .i64 0) (d := 121) hQ rfl rfl (by kernel_rfl) (by kernel_rfl) (by kernel_rfl) (Or.inl ⟨re_none _ rfl, fun wx hS => rr_ext1 _ _ _ _ _ _ _ _ (.bool (formP (l ++ [(1, 0, 0)]) t x)) (.int .i64 0) (by simp [re_ne, re_eq, re_size, re_const, hsz, h0, h1, h2, h7])⟩) hHeld4 ?_
  refine re_tk (i := 10) (oi := fg12_10) (v := .bool (formP (l ++ [(1, 0, 0)]) t x)) (d := 21) hQ rfl rfl (by kernel_rfl) (by kernel_rfl) (by kernel_rfl) (Or.inl ⟨re_none _ rfl, fun wx hS => rr_assign _ _ _ _ _ _ _ _ _ (by simp [re_ne, re_eq, re_size, re_const, hsz, h0, h1, h2, h7])⟩) hHeld4 ?_
  refine re_tk (i := 11) (oi := fg12_11) (v := .int .i64 0) (d := 22) hQ rfl rfl (by kernel_rfl) (by kernel_rfl) (by kernel_rfl) (Or.inl ⟨re_none _ rfl, fun wx hS => rr_assign _ _ _ _ _ _ _ _ _ (by simp [re_ne, re_eq, re_size, re_const, hsz, h0, h1, h2, h7])⟩) hHeld4 ?_
  exact wpAnyH_done (by kernel_rfl) (h _ _ _ _ (g3.trans g4)) _
set_option maxHeartbeats 4000000 in
set_option maxRecDepth 100000 in
theorem fg_reg12 (Q : Exit → Act → World → Prop) (hQ : ∀ c a d v w, Q (.panic c) (Act.put a (some d) v) w → Q (.panic c) a w) (a : Act) (w : World) (B : Nat) (v : Value) (l : List Nd) (t x A C : Nat) (hsz : a.tmps.size = 160) (h0 : a.eval (.tmp 0) = v) (h1 : a.eval (.tmp 1) = .int .i64 (A : Int)) (h2 : a.eval (.tmp 2) = .int .i64 (C : Int)) (h7 : a.eval (.tmp 7) = .pointer (some ⟨B, 0, none⟩)) (hB : w.heap[B]? = some (.cells #[.int .i64 (t : Int), .int .i64 (x : Int)] 24 (0, 0))) (hne : l ≠ []) (hl : l.length ≤ 29) (hok : OkL (l ++ [(1, 0, 0)])) (ht : t < 16) (hx : x < 32) (hr : RdN w v l)
    (h : ∀ w' c1 c2 c3, Gr w w' → Q .normal (Act.put (Act.put (Act.put (Act.put (Act.put (Act.put (Act.put (Act.put (Act.put (Act.put (Act.put (Act.put a (some 113) (v)) (some 115) (.agg #[.int .i64 1, .int .i64 0, .int .i64 0])) (some 118) (.agg #[.int .i64 (t : Int), .int .i64 (x : Int)])) (some 114) (c1)) (some 116) (c2)) (some 117) (c3)) (some 119) (.tuple #[.bool (formP (l ++ [(1, 0, 0)]) t x), .int .i64 0])) (some 112) (.tuple #[.bool (formP (l ++ [(1, 0, 0)]) t x), .int .i64 0])) (some 120) (.bool (formP (l ++ [(1, 0, 0)]) t x))) (some 121) (.int .i64 0)) (some 21) (.bool (formP (l ++ [(1, 0, 0)]) t x))) (some 22) (.int .i64 0)) w') : (Code.region 12 fg12_Ops true).wp Try.prog Q a w := by
  refine wp_region_held_drew (S := fun z => z.heap[B]? = some (.cells #[.int .i64 (t : Int), .int .i64 (x : Int)] 24 (0, 0))) (by kernel_rfl) hB (fun hHeld => ?_)
  show wpAnyH Try.prog .any fg12_Ops Q _ 12 (Array.replicate 12 false) a w.drew
  refine re_tk (i := 0) (oi := fg12_0) (v := v) (d := 113) hQ rfl rfl (by kernel_rfl) (by kernel_rfl) (by kernel_rfl) (Or.inl ⟨re_none _ rfl, fun wx hS => rr_move _ _ _ _ _ _ _ _ _ (by simp [re_ne, re_eq, re_size, re_const, hsz, h0, h1, h2, h7])⟩) hHeld ?_
  refine re_tk (i := 2) (oi := fg12_2) (v := .agg #[.int .i64 1, .int .i64 0, .int .i64 0]) (d := 115) hQ rfl rfl (by kernel_rfl) (by kernel_rfl) (by kernel_rfl) (Or.inl ⟨re_none _ rfl, fun wx hS => rr_node1 _ _ _ _ _ _ _ 1 rfl⟩) hHeld ?_
  refine re_tk (i := 5) (oi := fg12_5) (v := .agg #[.int .i64 (t : Int), .int .i64 (x : Int)]) (d := 118) hQ rfl rfl (by kernel_rfl) (by kernel_rfl) (by kernel_rfl) (Or.inl ⟨re_none _ rfl, fun wx hS => rr_loadP _ _ _ _ _ _ _ _ B _ _ (by simp [re_ne, re_eq, re_size, re_const, hsz, h0, h1, h2, h7]) hS⟩) hHeld ?_
  refine re_pair (i := 1) (j := 3) (oi := fg12_1) (oj := fg12_3) (by kernel_rfl) rfl rfl (re_none _ rfl) (re_none _ rfl) (fun K hK => ?_) (fun K hK => ?_)
  · refine re_wcall (d := 114) rfl (rr_enter1 _ _ _ _ _ _ _ 22 _ v _ (by simp [re_ne, re_eq, re_size, re_const, hsz, h0, h1, h2, h7]) rfl (rr_enter_of Try.func22 (by kernel_rfl) (by kernel_rfl) _ _)) (clone_nodes (w := w.drew) (hr.drew) hne (by omega)) ?_
    rintro e w1 ⟨c1, rfl, ho, g1⟩
    have hHeld1 : w1.heap[B]? = some (.cells #[.int .i64 (t : Int), .int .i64 (x : Int)] 24 (0, 0)) := (Below.block g1 _ (Blk_lt hHeld)).trans hHeld
    refine ⟨c1, rfl, hK _ _ hHeld1 ?_⟩
    refine re_one (i := 3) (oi := fg12_3) (by kernel_rfl) rfl (re_none _ rfl) (fun K hK => ?_)
    refine re_wval (d := 116) rfl (rr_slice1 _ _ _ _ _ _ _ _ 1 0 0 (by simp [re_ne, re_eq, re_size, re_const, hsz, h0, h1, h2, h7])) ?_
    have hHeld2 := (Below.block ((Gr.refl w1).alloc (.cells #[.int .i64 1, .int .i64 0, .int .i64 0] 46)) _ (Blk_lt hHeld1)).trans hHeld1
    refine hK _ _ hHeld2 ?_
    exact fg_tail12 Q hQ a w B v l t x A C hsz h0 h1 h2 h7 hB hne hl hok ht hx h _ c1 w.heap.size w1.heap.size (((Gr.refl w).drew.trans g1).alloc _) (Nat.le_refl _) (ho.gr ((Gr.refl w1).alloc _)) (heap_alloc_new _ _) (by have := (((Gr.refl w).drew.trans g1).alloc (.cells #[.int .i64 1, .int .i64 0, .int .i64 0] 46)).le; exact this)
  · refine re_wval (d := 116) rfl (rr_slice1 _ _ _ _ _ _ _ _ 1 0 0 (by simp [re_ne, re_eq, re_size, re_const, hsz, h0, h1, h2, h7])) ?_
    have hHeld1 := (Below.block ((Gr.refl w.drew).alloc (.cells #[.int .i64 1, .int .i64 0, .int .i64 0] 46)) _ (Blk_lt hHeld)).trans hHeld
    refine hK _ _ hHeld1 ?_
    refine re_one (i := 1) (oi := fg12_1) (by kernel_rfl) rfl (re_none _ rfl) (fun K hK => ?_)
    refine re_wcall (d := 114) rfl (rr_enter1 _ _ _ _ _ _ _ 22 _ v _ (by simp [re_ne, re_eq, re_size, re_const, hsz, h0, h1, h2, h7]) rfl (rr_enter_of Try.func22 (by kernel_rfl) (by kernel_rfl) _ _)) (clone_nodes (w := w.drew.alloc (.cells #[.int .i64 1, .int .i64 0, .int .i64 0] 46)) (hr.drew.alloc _) hne (by omega)) ?_
    rintro e w1 ⟨c1, rfl, ho, g1⟩
    have hHeld2 := (Below.block g1 _ (Blk_lt hHeld1)).trans hHeld1
    refine ⟨c1, rfl, hK _ _ hHeld2 ?_⟩
    rw [re_comm _ 116 114 _ _ (by decide)]
    exact fg_tail12 Q hQ a w B v l t x A C hsz h0 h1 h2 h7 hB hne hl hok ht hx h _ c1 (w.heap.size + 1) w.heap.size (((Gr.refl w).drew.alloc _).trans g1) (by omega) (by have := ho; simpa using this) ((Below.block g1 _ (by simp)).trans (heap_alloc_new _ _)) (by have := g1.le; simpa using this)
end Go.Proofs.Ythnoafmdecehcaa
