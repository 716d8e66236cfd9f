/- know.Add, Join, Meet, Within: the regions that build the answers, over any frame. -/
import Derived.Test.YtghjfakellaecaaKnK
set_option linter.unusedVariables false
set_option linter.unusedSimpArgs false
namespace Go.Proofs.Ytghjfakellaecaa
open Go.RowKit Rm
section
variable (ev : Operand → Value) (d : Option Tmp) (ty : TypeId) (p : String) (af : Array Edge) (g : Option (Nat × Bool)) (w : World)
theorem rr_bs2 (x y : Operand) (a1 : Option Addr) (n1 c1 : Nat) (a2 : Option Addr) (n2 c2 : Nat) (hx : ev x = .slice a1 n1 c1) (hy : ev y = .slice a2 n2 c2) : (execOp ev (Oper.mk d (.buildSlice 152 2 #[(0, x), (1, y)]) ty p af g)).run Try.prog w = .ok (.value (.slice (some ⟨w.heap.size, 0, none⟩) 2 2)) (w.alloc (.cells #[.slice a1 n1 c1, .slice a2 n2 c2] 33)) := by
  go_simp
theorem rr_bsD (x : Operand) (s c : Nat) (hx : ev x = .agg #[.int .i64 (s : Int), .int .i64 (c : Int)]) : (execOp ev (Oper.mk d (.buildSlice 33 1 #[(0, x)]) ty p af g)).run Try.prog w = .ok (.value (.slice (some ⟨w.heap.size, 0, none⟩) 1 1)) (w.alloc (.cells #[.int .i64 (s : Int), .int .i64 (c : Int)] 26)) := by
  go_simp
theorem rr_len (x : Operand) (a1 : Option Addr) (n1 c1 : Nat) (hx : ev x = .slice a1 n1 c1) : (execOp ev (Oper.mk d (.call (Call.mk (.builtin .len) #[x] #[33])) ty p af g)).run Try.prog w = .ok (.value (.int .i64 (n1 : Nat))) w := by
  go_simp
theorem rr_eqI (x y : Operand) (m n : Nat) (hx : ev x = .int .i64 (m : Nat)) (hy : ev y = .int .i64 (n : Nat)) : (execOp ev (Oper.mk d (.binOp .eql 3 x y 3) ty p af g)).run Try.prog w = .ok (.value (.bool (decide ((m : Int) = (n : Int))))) w := by
  go_simp
  rw [Bool.eq_iff_iff]
  simp
end
theorem two_one (a1 : Option Addr) (n1 c1 : Nat) (a2 : Option Addr) (n2 c2 : Nat) : (#[Value.slice a1 n1 c1, .slice a2 n2 c2]).all (·.oneCell') = true := by simp [Value.oneCell']
theorem know_size2 : (Try.prog.info? 35).map (·.size) = some 2 := by kernel_rfl
/-- two sets and some counts in their blocks -/
def KS3 (g0 g1 b7 : Nat) (vv mv vv' mv' : Value) (A : Array Value) (x : World) : Prop := KS2 g0 g1 vv mv vv' mv' x ∧ x.heap[b7]? = some (.cells A 108 (0, 0))
/-- a set and a dot in their blocks -/
def KD2 (g0 g1 : Nat) (vv mv : Value) (s c : Nat) (x : World) : Prop := x.heap[g0]? = some (.cells #[vv, mv] 35 (0, 0)) ∧ x.heap[g1]? = some (.cells #[.int .i64 (s : Int), .int .i64 (c : Int)] 26 (0, 0))
def jn10_0 : Oper := Oper.mk (some 34) (Op.load 108 (Operand.tmp 7)) 108 "know.go:62" #[] none
def jn10_1 : Oper := Oper.mk (some 35) (Op.fieldAddr 35 (Operand.tmp 2) 1) 0 "know.go:62" #[] none
def jn10_2 : Oper := Oper.mk (some 36) (Op.load 33 (Operand.tmp 35)) 33 "know.go:62" #[Edge.mk 1 Ground.data] none
def jn10_3 : Oper := Oper.mk (some 37) (Op.fieldAddr 35 (Operand.tmp 3) 1) 0 "know.go:62" #[] none
def jn10_4 : Oper := Oper.mk (some 38) (Op.load 33 (Operand.tmp 37)) 33 "know.go:62" #[Edge.mk 3 Ground.data] none
def jn10_5 : Oper := Oper.mk (some 39) (Op.buildSlice 152 2 #[(0, Operand.tmp 36), (1, Operand.tmp 38)]) 152 "know.go:62" #[Edge.mk 2 Ground.data, Edge.mk 4 Ground.data] none
def jn10_6 : Oper := Oper.mk (some 40) (Op.call (Call.mk (Callee.value (Operand.func 64)) #[Operand.tmp 39] #[152])) 33 "know.go:62" #[Edge.mk 5 Ground.data] none
def jn10_7 : Oper := Oper.mk (some 41) (Op.call (Call.mk (Callee.value (Operand.func 63)) #[Operand.tmp 34, Operand.tmp 40] #[108, 33])) 58 "know.go:62" #[Edge.mk 0 Ground.data, Edge.mk 6 Ground.data, Edge.mk 6 Ground.chain] none
def jn10_8 : Oper := Oper.mk (some 42) (Op.extract (Operand.tmp 41) 0) 35 "know.go:62" #[Edge.mk 7 Ground.data] none
def jn10_9 : Oper := Oper.mk (some 43) (Op.extract (Operand.tmp 41) 1) 27 "know.go:62" #[Edge.mk 7 Ground.data] none
def jn10_10 : Oper := Oper.mk none (Op.store 35 (Operand.tmp 4) (Operand.tmp 42)) 0 "know.go:62" #[Edge.mk 8 Ground.data, Edge.mk 7 Ground.chain, Edge.mk 0 Ground.phase, Edge.mk 1 Ground.phase, Edge.mk 2 Ground.phase, Edge.mk 3 Ground.phase, Edge.mk 4 Ground.phase, Edge.mk 5 Ground.phase, Edge.mk 6 Ground.phase, Edge.mk 7 Ground.phase, Edge.mk 8 Ground.phase, Edge.mk 9 Ground.phase] none
def jn10_11 : Oper := Oper.mk (some 5) (Op.assign (Operand.tmp 43)) 27 "know.go:62" #[Edge.mk 9 Ground.data, Edge.mk 10 Ground.chain, Edge.mk 0 Ground.phase, Edge.mk 1 Ground.phase, Edge.mk 2 Ground.phase, Edge.mk 3 Ground.phase, Edge.mk 4 Ground.phase, Edge.mk 5 Ground.phase, Edge.mk 6 Ground.phase, Edge.mk 7 Ground.phase, Edge.mk 8 Ground.phase, Edge.mk 9 Ground.phase, Edge.mk 10 Ground.phase] none
def jn10_Ops : Array Oper := #[jn10_0, jn10_1, jn10_2, jn10_3, jn10_4, jn10_5, jn10_6, jn10_7, jn10_8, jn10_9, jn10_10, jn10_11]
set_option maxHeartbeats 1000000 in
set_option maxRecDepth 100000 in
theorem jn10_reg (Q : Exit → Act → World → Prop) (hQ : ∀ c a d v w, Q (.panic c) (Act.put a (some d) v) w → Q (.panic c) a w) (a : Act) (w : World) (g0 g1 g4 b7 : Nat) (vv vv' : Value) (ma ma' : Option Addr) (mn mc mn' mc' : Nat) (A : Array Value)
    (hsz : a.tmps.size = 44) (h2 : a.eval (.tmp 2) = .pointer (some ⟨g0, 0, none⟩)) (h3 : a.eval (.tmp 3) = .pointer (some ⟨g1, 0, none⟩)) (h4 : a.eval (.tmp 4) = .pointer (some ⟨g4, 0, none⟩)) (h7 : a.eval (.tmp 7) = .pointer (some ⟨b7, 0, none⟩))
    (hS0 : KS3 g0 g1 b7 vv (.slice ma mn mc) vv' (.slice ma' mn' mc') A w) (hl0 : g0 < w.heap.size) (hl1 : g1 < w.heap.size) (hl7 : b7 < w.heap.size) (hA5 : A.size = 5)
    (h40 : w.heap[g4]? = some (.cells #[.slice none 0 0, .slice none 0 0] 35 (0, 0))) (hn0 : g0 ≠ g4) (hn1 : g1 ≠ g4) (hn7 : b7 ≠ g4)
    (FC : Value → World → World → Prop) (FB : Option Addr → Nat → Nat → Option Addr → Nat → Nat → Int → World → Prop)
    (HCC : ∀ W b, Gr w W → W.heap[b]? = some (.cells #[.slice ma mn mc, .slice ma' mn' mc'] 33 (0, 0)) → Calls Try.prog 64 #[.slice (some ⟨b, 0, none⟩) 2 2] W fun e W' => ∃ u, e = .returned u ∧ Gr W W' ∧ FC u W W')
    (HB : ∀ W W' u, Gr w W → Gr W W' → FC u W W' → Calls Try.prog 63 #[.agg A, u] W' fun e W'' => ∃ a1 n1 c1 a2 n2 c2 r, e = .returned (.tuple #[.agg #[.slice a1 n1 c1, .slice a2 n2 c2], .int .i64 r]) ∧ Gr w W'' ∧ FB a1 n1 c1 a2 n2 c2 r W'')
    (h : ∀ (W : World) (b39 : Nat) (u : Value) a1 n1 c1 a2 n2 c2 r, Gr w W → FB a1 n1 c1 a2 n2 c2 r W → Q .normal (Act.put (Act.put (Act.put (Act.put (Act.put (Act.put (Act.put (Act.put (Act.put (Act.put (Act.put a (some 34) (.agg A)) (some 35) (.pointer (some ⟨g0, 1, none⟩))) (some 37) (.pointer (some ⟨g1, 1, none⟩))) (some 36) (.slice ma mn mc)) (some 38) (.slice ma' mn' mc')) (some 39) (.slice (some ⟨b39, 0, none⟩) 2 2)) (some 40) (u)) (some 41) (.tuple #[.agg #[.slice a1 n1 c1, .slice a2 n2 c2], .int .i64 r])) (some 42) (.agg #[.slice a1 n1 c1, .slice a2 n2 c2])) (some 43) (.int .i64 r)) (some 5) (.int .i64 r)) (W.setRow g4 #[.slice a1 n1 c1, .slice a2 n2 c2])) : (Code.region 10 jn10_Ops true).wp Try.prog Q a w := by
  have keep : ∀ x, Gr w x → KS3 g0 g1 b7 vv (.slice ma mn mc) vv' (.slice ma' mn' mc') A x := fun x gx => ⟨⟨(Below.block gx g0 hl0).trans hS0.1.1, (Below.block gx g1 hl1).trans hS0.1.2⟩, (Below.block gx b7 hl7).trans hS0.2⟩
  have keep4 : ∀ x, Gr w x → x.heap[g4]? = some (.cells #[.slice none 0 0, .slice none 0 0] 35 (0, 0)) := fun x gx => (Below.block gx g4 (Array.getElem?_eq_some_iff.1 h40).1).trans h40
  have szA : (Try.prog.info? 108).map (·.size) = some A.size := by rw [hA5]; exact counts_size
  refine wp_region_held_drew (S := KS3 g0 g1 b7 vv (.slice ma mn mc) vv' (.slice ma' mn' mc') A) (by kernel_rfl) hS0 (fun hHeld => ?_)
  show wpAnyH Try.prog .any jn10_Ops Q _ 12 (Array.replicate 12 false) a w.drew
  have G0 : Gr w w.drew := (Gr.refl w).drew
  refine re_tk (i := 0) (oi := jn10_0) (v := .agg A) (d := 34) hQ rfl rfl (by kernel_rfl) (by kernel_rfl) (by kernel_rfl) (Or.inl ⟨re_none _ rfl, fun wx hS => rr_row _ _ _ _ _ _ _ 108 _ b7 A (by simp [re_ne, re_eq, re_size, re_const, hsz, h2, h3, h4, h7]) (run_loadVar_row wx b7 108 108 A (0, 0) _ (hS.2) Try.underlying108 rfl szA)⟩) hHeld ?_
  refine re_tk (i := 1) (oi := jn10_1) (v := .pointer (some ⟨g0, 1, none⟩)) (d := 35) hQ rfl rfl (by kernel_rfl) (by kernel_rfl) (by kernel_rfl) (Or.inl ⟨re_none _ rfl, fun wx hS => rr_fK1 _ _ _ _ _ _ _ _ g0 (by simp [re_ne, re_eq, re_size, re_const, hsz, h2, h3, h4, h7])⟩) hHeld ?_
  refine re_tk (i := 3) (oi := jn10_3) (v := .pointer (some ⟨g1, 1, none⟩)) (d := 37) hQ rfl rfl (by kernel_rfl) (by kernel_rfl) (by kernel_rfl) (Or.inl ⟨re_none _ rfl, fun wx hS => rr_fK1 _ _ _ _ _ _ _ _ g1 (by simp [re_ne, re_eq, re_size, re_const, hsz, h2, h3, h4, h7])⟩) hHeld ?_
  refine re_tk (i := 2) (oi := jn10_2) (v := .slice ma mn mc) (d := 36) hQ rfl rfl (by kernel_rfl) (by kernel_rfl) (by kernel_rfl) (Or.inl ⟨re_none _ rfl, fun wx hS => rr_lS _ _ _ _ _ _ _ _ g0 1 (.slice ma mn mc) (by simp [re_ne, re_eq, re_size, re_const, hsz, h2, h3, h4, h7]) (kc1 (hS.1.1))⟩) hHeld ?_
  refine re_tk (i := 4) (oi := jn10_4) (v := .slice ma' mn' mc') (d := 38) hQ rfl rfl (by kernel_rfl) (by kernel_rfl) (by kernel_rfl) (Or.inl ⟨re_none _ rfl, fun wx hS => rr_lS _ _ _ _ _ _ _ _ g1 1 (.slice ma' mn' mc') (by simp [re_ne, re_eq, re_size, re_const, hsz, h2, h3, h4, h7]) (kc1 (hS.1.2))⟩) hHeld ?_
  refine st_one (i := 5) (oi := jn10_5) (by kernel_rfl) rfl rfl ?_
  have f1 := al_new w.drew (.cells #[.slice ma mn mc, .slice ma' mn' mc'] 33) _ rfl
  have G1 := Gr.alloc G0 (.cells #[.slice ma mn mc, .slice ma' mn' mc'] 33)
  have hHeld1 := keep _ G1
  refine st_val (d := 39) rfl (rr_bs2 _ _ _ _ _ _ _ _ _ ma mn mc ma' mn' mc' (by simp [re_ne, re_eq, re_size, re_const, hsz, h2, h3, h4, h7]) (by simp [re_ne, re_eq, re_size, re_const, hsz, h2, h3, h4, h7])) hHeld1 ?_
  refine st_one (i := 6) (oi := jn10_6) (by kernel_rfl) rfl rfl ?_
  refine st_call (d := 40) rfl (rr_enter1 _ _ _ _ _ _ _ 64 _ (.slice (some ⟨w.drew.heap.size, 0, none⟩) 2 2) _ (by simp [re_ne, re_eq, re_size, re_const, hsz, h2, h3, h4, h7]) rfl (rr_enter_of Try.func64 (by kernel_rfl) (by kernel_rfl) _ _)) (HCC _ _ G1 f1) ?_
  rintro e W2 ⟨u, rfl, gC, fC⟩
  have G2 := Gr.trans G1 gC
  have hHeld2 := keep _ G2
  refine ⟨_, rfl, hHeld2, ?_⟩
  refine st_one (i := 7) (oi := jn10_7) (by kernel_rfl) rfl rfl ?_
  refine st_call (d := 41) rfl (rr_enter2 _ _ _ _ _ _ _ 63 _ _ (.agg A) (u) _ (by simp [re_ne, re_eq, re_size, re_const, hsz, h2, h3, h4, h7]) (by simp [re_ne, re_eq, re_size, re_const, hsz, h2, h3, h4, h7]) rfl (rr_enter_of Try.func63 (by kernel_rfl) (by kernel_rfl) _ _)) (HB _ _ u G1 gC fC) ?_
  rintro e W3 ⟨a1, n1, c1, a2, n2, c2, r, rfl, gB, fB⟩
  have G3 := gB
  have hHeld3 := keep _ G3
  refine ⟨_, rfl, hHeld3, ?_⟩
  refine re_tk (i := 8) (oi := jn10_8) (v := .agg #[.slice a1 n1 c1, .slice a2 n2 c2]) (d := 42) hQ rfl rfl (by kernel_rfl) (by kernel_rfl) (by kernel_rfl) (Or.inl ⟨re_none _ rfl, fun wx hS => rr_ext0 _ _ _ _ _ _ _ _ (.agg #[.slice a1 n1 c1, .slice a2 n2 c2]) (.int .i64 r) (by simp [re_ne, re_eq, re_size, re_const, hsz, h2, h3, h4, h7])⟩) hHeld3 ?_
  refine re_tk (i := 9) (oi := jn10_9) (v := .int .i64 r) (d := 43) hQ rfl rfl (by kernel_rfl) (by kernel_rfl) (by kernel_rfl) (Or.inl ⟨re_none _ rfl, fun wx hS => rr_ext1 _ _ _ _ _ _ _ _ (.agg #[.slice a1 n1 c1, .slice a2 n2 c2]) (.int .i64 r) (by simp [re_ne, re_eq, re_size, re_const, hsz, h2, h3, h4, h7])⟩) hHeld3 ?_
  refine st_one (i := 10) (oi := jn10_10) (by kernel_rfl) rfl rfl ?_
  have e4 := keep4 _ G3
  have hSt := (show KS3 g0 g1 b7 vv (.slice ma mn mc) vv' (.slice ma' mn' mc') A _ from ⟨⟨(setRow_other _ g4 g0 #[.slice a1 n1 c1, .slice a2 n2 c2] hn0).trans hHeld3.1.1, (setRow_other _ g4 g1 #[.slice a1 n1 c1, .slice a2 n2 c2] hn1).trans hHeld3.1.2⟩, (setRow_other _ g4 b7 #[.slice a1 n1 c1, .slice a2 n2 c2] hn7).trans hHeld3.2⟩)
  refine st_row 35 (.tmp 4) (.tmp 42) rfl rfl g4 #[.slice a1 n1 c1, .slice a2 n2 c2] (by simp [re_ne, re_eq, re_size, re_const, hsz, h2, h3, h4, h7]) (by simp [re_ne, re_eq, re_size, re_const, hsz, h2, h3, h4, h7]) 35 #[.slice none 0 0, .slice none 0 0] e4 know_size2 rfl (two_one _ _ _ _ _ _) hSt ?_
  refine re_tk (i := 11) (oi := jn10_11) (v := .int .i64 r) (d := 5) hQ rfl rfl (by kernel_rfl) (by kernel_rfl) (by kernel_rfl) (Or.inl ⟨re_none _ rfl, fun wx hS => rr_assign _ _ _ _ _ _ _ _ _ (by simp [re_ne, re_eq, re_size, re_const, hsz, h2, h3, h4, h7])⟩) hSt ?_
  exact wpAnyH_done (by kernel_rfl) (h _ (w.drew.heap.size) u a1 n1 c1 a2 n2 c2 r G3 fB) _
def me10_0 : Oper := Oper.mk (some 34) (Op.load 108 (Operand.tmp 7)) 108 "know.go:76" #[] none
def me10_1 : Oper := Oper.mk (some 35) (Op.fieldAddr 35 (Operand.tmp 2) 1) 0 "know.go:76" #[] none
def me10_2 : Oper := Oper.mk (some 36) (Op.load 33 (Operand.tmp 35)) 33 "know.go:76" #[Edge.mk 1 Ground.data] none
def me10_3 : Oper := Oper.mk (some 37) (Op.load 35 (Operand.tmp 3)) 35 "know.go:76" #[] none
def me10_4 : Oper := Oper.mk (some 38) (Op.call (Call.mk (Callee.value (Operand.func 62)) #[Operand.tmp 36, Operand.tmp 37] #[33, 35])) 33 "know.go:76" #[Edge.mk 2 Ground.data, Edge.mk 3 Ground.data] none
def me10_5 : Oper := Oper.mk (some 39) (Op.fieldAddr 35 (Operand.tmp 3) 1) 0 "know.go:76" #[] none
def me10_6 : Oper := Oper.mk (some 40) (Op.load 33 (Operand.tmp 39)) 33 "know.go:76" #[Edge.mk 5 Ground.data] none
def me10_7 : Oper := Oper.mk (some 41) (Op.load 35 (Operand.tmp 2)) 35 "know.go:76" #[] none
def me10_8 : Oper := Oper.mk (some 42) (Op.call (Call.mk (Callee.value (Operand.func 62)) #[Operand.tmp 40, Operand.tmp 41] #[33, 35])) 33 "know.go:76" #[Edge.mk 6 Ground.data, Edge.mk 7 Ground.data, Edge.mk 4 Ground.chain] none
def me10_9 : Oper := Oper.mk (some 43) (Op.buildSlice 152 2 #[(0, Operand.tmp 38), (1, Operand.tmp 42)]) 152 "know.go:76" #[Edge.mk 4 Ground.data, Edge.mk 8 Ground.data] none
def me10_10 : Oper := Oper.mk (some 44) (Op.call (Call.mk (Callee.value (Operand.func 64)) #[Operand.tmp 43] #[152])) 33 "know.go:76" #[Edge.mk 9 Ground.data, Edge.mk 8 Ground.chain] none
def me10_11 : Oper := Oper.mk (some 45) (Op.call (Call.mk (Callee.value (Operand.func 63)) #[Operand.tmp 34, Operand.tmp 44] #[108, 33])) 58 "know.go:76" #[Edge.mk 0 Ground.data, Edge.mk 10 Ground.data, Edge.mk 10 Ground.chain] none
def me10_12 : Oper := Oper.mk (some 46) (Op.extract (Operand.tmp 45) 0) 35 "know.go:76" #[Edge.mk 11 Ground.data] none
def me10_13 : Oper := Oper.mk (some 47) (Op.extract (Operand.tmp 45) 1) 27 "know.go:76" #[Edge.mk 11 Ground.data] none
def me10_14 : Oper := Oper.mk none (Op.store 35 (Operand.tmp 4) (Operand.tmp 46)) 0 "know.go:76" #[Edge.mk 12 Ground.data, Edge.mk 11 Ground.chain, Edge.mk 0 Ground.phase, Edge.mk 1 Ground.phase, Edge.mk 2 Ground.phase, Edge.mk 3 Ground.phase, Edge.mk 4 Ground.phase, Edge.mk 5 Ground.phase, Edge.mk 6 Ground.phase, Edge.mk 7 Ground.phase, Edge.mk 8 Ground.phase, Edge.mk 9 Ground.phase, Edge.mk 10 Ground.phase, Edge.mk 11 Ground.phase, Edge.mk 12 Ground.phase, Edge.mk 13 Ground.phase] none
def me10_15 : Oper := Oper.mk (some 5) (Op.assign (Operand.tmp 47)) 27 "know.go:76" #[Edge.mk 13 Ground.data, Edge.mk 14 Ground.chain, Edge.mk 0 Ground.phase, Edge.mk 1 Ground.phase, Edge.mk 2 Ground.phase, Edge.mk 3 Ground.phase, Edge.mk 4 Ground.phase, Edge.mk 5 Ground.phase, Edge.mk 6 Ground.phase, Edge.mk 7 Ground.phase, Edge.mk 8 Ground.phase, Edge.mk 9 Ground.phase, Edge.mk 10 Ground.phase, Edge.mk 11 Ground.phase, Edge.mk 12 Ground.phase, Edge.mk 13 Ground.phase, Edge.mk 14 Ground.phase] none
def me10_Ops : Array Oper := #[me10_0, me10_1, me10_2, me10_3, me10_4, me10_5, me10_6, me10_7, me10_8, me10_9, me10_10, me10_11, me10_12, me10_13, me10_14, me10_15]
set_option maxHeartbeats 1000000 in
set_option maxRecDepth 100000 in
theorem me10_reg (Q : Exit → Act → World → Prop) (hQ : ∀ c a d v w, Q (.panic c) (Act.put a (some d) v) w → Q (.panic c) a w) (a : Act) (w : World) (g0 g1 g4 b7 : Nat) (vv vv' : Value) (ma ma' : Option Addr) (mn mc mn' mc' : Nat) (A : Array Value)
    (hsz : a.tmps.size = 48) (h2 : a.eval (.tmp 2) = .pointer (some ⟨g0, 0, none⟩)) (h3 : a.eval (.tmp 3) = .pointer (some ⟨g1, 0, none⟩)) (h4 : a.eval (.tmp 4) = .pointer (some ⟨g4, 0, none⟩)) (h7 : a.eval (.tmp 7) = .pointer (some ⟨b7, 0, none⟩))
    (hS0 : KS3 g0 g1 b7 vv (.slice ma mn mc) vv' (.slice ma' mn' mc') A w) (hl0 : g0 < w.heap.size) (hl1 : g1 < w.heap.size) (hl7 : b7 < w.heap.size) (hA5 : A.size = 5)
    (h40 : w.heap[g4]? = some (.cells #[.slice none 0 0, .slice none 0 0] 35 (0, 0))) (hn0 : g0 ≠ g4) (hn1 : g1 ≠ g4) (hn7 : b7 ≠ g4)
    (F1 F2 : Option Addr → Nat → Nat → World → Prop) (FC : Value → World → World → Prop) (FB : Option Addr → Nat → Nat → Option Addr → Nat → Nat → Int → World → Prop)
    (HM : ∀ W, Gr w W → Calls Try.prog 62 #[.slice ma mn mc, .agg #[vv', .slice ma' mn' mc']] W fun e W' => ∃ p1 p2 p3, e = .returned (.slice p1 p2 p3) ∧ Gr W W' ∧ F1 p1 p2 p3 W')
    (HM' : ∀ W, Gr w W → Calls Try.prog 62 #[.slice ma' mn' mc', .agg #[vv, .slice ma mn mc]] W fun e W' => ∃ p1 p2 p3, e = .returned (.slice p1 p2 p3) ∧ Gr W W' ∧ F2 p1 p2 p3 W')
    (HCC : ∀ W1 W2 W b p1 p2 p3 q1 q2 q3, Gr w W1 → F1 p1 p2 p3 W1 → Gr W1 W2 → F2 q1 q2 q3 W2 → Gr W2 W → W.heap[b]? = some (.cells #[.slice p1 p2 p3, .slice q1 q2 q3] 33 (0, 0)) → Calls Try.prog 64 #[.slice (some ⟨b, 0, none⟩) 2 2] W fun e W' => ∃ u, e = .returned u ∧ Gr W W' ∧ FC u W W')
    (HB : ∀ W W' u, Gr w W → Gr W W' → FC u W W' → Calls Try.prog 63 #[.agg A, u] W' fun e W'' => ∃ a1 n1 c1 a2 n2 c2 r, e = .returned (.tuple #[.agg #[.slice a1 n1 c1, .slice a2 n2 c2], .int .i64 r]) ∧ Gr w W'' ∧ FB a1 n1 c1 a2 n2 c2 r W'')
    (h : ∀ (W : World) (b43 : Nat) (p1 : Option Addr) (p2 p3 : Nat) (q1 : Option Addr) (q2 q3 : Nat) (u : Value) a1 n1 c1 a2 n2 c2 r, Gr w W → FB a1 n1 c1 a2 n2 c2 r W → Q .normal (Act.put (Act.put (Act.put (Act.put (Act.put (Act.put (Act.put (Act.put (Act.put (Act.put (Act.put (Act.put (Act.put (Act.put (Act.put a (some 34) (.agg A)) (some 35) (.pointer (some ⟨g0, 1, none⟩))) (some 37) (.agg #[vv', .slice ma' mn' mc'])) (some 39) (.pointer (some ⟨g1, 1, none⟩))) (some 41) (.agg #[vv, .slice ma mn mc])) (some 36) (.slice ma mn mc)) (some 40) (.slice ma' mn' mc')) (some 38) (.slice p1 p2 p3)) (some 42) (.slice q1 q2 q3)) (some 43) (.slice (some ⟨b43, 0, none⟩) 2 2)) (some 44) (u)) (some 45) (.tuple #[.agg #[.slice a1 n1 c1, .slice a2 n2 c2], .int .i64 r])) (some 46) (.agg #[.slice a1 n1 c1, .slice a2 n2 c2])) (some 47) (.int .i64 r)) (some 5) (.int .i64 r)) (W.setRow g4 #[.slice a1 n1 c1, .slice a2 n2 c2])) : (Code.region 10 me10_Ops true).wp Try.prog Q a w := by
  have keep : ∀ x, Gr w x → KS3 g0 g1 b7 vv (.slice ma mn mc) vv' (.slice ma' mn' mc') A x := fun x gx => ⟨⟨(Below.block gx g0 hl0).trans hS0.1.1, (Below.block gx g1 hl1).trans hS0.1.2⟩, (Below.block gx b7 hl7).trans hS0.2⟩
  have keep4 : ∀ x, Gr w x → x.heap[g4]? = some (.cells #[.slice none 0 0, .slice none 0 0] 35 (0, 0)) := fun x gx => (Below.block gx g4 (Array.getElem?_eq_some_iff.1 h40).1).trans h40
  have szA : (Try.prog.info? 108).map (·.size) = some A.size := by rw [hA5]; exact counts_size
  refine wp_region_held_drew (S := KS3 g0 g1 b7 vv (.slice ma mn mc) vv' (.slice ma' mn' mc') A) (by kernel_rfl) hS0 (fun hHeld => ?_)
  show wpAnyH Try.prog .any me10_Ops Q _ 16 (Array.replicate 16 false) a w.drew
  have G0 : Gr w w.drew := (Gr.refl w).drew
  refine re_tk (i := 0) (oi := me10_0) (v := .agg A) (d := 34) hQ rfl rfl (by kernel_rfl) (by kernel_rfl) (by kernel_rfl) (Or.inl ⟨re_none _ rfl, fun wx hS => rr_row _ _ _ _ _ _ _ 108 _ b7 A (by simp [re_ne, re_eq, re_size, re_const, hsz, h2, h3, h4, h7]) (run_loadVar_row wx b7 108 108 A (0, 0) _ (hS.2) Try.underlying108 rfl szA)⟩) hHeld ?_
  refine re_tk (i := 1) (oi := me10_1) (v := .pointer (some ⟨g0, 1, none⟩)) (d := 35) hQ rfl rfl (by kernel_rfl) (by kernel_rfl) (by kernel_rfl) (Or.inl ⟨re_none _ rfl, fun wx hS => rr_fK1 _ _ _ _ _ _ _ _ g0 (by simp [re_ne, re_eq, re_size, re_const, hsz, h2, h3, h4, h7])⟩) hHeld ?_
  refine re_tk (i := 3) (oi := me10_3) (v := .agg #[vv', .slice ma' mn' mc']) (d := 37) hQ rfl rfl (by kernel_rfl) (by kernel_rfl) (by kernel_rfl) (Or.inl ⟨re_none _ rfl, fun wx hS => rr_lK _ _ _ _ _ _ _ _ g1 (vv') (.slice ma' mn' mc') (by simp [re_ne, re_eq, re_size, re_const, hsz, h2, h3, h4, h7]) (kc0 (hS.1.2)) (kc1 (hS.1.2))⟩) hHeld ?_
  refine re_tk (i := 5) (oi := me10_5) (v := .pointer (some ⟨g1, 1, none⟩)) (d := 39) hQ rfl rfl (by kernel_rfl) (by kernel_rfl) (by kernel_rfl) (Or.inl ⟨re_none _ rfl, fun wx hS => rr_fK1 _ _ _ _ _ _ _ _ g1 (by simp [re_ne, re_eq, re_size, re_const, hsz, h2, h3, h4, h7])⟩) hHeld ?_
  refine re_tk (i := 7) (oi := me10_7) (v := .agg #[vv, .slice ma mn mc]) (d := 41) hQ rfl rfl (by kernel_rfl) (by kernel_rfl) (by kernel_rfl) (Or.inl ⟨re_none _ rfl, fun wx hS => rr_lK _ _ _ _ _ _ _ _ g0 (vv) (.slice ma mn mc) (by simp [re_ne, re_eq, re_size, re_const, hsz, h2, h3, h4, h7]) (kc0 (hS.1.1)) (kc1 (hS.1.1))⟩) hHeld ?_
  refine re_tk (i := 2) (oi := me10_2) (v := .slice ma mn mc) (d := 36) hQ rfl rfl (by kernel_rfl) (by kernel_rfl) (by kernel_rfl) (Or.inl ⟨re_none _ rfl, fun wx hS => rr_lS _ _ _ _ _ _ _ _ g0 1 (.slice ma mn mc) (by simp [re_ne, re_eq, re_size, re_const, hsz, h2, h3, h4, h7]) (kc1 (hS.1.1))⟩) hHeld ?_
  refine re_tk (i := 6) (oi := me10_6) (v := .slice ma' mn' mc') (d := 40) hQ rfl rfl (by kernel_rfl) (by kernel_rfl) (by kernel_rfl) (Or.inl ⟨re_none _ rfl, fun wx hS => rr_lS _ _ _ _ _ _ _ _ g1 1 (.slice ma' mn' mc') (by simp [re_ne, re_eq, re_size, re_const, hsz, h2, h3, h4, h7]) (kc1 (hS.1.2))⟩) hHeld ?_
  refine st_one (i := 4) (oi := me10_4) (by kernel_rfl) rfl rfl ?_
  refine st_call (d := 38) rfl (rr_enter2 _ _ _ _ _ _ _ 62 _ _ (.slice ma mn mc) (.agg #[vv', .slice ma' mn' mc']) _ (by simp [re_ne, re_eq, re_size, re_const, hsz, h2, h3, h4, h7]) (by simp [re_ne, re_eq, re_size, re_const, hsz, h2, h3, h4, h7]) rfl (rr_enter_of Try.func62 (by kernel_rfl) (by kernel_rfl) _ _)) (HM _ G0) ?_
  rintro e W1 ⟨p1, p2, p3, rfl, gM, fM⟩
  have G1 := Gr.trans G0 gM
  have hHeld1 := keep _ G1
  refine ⟨_, rfl, hHeld1, ?_⟩
  refine st_one (i := 8) (oi := me10_8) (by kernel_rfl) rfl rfl ?_
  refine st_call (d := 42) rfl (rr_enter2 _ _ _ _ _ _ _ 62 _ _ (.slice ma' mn' mc') (.agg #[vv, .slice ma mn mc]) _ (by simp [re_ne, re_eq, re_size, re_const, hsz, h2, h3, h4, h7]) (by simp [re_ne, re_eq, re_size, re_const, hsz, h2, h3, h4, h7]) rfl (rr_enter_of Try.func62 (by kernel_rfl) (by kernel_rfl) _ _)) (HM' _ G1) ?_
  rintro e W2 ⟨q1, q2, q3, rfl, gN, fN⟩
  have G2 := Gr.trans G1 gN
  have hHeld2 := keep _ G2
  refine ⟨_, rfl, hHeld2, ?_⟩
  refine st_one (i := 9) (oi := me10_9) (by kernel_rfl) rfl rfl ?_
  have f3 := al_new W2 (.cells #[.slice p1 p2 p3, .slice q1 q2 q3] 33) _ rfl
  have G3 := Gr.alloc G2 (.cells #[.slice p1 p2 p3, .slice q1 q2 q3] 33)
  have hHeld3 := keep _ G3
  refine st_val (d := 43) rfl (rr_bs2 _ _ _ _ _ _ _ _ _ p1 p2 p3 q1 q2 q3 (by simp [re_ne, re_eq, re_size, re_const, hsz, h2, h3, h4, h7]) (by simp [re_ne, re_eq, re_size, re_const, hsz, h2, h3, h4, h7])) hHeld3 ?_
  refine st_one (i := 10) (oi := me10_10) (by kernel_rfl) rfl rfl ?_
  refine st_call (d := 44) rfl (rr_enter1 _ _ _ _ _ _ _ 64 _ (.slice (some ⟨W2.heap.size, 0, none⟩) 2 2) _ (by simp [re_ne, re_eq, re_size, re_const, hsz, h2, h3, h4, h7]) rfl (rr_enter_of Try.func64 (by kernel_rfl) (by kernel_rfl) _ _)) (HCC _ _ _ _ _ _ _ _ _ _ G1 fM gN fN (Gr.alloc (Gr.refl _) _) f3) ?_
  rintro e W4 ⟨u, rfl, gC, fC⟩
  have G4 := Gr.trans G3 gC
  have hHeld4 := keep _ G4
  refine ⟨_, rfl, hHeld4, ?_⟩
  refine st_one (i := 11) (oi := me10_11) (by kernel_rfl) rfl rfl ?_
  refine st_call (d := 45) rfl (rr_enter2 _ _ _ _ _ _ _ 63 _ _ (.agg A) (u) _ (by simp [re_ne, re_eq, re_size, re_const, hsz, h2, h3, h4, h7]) (by simp [re_ne, re_eq, re_size, re_const, hsz, h2, h3, h4, h7]) rfl (rr_enter_of Try.func63 (by kernel_rfl) (by kernel_rfl) _ _)) (HB _ _ u G3 gC fC) ?_
  rintro e W5 ⟨a1, n1, c1, a2, n2, c2, r, rfl, gB, fB⟩
  have G5 := gB
  have hHeld5 := keep _ G5
  refine ⟨_, rfl, hHeld5, ?_⟩
  refine re_tk (i := 12) (oi := me10_12) (v := .agg #[.slice a1 n1 c1, .slice a2 n2 c2]) (d := 46) hQ rfl rfl (by kernel_rfl) (by kernel_rfl) (by kernel_rfl) (Or.inl ⟨re_none _ rfl, fun wx hS => rr_ext0 _ _ _ _ _ _ _ _ (.agg #[.slice a1 n1 c1, .slice a2 n2 c2]) (.int .i64 r) (by simp [re_ne, re_eq, re_size, re_const, hsz, h2, h3, h4, h7])⟩) hHeld5 ?_
  refine re_tk (i := 13) (oi := me10_13) (v := .int .i64 r) (d := 47) hQ rfl rfl (by kernel_rfl) (by kernel_rfl) (by kernel_rfl) (Or.inl ⟨re_none _ rfl, fun wx hS => rr_ext1 _ _ _ _ _ _ _ _ (.agg #[.slice a1 n1 c1, .slice a2 n2 c2]) (.int .i64 r) (by simp [re_ne, re_eq, re_size, re_const, hsz, h2, h3, h4, h7])⟩) hHeld5 ?_
  refine st_one (i := 14) (oi := me10_14) (by kernel_rfl) rfl rfl ?_
  have e4 := keep4 _ G5
  have hSt := (show KS3 g0 g1 b7 vv (.slice ma mn mc) vv' (.slice ma' mn' mc') A _ from ⟨⟨(setRow_other _ g4 g0 #[.slice a1 n1 c1, .slice a2 n2 c2] hn0).trans hHeld5.1.1, (setRow_other _ g4 g1 #[.slice a1 n1 c1, .slice a2 n2 c2] hn1).trans hHeld5.1.2⟩, (setRow_other _ g4 b7 #[.slice a1 n1 c1, .slice a2 n2 c2] hn7).trans hHeld5.2⟩)
  refine st_row 35 (.tmp 4) (.tmp 46) rfl rfl g4 #[.slice a1 n1 c1, .slice a2 n2 c2] (by simp [re_ne, re_eq, re_size, re_const, hsz, h2, h3, h4, h7]) (by simp [re_ne, re_eq, re_size, re_const, hsz, h2, h3, h4, h7]) 35 #[.slice none 0 0, .slice none 0 0] e4 know_size2 rfl (two_one _ _ _ _ _ _) hSt ?_
  refine re_tk (i := 15) (oi := me10_15) (v := .int .i64 r) (d := 5) hQ rfl rfl (by kernel_rfl) (by kernel_rfl) (by kernel_rfl) (Or.inl ⟨re_none _ rfl, fun wx hS => rr_assign _ _ _ _ _ _ _ _ _ (by simp [re_ne, re_eq, re_size, re_const, hsz, h2, h3, h4, h7])⟩) hSt ?_
  exact wpAnyH_done (by kernel_rfl) (h _ (W2.heap.size) p1 p2 p3 q1 q2 q3 u a1 n1 c1 a2 n2 c2 r G5 fB) _
def wi11_0 : Oper := Oper.mk (some 31) (Op.fieldAddr 35 (Operand.tmp 2) 1) 0 "know.go:92" #[] none
def wi11_1 : Oper := Oper.mk (some 32) (Op.load 33 (Operand.tmp 31)) 33 "know.go:92" #[Edge.mk 0 Ground.data] none
def wi11_2 : Oper := Oper.mk (some 33) (Op.load 35 (Operand.tmp 3)) 35 "know.go:92" #[] none
def wi11_3 : Oper := Oper.mk (some 34) (Op.call (Call.mk (Callee.value (Operand.func 62)) #[Operand.tmp 32, Operand.tmp 33] #[33, 35])) 33 "know.go:92" #[Edge.mk 1 Ground.data, Edge.mk 2 Ground.data] none
def wi11_4 : Oper := Oper.mk (some 35) (Op.call (Call.mk (Callee.builtin Builtin.len) #[Operand.tmp 34] #[33])) 3 "know.go:92" #[Edge.mk 3 Ground.data] none
def wi11_5 : Oper := Oper.mk (some 36) (Op.fieldAddr 35 (Operand.tmp 2) 1) 0 "know.go:92" #[] none
def wi11_6 : Oper := Oper.mk (some 37) (Op.load 33 (Operand.tmp 36)) 33 "know.go:92" #[Edge.mk 5 Ground.data] none
def wi11_7 : Oper := Oper.mk (some 38) (Op.call (Call.mk (Callee.builtin Builtin.len) #[Operand.tmp 37] #[33])) 3 "know.go:92" #[Edge.mk 6 Ground.data] none
def wi11_8 : Oper := Oper.mk (some 39) (Op.binOp BinOp.eql 3 (Operand.tmp 35) (Operand.tmp 38) 3) 4 "know.go:92" #[Edge.mk 4 Ground.data, Edge.mk 7 Ground.data] none
def wi11_9 : Oper := Oper.mk (some 4) (Op.assign (Operand.tmp 39)) 4 "know.go:92" #[Edge.mk 8 Ground.data, Edge.mk 3 Ground.chain, Edge.mk 0 Ground.phase, Edge.mk 1 Ground.phase, Edge.mk 2 Ground.phase, Edge.mk 3 Ground.phase, Edge.mk 4 Ground.phase, Edge.mk 5 Ground.phase, Edge.mk 6 Ground.phase, Edge.mk 7 Ground.phase, Edge.mk 8 Ground.phase] none
def wi11_10 : Oper := Oper.mk (some 5) (Op.assign (Operand.const (Value.int IntKind.i64 0))) 27 "know.go:92" #[Edge.mk 9 Ground.chain, Edge.mk 0 Ground.phase, Edge.mk 1 Ground.phase, Edge.mk 2 Ground.phase, Edge.mk 3 Ground.phase, Edge.mk 4 Ground.phase, Edge.mk 5 Ground.phase, Edge.mk 6 Ground.phase, Edge.mk 7 Ground.phase, Edge.mk 8 Ground.phase, Edge.mk 9 Ground.phase] none
def wi11_Ops : Array Oper := #[wi11_0, wi11_1, wi11_2, wi11_3, wi11_4, wi11_5, wi11_6, wi11_7, wi11_8, wi11_9, wi11_10]
set_option maxHeartbeats 1000000 in
set_option maxRecDepth 100000 in
theorem wi11_reg (Q : Exit → Act → World → Prop) (hQ : ∀ c a d v w, Q (.panic c) (Act.put a (some d) v) w → Q (.panic c) a w) (a : Act) (w : World) (g0 g1 : Nat) (vv vv' : Value) (ma ma' : Option Addr) (mn mc mn' mc' : Nat)
    (hsz : a.tmps.size = 40) (h2 : a.eval (.tmp 2) = .pointer (some ⟨g0, 0, none⟩)) (h3 : a.eval (.tmp 3) = .pointer (some ⟨g1, 0, none⟩))
    (hS0 : KS2 g0 g1 vv (.slice ma mn mc) vv' (.slice ma' mn' mc') w) (hl0 : g0 < w.heap.size) (hl1 : g1 < w.heap.size) (F1 : Option Addr → Nat → Nat → World → Prop)
    (HM : ∀ W, Gr w W → Calls Try.prog 62 #[.slice ma mn mc, .agg #[vv', .slice ma' mn' mc']] W fun e W' => ∃ p1 p2 p3, e = .returned (.slice p1 p2 p3) ∧ Gr W W' ∧ F1 p1 p2 p3 W')
    (h : ∀ (W : World) (p1 : Option Addr) (p2 p3 : Nat), Gr w W → F1 p1 p2 p3 W → Q .normal (Act.put (Act.put (Act.put (Act.put (Act.put (Act.put (Act.put (Act.put (Act.put (Act.put (Act.put a (some 31) (.pointer (some ⟨g0, 1, none⟩))) (some 33) (.agg #[vv', .slice ma' mn' mc'])) (some 36) (.pointer (some ⟨g0, 1, none⟩))) (some 32) (.slice ma mn mc)) (some 37) (.slice ma mn mc)) (some 38) (.int .i64 (mn : Nat))) (some 34) (.slice p1 p2 p3)) (some 35) (.int .i64 (p2 : Nat))) (some 39) (.bool (decide ((p2 : Int) = (mn : Int))))) (some 4) (.bool (decide ((p2 : Int) = (mn : Int))))) (some 5) (.int .i64 0)) W) : (Code.region 11 wi11_Ops true).wp Try.prog Q a w := by
  have keep : ∀ x, Gr w x → KS2 g0 g1 vv (.slice ma mn mc) vv' (.slice ma' mn' mc') x := fun x gx => ⟨(Below.block gx g0 hl0).trans hS0.1, (Below.block gx g1 hl1).trans hS0.2⟩
  refine wp_region_held_drew (S := KS2 g0 g1 vv (.slice ma mn mc) vv' (.slice ma' mn' mc')) (by kernel_rfl) hS0 (fun hHeld => ?_)
  show wpAnyH Try.prog .any wi11_Ops Q _ 11 (Array.replicate 11 false) a w.drew
  have G0 : Gr w w.drew := (Gr.refl w).drew
  refine re_tk (i := 0) (oi := wi11_0) (v := .pointer (some ⟨g0, 1, none⟩)) (d := 31) hQ rfl rfl (by kernel_rfl) (by kernel_rfl) (by kernel_rfl) (Or.inl ⟨re_none _ rfl, fun wx hS => rr_fK1 _ _ _ _ _ _ _ _ g0 (by simp [re_ne, re_eq, re_size, re_const, hsz, h2, h3])⟩) hHeld ?_
  refine re_tk (i := 2) (oi := wi11_2) (v := .agg #[vv', .slice ma' mn' mc']) (d := 33) hQ rfl rfl (by kernel_rfl) (by kernel_rfl) (by kernel_rfl) (Or.inl ⟨re_none _ rfl, fun wx hS => rr_lK _ _ _ _ _ _ _ _ g1 (vv') (.slice ma' mn' mc') (by simp [re_ne, re_eq, re_size, re_const, hsz, h2, h3]) (kc0 (hS.2)) (kc1 (hS.2))⟩) hHeld ?_
  refine re_tk (i := 5) (oi := wi11_5) (v := .pointer (some ⟨g0, 1, none⟩)) (d := 36) hQ rfl rfl (by kernel_rfl) (by kernel_rfl) (by kernel_rfl) (Or.inl ⟨re_none _ rfl, fun wx hS => rr_fK1 _ _ _ _ _ _ _ _ g0 (by simp [re_ne, re_eq, re_size, re_const, hsz, h2, h3])⟩) hHeld ?_
  refine re_tk (i := 1) (oi := wi11_1) (v := .slice ma mn mc) (d := 32) hQ rfl rfl (by kernel_rfl) (by kernel_rfl) (by kernel_rfl) (Or.inl ⟨re_none _ rfl, fun wx hS => rr_lS _ _ _ _ _ _ _ _ g0 1 (.slice ma mn mc) (by simp [re_ne, re_eq, re_size, re_const, hsz, h2, h3]) (kc1 (hS.1))⟩) hHeld ?_
  refine re_tk (i := 6) (oi := wi11_6) (v := .slice ma mn mc) (d := 37) hQ rfl rfl (by kernel_rfl) (by kernel_rfl) (by kernel_rfl) (Or.inl ⟨re_none _ rfl, fun wx hS => rr_lS _ _ _ _ _ _ _ _ g0 1 (.slice ma mn mc) (by simp [re_ne, re_eq, re_size, re_const, hsz, h2, h3]) (kc1 (hS.1))⟩) hHeld ?_
  refine re_tk (i := 7) (oi := wi11_7) (v := .int .i64 (mn : Nat)) (d := 38) hQ rfl rfl (by kernel_rfl) (by kernel_rfl) (by kernel_rfl) (Or.inl ⟨re_none _ rfl, fun wx hS => rr_len _ _ _ _ _ _ _ _ ma mn mc (by simp [re_ne, re_eq, re_size, re_const, hsz, h2, h3])⟩) hHeld ?_
  refine st_one (i := 3) (oi := wi11_3) (by kernel_rfl) rfl rfl ?_
  refine st_call (d := 34) rfl (rr_enter2 _ _ _ _ _ _ _ 62 _ _ (.slice ma mn mc) (.agg #[vv', .slice ma' mn' mc']) _ (by simp [re_ne, re_eq, re_size, re_const, hsz, h2, h3]) (by simp [re_ne, re_eq, re_size, re_const, hsz, h2, h3]) rfl (rr_enter_of Try.func62 (by kernel_rfl) (by kernel_rfl) _ _)) (HM _ G0) ?_
  rintro e W1 ⟨p1, p2, p3, rfl, gM, fM⟩
  have G1 := Gr.trans G0 gM
  have hHeld1 := keep _ G1
  refine ⟨_, rfl, hHeld1, ?_⟩
  refine re_tk (i := 4) (oi := wi11_4) (v := .int .i64 (p2 : Nat)) (d := 35) hQ rfl rfl (by kernel_rfl) (by kernel_rfl) (by kernel_rfl) (Or.inl ⟨re_none _ rfl, fun wx hS => rr_len _ _ _ _ _ _ _ _ p1 p2 p3 (by simp [re_ne, re_eq, re_size, re_const, hsz, h2, h3])⟩) hHeld1 ?_
  refine re_tk (i := 8) (oi := wi11_8) (v := .bool (decide ((p2 : Int) = (mn : Int)))) (d := 39) hQ rfl rfl (by kernel_rfl) (by kernel_rfl) (by kernel_rfl) (Or.inl ⟨re_none _ rfl, fun wx hS => rr_eqI _ _ _ _ _ _ _ _ _ (p2 : Nat) (mn : Nat) (by simp [re_ne, re_eq, re_size, re_const, hsz, h2, h3]) (by simp [re_ne, re_eq, re_size, re_const, hsz, h2, h3])⟩) hHeld1 ?_
  refine re_tk (i := 9) (oi := wi11_9) (v := .bool (decide ((p2 : Int) = (mn : Int)))) (d := 4) hQ rfl rfl (by kernel_rfl) (by kernel_rfl) (by kernel_rfl) (Or.inl ⟨re_none _ rfl, fun wx hS => rr_assign _ _ _ _ _ _ _ _ _ (by simp [re_ne, re_eq, re_size, re_const, hsz, h2, h3])⟩) hHeld1 ?_
  refine re_tk (i := 10) (oi := wi11_10) (v := .int .i64 0) (d := 5) hQ rfl rfl (by kernel_rfl) (by kernel_rfl) (by kernel_rfl) (Or.inl ⟨re_none _ rfl, fun wx hS => rr_assign _ _ _ _ _ _ _ _ _ (by simp [re_ne, re_eq, re_size, re_const, hsz, h2, h3])⟩) hHeld1 ?_
  exact wpAnyH_done (by kernel_rfl) (h _ p1 p2 p3 G1 fM) _
def ad6_0 : Oper := Oper.mk (some 17) (Op.load 35 (Operand.tmp 2)) 35 "know.go:50" #[] none
def ad6_1 : Oper := Oper.mk (some 18) (Op.call (Call.mk (Callee.value (Operand.func 61)) #[Operand.tmp 17] #[35])) 108 "know.go:50" #[Edge.mk 0 Ground.data] none
def ad6_2 : Oper := Oper.mk (some 19) (Op.fieldAddr 35 (Operand.tmp 2) 1) 0 "know.go:50" #[] none
def ad6_3 : Oper := Oper.mk (some 20) (Op.load 33 (Operand.tmp 19)) 33 "know.go:50" #[Edge.mk 2 Ground.data] none
def ad6_4 : Oper := Oper.mk (some 21) (Op.load 26 (Operand.tmp 3)) 26 "know.go:50" #[] none
def ad6_5 : Oper := Oper.mk (some 22) (Op.buildSlice 33 1 #[(0, Operand.tmp 21)]) 33 "know.go:50" #[Edge.mk 4 Ground.data] none
def ad6_6 : Oper := Oper.mk (some 23) (Op.buildSlice 152 2 #[(0, Operand.tmp 20), (1, Operand.tmp 22)]) 152 "know.go:50" #[Edge.mk 3 Ground.data, Edge.mk 5 Ground.data] none
def ad6_7 : Oper := Oper.mk (some 24) (Op.call (Call.mk (Callee.value (Operand.func 64)) #[Operand.tmp 23] #[152])) 33 "know.go:50" #[Edge.mk 6 Ground.data, Edge.mk 1 Ground.chain] none
def ad6_8 : Oper := Oper.mk (some 25) (Op.call (Call.mk (Callee.value (Operand.func 63)) #[Operand.tmp 18, Operand.tmp 24] #[108, 33])) 58 "know.go:50" #[Edge.mk 1 Ground.data, Edge.mk 7 Ground.data, Edge.mk 7 Ground.chain] none
def ad6_9 : Oper := Oper.mk (some 26) (Op.extract (Operand.tmp 25) 0) 35 "know.go:50" #[Edge.mk 8 Ground.data] none
def ad6_10 : Oper := Oper.mk (some 27) (Op.extract (Operand.tmp 25) 1) 27 "know.go:50" #[Edge.mk 8 Ground.data] none
def ad6_11 : Oper := Oper.mk none (Op.store 35 (Operand.tmp 4) (Operand.tmp 26)) 0 "know.go:50" #[Edge.mk 9 Ground.data, Edge.mk 8 Ground.chain, Edge.mk 0 Ground.phase, Edge.mk 1 Ground.phase, Edge.mk 2 Ground.phase, Edge.mk 3 Ground.phase, Edge.mk 4 Ground.phase, Edge.mk 5 Ground.phase, Edge.mk 6 Ground.phase, Edge.mk 7 Ground.phase, Edge.mk 8 Ground.phase, Edge.mk 9 Ground.phase, Edge.mk 10 Ground.phase] none
def ad6_12 : Oper := Oper.mk (some 5) (Op.assign (Operand.tmp 27)) 27 "know.go:50" #[Edge.mk 10 Ground.data, Edge.mk 11 Ground.chain, Edge.mk 0 Ground.phase, Edge.mk 1 Ground.phase, Edge.mk 2 Ground.phase, Edge.mk 3 Ground.phase, Edge.mk 4 Ground.phase, Edge.mk 5 Ground.phase, Edge.mk 6 Ground.phase, Edge.mk 7 Ground.phase, Edge.mk 8 Ground.phase, Edge.mk 9 Ground.phase, Edge.mk 10 Ground.phase, Edge.mk 11 Ground.phase] none
def ad6_Ops : Array Oper := #[ad6_0, ad6_1, ad6_2, ad6_3, ad6_4, ad6_5, ad6_6, ad6_7, ad6_8, ad6_9, ad6_10, ad6_11, ad6_12]
set_option maxHeartbeats 1000000 in
set_option maxRecDepth 100000 in
theorem ad6_reg (Q : Exit → Act → World → Prop) (hQ : ∀ c a d v w, Q (.panic c) (Act.put a (some d) v) w → Q (.panic c) a w) (a : Act) (w : World) (g0 g1 g4 : Nat) (vv : Value) (ma : Option Addr) (mn mc s c : Nat) (A : Array Value)
    (hsz : a.tmps.size = 28) (h2 : a.eval (.tmp 2) = .pointer (some ⟨g0, 0, none⟩)) (h3 : a.eval (.tmp 3) = .pointer (some ⟨g1, 0, none⟩)) (h4 : a.eval (.tmp 4) = .pointer (some ⟨g4, 0, none⟩))
    (hS0 : KD2 g0 g1 vv (.slice ma mn mc) s c w) (hl0 : g0 < w.heap.size) (hl1 : g1 < w.heap.size)
    (h40 : w.heap[g4]? = some (.cells #[.slice none 0 0, .slice none 0 0] 35 (0, 0))) (hn0 : g0 ≠ g4) (hn1 : g1 ≠ g4)
    (FC : Value → World → World → Prop) (FB : Option Addr → Nat → Nat → Option Addr → Nat → Nat → Int → World → Prop)
    (HC : ∀ w', Gr w w' → Calls Try.prog 61 #[.agg #[vv, .slice ma mn mc]] w' fun e w'' => e = .returned (.agg A) ∧ Gr w' w'')
    (HCC : ∀ W b22 b23, Gr w W → W.heap[b22]? = some (.cells #[.int .i64 (s : Int), .int .i64 (c : Int)] 26 (0, 0)) → W.heap[b23]? = some (.cells #[.slice ma mn mc, .slice (some ⟨b22, 0, none⟩) 1 1] 33 (0, 0)) → Calls Try.prog 64 #[.slice (some ⟨b23, 0, none⟩) 2 2] W fun e W' => ∃ u, e = .returned u ∧ Gr W W' ∧ FC u W W')
    (HB : ∀ W W' u, Gr w W → Gr W W' → FC u W W' → Calls Try.prog 63 #[.agg A, u] W' fun e W'' => ∃ a1 n1 c1 a2 n2 c2 r, e = .returned (.tuple #[.agg #[.slice a1 n1 c1, .slice a2 n2 c2], .int .i64 r]) ∧ Gr w W'' ∧ FB a1 n1 c1 a2 n2 c2 r W'')
    (h : ∀ (W : World) (b22 b23 : Nat) (u : Value) a1 n1 c1 a2 n2 c2 r, Gr w W → FB a1 n1 c1 a2 n2 c2 r W → Q .normal (Act.put (Act.put (Act.put (Act.put (Act.put (Act.put (Act.put (Act.put (Act.put (Act.put (Act.put (Act.put a (some 17) (.agg #[vv, .slice ma mn mc])) (some 19) (.pointer (some ⟨g0, 1, none⟩))) (some 21) (.agg #[.int .i64 (s : Int), .int .i64 (c : Int)])) (some 20) (.slice ma mn mc)) (some 18) (.agg A)) (some 22) (.slice (some ⟨b22, 0, none⟩) 1 1)) (some 23) (.slice (some ⟨b23, 0, none⟩) 2 2)) (some 24) (u)) (some 25) (.tuple #[.agg #[.slice a1 n1 c1, .slice a2 n2 c2], .int .i64 r])) (some 26) (.agg #[.slice a1 n1 c1, .slice a2 n2 c2])) (some 27) (.int .i64 r)) (some 5) (.int .i64 r)) (W.setRow g4 #[.slice a1 n1 c1, .slice a2 n2 c2])) : (Code.region 6 ad6_Ops true).wp Try.prog Q a w := by
  have keep : ∀ x, Gr w x → KD2 g0 g1 vv (.slice ma mn mc) s c x := fun x gx => ⟨(Below.block gx g0 hl0).trans hS0.1, (Below.block gx g1 hl1).trans hS0.2⟩
  have keep4 : ∀ x, Gr w x → x.heap[g4]? = some (.cells #[.slice none 0 0, .slice none 0 0] 35 (0, 0)) := fun x gx => (Below.block gx g4 (Array.getElem?_eq_some_iff.1 h40).1).trans h40
  have fin : ∀ (W : World) (b22 b23 : Nat) (L : Array Bool), L = #[true, true, true, true, true, true, true, false, false, false, false, false, false] → KD2 g0 g1 vv (.slice ma mn mc) s c W → Gr w W → W.heap[b22]? = some (.cells #[.int .i64 (s : Int), .int .i64 (c : Int)] 26 (0, 0)) → W.heap[b23]? = some (.cells #[.slice ma mn mc, .slice (some ⟨b22, 0, none⟩) 1 1] 33 (0, 0)) → wpAnyH Try.prog .any ad6_Ops Q (KD2 g0 g1 vv (.slice ma mn mc) s c) 6 L (Act.put (Act.put (Act.put (Act.put (Act.put (Act.put (Act.put a (some 17) (.agg #[vv, .slice ma mn mc])) (some 19) (.pointer (some ⟨g0, 1, none⟩))) (some 21) (.agg #[.int .i64 (s : Int), .int .i64 (c : Int)])) (some 20) (.slice ma mn mc)) (some 18) (.agg A)) (some 22) (.slice (some ⟨b22, 0, none⟩) 1 1)) (some 23) (.slice (some ⟨b23, 0, none⟩) 2 2)) W := by
    intro W b22 b23 L hL hW gW f22 f23
    subst hL
    refine st_one (i := 7) (oi := ad6_7) (by kernel_rfl) rfl rfl ?_
    refine st_call (d := 24) rfl (rr_enter1 _ _ _ _ _ _ _ 64 _ (.slice (some ⟨b23, 0, none⟩) 2 2) _ (by simp [re_ne, re_eq, re_size, re_const, hsz, h2, h3, h4]) rfl (rr_enter_of Try.func64 (by kernel_rfl) (by kernel_rfl) _ _)) (HCC _ _ _ gW f22 f23) ?_
    rintro e W51 ⟨u, rfl, gC, fC⟩
    have G51 := Gr.trans gW gC
    have hHeld51 := keep _ G51
    refine ⟨_, rfl, hHeld51, ?_⟩
    refine st_one (i := 8) (oi := ad6_8) (by kernel_rfl) rfl rfl ?_
    refine st_call (d := 25) rfl (rr_enter2 _ _ _ _ _ _ _ 63 _ _ (.agg A) (u) _ (by simp [re_ne, re_eq, re_size, re_const, hsz, h2, h3, h4]) (by simp [re_ne, re_eq, re_size, re_const, hsz, h2, h3, h4]) rfl (rr_enter_of Try.func63 (by kernel_rfl) (by kernel_rfl) _ _)) (HB _ _ u gW gC fC) ?_
    rintro e W52 ⟨a1, n1, c1, a2, n2, c2, r, rfl, gB, fB⟩
    have G52 := gB
    have hHeld52 := keep _ G52
    refine ⟨_, rfl, hHeld52, ?_⟩
    refine re_tk (i := 9) (oi := ad6_9) (v := .agg #[.slice a1 n1 c1, .slice a2 n2 c2]) (d := 26) hQ rfl rfl (by kernel_rfl) (by kernel_rfl) (by kernel_rfl) (Or.inl ⟨re_none _ rfl, fun wx hS => rr_ext0 _ _ _ _ _ _ _ _ (.agg #[.slice a1 n1 c1, .slice a2 n2 c2]) (.int .i64 r) (by simp [re_ne, re_eq, re_size, re_const, hsz, h2, h3, h4])⟩) hHeld52 ?_
    refine re_tk (i := 10) (oi := ad6_10) (v := .int .i64 r) (d := 27) hQ rfl rfl (by kernel_rfl) (by kernel_rfl) (by kernel_rfl) (Or.inl ⟨re_none _ rfl, fun wx hS => rr_ext1 _ _ _ _ _ _ _ _ (.agg #[.slice a1 n1 c1, .slice a2 n2 c2]) (.int .i64 r) (by simp [re_ne, re_eq, re_size, re_const, hsz, h2, h3, h4])⟩) hHeld52 ?_
    refine st_one (i := 11) (oi := ad6_11) (by kernel_rfl) rfl rfl ?_
    have e4 := keep4 _ G52
    have hSt := (show KD2 g0 g1 vv (.slice ma mn mc) s c _ from ⟨(setRow_other _ g4 g0 #[.slice a1 n1 c1, .slice a2 n2 c2] hn0).trans hHeld52.1, (setRow_other _ g4 g1 #[.slice a1 n1 c1, .slice a2 n2 c2] hn1).trans hHeld52.2⟩)
    refine st_row 35 (.tmp 4) (.tmp 26) rfl rfl g4 #[.slice a1 n1 c1, .slice a2 n2 c2] (by simp [re_ne, re_eq, re_size, re_const, hsz, h2, h3, h4]) (by simp [re_ne, re_eq, re_size, re_const, hsz, h2, h3, h4]) 35 #[.slice none 0 0, .slice none 0 0] e4 know_size2 rfl (two_one _ _ _ _ _ _) hSt ?_
    refine re_tk (i := 12) (oi := ad6_12) (v := .int .i64 r) (d := 5) hQ rfl rfl (by kernel_rfl) (by kernel_rfl) (by kernel_rfl) (Or.inl ⟨re_none _ rfl, fun wx hS => rr_assign _ _ _ _ _ _ _ _ _ (by simp [re_ne, re_eq, re_size, re_const, hsz, h2, h3, h4])⟩) hSt ?_
    exact wpAnyH_done (by kernel_rfl) (h _ b22 b23 u a1 n1 c1 a2 n2 c2 r G52 fB) _
  refine wp_region_held_drew (S := KD2 g0 g1 vv (.slice ma mn mc) s c) (by kernel_rfl) hS0 (fun hHeld => ?_)
  show wpAnyH Try.prog .any ad6_Ops Q _ 13 (Array.replicate 13 false) a w.drew
  have G0 : Gr w w.drew := (Gr.refl w).drew
  refine re_tk (i := 0) (oi := ad6_0) (v := .agg #[vv, .slice ma mn mc]) (d := 17) hQ rfl rfl (by kernel_rfl) (by kernel_rfl) (by kernel_rfl) (Or.inl ⟨re_none _ rfl, fun wx hS => rr_lK _ _ _ _ _ _ _ _ g0 (vv) (.slice ma mn mc) (by simp [re_ne, re_eq, re_size, re_const, hsz, h2, h3, h4]) (kc0 (hS.1)) (kc1 (hS.1))⟩) hHeld ?_
  refine re_tk (i := 2) (oi := ad6_2) (v := .pointer (some ⟨g0, 1, none⟩)) (d := 19) hQ rfl rfl (by kernel_rfl) (by kernel_rfl) (by kernel_rfl) (Or.inl ⟨re_none _ rfl, fun wx hS => rr_fK1 _ _ _ _ _ _ _ _ g0 (by simp [re_ne, re_eq, re_size, re_const, hsz, h2, h3, h4])⟩) hHeld ?_
  refine re_tk (i := 4) (oi := ad6_4) (v := .agg #[.int .i64 (s : Int), .int .i64 (c : Int)]) (d := 21) hQ rfl rfl (by kernel_rfl) (by kernel_rfl) (by kernel_rfl) (Or.inl ⟨re_none _ rfl, fun wx hS => rr_lD _ _ _ _ _ _ _ _ g1 (.int .i64 (s : Int)) (.int .i64 (c : Int)) (by simp [re_ne, re_eq, re_size, re_const, hsz, h2, h3, h4]) (kc0 (hS.2)) (kc1 (hS.2))⟩) hHeld ?_
  refine re_tk (i := 3) (oi := ad6_3) (v := .slice ma mn mc) (d := 20) hQ rfl rfl (by kernel_rfl) (by kernel_rfl) (by kernel_rfl) (Or.inl ⟨re_none _ rfl, fun wx hS => rr_lS _ _ _ _ _ _ _ _ g0 1 (.slice ma mn mc) (by simp [re_ne, re_eq, re_size, re_const, hsz, h2, h3, h4]) (kc1 (hS.1))⟩) hHeld ?_
  refine st_pair (i := 1) (j := 5) (oi := ad6_1) (oj := ad6_5) (by kernel_rfl) rfl rfl rfl rfl ?_ ?_
  · refine st_call (d := 18) rfl (rr_enter1 _ _ _ _ _ _ _ 61 _ (.agg #[vv, .slice ma mn mc]) _ (by simp [re_ne, re_eq, re_size, re_const, hsz, h2, h3, h4]) rfl (rr_enter_of Try.func61 (by kernel_rfl) (by kernel_rfl) _ _)) (HC _ G0) ?_
    rintro e V1 ⟨rfl, g1x⟩
    have GG1 := Gr.trans G0 g1x
    refine ⟨_, rfl, keep _ GG1, ?_⟩
    refine st_one (i := 5) (oi := ad6_5) (by kernel_rfl) rfl rfl ?_
    have GG2 := Gr.alloc GG1 (.cells #[.int .i64 (s : Int), .int .i64 (c : Int)] 26)
    have y2_5 := al_new V1 (.cells #[.int .i64 (s : Int), .int .i64 (c : Int)] 26) _ rfl
    refine st_val (d := 22) rfl (rr_bsD _ _ _ _ _ _ _ _ s c (by simp [re_ne, re_eq, re_size, re_const, hsz, h2, h3, h4])) (keep _ GG2) ?_
    refine st_one (i := 6) (oi := ad6_6) (by kernel_rfl) rfl rfl ?_
    have GG3 := Gr.alloc GG2 (.cells #[.slice ma mn mc, .slice (some ⟨V1.heap.size, 0, none⟩) 1 1] 33)
    have y3_5 := (Below.heap_alloc (V1.alloc (.cells #[.int .i64 (s : Int), .int .i64 (c : Int)] 26)) (.cells #[.slice ma mn mc, .slice (some ⟨V1.heap.size, 0, none⟩) 1 1] 33) _ (Array.getElem?_eq_some_iff.1 y2_5).1).trans y2_5
    have y3_6 := al_new (V1.alloc (.cells #[.int .i64 (s : Int), .int .i64 (c : Int)] 26)) (.cells #[.slice ma mn mc, .slice (some ⟨V1.heap.size, 0, none⟩) 1 1] 33) _ rfl
    refine st_val (d := 23) rfl (rr_bs2 _ _ _ _ _ _ _ _ _ ma mn mc _ 1 1 (by simp [re_ne, re_eq, re_size, re_const, hsz, h2, h3, h4]) (by simp [re_ne, re_eq, re_size, re_const, hsz, h2, h3, h4])) (keep _ GG3) ?_
    exact fin _ _ _ _ rfl (keep _ GG3) GG3 y3_5 y3_6
  · have GG4 := Gr.alloc G0 (.cells #[.int .i64 (s : Int), .int .i64 (c : Int)] 26)
    have y4_5 := al_new w.drew (.cells #[.int .i64 (s : Int), .int .i64 (c : Int)] 26) _ rfl
    refine st_val (d := 22) rfl (rr_bsD _ _ _ _ _ _ _ _ s c (by simp [re_ne, re_eq, re_size, re_const, hsz, h2, h3, h4])) (keep _ GG4) ?_
    refine st_pair (i := 1) (j := 6) (oi := ad6_1) (oj := ad6_6) (by kernel_rfl) rfl rfl rfl rfl ?_ ?_
    · refine st_call (d := 18) rfl (rr_enter1 _ _ _ _ _ _ _ 61 _ (.agg #[vv, .slice ma mn mc]) _ (by simp [re_ne, re_eq, re_size, re_const, hsz, h2, h3, h4]) rfl (rr_enter_of Try.func61 (by kernel_rfl) (by kernel_rfl) _ _)) (HC _ GG4) ?_
      rintro e V5 ⟨rfl, g5x⟩
      have GG5 := Gr.trans GG4 g5x
      have y5_5 := (Below.block g5x _ (Array.getElem?_eq_some_iff.1 y4_5).1).trans y4_5
      refine ⟨_, rfl, keep _ GG5, ?_⟩
      refine st_one (i := 6) (oi := ad6_6) (by kernel_rfl) rfl rfl ?_
      have GG6 := Gr.alloc GG5 (.cells #[.slice ma mn mc, .slice (some ⟨w.drew.heap.size, 0, none⟩) 1 1] 33)
      have y6_5 := (Below.heap_alloc V5 (.cells #[.slice ma mn mc, .slice (some ⟨w.drew.heap.size, 0, none⟩) 1 1] 33) _ (Array.getElem?_eq_some_iff.1 y5_5).1).trans y5_5
      have y6_6 := al_new V5 (.cells #[.slice ma mn mc, .slice (some ⟨w.drew.heap.size, 0, none⟩) 1 1] 33) _ rfl
      refine st_val (d := 23) rfl (rr_bs2 _ _ _ _ _ _ _ _ _ ma mn mc _ 1 1 (by simp [re_ne, re_eq, re_size, re_const, hsz, h2, h3, h4]) (by simp [re_ne, re_eq, re_size, re_const, hsz, h2, h3, h4])) (keep _ GG6) ?_
      rw [re_comm _ 22 18 _ _ (by decide)]
      exact fin _ _ _ _ rfl (keep _ GG6) GG6 y6_5 y6_6
    · have GG7 := Gr.alloc GG4 (.cells #[.slice ma mn mc, .slice (some ⟨w.drew.heap.size, 0, none⟩) 1 1] 33)
      have y7_5 := (Below.heap_alloc (w.drew.alloc (.cells #[.int .i64 (s : Int), .int .i64 (c : Int)] 26)) (.cells #[.slice ma mn mc, .slice (some ⟨w.drew.heap.size, 0, none⟩) 1 1] 33) _ (Array.getElem?_eq_some_iff.1 y4_5).1).trans y4_5
      have y7_6 := al_new (w.drew.alloc (.cells #[.int .i64 (s : Int), .int .i64 (c : Int)] 26)) (.cells #[.slice ma mn mc, .slice (some ⟨w.drew.heap.size, 0, none⟩) 1 1] 33) _ rfl
      refine st_val (d := 23) rfl (rr_bs2 _ _ _ _ _ _ _ _ _ ma mn mc _ 1 1 (by simp [re_ne, re_eq, re_size, re_const, hsz, h2, h3, h4]) (by simp [re_ne, re_eq, re_size, re_const, hsz, h2, h3, h4])) (keep _ GG7) ?_
      refine st_one (i := 1) (oi := ad6_1) (by kernel_rfl) rfl rfl ?_
      refine st_call (d := 18) rfl (rr_enter1 _ _ _ _ _ _ _ 61 _ (.agg #[vv, .slice ma mn mc]) _ (by simp [re_ne, re_eq, re_size, re_const, hsz, h2, h3, h4]) rfl (rr_enter_of Try.func61 (by kernel_rfl) (by kernel_rfl) _ _)) (HC _ GG7) ?_
      rintro e V8 ⟨rfl, g8x⟩
      have GG8 := Gr.trans GG7 g8x
      have y8_5 := (Below.block g8x _ (Array.getElem?_eq_some_iff.1 y7_5).1).trans y7_5
      have y8_6 := (Below.block g8x _ (Array.getElem?_eq_some_iff.1 y7_6).1).trans y7_6
      refine ⟨_, rfl, keep _ GG8, ?_⟩
      rw [re_comm _ 23 18 _ _ (by decide), re_comm _ 22 18 _ _ (by decide)]
      exact fin _ _ _ _ rfl (keep _ GG8) GG8 y8_5 y8_6
end Go.Proofs.Ytghjfakellaecaa
