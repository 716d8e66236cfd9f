/- The drawn regions of FilterSays, and the counts of its points. -/
import Derived.Test.YtphcjjhfgpdhcaaRefE
namespace Rm
open Go Go.RowKit
theorem cntP_add (T : Nat → Nat) (k : Nat) : ∀ j, j ≤ 32 → cntP (ptF T) (32 * k + j) = cntP (ptF T) (32 * k) + popTo (T k) j
  | 0, _ => by simp [popTo]
  | j + 1, h => by
    have ih := cntP_add T k j (by omega)
    rw [show 32 * k + (j + 1) = (32 * k + j) + 1 by omega]
    simp only [cntP, popTo]
    rw [ih]
    have e : ptF T (32 * k + j) = (T k).testBit j := by
      unfold ptF
      rw [show (32 * k + j) / 32 = k by omega, show (32 * k + j) % 32 = j by omega]
    rw [e]
    cases (T k).testBit j <;> simp <;> omega
theorem cntP_tab (T : Nat → Nat) : ∀ k, cntP (ptF T) (32 * k) = cntTo T k
  | 0 => rfl
  | k + 1 => by
    rw [show 32 * (k + 1) = 32 * k + 32 by omega, cntP_add T k 32 (by omega), cntP_tab T k]
    rfl
theorem ptF_at (T : Nat → Nat) {a b : Nat} (ha : a < 16) (hb : b < 32) : ptF T (32 * a + b) = bitT T a b := by
  unfold ptF bitT
  rw [pointB_nat ha hb, show (32 * a + b) / 32 = a by omega, show (32 * a + b) % 32 = b by omega]
  simp
theorem eqP_same {T U : Nat → Nat} (hT : ∀ t, t < 16 → T t < 2 ^ 32) (hU : ∀ t, t < 16 → U t < 2 ^ 32) : eqP (ptF T) (ptF U) = sameT T U := by
  rw [Bool.eq_iff_iff, eqP_iff]
  unfold sameT
  rw [allT_iff]
  constructor
  · intro h t ht
    have : T t = U t := by
      apply Nat.eq_of_testBit_eq
      intro i
      rcases Nat.lt_or_ge i 32 with c | c
      · have := h (32 * t + i) (by omega)
        unfold ptF at this
        rw [show (32 * t + i) / 32 = t by omega, show (32 * t + i) % 32 = i by omega] at this
        exact this
      · rw [Nat.testBit_lt_two_pow (Nat.lt_of_lt_of_le (hT t ht) (Nat.pow_le_pow_right (by omega) c)), Nat.testBit_lt_two_pow (Nat.lt_of_lt_of_le (hU t ht) (Nat.pow_le_pow_right (by omega) c))]
    rw [this]; simp
  · intro h i hi
    have := h (i / 32) (by omega)
    unfold ptF
    rw [show T (i / 32) = U (i / 32) by simpa using this]
end Rm
namespace Go.Proofs.Ytphcjjhfgpdhcaa
open Go.RowKit Rm
set_option linter.unusedVariables false
set_option linter.unusedSimpArgs false
theorem many_fs (T : Nat → Nat) (w : World) : Calls Try.prog 24 #[.agg (pArr (ptF T))] w fun e w' => e = .returned (.int .i64 (cntT T : Nat)) ∧ Gr w w' := by
  have := many_any (ptF T) w
  rw [show (512 : Nat) = 32 * 16 from rfl, cntP_tab T 16] at this
  exact this
theorem each_orS' (f u : Nat → Bool) (w : World) :
    Calls Try.prog 27 #[.agg (pArr f), .agg (pArr u), .func (.func 28) #[] #[]] w fun e w' => e = .returned (.agg (pArr fun i => f i || u i)) ∧ Gr w w' :=
  (each_orS f u w).mono fun e w' ⟨p, he, hp, g⟩ => ⟨by rw [he, pArr_ext hp], g⟩
theorem eqP_within {T U : Nat → Nat} (hT : OkT T) (hU : OkT U) : eqP (fun i => ptF T i || ptF U i) (ptF U) = withinT T U := by
  have e : eqP (fun i => ptF T i || ptF U i) (ptF U) = eqP (ptF fun t => T t ||| U t) (ptF U) := by
    unfold eqP
    simp only [ptF_or]
  rw [e, eqP_same (okT_or hT hU) hU, Bool.eq_iff_iff]
  constructor
  · intro h
    rw [sameT_iff] at h
    refine within_of hT hU (fun t ht i hi hb => ?_)
    rw [← h t ht, Nat.testBit_or, hb]; rfl
  · intro h
    refine sameT_of (fun t ht => ?_)
    apply Nat.eq_of_testBit_eq
    intro i
    rw [Nat.testBit_or]
    rcases Nat.lt_or_ge i 32 with c | c
    · cases hb : (T t).testBit i
      · rfl
      · rw [within_bit hT hU h ht c hb]; rfl
    · rw [Nat.testBit_lt_two_pow (Nat.lt_of_lt_of_le (hT t ht) (Nat.pow_le_pow_right (by omega) c))]; rfl
theorem point_info : (Try.prog.info? 24).map (·.size) = some 2 := by kernel_rfl
section
variable (ev : Operand → Value) (d : Option Tmp) (ty : TypeId) (p : String) (af : Array Edge) (g : Option (Nat × Bool)) (w : World)
theorem mr_loadP (x : Operand) (B : Nat) (t n : Int) (h : ev x = .pointer (some ⟨B, 0, none⟩)) (hc : w.heap[B]? = some (.cells #[.int .i64 t, .int .i64 n] 24 (0, 0))) : (execOp ev (Oper.mk d (.load 24 x) ty p af g)).run Try.prog w = .ok (.value (.agg #[.int .i64 t, .int .i64 n])) w := by
  unfold execOp
  simp only [h, Instr.loadAt, Instr.sureAddr, Sem.run_bind, Sem.run_pure, Result.andThen_ok, run_loadVar_row w B 24 24 #[.int .i64 t, .int .i64 n] (0, 0) _ hc Try.underlying24 rfl point_info]
theorem mr_neqb (x y : Operand) (b : Bool) (h : ev x = .bool b) (h2 : ev y = .bool b) : (execOp ev (Oper.mk d (.binOp .neq 4 x y 4) ty p af g)).run Try.prog w = .ok (.value (.bool false)) w := by
  cases b <;> go_simp
theorem mr_eqb (x y : Operand) (b : Bool) (h : ev x = .bool b) (h2 : ev y = .bool b) : (execOp ev (Oper.mk d (.binOp .eql 4 x y 4) ty p af g)).run Try.prog w = .ok (.value (.bool true)) w := by
  cases b <;> go_simp
theorem mr_neqe (x y : Operand) (c : Int) (h : ev x = .int .i64 c) (h2 : ev y = .int .i64 c) : (execOp ev (Oper.mk d (.binOp .neq 25 x y 25) ty p af g)).run Try.prog w = .ok (.value (.bool false)) w := by
  go_simp
theorem mr_not (x : Operand) (b : Bool) (h : ev x = .bool b) : (execOp ev (Oper.mk d (.unOp .not 4 x) ty p af g)).run Try.prog w = .ok (.value (.bool (!b))) w := by
  cases b <;> go_simp
theorem mr_build : (execOp ev (Oper.mk d (.build 24 #[]) ty p af g)).run Try.prog w = .ok (.value (.agg #[.int .i64 0, .int .i64 0])) w := by
  go_simp
theorem mr_enter3 (f : Nat) (x y z : Operand) (v1 v2 v3 : Value) (ts : Array TypeId) (h1 : ev x = v1) (h2 : ev y = v2) (h3 : ev z = v3) (hf : ev (.func f) = .func (.func f) #[] #[]) (hcf : (callFunc f #[v1, v2, v3]).run Try.prog w = .ok (.enter f #[v1, v2, v3]) w) : (execOp ev (Oper.mk d (.call (Call.mk (.value (.func f)) #[x, y, z] ts)) ty p af g)).run Try.prog w = .ok (.enter f #[v1, v2, v3]) w := by
  go_simp
end
theorem point_zero : pointB 0 0 = true := by decide

def sop0 : Oper := Oper.mk (some 47) (Op.load 24 (Operand.tmp 5)) 24 "low.go:164" #[] none
def sop1 : Oper := Oper.mk (some 48) (Op.call (Call.mk (Callee.value (Operand.func 20)) #[Operand.tmp 47] #[24])) 4 "low.go:164" #[Edge.mk 0 Ground.data] none
def sop2 : Oper := Oper.mk (some 49) (Op.load 24 (Operand.tmp 5)) 24 "low.go:164" #[] none
def sop3 : Oper := Oper.mk (some 50) (Op.call (Call.mk (Callee.value (Operand.func 21)) #[Operand.tmp 49] #[24])) 4 "low.go:164" #[Edge.mk 2 Ground.data, Edge.mk 1 Ground.chain] none
def sop4 : Oper := Oper.mk (some 51) (Op.binOp BinOp.neq 4 (Operand.tmp 48) (Operand.tmp 50) 4) 4 "low.go:164" #[Edge.mk 1 Ground.data, Edge.mk 3 Ground.data] none
def sop5 : Oper := Oper.mk (some 52) (Op.move (Operand.tmp 51)) 4 "low.go:164" #[Edge.mk 4 Ground.data, Edge.mk 3 Ground.chain] none
def sop6 : Oper := Oper.mk (some 53) (Op.move (Operand.tmp 0)) 22 "low.go:164" #[Edge.mk 5 Ground.guard] (some (5, false))
def sop7 : Oper := Oper.mk (some 54) (Op.call (Call.mk (Callee.value (Operand.func 22)) #[Operand.tmp 53] #[22])) 25 "low.go:164" #[Edge.mk 6 Ground.data, Edge.mk 5 Ground.chain, Edge.mk 5 Ground.guard] (some (5, false))
def sop8 : Oper := Oper.mk (some 55) (Op.move (Operand.tmp 15)) 25 "low.go:164" #[Edge.mk 5 Ground.guard] (some (5, false))
def sop9 : Oper := Oper.mk (some 56) (Op.binOp BinOp.neq 25 (Operand.tmp 54) (Operand.tmp 55) 25) 4 "low.go:164" #[Edge.mk 7 Ground.data, Edge.mk 8 Ground.data, Edge.mk 5 Ground.guard] (some (5, false))
def sop10 : Oper := Oper.mk (some 57) (Op.pick (Operand.tmp 52) (Operand.const (Value.bool true)) (Operand.tmp 56)) 4 "low.go:164" #[Edge.mk 5 Ground.data, Edge.mk 9 Ground.data] none
def sop11 : Oper := Oper.mk (some 58) (Op.move (Operand.tmp 57)) 4 "low.go:164" #[Edge.mk 10 Ground.data, Edge.mk 7 Ground.chain] none
def sop12 : Oper := Oper.mk (some 59) (Op.build 24 #[]) 24 "low.go:164" #[Edge.mk 11 Ground.guard] (some (11, false))
def sop13 : Oper := Oper.mk (some 60) (Op.call (Call.mk (Callee.value (Operand.func 20)) #[Operand.tmp 59] #[24])) 4 "low.go:164" #[Edge.mk 12 Ground.data, Edge.mk 11 Ground.chain, Edge.mk 11 Ground.guard] (some (11, false))
def sop14 : Oper := Oper.mk (some 61) (Op.unOp UnOp.not 4 (Operand.tmp 60)) 4 "low.go:164" #[Edge.mk 13 Ground.data, Edge.mk 11 Ground.guard] (some (11, false))
def sop15 : Oper := Oper.mk (some 62) (Op.pick (Operand.tmp 58) (Operand.const (Value.bool true)) (Operand.tmp 61)) 4 "low.go:164" #[Edge.mk 11 Ground.data, Edge.mk 14 Ground.data] none
def sopOps : Array Oper := #[sop0, sop1, sop2, sop3, sop4, sop5, sop6, sop7, sop8, sop9, sop10, sop11, sop12, sop13, sop14, sop15]

set_option maxHeartbeats 4000000 in
set_option maxRecDepth 100000 in
theorem says_reg6 (Q : Exit → Act → World → Prop) (hQ : ∀ c a d v w, Q (.panic c) (Act.put a (some d) v) w → Q (.panic c) a w) (a : Act) (w : World) (B : Nat) (v : Value) (t n c : Int) (hsz : a.tmps.size = 187)
    (h0 : a.eval (.tmp 0) = v) (h5 : a.eval (.tmp 5) = .pointer (some ⟨B, 0, none⟩)) (h15 : a.eval (.tmp 15) = .int .i64 c) (hB : w.heap[B]? = some (.cells #[.int .i64 t, .int .i64 n] 24 (0, 0)))
    (hck : ∀ w1, Gr w w1 → Calls Try.prog 22 #[v] w1 fun e w' => e = .returned (.int .i64 c) ∧ Gr w1 w')
    (h : ∀ w', Gr w w' → Q .normal (Act.put (Act.put (Act.put (Act.put (Act.put (Act.put (Act.put (Act.put (Act.put (Act.put (Act.put (Act.put (Act.put (Act.put (Act.put (Act.put a (some 47) (.agg #[.int .i64 t, .int .i64 n])) (some 49) (.agg #[.int .i64 t, .int .i64 n])) (some 48) (.bool (pointB t n))) (some 50) (.bool (pointB t n))) (some 51) (.bool false)) (some 52) (.bool false)) (some 53) (v)) (some 55) (.int .i64 c)) (some 54) (.int .i64 c)) (some 56) (.bool false)) (some 57) (.bool false)) (some 58) (.bool false)) (some 59) (.agg #[.int .i64 0, .int .i64 0])) (some 60) (.bool true)) (some 61) (.bool false)) (some 62) (.bool false)) w') : (Code.region 6 sopOps true).wp Try.prog Q a w := by
  refine wp_region_held_drew (S := fun x => x.heap[B]? = some (.cells #[.int .i64 t, .int .i64 n] 24 (0, 0))) (by kernel_rfl) hB (fun hHeld => ?_)
  show wpAnyH Try.prog .any sopOps Q _ 16 (Array.replicate 16 false) a w.drew
  have hz : ∀ wx, Calls Try.prog 20 #[.agg #[.int .i64 0, .int .i64 0]] wx fun e w' => e = .returned (.bool true) ∧ Gr wx w' := fun wx => by have := point_any 0 0 wx; rwa [point_zero] at this
  refine me_tk (i := 0) (oi := sop0) (v := .agg #[.int .i64 t, .int .i64 n]) (d := 47) hQ rfl rfl (by kernel_rfl) (by kernel_rfl) (by kernel_rfl) (Or.inl ⟨me_none _ rfl, fun wx hS => mr_loadP _ _ _ _ _ _ _ _ B t n (by simp [me_ne, me_eq, me_size, me_const, hsz, h0, h5, h15]) hS⟩) hHeld ?_
  refine me_tk (i := 2) (oi := sop2) (v := .agg #[.int .i64 t, .int .i64 n]) (d := 49) hQ rfl rfl (by kernel_rfl) (by kernel_rfl) (by kernel_rfl) (Or.inl ⟨me_none _ rfl, fun wx hS => mr_loadP _ _ _ _ _ _ _ _ B t n (by simp [me_ne, me_eq, me_size, me_const, hsz, h0, h5, h15]) hS⟩) hHeld ?_
  refine me_call (i := 1) (oi := sop1) (v := .bool (pointB t n)) (d := 48) (R := Gr _) (by kernel_rfl) rfl rfl (me_none _ rfl) (mr_enter _ _ _ _ _ _ _ 20 _ _ _ (by simp [me_ne, me_eq, me_size, me_const, hsz, h0, h5, h15]) rfl (run_enter Try.func20 (by kernel_rfl) (by kernel_rfl) _ _)) (point_any t n _) (fun w1 g1 => ?_)
  replace hHeld := (Below.block g1 _ (Blk_lt hHeld)).trans hHeld
  refine ⟨hHeld, ?_⟩
  refine me_call (i := 3) (oi := sop3) (v := .bool (pointB t n)) (d := 50) (R := Gr _) (by kernel_rfl) rfl rfl (me_none _ rfl) (mr_enter _ _ _ _ _ _ _ 21 _ _ _ (by simp [me_ne, me_eq, me_size, me_const, hsz, h0, h5, h15]) rfl (run_enter Try.func21 (by kernel_rfl) (by kernel_rfl) _ _)) (rpoint_any t n _) (fun w2 g2 => ?_)
  replace hHeld := (Below.block g2 _ (Blk_lt hHeld)).trans hHeld
  refine ⟨hHeld, ?_⟩
  refine me_tk (i := 4) (oi := sop4) (v := .bool false) (d := 51) hQ rfl rfl (by kernel_rfl) (by kernel_rfl) (by kernel_rfl) (Or.inl ⟨me_none _ rfl, fun wx hS => mr_neqb _ _ _ _ _ _ _ _ _ (pointB t n) (by simp [me_ne, me_eq, me_size, me_const, hsz, h0, h5, h15]) (by simp [me_ne, me_eq, me_size, me_const, hsz, h0, h5, h15])⟩) hHeld ?_
  refine me_tk (i := 5) (oi := sop5) (v := .bool false) (d := 52) hQ rfl rfl (by kernel_rfl) (by kernel_rfl) (by kernel_rfl) (Or.inl ⟨me_none _ rfl, fun wx hS => mr_move _ _ _ _ _ _ _ _ _ (by simp [me_ne, me_eq, me_size, me_const, hsz, h0, h5, h15])⟩) hHeld ?_
  refine me_tk (i := 6) (oi := sop6) (v := v) (d := 53) hQ rfl rfl (by kernel_rfl) (by kernel_rfl) (by kernel_rfl) (Or.inl ⟨(me_some _ 5 false false rfl (me_yld _ 5 52 false rfl (by simp [me_ne, me_eq, me_size, me_const, hsz, h0, h5, h15]))).trans rfl, fun wx hS => mr_move _ _ _ _ _ _ _ _ _ (by simp [me_ne, me_eq, me_size, me_const, hsz, h0, h5, h15])⟩) hHeld ?_
  refine me_tk (i := 8) (oi := sop8) (v := .int .i64 c) (d := 55) hQ rfl rfl (by kernel_rfl) (by kernel_rfl) (by kernel_rfl) (Or.inl ⟨(me_some _ 5 false false rfl (me_yld _ 5 52 false rfl (by simp [me_ne, me_eq, me_size, me_const, hsz, h0, h5, h15]))).trans rfl, fun wx hS => mr_move _ _ _ _ _ _ _ _ _ (by simp [me_ne, me_eq, me_size, me_const, hsz, h0, h5, h15])⟩) hHeld ?_
  refine me_call (i := 7) (oi := sop7) (v := .int .i64 c) (d := 54) (R := Gr _) (by kernel_rfl) rfl rfl ((me_some _ 5 false false rfl (me_yld _ 5 52 false rfl (by simp [me_ne, me_eq, me_size, me_const, hsz, h0, h5, h15]))).trans rfl) (mr_enter _ _ _ _ _ _ _ 22 _ _ _ (by simp [me_ne, me_eq, me_size, me_const, hsz, h0, h5, h15]) rfl (run_enter Try.func22 (by kernel_rfl) (by kernel_rfl) _ _)) (hck _ ((((Gr.refl w).drew).trans g1).trans g2)) (fun w3 g3 => ?_)
  replace hHeld := (Below.block g3 _ (Blk_lt hHeld)).trans hHeld
  refine ⟨hHeld, ?_⟩
  refine me_tk (i := 9) (oi := sop9) (v := .bool false) (d := 56) hQ rfl rfl (by kernel_rfl) (by kernel_rfl) (by kernel_rfl) (Or.inl ⟨(me_some _ 5 false false rfl (me_yld _ 5 52 false rfl (by simp [me_ne, me_eq, me_size, me_const, hsz, h0, h5, h15]))).trans rfl, fun wx hS => mr_neqe _ _ _ _ _ _ _ _ _ c (by simp [me_ne, me_eq, me_size, me_const, hsz, h0, h5, h15]) (by simp [me_ne, me_eq, me_size, me_const, hsz, h0, h5, h15])⟩) hHeld ?_
  refine me_tk (i := 10) (oi := sop10) (v := .bool false) (d := 57) hQ rfl rfl (by kernel_rfl) (by kernel_rfl) (by kernel_rfl) (Or.inl ⟨me_none _ rfl, fun wx hS => mr_pick _ _ _ _ _ _ _ _ _ _ false _ (by simp [me_ne, me_eq, me_size, me_const, hsz, h0, h5, h15]) (by simp [me_ne, me_eq, me_size, me_const, hsz, h0, h5, h15])⟩) hHeld ?_
  refine me_tk (i := 11) (oi := sop11) (v := .bool false) (d := 58) hQ rfl rfl (by kernel_rfl) (by kernel_rfl) (by kernel_rfl) (Or.inl ⟨me_none _ rfl, fun wx hS => mr_move _ _ _ _ _ _ _ _ _ (by simp [me_ne, me_eq, me_size, me_const, hsz, h0, h5, h15])⟩) hHeld ?_
  refine me_tk (i := 12) (oi := sop12) (v := .agg #[.int .i64 0, .int .i64 0]) (d := 59) hQ rfl rfl (by kernel_rfl) (by kernel_rfl) (by kernel_rfl) (Or.inl ⟨(me_some _ 11 false false rfl (me_yld _ 11 58 false rfl (by simp [me_ne, me_eq, me_size, me_const, hsz, h0, h5, h15]))).trans rfl, fun wx hS => mr_build _ _ _ _ _ _ _⟩) hHeld ?_
  refine me_call (i := 13) (oi := sop13) (v := .bool true) (d := 60) (R := Gr _) (by kernel_rfl) rfl rfl ((me_some _ 11 false false rfl (me_yld _ 11 58 false rfl (by simp [me_ne, me_eq, me_size, me_const, hsz, h0, h5, h15]))).trans rfl) (mr_enter _ _ _ _ _ _ _ 20 _ _ _ (by simp [me_ne, me_eq, me_size, me_const, hsz, h0, h5, h15]) rfl (run_enter Try.func20 (by kernel_rfl) (by kernel_rfl) _ _)) (hz _) (fun w4 g4 => ?_)
  replace hHeld := (Below.block g4 _ (Blk_lt hHeld)).trans hHeld
  refine ⟨hHeld, ?_⟩
  refine me_tk (i := 14) (oi := sop14) (v := .bool false) (d := 61) hQ rfl rfl (by kernel_rfl) (by kernel_rfl) (by kernel_rfl) (Or.inl ⟨(me_some _ 11 false false rfl (me_yld _ 11 58 false rfl (by simp [me_ne, me_eq, me_size, me_const, hsz, h0, h5, h15]))).trans rfl, fun wx hS => mr_not _ _ _ _ _ _ _ _ true (by simp [me_ne, me_eq, me_size, me_const, hsz, h0, h5, h15])⟩) hHeld ?_
  refine me_tk (i := 15) (oi := sop15) (v := .bool false) (d := 62) hQ rfl rfl (by kernel_rfl) (by kernel_rfl) (by kernel_rfl) (Or.inl ⟨me_none _ rfl, fun wx hS => mr_pick _ _ _ _ _ _ _ _ _ _ false _ (by simp [me_ne, me_eq, me_size, me_const, hsz, h0, h5, h15]) (by simp [me_ne, me_eq, me_size, me_const, hsz, h0, h5, h15])⟩) hHeld ?_
  exact wpAnyH_done (by kernel_rfl) (h _ ((((((Gr.refl w).drew).trans g1).trans g2).trans g3).trans g4)) _
def top0 : Oper := Oper.mk (some 165) (Op.move (Operand.tmp 10)) 25 "low.go:191" #[] none
def top1 : Oper := Oper.mk (some 166) (Op.binOp BinOp.eql 25 (Operand.tmp 165) (Operand.const (Value.int IntKind.i64 0)) 25) 4 "low.go:191" #[Edge.mk 0 Ground.data] none
def top2 : Oper := Oper.mk (some 167) (Op.move (Operand.tmp 166)) 4 "low.go:191" #[Edge.mk 1 Ground.data] none
def top3 : Oper := Oper.mk (some 168) (Op.move (Operand.tmp 12)) 25 "low.go:191" #[Edge.mk 2 Ground.guard] (some (2, true))
def top4 : Oper := Oper.mk (some 169) (Op.binOp BinOp.eql 25 (Operand.tmp 168) (Operand.const (Value.int IntKind.i64 0)) 25) 4 "low.go:191" #[Edge.mk 3 Ground.data, Edge.mk 2 Ground.guard] (some (2, true))
def top5 : Oper := Oper.mk (some 170) (Op.pick (Operand.tmp 167) (Operand.tmp 169) (Operand.const (Value.bool false))) 4 "low.go:191" #[Edge.mk 2 Ground.data, Edge.mk 4 Ground.data] none
def top6 : Oper := Oper.mk (some 171) (Op.move (Operand.tmp 170)) 4 "low.go:191" #[Edge.mk 5 Ground.data, Edge.mk 2 Ground.chain] none
def top7 : Oper := Oper.mk (some 172) (Op.move (Operand.tmp 11)) 4 "low.go:191" #[Edge.mk 6 Ground.guard] (some (6, true))
def top8 : Oper := Oper.mk (some 173) (Op.load 36 (Operand.tmp 18)) 36 "low.go:191" #[Edge.mk 6 Ground.guard] (some (6, true))
def top9 : Oper := Oper.mk (some 174) (Op.load 36 (Operand.tmp 19)) 36 "low.go:191" #[Edge.mk 6 Ground.guard] (some (6, true))
def top10 : Oper := Oper.mk (some 175) (Op.binOp BinOp.eql 36 (Operand.tmp 173) (Operand.tmp 174) 36) 4 "low.go:191" #[Edge.mk 8 Ground.data, Edge.mk 9 Ground.data, Edge.mk 6 Ground.guard] (some (6, true))
def top11 : Oper := Oper.mk (some 176) (Op.binOp BinOp.eql 4 (Operand.tmp 172) (Operand.tmp 175) 4) 4 "low.go:191" #[Edge.mk 7 Ground.data, Edge.mk 10 Ground.data, Edge.mk 6 Ground.guard] (some (6, true))
def top12 : Oper := Oper.mk (some 177) (Op.pick (Operand.tmp 171) (Operand.tmp 176) (Operand.const (Value.bool false))) 4 "low.go:191" #[Edge.mk 6 Ground.data, Edge.mk 11 Ground.data] none
def top13 : Oper := Oper.mk (some 178) (Op.move (Operand.tmp 177)) 4 "low.go:191" #[Edge.mk 12 Ground.data, Edge.mk 6 Ground.chain] none
def top14 : Oper := Oper.mk (some 179) (Op.move (Operand.tmp 9)) 4 "low.go:191" #[Edge.mk 13 Ground.guard] (some (13, true))
def top15 : Oper := Oper.mk (some 180) (Op.load 36 (Operand.tmp 18)) 36 "low.go:191" #[Edge.mk 13 Ground.guard] (some (13, true))
def top16 : Oper := Oper.mk (some 181) (Op.load 36 (Operand.tmp 19)) 36 "low.go:191" #[Edge.mk 13 Ground.guard] (some (13, true))
def top17 : Oper := Oper.mk (some 182) (Op.call (Call.mk (Callee.value (Operand.func 27)) #[Operand.tmp 180, Operand.tmp 181, Operand.func 28] #[36, 36, 40])) 36 "low.go:191" #[Edge.mk 15 Ground.data, Edge.mk 16 Ground.data, Edge.mk 13 Ground.chain, Edge.mk 13 Ground.guard] (some (13, true))
def top18 : Oper := Oper.mk (some 183) (Op.load 36 (Operand.tmp 19)) 36 "low.go:191" #[Edge.mk 13 Ground.guard] (some (13, true))
def top19 : Oper := Oper.mk (some 184) (Op.binOp BinOp.eql 36 (Operand.tmp 182) (Operand.tmp 183) 36) 4 "low.go:191" #[Edge.mk 17 Ground.data, Edge.mk 18 Ground.data, Edge.mk 13 Ground.guard] (some (13, true))
def top20 : Oper := Oper.mk (some 185) (Op.binOp BinOp.eql 4 (Operand.tmp 179) (Operand.tmp 184) 4) 4 "low.go:191" #[Edge.mk 14 Ground.data, Edge.mk 19 Ground.data, Edge.mk 13 Ground.guard] (some (13, true))
def top21 : Oper := Oper.mk (some 186) (Op.pick (Operand.tmp 178) (Operand.tmp 185) (Operand.const (Value.bool false))) 4 "low.go:191" #[Edge.mk 13 Ground.data, Edge.mk 20 Ground.data] none
def top22 : Oper := Oper.mk (some 6) (Op.assign (Operand.tmp 186)) 4 "low.go:191" #[Edge.mk 21 Ground.data, Edge.mk 17 Ground.chain, Edge.mk 0 Ground.phase, Edge.mk 1 Ground.phase, Edge.mk 2 Ground.phase, Edge.mk 3 Ground.phase, Edge.mk 4 Ground.phase, Edge.mk 5 Ground.phase, Edge.mk 6 Ground.phase, Edge.mk 7 Ground.phase, Edge.mk 8 Ground.phase, Edge.mk 9 Ground.phase, Edge.mk 10 Ground.phase, Edge.mk 11 Ground.phase, Edge.mk 12 Ground.phase, Edge.mk 13 Ground.phase, Edge.mk 14 Ground.phase, Edge.mk 15 Ground.phase, Edge.mk 16 Ground.phase, Edge.mk 17 Ground.phase, Edge.mk 18 Ground.phase, Edge.mk 19 Ground.phase, Edge.mk 20 Ground.phase, Edge.mk 21 Ground.phase] none
def topOps : Array Oper := #[top0, top1, top2, top3, top4, top5, top6, top7, top8, top9, top10, top11, top12, top13, top14, top15, top16, top17, top18, top19, top20, top21, top22]

set_option maxHeartbeats 4000000 in
set_option maxRecDepth 100000 in
theorem says_reg26 (Q : Exit → Act → World → Prop) (hQ : ∀ c a d v w, Q (.panic c) (Act.put a (some d) v) w → Q (.panic c) a w) (a : Act) (w : World) (B C : Nat) (f u : Nat → Bool) (hsz : a.tmps.size = 187)
    (h9 : a.eval (.tmp 9) = .bool (eqP (fun i => f i || u i) u)) (h10 : a.eval (.tmp 10) = .int .i64 0) (h11 : a.eval (.tmp 11) = .bool (eqP f u)) (h12 : a.eval (.tmp 12) = .int .i64 0) (h18 : a.eval (.tmp 18) = .pointer (some ⟨B, 0, none⟩)) (h19 : a.eval (.tmp 19) = .pointer (some ⟨C, 0, none⟩)) (hB : w.heap[B]? = some (.cells (pArr f) 36 (0, 0))) (hC : w.heap[C]? = some (.cells (pArr u) 36 (0, 0)))
    (h : ∀ w', Gr w w' → Q .normal (Act.put (Act.put (Act.put (Act.put (Act.put (Act.put (Act.put (Act.put (Act.put (Act.put (Act.put (Act.put (Act.put (Act.put (Act.put (Act.put (Act.put (Act.put (Act.put (Act.put (Act.put (Act.put (Act.put a (some 165) (.int .i64 0)) (some 166) (.bool true)) (some 167) (.bool true)) (some 168) (.int .i64 0)) (some 169) (.bool true)) (some 170) (.bool true)) (some 171) (.bool true)) (some 172) (.bool (eqP f u))) (some 173) (.agg (pArr f))) (some 174) (.agg (pArr u))) (some 175) (.bool (eqP f u))) (some 176) (.bool true)) (some 177) (.bool true)) (some 178) (.bool true)) (some 179) (.bool (eqP (fun i => f i || u i) u))) (some 180) (.agg (pArr f))) (some 181) (.agg (pArr u))) (some 183) (.agg (pArr u))) (some 182) (.agg (pArr fun i => f i || u i))) (some 184) (.bool (eqP (fun i => f i || u i) u))) (some 185) (.bool true)) (some 186) (.bool true)) (some 6) (.bool true)) w') : (Code.region 26 topOps true).wp Try.prog Q a w := by
  refine wp_region_held_drew (S := fun x => x.heap[B]? = some (.cells (pArr f) 36 (0, 0)) ∧ x.heap[C]? = some (.cells (pArr u) 36 (0, 0))) (by kernel_rfl) ⟨hB, hC⟩ (fun hHeld => ?_)
  show wpAnyH Try.prog .any topOps Q _ 23 (Array.replicate 23 false) a w.drew
  refine me_tk (i := 0) (oi := top0) (v := .int .i64 0) (d := 165) hQ rfl rfl (by kernel_rfl) (by kernel_rfl) (by kernel_rfl) (Or.inl ⟨me_none _ rfl, fun wx hS => mr_move _ _ _ _ _ _ _ _ _ (by simp [me_ne, me_eq, me_size, me_const, hsz, h9, h10, h11, h12, h18, h19])⟩) hHeld ?_
  refine me_tk (i := 1) (oi := top1) (v := .bool true) (d := 166) hQ rfl rfl (by kernel_rfl) (by kernel_rfl) (by kernel_rfl) (Or.inl ⟨me_none _ rfl, fun wx hS => mr_zero _ _ _ _ _ _ _ _ (by simp [me_ne, me_eq, me_size, me_const, hsz, h9, h10, h11, h12, h18, h19]) rfl⟩) hHeld ?_
  refine me_tk (i := 2) (oi := top2) (v := .bool true) (d := 167) hQ rfl rfl (by kernel_rfl) (by kernel_rfl) (by kernel_rfl) (Or.inl ⟨me_none _ rfl, fun wx hS => mr_move _ _ _ _ _ _ _ _ _ (by simp [me_ne, me_eq, me_size, me_const, hsz, h9, h10, h11, h12, h18, h19])⟩) hHeld ?_
  refine me_tk (i := 3) (oi := top3) (v := .int .i64 0) (d := 168) hQ rfl rfl (by kernel_rfl) (by kernel_rfl) (by kernel_rfl) (Or.inl ⟨(me_some _ 2 true true rfl (me_yld _ 2 167 true rfl (by simp [me_ne, me_eq, me_size, me_const, hsz, h9, h10, h11, h12, h18, h19]))).trans rfl, fun wx hS => mr_move _ _ _ _ _ _ _ _ _ (by simp [me_ne, me_eq, me_size, me_const, hsz, h9, h10, h11, h12, h18, h19])⟩) hHeld ?_
  refine me_tk (i := 4) (oi := top4) (v := .bool true) (d := 169) hQ rfl rfl (by kernel_rfl) (by kernel_rfl) (by kernel_rfl) (Or.inl ⟨(me_some _ 2 true true rfl (me_yld _ 2 167 true rfl (by simp [me_ne, me_eq, me_size, me_const, hsz, h9, h10, h11, h12, h18, h19]))).trans rfl, fun wx hS => mr_zero _ _ _ _ _ _ _ _ (by simp [me_ne, me_eq, me_size, me_const, hsz, h9, h10, h11, h12, h18, h19]) rfl⟩) hHeld ?_
  refine me_tk (i := 5) (oi := top5) (v := .bool true) (d := 170) hQ rfl rfl (by kernel_rfl) (by kernel_rfl) (by kernel_rfl) (Or.inl ⟨me_none _ rfl, fun wx hS => mr_pick _ _ _ _ _ _ _ _ _ _ true _ (by simp [me_ne, me_eq, me_size, me_const, hsz, h9, h10, h11, h12, h18, h19]) (by simp [me_ne, me_eq, me_size, me_const, hsz, h9, h10, h11, h12, h18, h19])⟩) hHeld ?_
  refine me_tk (i := 6) (oi := top6) (v := .bool true) (d := 171) hQ rfl rfl (by kernel_rfl) (by kernel_rfl) (by kernel_rfl) (Or.inl ⟨me_none _ rfl, fun wx hS => mr_move _ _ _ _ _ _ _ _ _ (by simp [me_ne, me_eq, me_size, me_const, hsz, h9, h10, h11, h12, h18, h19])⟩) hHeld ?_
  refine me_tk (i := 7) (oi := top7) (v := .bool (eqP f u)) (d := 172) hQ rfl rfl (by kernel_rfl) (by kernel_rfl) (by kernel_rfl) (Or.inl ⟨(me_some _ 6 true true rfl (me_yld _ 6 171 true rfl (by simp [me_ne, me_eq, me_size, me_const, hsz, h9, h10, h11, h12, h18, h19]))).trans rfl, fun wx hS => mr_move _ _ _ _ _ _ _ _ _ (by simp [me_ne, me_eq, me_size, me_const, hsz, h9, h10, h11, h12, h18, h19])⟩) hHeld ?_
  refine me_tk (i := 8) (oi := top8) (v := .agg (pArr f)) (d := 173) hQ rfl rfl (by kernel_rfl) (by kernel_rfl) (by kernel_rfl) (Or.inl ⟨(me_some _ 6 true true rfl (me_yld _ 6 171 true rfl (by simp [me_ne, me_eq, me_size, me_const, hsz, h9, h10, h11, h12, h18, h19]))).trans rfl, fun wx hS => mr_load _ _ _ _ _ _ _ _ B f (by simp [me_ne, me_eq, me_size, me_const, hsz, h9, h10, h11, h12, h18, h19]) hS.1⟩) hHeld ?_
  refine me_tk (i := 9) (oi := top9) (v := .agg (pArr u)) (d := 174) hQ rfl rfl (by kernel_rfl) (by kernel_rfl) (by kernel_rfl) (Or.inl ⟨(me_some _ 6 true true rfl (me_yld _ 6 171 true rfl (by simp [me_ne, me_eq, me_size, me_const, hsz, h9, h10, h11, h12, h18, h19]))).trans rfl, fun wx hS => mr_load _ _ _ _ _ _ _ _ C u (by simp [me_ne, me_eq, me_size, me_const, hsz, h9, h10, h11, h12, h18, h19]) hS.2⟩) hHeld ?_
  refine me_tk (i := 10) (oi := top10) (v := .bool (eqP f u)) (d := 175) hQ rfl rfl (by kernel_rfl) (by kernel_rfl) (by kernel_rfl) (Or.inl ⟨(me_some _ 6 true true rfl (me_yld _ 6 171 true rfl (by simp [me_ne, me_eq, me_size, me_const, hsz, h9, h10, h11, h12, h18, h19]))).trans rfl, fun wx hS => mr_same _ _ _ _ _ _ _ _ _ f u (by simp [me_ne, me_eq, me_size, me_const, hsz, h9, h10, h11, h12, h18, h19]) (by simp [me_ne, me_eq, me_size, me_const, hsz, h9, h10, h11, h12, h18, h19])⟩) hHeld ?_
  refine me_tk (i := 11) (oi := top11) (v := .bool true) (d := 176) hQ rfl rfl (by kernel_rfl) (by kernel_rfl) (by kernel_rfl) (Or.inl ⟨(me_some _ 6 true true rfl (me_yld _ 6 171 true rfl (by simp [me_ne, me_eq, me_size, me_const, hsz, h9, h10, h11, h12, h18, h19]))).trans rfl, fun wx hS => mr_eqb _ _ _ _ _ _ _ _ _ (eqP f u) (by simp [me_ne, me_eq, me_size, me_const, hsz, h9, h10, h11, h12, h18, h19]) (by simp [me_ne, me_eq, me_size, me_const, hsz, h9, h10, h11, h12, h18, h19])⟩) hHeld ?_
  refine me_tk (i := 12) (oi := top12) (v := .bool true) (d := 177) hQ rfl rfl (by kernel_rfl) (by kernel_rfl) (by kernel_rfl) (Or.inl ⟨me_none _ rfl, fun wx hS => mr_pick _ _ _ _ _ _ _ _ _ _ true _ (by simp [me_ne, me_eq, me_size, me_const, hsz, h9, h10, h11, h12, h18, h19]) (by simp [me_ne, me_eq, me_size, me_const, hsz, h9, h10, h11, h12, h18, h19])⟩) hHeld ?_
  refine me_tk (i := 13) (oi := top13) (v := .bool true) (d := 178) hQ rfl rfl (by kernel_rfl) (by kernel_rfl) (by kernel_rfl) (Or.inl ⟨me_none _ rfl, fun wx hS => mr_move _ _ _ _ _ _ _ _ _ (by simp [me_ne, me_eq, me_size, me_const, hsz, h9, h10, h11, h12, h18, h19])⟩) hHeld ?_
  refine me_tk (i := 14) (oi := top14) (v := .bool (eqP (fun i => f i || u i) u)) (d := 179) hQ rfl rfl (by kernel_rfl) (by kernel_rfl) (by kernel_rfl) (Or.inl ⟨(me_some _ 13 true true rfl (me_yld _ 13 178 true rfl (by simp [me_ne, me_eq, me_size, me_const, hsz, h9, h10, h11, h12, h18, h19]))).trans rfl, fun wx hS => mr_move _ _ _ _ _ _ _ _ _ (by simp [me_ne, me_eq, me_size, me_const, hsz, h9, h10, h11, h12, h18, h19])⟩) hHeld ?_
  refine me_tk (i := 15) (oi := top15) (v := .agg (pArr f)) (d := 180) hQ rfl rfl (by kernel_rfl) (by kernel_rfl) (by kernel_rfl) (Or.inl ⟨(me_some _ 13 true true rfl (me_yld _ 13 178 true rfl (by simp [me_ne, me_eq, me_size, me_const, hsz, h9, h10, h11, h12, h18, h19]))).trans rfl, fun wx hS => mr_load _ _ _ _ _ _ _ _ B f (by simp [me_ne, me_eq, me_size, me_const, hsz, h9, h10, h11, h12, h18, h19]) hS.1⟩) hHeld ?_
  refine me_tk (i := 16) (oi := top16) (v := .agg (pArr u)) (d := 181) hQ rfl rfl (by kernel_rfl) (by kernel_rfl) (by kernel_rfl) (Or.inl ⟨(me_some _ 13 true true rfl (me_yld _ 13 178 true rfl (by simp [me_ne, me_eq, me_size, me_const, hsz, h9, h10, h11, h12, h18, h19]))).trans rfl, fun wx hS => mr_load _ _ _ _ _ _ _ _ C u (by simp [me_ne, me_eq, me_size, me_const, hsz, h9, h10, h11, h12, h18, h19]) hS.2⟩) hHeld ?_
  refine me_tk (i := 18) (oi := top18) (v := .agg (pArr u)) (d := 183) hQ rfl rfl (by kernel_rfl) (by kernel_rfl) (by kernel_rfl) (Or.inl ⟨(me_some _ 13 true true rfl (me_yld _ 13 178 true rfl (by simp [me_ne, me_eq, me_size, me_const, hsz, h9, h10, h11, h12, h18, h19]))).trans rfl, fun wx hS => mr_load _ _ _ _ _ _ _ _ C u (by simp [me_ne, me_eq, me_size, me_const, hsz, h9, h10, h11, h12, h18, h19]) hS.2⟩) hHeld ?_
  refine me_call (i := 17) (oi := top17) (v := .agg (pArr fun i => f i || u i)) (d := 182) (R := Gr _) (by kernel_rfl) rfl rfl ((me_some _ 13 true true rfl (me_yld _ 13 178 true rfl (by simp [me_ne, me_eq, me_size, me_const, hsz, h9, h10, h11, h12, h18, h19]))).trans rfl) (mr_enter3 _ _ _ _ _ _ _ 27 _ _ _ _ _ _ _ (by simp [me_ne, me_eq, me_size, me_const, hsz, h9, h10, h11, h12, h18, h19]) (by simp [me_ne, me_eq, me_size, me_const, hsz, h9, h10, h11, h12, h18, h19]) rfl rfl (run_enter Try.func27 (by kernel_rfl) (by kernel_rfl) _ _)) (each_orS' f u _) (fun w1 g1 => ?_)
  replace hHeld := And.intro ((Below.block g1 _ (Blk_lt hHeld.1)).trans hHeld.1) ((Below.block g1 _ (Blk_lt hHeld.2)).trans hHeld.2)
  refine ⟨hHeld, ?_⟩
  refine me_tk (i := 19) (oi := top19) (v := .bool (eqP (fun i => f i || u i) u)) (d := 184) hQ rfl rfl (by kernel_rfl) (by kernel_rfl) (by kernel_rfl) (Or.inl ⟨(me_some _ 13 true true rfl (me_yld _ 13 178 true rfl (by simp [me_ne, me_eq, me_size, me_const, hsz, h9, h10, h11, h12, h18, h19]))).trans rfl, fun wx hS => mr_same _ _ _ _ _ _ _ _ _ (fun i => f i || u i) u (by simp [me_ne, me_eq, me_size, me_const, hsz, h9, h10, h11, h12, h18, h19]) (by simp [me_ne, me_eq, me_size, me_const, hsz, h9, h10, h11, h12, h18, h19])⟩) hHeld ?_
  refine me_tk (i := 20) (oi := top20) (v := .bool true) (d := 185) hQ rfl rfl (by kernel_rfl) (by kernel_rfl) (by kernel_rfl) (Or.inl ⟨(me_some _ 13 true true rfl (me_yld _ 13 178 true rfl (by simp [me_ne, me_eq, me_size, me_const, hsz, h9, h10, h11, h12, h18, h19]))).trans rfl, fun wx hS => mr_eqb _ _ _ _ _ _ _ _ _ (eqP (fun i => f i || u i) u) (by simp [me_ne, me_eq, me_size, me_const, hsz, h9, h10, h11, h12, h18, h19]) (by simp [me_ne, me_eq, me_size, me_const, hsz, h9, h10, h11, h12, h18, h19])⟩) hHeld ?_
  refine me_tk (i := 21) (oi := top21) (v := .bool true) (d := 186) hQ rfl rfl (by kernel_rfl) (by kernel_rfl) (by kernel_rfl) (Or.inl ⟨me_none _ rfl, fun wx hS => mr_pick _ _ _ _ _ _ _ _ _ _ true _ (by simp [me_ne, me_eq, me_size, me_const, hsz, h9, h10, h11, h12, h18, h19]) (by simp [me_ne, me_eq, me_size, me_const, hsz, h9, h10, h11, h12, h18, h19])⟩) hHeld ?_
  refine me_tk (i := 22) (oi := top22) (v := .bool true) (d := 6) hQ rfl rfl (by kernel_rfl) (by kernel_rfl) (by kernel_rfl) (Or.inl ⟨me_none _ rfl, fun wx hS => mr_assign _ _ _ _ _ _ _ _ _ (by simp [me_ne, me_eq, me_size, me_const, hsz, h9, h10, h11, h12, h18, h19])⟩) hHeld ?_
  exact wpAnyH_done (by kernel_rfl) (h _ (((Gr.refl w).drew).trans g1)) _
end Go.Proofs.Ytphcjjhfgpdhcaa
