/- know.Join, Meet, Within: the counts of both, over any frame. -/
import Derived.Test.YtghjfakellaecaaKnJ
import Derived.Test.YtghjfakellaecaaKnF
import Derived.Test.YtghjfakellaecaaReg2
set_option linter.unusedVariables false
set_option linter.unusedSimpArgs false
namespace Go.Proofs.Ytghjfakellaecaa
open Go.RowKit Rm
/-- two sets of dots in their blocks -/
def KS2 (g0 g1 : Nat) (vv mv vv' mv' : Value) (x : World) : Prop := x.heap[g0]? = some (.cells #[vv, mv] 35 (0, 0)) ∧ x.heap[g1]? = some (.cells #[vv', mv'] 35 (0, 0))
theorem kc0 {x : World} {g : Nat} {a b : Value} {t : TypeId} {fr : Nat × Nat} (h : x.heap[g]? = some (.cells #[a, b] t fr)) : x.cell? ⟨g, 0, none⟩ = some a := by simp [World.cell?, h]
theorem kc1 {x : World} {g : Nat} {a b : Value} {t : TypeId} {fr : Nat × Nat} (h : x.heap[g]? = some (.cells #[a, b] t fr)) : x.cell? ⟨g, 1, none⟩ = some b := by simp [World.cell?, h]
def zC : Array Value := #[.int .i64 0, .int .i64 0, .int .i64 0, .int .i64 0, .int .i64 0]
theorem counts_zero : (Try.prog.info? 108).bind (·.zero) = some (.agg zC) := by kernel_rfl
def jn4_0 : Oper := Oper.mk (some 17) (Op.load 35 (Operand.tmp 2)) 35 "know.go:58" #[] none
def jn4_1 : Oper := Oper.mk (some 18) (Op.call (Call.mk (Callee.value (Operand.func 61)) #[Operand.tmp 17] #[35])) 108 "know.go:58" #[Edge.mk 0 Ground.data] none
def jn4_2 : Oper := Oper.mk (some 19) (Op.load 35 (Operand.tmp 3)) 35 "know.go:58" #[] none
def jn4_3 : Oper := Oper.mk (some 20) (Op.call (Call.mk (Callee.value (Operand.func 61)) #[Operand.tmp 19] #[35])) 108 "know.go:58" #[Edge.mk 2 Ground.data, Edge.mk 1 Ground.chain] none
def jn4_4 : Oper := Oper.mk (some 7) (Op.alloc 108) 0 "know.go:58" #[] none
def jn4_5 : Oper := Oper.mk (some 8) (Op.alloc 108) 0 "know.go:58" #[] none
def jn4_6 : Oper := Oper.mk none (Op.store 108 (Operand.tmp 7) (Operand.tmp 18)) 0 "know.go:58" #[Edge.mk 4 Ground.data, Edge.mk 1 Ground.data, Edge.mk 3 Ground.chain, Edge.mk 0 Ground.phase, Edge.mk 1 Ground.phase, Edge.mk 2 (Ground.textOnly Departure.lateStores), Edge.mk 3 (Ground.textOnly Departure.lateStoresUnsure), Edge.mk 4 Ground.phase, Edge.mk 5 Ground.phase] none
def jn4_7 : Oper := Oper.mk none (Op.store 108 (Operand.tmp 8) (Operand.tmp 20)) 0 "know.go:58" #[Edge.mk 5 Ground.data, Edge.mk 3 Ground.data, Edge.mk 6 Ground.chain, Edge.mk 0 Ground.phase, Edge.mk 1 Ground.phase, Edge.mk 2 Ground.phase, Edge.mk 3 Ground.phase, Edge.mk 4 Ground.phase, Edge.mk 5 Ground.phase, Edge.mk 6 Ground.phase] none
def jn4_Ops : Array Oper := #[jn4_0, jn4_1, jn4_2, jn4_3, jn4_4, jn4_5, jn4_6, jn4_7]
set_option maxHeartbeats 200000 in
set_option maxRecDepth 100000 in
theorem jn4_reg (Q : Exit → Act → World → Prop) (hQ : ∀ c a d v w, Q (.panic c) (Act.put a (some d) v) w → Q (.panic c) a w) (a : Act) (w : World) (g0 g1 : Nat) (vv mv vv' mv' : Value) (A A' : Array Value)
    (hsz : a.tmps.size = 44) (h2 : a.eval (.tmp 2) = .pointer (some ⟨g0, 0, none⟩)) (h3 : a.eval (.tmp 3) = .pointer (some ⟨g1, 0, none⟩))
    (hS0 : KS2 g0 g1 vv mv vv' mv' w) (hl0 : g0 < w.heap.size) (hl1 : g1 < w.heap.size)
    (hA5 : A.size = 5) (hA1 : A.all (·.oneCell') = true) (hB5 : A'.size = 5) (hB1 : A'.all (·.oneCell') = true)
    (HC : ∀ w', Gr w w' → Calls Try.prog 61 #[.agg #[vv, mv]] w' fun e w'' => e = .returned (.agg A) ∧ Gr w' w'')
    (HC' : ∀ w', Gr w w' → Calls Try.prog 61 #[.agg #[vv', mv']] w' fun e w'' => e = .returned (.agg A') ∧ Gr w' w'')
    (h : ∀ w' b7 b8, Gr w w' → w.heap.size ≤ b7 → w.heap.size ≤ b8 → b7 ≠ b8 → w'.heap[b7]? = some (.cells A 108 (0, 0)) → w'.heap[b8]? = some (.cells A' 108 (0, 0)) → Q .normal (Act.put (Act.put (Act.put (Act.put (Act.put (Act.put a (some 17) (.agg #[vv, mv])) (some 19) (.agg #[vv', mv'])) (some 18) (.agg A)) (some 20) (.agg A')) (some 7) (.pointer (some ⟨b7, 0, none⟩))) (some 8) (.pointer (some ⟨b8, 0, none⟩))) w') : (Code.region 4 jn4_Ops true).wp Try.prog Q a w := by
  have keep : ∀ x, Gr w x → KS2 g0 g1 vv mv vv' mv' x := fun x gx => ⟨(Below.block gx g0 hl0).trans hS0.1, (Below.block gx g1 hl1).trans hS0.2⟩
  have szA : (Try.prog.info? 108).map (·.size) = some A.size := by rw [hA5]; exact counts_size
  have szB : (Try.prog.info? 108).map (·.size) = some A'.size := by rw [hB5]; exact counts_size
  have fin : ∀ (W : World) (b7 b8 : Nat) (L : Array Bool), L = #[true, true, true, true, true, true, false, false] → Gr w W → w.heap.size ≤ b7 → w.heap.size ≤ b8 → b7 ≠ b8 → W.heap[b7]? = some (.cells zC 108 (0, 0)) → W.heap[b8]? = some (.cells zC 108 (0, 0)) →
      wpAnyH Try.prog .any jn4_Ops Q (KS2 g0 g1 vv mv vv' mv') 2 L (Act.put (Act.put (Act.put (Act.put (Act.put (Act.put a (some 17) (.agg #[vv, mv])) (some 19) (.agg #[vv', mv'])) (some 18) (.agg A)) (some 20) (.agg A')) (some 7) (.pointer (some ⟨b7, 0, none⟩))) (some 8) (.pointer (some ⟨b8, 0, none⟩))) W := by
    intro W b7 b8 L hL hg h7 h8 hne e7 e8
    subst hL
    have l7 := (Array.getElem?_eq_some_iff.1 e7).1
    have l8 := (Array.getElem?_eq_some_iff.1 e8).1
    refine st_one (i := 6) (oi := jn4_6) (by kernel_rfl) rfl rfl ?_
    have gA : Gr w (W.setRow b7 A) := below_setRow hg h7 A
    have e8' : (W.setRow b7 A).heap[b8]? = some (.cells zC 108 (0, 0)) := (setRow_other W b7 b8 A (Ne.symm hne)).trans e8
    have e7' : (W.setRow b7 A).heap[b7]? = some (.cells A 108 (0, 0)) := setRow_heap W b7 _ A _ _ e7
    refine st_row 108 (.tmp 7) (.tmp 18) rfl rfl b7 A (by simp [re_ne, re_eq, re_size, re_const, hsz, h2, h3]) (by simp [re_ne, re_eq, re_size, re_const, hsz, h2, h3]) 108 zC e7 szA (by rw [hA5]; rfl) hA1 (keep _ gA) ?_
    refine st_one (i := 7) (oi := jn4_7) (by kernel_rfl) rfl rfl ?_
    have gB : Gr w ((W.setRow b7 A).setRow b8 A') := below_setRow gA h8 A'
    have e7'' : ((W.setRow b7 A).setRow b8 A').heap[b7]? = some (.cells A 108 (0, 0)) := (setRow_other _ b8 b7 A' hne).trans e7'
    refine st_row 108 (.tmp 8) (.tmp 20) rfl rfl b8 A' (by simp [re_ne, re_eq, re_size, re_const, hsz, h2, h3]) (by simp [re_ne, re_eq, re_size, re_const, hsz, h2, h3]) 108 zC e8' szB (by rw [hB5]; rfl) hB1 (keep _ gB) ?_
    exact wpAnyH_done (by kernel_rfl) (h _ b7 b8 gB h7 h8 hne e7'' (setRow_heap _ b8 _ A' _ _ e8')) _
  refine wp_region_held_drew (S := KS2 g0 g1 vv mv vv' mv') (by kernel_rfl) hS0 (fun hHeld => ?_)
  show wpAnyH Try.prog .any jn4_Ops Q _ 8 (Array.replicate 8 false) a w.drew
  refine re_tk (i := 0) (oi := jn4_0) (v := .agg #[vv, mv]) (d := 17) hQ rfl rfl (by kernel_rfl) (by kernel_rfl) (by kernel_rfl) (Or.inl ⟨re_none _ rfl, fun wx hS => rr_lK _ _ _ _ _ _ _ _ g0 vv mv (by simp [re_ne, re_eq, re_size, re_const, hsz, h2, h3]) (kc0 hS.1) (kc1 hS.1)⟩) hHeld ?_
  refine re_tk (i := 2) (oi := jn4_2) (v := .agg #[vv', mv']) (d := 19) hQ rfl rfl (by kernel_rfl) (by kernel_rfl) (by kernel_rfl) (Or.inl ⟨re_none _ rfl, fun wx hS => rr_lK _ _ _ _ _ _ _ _ g1 vv' mv' (by simp [re_ne, re_eq, re_size, re_const, hsz, h2, h3]) (kc0 hS.2) (kc1 hS.2)⟩) hHeld ?_
  have G0 : Gr w w.drew := (Gr.refl w).drew
  refine st_tri (i := 1) (j := 4) (k := 5) (oi := jn4_1) (oj := jn4_4) (ok := jn4_5) (by kernel_rfl) rfl rfl rfl rfl rfl rfl ?_ ?_ ?_
  · refine st_call (d := 18) rfl (rr_enter1 _ _ _ _ _ _ _ 61 _ (.agg #[vv, mv]) _ (by simp [re_ne, re_eq, re_size, re_const, hsz, h2, h3]) rfl (rr_enter_of Try.func61 (by kernel_rfl) (by kernel_rfl) _ _)) (HC w.drew G0) ?_
    rintro e w1 ⟨rfl, g1x⟩
    have G1 := Gr.trans G0 g1x
    have s1 : w.drew.heap.size ≤ w1.heap.size := g1x.le
    refine ⟨_, rfl, keep _ G1, ?_⟩
    refine st_tri (i := 3) (j := 4) (k := 5) (oi := jn4_3) (oj := jn4_4) (ok := jn4_5) (by kernel_rfl) rfl rfl rfl rfl rfl rfl ?_ ?_ ?_
    · refine st_call (d := 20) rfl (rr_enter1 _ _ _ _ _ _ _ 61 _ (.agg #[vv', mv']) _ (by simp [re_ne, re_eq, re_size, re_const, hsz, h2, h3]) rfl (rr_enter_of Try.func61 (by kernel_rfl) (by kernel_rfl) _ _)) (HC' w1 G1) ?_
      rintro e w2 ⟨rfl, g2x⟩
      have G2 := Gr.trans G1 g2x
      have s2 : w1.heap.size ≤ w2.heap.size := g2x.le
      refine ⟨_, rfl, keep _ G2, ?_⟩
      refine st_pair (i := 4) (j := 5) (oi := jn4_4) (oj := jn4_5) (by kernel_rfl) rfl rfl rfl rfl ?_ ?_
      · have G3 := Gr.alloc G2 (.cells zC 108)
        have f3_4 := al_new w2 (.cells zC 108) _ rfl
        have t3 : w.heap.size ≤ w2.heap.size := G2.le
        have u3 : w2.heap.size = w2.heap.size := rfl
        refine st_val (d := 7) rfl (rr_alloc _ _ _ _ _ _ _ counts_zero) (keep _ G3) ?_
        refine st_one (i := 5) (oi := jn4_5) (by kernel_rfl) rfl rfl ?_
        have G4 := Gr.alloc G3 (.cells zC 108)
        have f4_4 := (Below.heap_alloc (w2.alloc (.cells zC 108)) (.cells zC 108) _ (Array.getElem?_eq_some_iff.1 f3_4).1).trans f3_4
        have f4_5 := al_new (w2.alloc (.cells zC 108)) (.cells zC 108) _ rfl
        have t4 : w.heap.size ≤ (w2.alloc (.cells zC 108)).heap.size := G3.le
        have u4 : (w2.alloc (.cells zC 108)).heap.size = (w2.alloc (.cells zC 108)).heap.size := rfl
        have v4_4 : w2.heap.size < (w2.alloc (.cells zC 108)).heap.size := (Array.getElem?_eq_some_iff.1 f3_4).1
        refine st_val (d := 8) rfl (rr_alloc _ _ _ _ _ _ _ counts_zero) (keep _ G4) ?_
        exact fin ((w2.alloc (.cells zC 108)).alloc (.cells zC 108)) w2.heap.size (w2.alloc (.cells zC 108)).heap.size _ rfl G4 t3 t4 (by have := u3; have := u4; omega) f4_4 f4_5
      · have G5 := Gr.alloc G2 (.cells zC 108)
        have f5_5 := al_new w2 (.cells zC 108) _ rfl
        have t5 : w.heap.size ≤ w2.heap.size := G2.le
        have u5 : w2.heap.size = w2.heap.size := rfl
        refine st_val (d := 8) rfl (rr_alloc _ _ _ _ _ _ _ counts_zero) (keep _ G5) ?_
        refine st_one (i := 4) (oi := jn4_4) (by kernel_rfl) rfl rfl ?_
        have G6 := Gr.alloc G5 (.cells zC 108)
        have f6_5 := (Below.heap_alloc (w2.alloc (.cells zC 108)) (.cells zC 108) _ (Array.getElem?_eq_some_iff.1 f5_5).1).trans f5_5
        have f6_4 := al_new (w2.alloc (.cells zC 108)) (.cells zC 108) _ rfl
        have t6 : w.heap.size ≤ (w2.alloc (.cells zC 108)).heap.size := G5.le
        have u6 : (w2.alloc (.cells zC 108)).heap.size = (w2.alloc (.cells zC 108)).heap.size := rfl
        have v6_5 : w2.heap.size < (w2.alloc (.cells zC 108)).heap.size := (Array.getElem?_eq_some_iff.1 f5_5).1
        refine st_val (d := 7) rfl (rr_alloc _ _ _ _ _ _ _ counts_zero) (keep _ G6) ?_
        rw [re_comm _ 8 7 _ _ (by decide)]
        exact fin ((w2.alloc (.cells zC 108)).alloc (.cells zC 108)) (w2.alloc (.cells zC 108)).heap.size w2.heap.size _ rfl G6 t6 t5 (by have := u6; have := u5; omega) f6_4 f6_5
    · have G7 := Gr.alloc G1 (.cells zC 108)
      have f7_4 := al_new w1 (.cells zC 108) _ rfl
      have t7 : w.heap.size ≤ w1.heap.size := G1.le
      have u7 : w1.heap.size = w1.heap.size := rfl
      refine st_val (d := 7) rfl (rr_alloc _ _ _ _ _ _ _ counts_zero) (keep _ G7) ?_
      refine st_pair (i := 3) (j := 5) (oi := jn4_3) (oj := jn4_5) (by kernel_rfl) rfl rfl rfl rfl ?_ ?_
      · refine st_call (d := 20) rfl (rr_enter1 _ _ _ _ _ _ _ 61 _ (.agg #[vv', mv']) _ (by simp [re_ne, re_eq, re_size, re_const, hsz, h2, h3]) rfl (rr_enter_of Try.func61 (by kernel_rfl) (by kernel_rfl) _ _)) (HC' (w1.alloc (.cells zC 108)) G7) ?_
        rintro e w8 ⟨rfl, g8x⟩
        have G8 := Gr.trans G7 g8x
        have f8_4 := (Below.block g8x _ (Array.getElem?_eq_some_iff.1 f7_4).1).trans f7_4
        have s8 : (w1.alloc (.cells zC 108)).heap.size ≤ w8.heap.size := g8x.le
        refine ⟨_, rfl, keep _ G8, ?_⟩
        refine st_one (i := 5) (oi := jn4_5) (by kernel_rfl) rfl rfl ?_
        have G9 := Gr.alloc G8 (.cells zC 108)
        have f9_4 := (Below.heap_alloc w8 (.cells zC 108) _ (Array.getElem?_eq_some_iff.1 f8_4).1).trans f8_4
        have f9_5 := al_new w8 (.cells zC 108) _ rfl
        have t9 : w.heap.size ≤ w8.heap.size := G8.le
        have u9 : w8.heap.size = w8.heap.size := rfl
        have v9_4 : w1.heap.size < w8.heap.size := (Array.getElem?_eq_some_iff.1 f8_4).1
        refine st_val (d := 8) rfl (rr_alloc _ _ _ _ _ _ _ counts_zero) (keep _ G9) ?_
        rw [re_comm _ 7 20 _ _ (by decide)]
        exact fin (w8.alloc (.cells zC 108)) w1.heap.size w8.heap.size _ rfl G9 t7 t9 (by have := u7; have := u9; omega) f9_4 f9_5
      · have G10 := Gr.alloc G7 (.cells zC 108)
        have f10_4 := (Below.heap_alloc (w1.alloc (.cells zC 108)) (.cells zC 108) _ (Array.getElem?_eq_some_iff.1 f7_4).1).trans f7_4
        have f10_5 := al_new (w1.alloc (.cells zC 108)) (.cells zC 108) _ rfl
        have t10 : w.heap.size ≤ (w1.alloc (.cells zC 108)).heap.size := G7.le
        have u10 : (w1.alloc (.cells zC 108)).heap.size = (w1.alloc (.cells zC 108)).heap.size := rfl
        have v10_4 : w1.heap.size < (w1.alloc (.cells zC 108)).heap.size := (Array.getElem?_eq_some_iff.1 f7_4).1
        refine st_val (d := 8) rfl (rr_alloc _ _ _ _ _ _ _ counts_zero) (keep _ G10) ?_
        refine st_one (i := 3) (oi := jn4_3) (by kernel_rfl) rfl rfl ?_
        refine st_call (d := 20) rfl (rr_enter1 _ _ _ _ _ _ _ 61 _ (.agg #[vv', mv']) _ (by simp [re_ne, re_eq, re_size, re_const, hsz, h2, h3]) rfl (rr_enter_of Try.func61 (by kernel_rfl) (by kernel_rfl) _ _)) (HC' ((w1.alloc (.cells zC 108)).alloc (.cells zC 108)) G10) ?_
        rintro e w11 ⟨rfl, g11x⟩
        have G11 := Gr.trans G10 g11x
        have f11_4 := (Below.block g11x _ (Array.getElem?_eq_some_iff.1 f10_4).1).trans f10_4
        have f11_5 := (Below.block g11x _ (Array.getElem?_eq_some_iff.1 f10_5).1).trans f10_5
        have s11 : ((w1.alloc (.cells zC 108)).alloc (.cells zC 108)).heap.size ≤ w11.heap.size := g11x.le
        refine ⟨_, rfl, keep _ G11, ?_⟩
        rw [re_comm _ 8 20 _ _ (by decide), re_comm _ 7 20 _ _ (by decide)]
        exact fin w11 w1.heap.size (w1.alloc (.cells zC 108)).heap.size _ rfl G11 t7 t10 (by have := u7; have := u10; omega) f11_4 f11_5
    · have G12 := Gr.alloc G1 (.cells zC 108)
      have f12_5 := al_new w1 (.cells zC 108) _ rfl
      have t12 : w.heap.size ≤ w1.heap.size := G1.le
      have u12 : w1.heap.size = w1.heap.size := rfl
      refine st_val (d := 8) rfl (rr_alloc _ _ _ _ _ _ _ counts_zero) (keep _ G12) ?_
      refine st_pair (i := 3) (j := 4) (oi := jn4_3) (oj := jn4_4) (by kernel_rfl) rfl rfl rfl rfl ?_ ?_
      · refine st_call (d := 20) rfl (rr_enter1 _ _ _ _ _ _ _ 61 _ (.agg #[vv', mv']) _ (by simp [re_ne, re_eq, re_size, re_const, hsz, h2, h3]) rfl (rr_enter_of Try.func61 (by kernel_rfl) (by kernel_rfl) _ _)) (HC' (w1.alloc (.cells zC 108)) G12) ?_
        rintro e w13 ⟨rfl, g13x⟩
        have G13 := Gr.trans G12 g13x
        have f13_5 := (Below.block g13x _ (Array.getElem?_eq_some_iff.1 f12_5).1).trans f12_5
        have s13 : (w1.alloc (.cells zC 108)).heap.size ≤ w13.heap.size := g13x.le
        refine ⟨_, rfl, keep _ G13, ?_⟩
        refine st_one (i := 4) (oi := jn4_4) (by kernel_rfl) rfl rfl ?_
        have G14 := Gr.alloc G13 (.cells zC 108)
        have f14_5 := (Below.heap_alloc w13 (.cells zC 108) _ (Array.getElem?_eq_some_iff.1 f13_5).1).trans f13_5
        have f14_4 := al_new w13 (.cells zC 108) _ rfl
        have t14 : w.heap.size ≤ w13.heap.size := G13.le
        have u14 : w13.heap.size = w13.heap.size := rfl
        have v14_5 : w1.heap.size < w13.heap.size := (Array.getElem?_eq_some_iff.1 f13_5).1
        refine st_val (d := 7) rfl (rr_alloc _ _ _ _ _ _ _ counts_zero) (keep _ G14) ?_
        rw [re_comm _ 8 20 _ _ (by decide), re_comm _ 8 7 _ _ (by decide)]
        exact fin (w13.alloc (.cells zC 108)) w13.heap.size w1.heap.size _ rfl G14 t14 t12 (by have := u14; have := u12; omega) f14_4 f14_5
      · have G15 := Gr.alloc G12 (.cells zC 108)
        have f15_5 := (Below.heap_alloc (w1.alloc (.cells zC 108)) (.cells zC 108) _ (Array.getElem?_eq_some_iff.1 f12_5).1).trans f12_5
        have f15_4 := al_new (w1.alloc (.cells zC 108)) (.cells zC 108) _ rfl
        have t15 : w.heap.size ≤ (w1.alloc (.cells zC 108)).heap.size := G12.le
        have u15 : (w1.alloc (.cells zC 108)).heap.size = (w1.alloc (.cells zC 108)).heap.size := rfl
        have v15_5 : w1.heap.size < (w1.alloc (.cells zC 108)).heap.size := (Array.getElem?_eq_some_iff.1 f12_5).1
        refine st_val (d := 7) rfl (rr_alloc _ _ _ _ _ _ _ counts_zero) (keep _ G15) ?_
        refine st_one (i := 3) (oi := jn4_3) (by kernel_rfl) rfl rfl ?_
        refine st_call (d := 20) rfl (rr_enter1 _ _ _ _ _ _ _ 61 _ (.agg #[vv', mv']) _ (by simp [re_ne, re_eq, re_size, re_const, hsz, h2, h3]) rfl (rr_enter_of Try.func61 (by kernel_rfl) (by kernel_rfl) _ _)) (HC' ((w1.alloc (.cells zC 108)).alloc (.cells zC 108)) G15) ?_
        rintro e w16 ⟨rfl, g16x⟩
        have G16 := Gr.trans G15 g16x
        have f16_5 := (Below.block g16x _ (Array.getElem?_eq_some_iff.1 f15_5).1).trans f15_5
        have f16_4 := (Below.block g16x _ (Array.getElem?_eq_some_iff.1 f15_4).1).trans f15_4
        have s16 : ((w1.alloc (.cells zC 108)).alloc (.cells zC 108)).heap.size ≤ w16.heap.size := g16x.le
        refine ⟨_, rfl, keep _ G16, ?_⟩
        rw [re_comm _ 8 7 _ _ (by decide), re_comm _ 8 20 _ _ (by decide), re_comm _ 7 20 _ _ (by decide)]
        exact fin w16 (w1.alloc (.cells zC 108)).heap.size w1.heap.size _ rfl G16 t15 t12 (by have := u15; have := u12; omega) f16_4 f16_5
  · have G17 := Gr.alloc G0 (.cells zC 108)
    have f17_4 := al_new w.drew (.cells zC 108) _ rfl
    have t17 : w.heap.size ≤ w.drew.heap.size := G0.le
    have u17 : w.drew.heap.size = w.drew.heap.size := rfl
    refine st_val (d := 7) rfl (rr_alloc _ _ _ _ _ _ _ counts_zero) (keep _ G17) ?_
    refine st_pair (i := 1) (j := 5) (oi := jn4_1) (oj := jn4_5) (by kernel_rfl) rfl rfl rfl rfl ?_ ?_
    · refine st_call (d := 18) rfl (rr_enter1 _ _ _ _ _ _ _ 61 _ (.agg #[vv, mv]) _ (by simp [re_ne, re_eq, re_size, re_const, hsz, h2, h3]) rfl (rr_enter_of Try.func61 (by kernel_rfl) (by kernel_rfl) _ _)) (HC (w.drew.alloc (.cells zC 108)) G17) ?_
      rintro e w18 ⟨rfl, g18x⟩
      have G18 := Gr.trans G17 g18x
      have f18_4 := (Below.block g18x _ (Array.getElem?_eq_some_iff.1 f17_4).1).trans f17_4
      have s18 : (w.drew.alloc (.cells zC 108)).heap.size ≤ w18.heap.size := g18x.le
      refine ⟨_, rfl, keep _ G18, ?_⟩
      refine st_pair (i := 3) (j := 5) (oi := jn4_3) (oj := jn4_5) (by kernel_rfl) rfl rfl rfl rfl ?_ ?_
      · refine st_call (d := 20) rfl (rr_enter1 _ _ _ _ _ _ _ 61 _ (.agg #[vv', mv']) _ (by simp [re_ne, re_eq, re_size, re_const, hsz, h2, h3]) rfl (rr_enter_of Try.func61 (by kernel_rfl) (by kernel_rfl) _ _)) (HC' w18 G18) ?_
        rintro e w19 ⟨rfl, g19x⟩
        have G19 := Gr.trans G18 g19x
        have f19_4 := (Below.block g19x _ (Array.getElem?_eq_some_iff.1 f18_4).1).trans f18_4
        have s19 : w18.heap.size ≤ w19.heap.size := g19x.le
        refine ⟨_, rfl, keep _ G19, ?_⟩
        refine st_one (i := 5) (oi := jn4_5) (by kernel_rfl) rfl rfl ?_
        have G20 := Gr.alloc G19 (.cells zC 108)
        have f20_4 := (Below.heap_alloc w19 (.cells zC 108) _ (Array.getElem?_eq_some_iff.1 f19_4).1).trans f19_4
        have f20_5 := al_new w19 (.cells zC 108) _ rfl
        have t20 : w.heap.size ≤ w19.heap.size := G19.le
        have u20 : w19.heap.size = w19.heap.size := rfl
        have v20_4 : w.drew.heap.size < w19.heap.size := (Array.getElem?_eq_some_iff.1 f19_4).1
        refine st_val (d := 8) rfl (rr_alloc _ _ _ _ _ _ _ counts_zero) (keep _ G20) ?_
        rw [re_comm _ 7 18 _ _ (by decide), re_comm _ 7 20 _ _ (by decide)]
        exact fin (w19.alloc (.cells zC 108)) w.drew.heap.size w19.heap.size _ rfl G20 t17 t20 (by have := u17; have := u20; omega) f20_4 f20_5
      · have G21 := Gr.alloc G18 (.cells zC 108)
        have f21_4 := (Below.heap_alloc w18 (.cells zC 108) _ (Array.getElem?_eq_some_iff.1 f18_4).1).trans f18_4
        have f21_5 := al_new w18 (.cells zC 108) _ rfl
        have t21 : w.heap.size ≤ w18.heap.size := G18.le
        have u21 : w18.heap.size = w18.heap.size := rfl
        have v21_4 : w.drew.heap.size < w18.heap.size := (Array.getElem?_eq_some_iff.1 f18_4).1
        refine st_val (d := 8) rfl (rr_alloc _ _ _ _ _ _ _ counts_zero) (keep _ G21) ?_
        refine st_one (i := 3) (oi := jn4_3) (by kernel_rfl) rfl rfl ?_
        refine st_call (d := 20) rfl (rr_enter1 _ _ _ _ _ _ _ 61 _ (.agg #[vv', mv']) _ (by simp [re_ne, re_eq, re_size, re_const, hsz, h2, h3]) rfl (rr_enter_of Try.func61 (by kernel_rfl) (by kernel_rfl) _ _)) (HC' (w18.alloc (.cells zC 108)) G21) ?_
        rintro e w22 ⟨rfl, g22x⟩
        have G22 := Gr.trans G21 g22x
        have f22_4 := (Below.block g22x _ (Array.getElem?_eq_some_iff.1 f21_4).1).trans f21_4
        have f22_5 := (Below.block g22x _ (Array.getElem?_eq_some_iff.1 f21_5).1).trans f21_5
        have s22 : (w18.alloc (.cells zC 108)).heap.size ≤ w22.heap.size := g22x.le
        refine ⟨_, rfl, keep _ G22, ?_⟩
        rw [re_comm _ 7 18 _ _ (by decide), re_comm _ 8 20 _ _ (by decide), re_comm _ 7 20 _ _ (by decide)]
        exact fin w22 w.drew.heap.size w18.heap.size _ rfl G22 t17 t21 (by have := u17; have := u21; omega) f22_4 f22_5
    · have G23 := Gr.alloc G17 (.cells zC 108)
      have f23_4 := (Below.heap_alloc (w.drew.alloc (.cells zC 108)) (.cells zC 108) _ (Array.getElem?_eq_some_iff.1 f17_4).1).trans f17_4
      have f23_5 := al_new (w.drew.alloc (.cells zC 108)) (.cells zC 108) _ rfl
      have t23 : w.heap.size ≤ (w.drew.alloc (.cells zC 108)).heap.size := G17.le
      have u23 : (w.drew.alloc (.cells zC 108)).heap.size = (w.drew.alloc (.cells zC 108)).heap.size := rfl
      have v23_4 : w.drew.heap.size < (w.drew.alloc (.cells zC 108)).heap.size := (Array.getElem?_eq_some_iff.1 f17_4).1
      refine st_val (d := 8) rfl (rr_alloc _ _ _ _ _ _ _ counts_zero) (keep _ G23) ?_
      refine st_one (i := 1) (oi := jn4_1) (by kernel_rfl) rfl rfl ?_
      refine st_call (d := 18) rfl (rr_enter1 _ _ _ _ _ _ _ 61 _ (.agg #[vv, mv]) _ (by simp [re_ne, re_eq, re_size, re_const, hsz, h2, h3]) rfl (rr_enter_of Try.func61 (by kernel_rfl) (by kernel_rfl) _ _)) (HC ((w.drew.alloc (.cells zC 108)).alloc (.cells zC 108)) G23) ?_
      rintro e w24 ⟨rfl, g24x⟩
      have G24 := Gr.trans G23 g24x
      have f24_4 := (Below.block g24x _ (Array.getElem?_eq_some_iff.1 f23_4).1).trans f23_4
      have f24_5 := (Below.block g24x _ (Array.getElem?_eq_some_iff.1 f23_5).1).trans f23_5
      have s24 : ((w.drew.alloc (.cells zC 108)).alloc (.cells zC 108)).heap.size ≤ w24.heap.size := g24x.le
      refine ⟨_, rfl, keep _ G24, ?_⟩
      refine st_one (i := 3) (oi := jn4_3) (by kernel_rfl) rfl rfl ?_
      refine st_call (d := 20) rfl (rr_enter1 _ _ _ _ _ _ _ 61 _ (.agg #[vv', mv']) _ (by simp [re_ne, re_eq, re_size, re_const, hsz, h2, h3]) rfl (rr_enter_of Try.func61 (by kernel_rfl) (by kernel_rfl) _ _)) (HC' w24 G24) ?_
      rintro e w25 ⟨rfl, g25x⟩
      have G25 := Gr.trans G24 g25x
      have f25_4 := (Below.block g25x _ (Array.getElem?_eq_some_iff.1 f24_4).1).trans f24_4
      have f25_5 := (Below.block g25x _ (Array.getElem?_eq_some_iff.1 f24_5).1).trans f24_5
      have s25 : w24.heap.size ≤ w25.heap.size := g25x.le
      refine ⟨_, rfl, keep _ G25, ?_⟩
      rw [re_comm _ 8 18 _ _ (by decide), re_comm _ 8 20 _ _ (by decide), re_comm _ 7 18 _ _ (by decide), re_comm _ 7 20 _ _ (by decide)]
      exact fin w25 w.drew.heap.size (w.drew.alloc (.cells zC 108)).heap.size _ rfl G25 t17 t23 (by have := u17; have := u23; omega) f25_4 f25_5
  · have G26 := Gr.alloc G0 (.cells zC 108)
    have f26_5 := al_new w.drew (.cells zC 108) _ rfl
    have t26 : w.heap.size ≤ w.drew.heap.size := G0.le
    have u26 : w.drew.heap.size = w.drew.heap.size := rfl
    refine st_val (d := 8) rfl (rr_alloc _ _ _ _ _ _ _ counts_zero) (keep _ G26) ?_
    refine st_pair (i := 1) (j := 4) (oi := jn4_1) (oj := jn4_4) (by kernel_rfl) rfl rfl rfl rfl ?_ ?_
    · refine st_call (d := 18) rfl (rr_enter1 _ _ _ _ _ _ _ 61 _ (.agg #[vv, mv]) _ (by simp [re_ne, re_eq, re_size, re_const, hsz, h2, h3]) rfl (rr_enter_of Try.func61 (by kernel_rfl) (by kernel_rfl) _ _)) (HC (w.drew.alloc (.cells zC 108)) G26) ?_
      rintro e w27 ⟨rfl, g27x⟩
      have G27 := Gr.trans G26 g27x
      have f27_5 := (Below.block g27x _ (Array.getElem?_eq_some_iff.1 f26_5).1).trans f26_5
      have s27 : (w.drew.alloc (.cells zC 108)).heap.size ≤ w27.heap.size := g27x.le
      refine ⟨_, rfl, keep _ G27, ?_⟩
      refine st_pair (i := 3) (j := 4) (oi := jn4_3) (oj := jn4_4) (by kernel_rfl) rfl rfl rfl rfl ?_ ?_
      · refine st_call (d := 20) rfl (rr_enter1 _ _ _ _ _ _ _ 61 _ (.agg #[vv', mv']) _ (by simp [re_ne, re_eq, re_size, re_const, hsz, h2, h3]) rfl (rr_enter_of Try.func61 (by kernel_rfl) (by kernel_rfl) _ _)) (HC' w27 G27) ?_
        rintro e w28 ⟨rfl, g28x⟩
        have G28 := Gr.trans G27 g28x
        have f28_5 := (Below.block g28x _ (Array.getElem?_eq_some_iff.1 f27_5).1).trans f27_5
        have s28 : w27.heap.size ≤ w28.heap.size := g28x.le
        refine ⟨_, rfl, keep _ G28, ?_⟩
        refine st_one (i := 4) (oi := jn4_4) (by kernel_rfl) rfl rfl ?_
        have G29 := Gr.alloc G28 (.cells zC 108)
        have f29_5 := (Below.heap_alloc w28 (.cells zC 108) _ (Array.getElem?_eq_some_iff.1 f28_5).1).trans f28_5
        have f29_4 := al_new w28 (.cells zC 108) _ rfl
        have t29 : w.heap.size ≤ w28.heap.size := G28.le
        have u29 : w28.heap.size = w28.heap.size := rfl
        have v29_5 : w.drew.heap.size < w28.heap.size := (Array.getElem?_eq_some_iff.1 f28_5).1
        refine st_val (d := 7) rfl (rr_alloc _ _ _ _ _ _ _ counts_zero) (keep _ G29) ?_
        rw [re_comm _ 8 18 _ _ (by decide), re_comm _ 8 20 _ _ (by decide), re_comm _ 8 7 _ _ (by decide)]
        exact fin (w28.alloc (.cells zC 108)) w28.heap.size w.drew.heap.size _ rfl G29 t29 t26 (by have := u29; have := u26; omega) f29_4 f29_5
      · have G30 := Gr.alloc G27 (.cells zC 108)
        have f30_5 := (Below.heap_alloc w27 (.cells zC 108) _ (Array.getElem?_eq_some_iff.1 f27_5).1).trans f27_5
        have f30_4 := al_new w27 (.cells zC 108) _ rfl
        have t30 : w.heap.size ≤ w27.heap.size := G27.le
        have u30 : w27.heap.size = w27.heap.size := rfl
        have v30_5 : w.drew.heap.size < w27.heap.size := (Array.getElem?_eq_some_iff.1 f27_5).1
        refine st_val (d := 7) rfl (rr_alloc _ _ _ _ _ _ _ counts_zero) (keep _ G30) ?_
        refine st_one (i := 3) (oi := jn4_3) (by kernel_rfl) rfl rfl ?_
        refine st_call (d := 20) rfl (rr_enter1 _ _ _ _ _ _ _ 61 _ (.agg #[vv', mv']) _ (by simp [re_ne, re_eq, re_size, re_const, hsz, h2, h3]) rfl (rr_enter_of Try.func61 (by kernel_rfl) (by kernel_rfl) _ _)) (HC' (w27.alloc (.cells zC 108)) G30) ?_
        rintro e w31 ⟨rfl, g31x⟩
        have G31 := Gr.trans G30 g31x
        have f31_5 := (Below.block g31x _ (Array.getElem?_eq_some_iff.1 f30_5).1).trans f30_5
        have f31_4 := (Below.block g31x _ (Array.getElem?_eq_some_iff.1 f30_4).1).trans f30_4
        have s31 : (w27.alloc (.cells zC 108)).heap.size ≤ w31.heap.size := g31x.le
        refine ⟨_, rfl, keep _ G31, ?_⟩
        rw [re_comm _ 8 18 _ _ (by decide), re_comm _ 8 7 _ _ (by decide), re_comm _ 8 20 _ _ (by decide), re_comm _ 7 20 _ _ (by decide)]
        exact fin w31 w27.heap.size w.drew.heap.size _ rfl G31 t30 t26 (by have := u30; have := u26; omega) f31_4 f31_5
    · have G32 := Gr.alloc G26 (.cells zC 108)
      have f32_5 := (Below.heap_alloc (w.drew.alloc (.cells zC 108)) (.cells zC 108) _ (Array.getElem?_eq_some_iff.1 f26_5).1).trans f26_5
      have f32_4 := al_new (w.drew.alloc (.cells zC 108)) (.cells zC 108) _ rfl
      have t32 : w.heap.size ≤ (w.drew.alloc (.cells zC 108)).heap.size := G26.le
      have u32 : (w.drew.alloc (.cells zC 108)).heap.size = (w.drew.alloc (.cells zC 108)).heap.size := rfl
      have v32_5 : w.drew.heap.size < (w.drew.alloc (.cells zC 108)).heap.size := (Array.getElem?_eq_some_iff.1 f26_5).1
      refine st_val (d := 7) rfl (rr_alloc _ _ _ _ _ _ _ counts_zero) (keep _ G32) ?_
      refine st_one (i := 1) (oi := jn4_1) (by kernel_rfl) rfl rfl ?_
      refine st_call (d := 18) rfl (rr_enter1 _ _ _ _ _ _ _ 61 _ (.agg #[vv, mv]) _ (by simp [re_ne, re_eq, re_size, re_const, hsz, h2, h3]) rfl (rr_enter_of Try.func61 (by kernel_rfl) (by kernel_rfl) _ _)) (HC ((w.drew.alloc (.cells zC 108)).alloc (.cells zC 108)) G32) ?_
      rintro e w33 ⟨rfl, g33x⟩
      have G33 := Gr.trans G32 g33x
      have f33_5 := (Below.block g33x _ (Array.getElem?_eq_some_iff.1 f32_5).1).trans f32_5
      have f33_4 := (Below.block g33x _ (Array.getElem?_eq_some_iff.1 f32_4).1).trans f32_4
      have s33 : ((w.drew.alloc (.cells zC 108)).alloc (.cells zC 108)).heap.size ≤ w33.heap.size := g33x.le
      refine ⟨_, rfl, keep _ G33, ?_⟩
      refine st_one (i := 3) (oi := jn4_3) (by kernel_rfl) rfl rfl ?_
      refine st_call (d := 20) rfl (rr_enter1 _ _ _ _ _ _ _ 61 _ (.agg #[vv', mv']) _ (by simp [re_ne, re_eq, re_size, re_const, hsz, h2, h3]) rfl (rr_enter_of Try.func61 (by kernel_rfl) (by kernel_rfl) _ _)) (HC' w33 G33) ?_
      rintro e w34 ⟨rfl, g34x⟩
      have G34 := Gr.trans G33 g34x
      have f34_5 := (Below.block g34x _ (Array.getElem?_eq_some_iff.1 f33_5).1).trans f33_5
      have f34_4 := (Below.block g34x _ (Array.getElem?_eq_some_iff.1 f33_4).1).trans f33_4
      have s34 : w33.heap.size ≤ w34.heap.size := g34x.le
      refine ⟨_, rfl, keep _ G34, ?_⟩
      rw [re_comm _ 8 7 _ _ (by decide), re_comm _ 8 18 _ _ (by decide), re_comm _ 8 20 _ _ (by decide), re_comm _ 7 18 _ _ (by decide), re_comm _ 7 20 _ _ (by decide)]
      exact fin w34 (w.drew.alloc (.cells zC 108)).heap.size w.drew.heap.size _ rfl G34 t32 t26 (by have := u32; have := u26; omega) f34_4 f34_5
def me4_0 : Oper := Oper.mk (some 17) (Op.load 35 (Operand.tmp 2)) 35 "know.go:70" #[] none
def me4_1 : Oper := Oper.mk (some 18) (Op.call (Call.mk (Callee.value (Operand.func 61)) #[Operand.tmp 17] #[35])) 108 "know.go:70" #[Edge.mk 0 Ground.data] none
def me4_2 : Oper := Oper.mk (some 19) (Op.load 35 (Operand.tmp 3)) 35 "know.go:70" #[] none
def me4_3 : Oper := Oper.mk (some 20) (Op.call (Call.mk (Callee.value (Operand.func 61)) #[Operand.tmp 19] #[35])) 108 "know.go:70" #[Edge.mk 2 Ground.data, Edge.mk 1 Ground.chain] none
def me4_4 : Oper := Oper.mk (some 7) (Op.alloc 108) 0 "know.go:70" #[] none
def me4_5 : Oper := Oper.mk (some 8) (Op.alloc 108) 0 "know.go:70" #[] none
def me4_6 : Oper := Oper.mk none (Op.store 108 (Operand.tmp 7) (Operand.tmp 18)) 0 "know.go:70" #[Edge.mk 4 Ground.data, Edge.mk 1 Ground.data, Edge.mk 3 Ground.chain, Edge.mk 0 Ground.phase, Edge.mk 1 Ground.phase, Edge.mk 2 (Ground.textOnly Departure.lateStores), Edge.mk 3 (Ground.textOnly Departure.lateStoresUnsure), Edge.mk 4 Ground.phase, Edge.mk 5 Ground.phase] none
def me4_7 : Oper := Oper.mk none (Op.store 108 (Operand.tmp 8) (Operand.tmp 20)) 0 "know.go:70" #[Edge.mk 5 Ground.data, Edge.mk 3 Ground.data, Edge.mk 6 Ground.chain, Edge.mk 0 Ground.phase, Edge.mk 1 Ground.phase, Edge.mk 2 Ground.phase, Edge.mk 3 Ground.phase, Edge.mk 4 Ground.phase, Edge.mk 5 Ground.phase, Edge.mk 6 Ground.phase] none
def me4_Ops : Array Oper := #[me4_0, me4_1, me4_2, me4_3, me4_4, me4_5, me4_6, me4_7]
set_option maxHeartbeats 200000 in
set_option maxRecDepth 100000 in
theorem me4_reg (Q : Exit → Act → World → Prop) (hQ : ∀ c a d v w, Q (.panic c) (Act.put a (some d) v) w → Q (.panic c) a w) (a : Act) (w : World) (g0 g1 : Nat) (vv mv vv' mv' : Value) (A A' : Array Value)
    (hsz : a.tmps.size = 48) (h2 : a.eval (.tmp 2) = .pointer (some ⟨g0, 0, none⟩)) (h3 : a.eval (.tmp 3) = .pointer (some ⟨g1, 0, none⟩))
    (hS0 : KS2 g0 g1 vv mv vv' mv' w) (hl0 : g0 < w.heap.size) (hl1 : g1 < w.heap.size)
    (hA5 : A.size = 5) (hA1 : A.all (·.oneCell') = true) (hB5 : A'.size = 5) (hB1 : A'.all (·.oneCell') = true)
    (HC : ∀ w', Gr w w' → Calls Try.prog 61 #[.agg #[vv, mv]] w' fun e w'' => e = .returned (.agg A) ∧ Gr w' w'')
    (HC' : ∀ w', Gr w w' → Calls Try.prog 61 #[.agg #[vv', mv']] w' fun e w'' => e = .returned (.agg A') ∧ Gr w' w'')
    (h : ∀ w' b7 b8, Gr w w' → w.heap.size ≤ b7 → w.heap.size ≤ b8 → b7 ≠ b8 → w'.heap[b7]? = some (.cells A 108 (0, 0)) → w'.heap[b8]? = some (.cells A' 108 (0, 0)) → Q .normal (Act.put (Act.put (Act.put (Act.put (Act.put (Act.put a (some 17) (.agg #[vv, mv])) (some 19) (.agg #[vv', mv'])) (some 18) (.agg A)) (some 20) (.agg A')) (some 7) (.pointer (some ⟨b7, 0, none⟩))) (some 8) (.pointer (some ⟨b8, 0, none⟩))) w') : (Code.region 4 me4_Ops true).wp Try.prog Q a w := by
  have keep : ∀ x, Gr w x → KS2 g0 g1 vv mv vv' mv' x := fun x gx => ⟨(Below.block gx g0 hl0).trans hS0.1, (Below.block gx g1 hl1).trans hS0.2⟩
  have szA : (Try.prog.info? 108).map (·.size) = some A.size := by rw [hA5]; exact counts_size
  have szB : (Try.prog.info? 108).map (·.size) = some A'.size := by rw [hB5]; exact counts_size
  have fin : ∀ (W : World) (b7 b8 : Nat) (L : Array Bool), L = #[true, true, true, true, true, true, false, false] → Gr w W → w.heap.size ≤ b7 → w.heap.size ≤ b8 → b7 ≠ b8 → W.heap[b7]? = some (.cells zC 108 (0, 0)) → W.heap[b8]? = some (.cells zC 108 (0, 0)) →
      wpAnyH Try.prog .any me4_Ops Q (KS2 g0 g1 vv mv vv' mv') 2 L (Act.put (Act.put (Act.put (Act.put (Act.put (Act.put a (some 17) (.agg #[vv, mv])) (some 19) (.agg #[vv', mv'])) (some 18) (.agg A)) (some 20) (.agg A')) (some 7) (.pointer (some ⟨b7, 0, none⟩))) (some 8) (.pointer (some ⟨b8, 0, none⟩))) W := by
    intro W b7 b8 L hL hg h7 h8 hne e7 e8
    subst hL
    have l7 := (Array.getElem?_eq_some_iff.1 e7).1
    have l8 := (Array.getElem?_eq_some_iff.1 e8).1
    refine st_one (i := 6) (oi := me4_6) (by kernel_rfl) rfl rfl ?_
    have gA : Gr w (W.setRow b7 A) := below_setRow hg h7 A
    have e8' : (W.setRow b7 A).heap[b8]? = some (.cells zC 108 (0, 0)) := (setRow_other W b7 b8 A (Ne.symm hne)).trans e8
    have e7' : (W.setRow b7 A).heap[b7]? = some (.cells A 108 (0, 0)) := setRow_heap W b7 _ A _ _ e7
    refine st_row 108 (.tmp 7) (.tmp 18) rfl rfl b7 A (by simp [re_ne, re_eq, re_size, re_const, hsz, h2, h3]) (by simp [re_ne, re_eq, re_size, re_const, hsz, h2, h3]) 108 zC e7 szA (by rw [hA5]; rfl) hA1 (keep _ gA) ?_
    refine st_one (i := 7) (oi := me4_7) (by kernel_rfl) rfl rfl ?_
    have gB : Gr w ((W.setRow b7 A).setRow b8 A') := below_setRow gA h8 A'
    have e7'' : ((W.setRow b7 A).setRow b8 A').heap[b7]? = some (.cells A 108 (0, 0)) := (setRow_other _ b8 b7 A' hne).trans e7'
    refine st_row 108 (.tmp 8) (.tmp 20) rfl rfl b8 A' (by simp [re_ne, re_eq, re_size, re_const, hsz, h2, h3]) (by simp [re_ne, re_eq, re_size, re_const, hsz, h2, h3]) 108 zC e8' szB (by rw [hB5]; rfl) hB1 (keep _ gB) ?_
    exact wpAnyH_done (by kernel_rfl) (h _ b7 b8 gB h7 h8 hne e7'' (setRow_heap _ b8 _ A' _ _ e8')) _
  refine wp_region_held_drew (S := KS2 g0 g1 vv mv vv' mv') (by kernel_rfl) hS0 (fun hHeld => ?_)
  show wpAnyH Try.prog .any me4_Ops Q _ 8 (Array.replicate 8 false) a w.drew
  refine re_tk (i := 0) (oi := me4_0) (v := .agg #[vv, mv]) (d := 17) hQ rfl rfl (by kernel_rfl) (by kernel_rfl) (by kernel_rfl) (Or.inl ⟨re_none _ rfl, fun wx hS => rr_lK _ _ _ _ _ _ _ _ g0 vv mv (by simp [re_ne, re_eq, re_size, re_const, hsz, h2, h3]) (kc0 hS.1) (kc1 hS.1)⟩) hHeld ?_
  refine re_tk (i := 2) (oi := me4_2) (v := .agg #[vv', mv']) (d := 19) hQ rfl rfl (by kernel_rfl) (by kernel_rfl) (by kernel_rfl) (Or.inl ⟨re_none _ rfl, fun wx hS => rr_lK _ _ _ _ _ _ _ _ g1 vv' mv' (by simp [re_ne, re_eq, re_size, re_const, hsz, h2, h3]) (kc0 hS.2) (kc1 hS.2)⟩) hHeld ?_
  have G0 : Gr w w.drew := (Gr.refl w).drew
  refine st_tri (i := 1) (j := 4) (k := 5) (oi := me4_1) (oj := me4_4) (ok := me4_5) (by kernel_rfl) rfl rfl rfl rfl rfl rfl ?_ ?_ ?_
  · refine st_call (d := 18) rfl (rr_enter1 _ _ _ _ _ _ _ 61 _ (.agg #[vv, mv]) _ (by simp [re_ne, re_eq, re_size, re_const, hsz, h2, h3]) rfl (rr_enter_of Try.func61 (by kernel_rfl) (by kernel_rfl) _ _)) (HC w.drew G0) ?_
    rintro e w1 ⟨rfl, g1x⟩
    have G1 := Gr.trans G0 g1x
    have s1 : w.drew.heap.size ≤ w1.heap.size := g1x.le
    refine ⟨_, rfl, keep _ G1, ?_⟩
    refine st_tri (i := 3) (j := 4) (k := 5) (oi := me4_3) (oj := me4_4) (ok := me4_5) (by kernel_rfl) rfl rfl rfl rfl rfl rfl ?_ ?_ ?_
    · refine st_call (d := 20) rfl (rr_enter1 _ _ _ _ _ _ _ 61 _ (.agg #[vv', mv']) _ (by simp [re_ne, re_eq, re_size, re_const, hsz, h2, h3]) rfl (rr_enter_of Try.func61 (by kernel_rfl) (by kernel_rfl) _ _)) (HC' w1 G1) ?_
      rintro e w2 ⟨rfl, g2x⟩
      have G2 := Gr.trans G1 g2x
      have s2 : w1.heap.size ≤ w2.heap.size := g2x.le
      refine ⟨_, rfl, keep _ G2, ?_⟩
      refine st_pair (i := 4) (j := 5) (oi := me4_4) (oj := me4_5) (by kernel_rfl) rfl rfl rfl rfl ?_ ?_
      · have G3 := Gr.alloc G2 (.cells zC 108)
        have f3_4 := al_new w2 (.cells zC 108) _ rfl
        have t3 : w.heap.size ≤ w2.heap.size := G2.le
        have u3 : w2.heap.size = w2.heap.size := rfl
        refine st_val (d := 7) rfl (rr_alloc _ _ _ _ _ _ _ counts_zero) (keep _ G3) ?_
        refine st_one (i := 5) (oi := me4_5) (by kernel_rfl) rfl rfl ?_
        have G4 := Gr.alloc G3 (.cells zC 108)
        have f4_4 := (Below.heap_alloc (w2.alloc (.cells zC 108)) (.cells zC 108) _ (Array.getElem?_eq_some_iff.1 f3_4).1).trans f3_4
        have f4_5 := al_new (w2.alloc (.cells zC 108)) (.cells zC 108) _ rfl
        have t4 : w.heap.size ≤ (w2.alloc (.cells zC 108)).heap.size := G3.le
        have u4 : (w2.alloc (.cells zC 108)).heap.size = (w2.alloc (.cells zC 108)).heap.size := rfl
        have v4_4 : w2.heap.size < (w2.alloc (.cells zC 108)).heap.size := (Array.getElem?_eq_some_iff.1 f3_4).1
        refine st_val (d := 8) rfl (rr_alloc _ _ _ _ _ _ _ counts_zero) (keep _ G4) ?_
        exact fin ((w2.alloc (.cells zC 108)).alloc (.cells zC 108)) w2.heap.size (w2.alloc (.cells zC 108)).heap.size _ rfl G4 t3 t4 (by have := u3; have := u4; omega) f4_4 f4_5
      · have G5 := Gr.alloc G2 (.cells zC 108)
        have f5_5 := al_new w2 (.cells zC 108) _ rfl
        have t5 : w.heap.size ≤ w2.heap.size := G2.le
        have u5 : w2.heap.size = w2.heap.size := rfl
        refine st_val (d := 8) rfl (rr_alloc _ _ _ _ _ _ _ counts_zero) (keep _ G5) ?_
        refine st_one (i := 4) (oi := me4_4) (by kernel_rfl) rfl rfl ?_
        have G6 := Gr.alloc G5 (.cells zC 108)
        have f6_5 := (Below.heap_alloc (w2.alloc (.cells zC 108)) (.cells zC 108) _ (Array.getElem?_eq_some_iff.1 f5_5).1).trans f5_5
        have f6_4 := al_new (w2.alloc (.cells zC 108)) (.cells zC 108) _ rfl
        have t6 : w.heap.size ≤ (w2.alloc (.cells zC 108)).heap.size := G5.le
        have u6 : (w2.alloc (.cells zC 108)).heap.size = (w2.alloc (.cells zC 108)).heap.size := rfl
        have v6_5 : w2.heap.size < (w2.alloc (.cells zC 108)).heap.size := (Array.getElem?_eq_some_iff.1 f5_5).1
        refine st_val (d := 7) rfl (rr_alloc _ _ _ _ _ _ _ counts_zero) (keep _ G6) ?_
        rw [re_comm _ 8 7 _ _ (by decide)]
        exact fin ((w2.alloc (.cells zC 108)).alloc (.cells zC 108)) (w2.alloc (.cells zC 108)).heap.size w2.heap.size _ rfl G6 t6 t5 (by have := u6; have := u5; omega) f6_4 f6_5
    · have G7 := Gr.alloc G1 (.cells zC 108)
      have f7_4 := al_new w1 (.cells zC 108) _ rfl
      have t7 : w.heap.size ≤ w1.heap.size := G1.le
      have u7 : w1.heap.size = w1.heap.size := rfl
      refine st_val (d := 7) rfl (rr_alloc _ _ _ _ _ _ _ counts_zero) (keep _ G7) ?_
      refine st_pair (i := 3) (j := 5) (oi := me4_3) (oj := me4_5) (by kernel_rfl) rfl rfl rfl rfl ?_ ?_
      · refine st_call (d := 20) rfl (rr_enter1 _ _ _ _ _ _ _ 61 _ (.agg #[vv', mv']) _ (by simp [re_ne, re_eq, re_size, re_const, hsz, h2, h3]) rfl (rr_enter_of Try.func61 (by kernel_rfl) (by kernel_rfl) _ _)) (HC' (w1.alloc (.cells zC 108)) G7) ?_
        rintro e w8 ⟨rfl, g8x⟩
        have G8 := Gr.trans G7 g8x
        have f8_4 := (Below.block g8x _ (Array.getElem?_eq_some_iff.1 f7_4).1).trans f7_4
        have s8 : (w1.alloc (.cells zC 108)).heap.size ≤ w8.heap.size := g8x.le
        refine ⟨_, rfl, keep _ G8, ?_⟩
        refine st_one (i := 5) (oi := me4_5) (by kernel_rfl) rfl rfl ?_
        have G9 := Gr.alloc G8 (.cells zC 108)
        have f9_4 := (Below.heap_alloc w8 (.cells zC 108) _ (Array.getElem?_eq_some_iff.1 f8_4).1).trans f8_4
        have f9_5 := al_new w8 (.cells zC 108) _ rfl
        have t9 : w.heap.size ≤ w8.heap.size := G8.le
        have u9 : w8.heap.size = w8.heap.size := rfl
        have v9_4 : w1.heap.size < w8.heap.size := (Array.getElem?_eq_some_iff.1 f8_4).1
        refine st_val (d := 8) rfl (rr_alloc _ _ _ _ _ _ _ counts_zero) (keep _ G9) ?_
        rw [re_comm _ 7 20 _ _ (by decide)]
        exact fin (w8.alloc (.cells zC 108)) w1.heap.size w8.heap.size _ rfl G9 t7 t9 (by have := u7; have := u9; omega) f9_4 f9_5
      · have G10 := Gr.alloc G7 (.cells zC 108)
        have f10_4 := (Below.heap_alloc (w1.alloc (.cells zC 108)) (.cells zC 108) _ (Array.getElem?_eq_some_iff.1 f7_4).1).trans f7_4
        have f10_5 := al_new (w1.alloc (.cells zC 108)) (.cells zC 108) _ rfl
        have t10 : w.heap.size ≤ (w1.alloc (.cells zC 108)).heap.size := G7.le
        have u10 : (w1.alloc (.cells zC 108)).heap.size = (w1.alloc (.cells zC 108)).heap.size := rfl
        have v10_4 : w1.heap.size < (w1.alloc (.cells zC 108)).heap.size := (Array.getElem?_eq_some_iff.1 f7_4).1
        refine st_val (d := 8) rfl (rr_alloc _ _ _ _ _ _ _ counts_zero) (keep _ G10) ?_
        refine st_one (i := 3) (oi := me4_3) (by kernel_rfl) rfl rfl ?_
        refine st_call (d := 20) rfl (rr_enter1 _ _ _ _ _ _ _ 61 _ (.agg #[vv', mv']) _ (by simp [re_ne, re_eq, re_size, re_const, hsz, h2, h3]) rfl (rr_enter_of Try.func61 (by kernel_rfl) (by kernel_rfl) _ _)) (HC' ((w1.alloc (.cells zC 108)).alloc (.cells zC 108)) G10) ?_
        rintro e w11 ⟨rfl, g11x⟩
        have G11 := Gr.trans G10 g11x
        have f11_4 := (Below.block g11x _ (Array.getElem?_eq_some_iff.1 f10_4).1).trans f10_4
        have f11_5 := (Below.block g11x _ (Array.getElem?_eq_some_iff.1 f10_5).1).trans f10_5
        have s11 : ((w1.alloc (.cells zC 108)).alloc (.cells zC 108)).heap.size ≤ w11.heap.size := g11x.le
        refine ⟨_, rfl, keep _ G11, ?_⟩
        rw [re_comm _ 8 20 _ _ (by decide), re_comm _ 7 20 _ _ (by decide)]
        exact fin w11 w1.heap.size (w1.alloc (.cells zC 108)).heap.size _ rfl G11 t7 t10 (by have := u7; have := u10; omega) f11_4 f11_5
    · have G12 := Gr.alloc G1 (.cells zC 108)
      have f12_5 := al_new w1 (.cells zC 108) _ rfl
      have t12 : w.heap.size ≤ w1.heap.size := G1.le
      have u12 : w1.heap.size = w1.heap.size := rfl
      refine st_val (d := 8) rfl (rr_alloc _ _ _ _ _ _ _ counts_zero) (keep _ G12) ?_
      refine st_pair (i := 3) (j := 4) (oi := me4_3) (oj := me4_4) (by kernel_rfl) rfl rfl rfl rfl ?_ ?_
      · refine st_call (d := 20) rfl (rr_enter1 _ _ _ _ _ _ _ 61 _ (.agg #[vv', mv']) _ (by simp [re_ne, re_eq, re_size, re_const, hsz, h2, h3]) rfl (rr_enter_of Try.func61 (by kernel_rfl) (by kernel_rfl) _ _)) (HC' (w1.alloc (.cells zC 108)) G12) ?_
        rintro e w13 ⟨rfl, g13x⟩
        have G13 := Gr.trans G12 g13x
        have f13_5 := (Below.block g13x _ (Array.getElem?_eq_some_iff.1 f12_5).1).trans f12_5
        have s13 : (w1.alloc (.cells zC 108)).heap.size ≤ w13.heap.size := g13x.le
        refine ⟨_, rfl, keep _ G13, ?_⟩
        refine st_one (i := 4) (oi := me4_4) (by kernel_rfl) rfl rfl ?_
        have G14 := Gr.alloc G13 (.cells zC 108)
        have f14_5 := (Below.heap_alloc w13 (.cells zC 108) _ (Array.getElem?_eq_some_iff.1 f13_5).1).trans f13_5
        have f14_4 := al_new w13 (.cells zC 108) _ rfl
        have t14 : w.heap.size ≤ w13.heap.size := G13.le
        have u14 : w13.heap.size = w13.heap.size := rfl
        have v14_5 : w1.heap.size < w13.heap.size := (Array.getElem?_eq_some_iff.1 f13_5).1
        refine st_val (d := 7) rfl (rr_alloc _ _ _ _ _ _ _ counts_zero) (keep _ G14) ?_
        rw [re_comm _ 8 20 _ _ (by decide), re_comm _ 8 7 _ _ (by decide)]
        exact fin (w13.alloc (.cells zC 108)) w13.heap.size w1.heap.size _ rfl G14 t14 t12 (by have := u14; have := u12; omega) f14_4 f14_5
      · have G15 := Gr.alloc G12 (.cells zC 108)
        have f15_5 := (Below.heap_alloc (w1.alloc (.cells zC 108)) (.cells zC 108) _ (Array.getElem?_eq_some_iff.1 f12_5).1).trans f12_5
        have f15_4 := al_new (w1.alloc (.cells zC 108)) (.cells zC 108) _ rfl
        have t15 : w.heap.size ≤ (w1.alloc (.cells zC 108)).heap.size := G12.le
        have u15 : (w1.alloc (.cells zC 108)).heap.size = (w1.alloc (.cells zC 108)).heap.size := rfl
        have v15_5 : w1.heap.size < (w1.alloc (.cells zC 108)).heap.size := (Array.getElem?_eq_some_iff.1 f12_5).1
        refine st_val (d := 7) rfl (rr_alloc _ _ _ _ _ _ _ counts_zero) (keep _ G15) ?_
        refine st_one (i := 3) (oi := me4_3) (by kernel_rfl) rfl rfl ?_
        refine st_call (d := 20) rfl (rr_enter1 _ _ _ _ _ _ _ 61 _ (.agg #[vv', mv']) _ (by simp [re_ne, re_eq, re_size, re_const, hsz, h2, h3]) rfl (rr_enter_of Try.func61 (by kernel_rfl) (by kernel_rfl) _ _)) (HC' ((w1.alloc (.cells zC 108)).alloc (.cells zC 108)) G15) ?_
        rintro e w16 ⟨rfl, g16x⟩
        have G16 := Gr.trans G15 g16x
        have f16_5 := (Below.block g16x _ (Array.getElem?_eq_some_iff.1 f15_5).1).trans f15_5
        have f16_4 := (Below.block g16x _ (Array.getElem?_eq_some_iff.1 f15_4).1).trans f15_4
        have s16 : ((w1.alloc (.cells zC 108)).alloc (.cells zC 108)).heap.size ≤ w16.heap.size := g16x.le
        refine ⟨_, rfl, keep _ G16, ?_⟩
        rw [re_comm _ 8 7 _ _ (by decide), re_comm _ 8 20 _ _ (by decide), re_comm _ 7 20 _ _ (by decide)]
        exact fin w16 (w1.alloc (.cells zC 108)).heap.size w1.heap.size _ rfl G16 t15 t12 (by have := u15; have := u12; omega) f16_4 f16_5
  · have G17 := Gr.alloc G0 (.cells zC 108)
    have f17_4 := al_new w.drew (.cells zC 108) _ rfl
    have t17 : w.heap.size ≤ w.drew.heap.size := G0.le
    have u17 : w.drew.heap.size = w.drew.heap.size := rfl
    refine st_val (d := 7) rfl (rr_alloc _ _ _ _ _ _ _ counts_zero) (keep _ G17) ?_
    refine st_pair (i := 1) (j := 5) (oi := me4_1) (oj := me4_5) (by kernel_rfl) rfl rfl rfl rfl ?_ ?_
    · refine st_call (d := 18) rfl (rr_enter1 _ _ _ _ _ _ _ 61 _ (.agg #[vv, mv]) _ (by simp [re_ne, re_eq, re_size, re_const, hsz, h2, h3]) rfl (rr_enter_of Try.func61 (by kernel_rfl) (by kernel_rfl) _ _)) (HC (w.drew.alloc (.cells zC 108)) G17) ?_
      rintro e w18 ⟨rfl, g18x⟩
      have G18 := Gr.trans G17 g18x
      have f18_4 := (Below.block g18x _ (Array.getElem?_eq_some_iff.1 f17_4).1).trans f17_4
      have s18 : (w.drew.alloc (.cells zC 108)).heap.size ≤ w18.heap.size := g18x.le
      refine ⟨_, rfl, keep _ G18, ?_⟩
      refine st_pair (i := 3) (j := 5) (oi := me4_3) (oj := me4_5) (by kernel_rfl) rfl rfl rfl rfl ?_ ?_
      · refine st_call (d := 20) rfl (rr_enter1 _ _ _ _ _ _ _ 61 _ (.agg #[vv', mv']) _ (by simp [re_ne, re_eq, re_size, re_const, hsz, h2, h3]) rfl (rr_enter_of Try.func61 (by kernel_rfl) (by kernel_rfl) _ _)) (HC' w18 G18) ?_
        rintro e w19 ⟨rfl, g19x⟩
        have G19 := Gr.trans G18 g19x
        have f19_4 := (Below.block g19x _ (Array.getElem?_eq_some_iff.1 f18_4).1).trans f18_4
        have s19 : w18.heap.size ≤ w19.heap.size := g19x.le
        refine ⟨_, rfl, keep _ G19, ?_⟩
        refine st_one (i := 5) (oi := me4_5) (by kernel_rfl) rfl rfl ?_
        have G20 := Gr.alloc G19 (.cells zC 108)
        have f20_4 := (Below.heap_alloc w19 (.cells zC 108) _ (Array.getElem?_eq_some_iff.1 f19_4).1).trans f19_4
        have f20_5 := al_new w19 (.cells zC 108) _ rfl
        have t20 : w.heap.size ≤ w19.heap.size := G19.le
        have u20 : w19.heap.size = w19.heap.size := rfl
        have v20_4 : w.drew.heap.size < w19.heap.size := (Array.getElem?_eq_some_iff.1 f19_4).1
        refine st_val (d := 8) rfl (rr_alloc _ _ _ _ _ _ _ counts_zero) (keep _ G20) ?_
        rw [re_comm _ 7 18 _ _ (by decide), re_comm _ 7 20 _ _ (by decide)]
        exact fin (w19.alloc (.cells zC 108)) w.drew.heap.size w19.heap.size _ rfl G20 t17 t20 (by have := u17; have := u20; omega) f20_4 f20_5
      · have G21 := Gr.alloc G18 (.cells zC 108)
        have f21_4 := (Below.heap_alloc w18 (.cells zC 108) _ (Array.getElem?_eq_some_iff.1 f18_4).1).trans f18_4
        have f21_5 := al_new w18 (.cells zC 108) _ rfl
        have t21 : w.heap.size ≤ w18.heap.size := G18.le
        have u21 : w18.heap.size = w18.heap.size := rfl
        have v21_4 : w.drew.heap.size < w18.heap.size := (Array.getElem?_eq_some_iff.1 f18_4).1
        refine st_val (d := 8) rfl (rr_alloc _ _ _ _ _ _ _ counts_zero) (keep _ G21) ?_
        refine st_one (i := 3) (oi := me4_3) (by kernel_rfl) rfl rfl ?_
        refine st_call (d := 20) rfl (rr_enter1 _ _ _ _ _ _ _ 61 _ (.agg #[vv', mv']) _ (by simp [re_ne, re_eq, re_size, re_const, hsz, h2, h3]) rfl (rr_enter_of Try.func61 (by kernel_rfl) (by kernel_rfl) _ _)) (HC' (w18.alloc (.cells zC 108)) G21) ?_
        rintro e w22 ⟨rfl, g22x⟩
        have G22 := Gr.trans G21 g22x
        have f22_4 := (Below.block g22x _ (Array.getElem?_eq_some_iff.1 f21_4).1).trans f21_4
        have f22_5 := (Below.block g22x _ (Array.getElem?_eq_some_iff.1 f21_5).1).trans f21_5
        have s22 : (w18.alloc (.cells zC 108)).heap.size ≤ w22.heap.size := g22x.le
        refine ⟨_, rfl, keep _ G22, ?_⟩
        rw [re_comm _ 7 18 _ _ (by decide), re_comm _ 8 20 _ _ (by decide), re_comm _ 7 20 _ _ (by decide)]
        exact fin w22 w.drew.heap.size w18.heap.size _ rfl G22 t17 t21 (by have := u17; have := u21; omega) f22_4 f22_5
    · have G23 := Gr.alloc G17 (.cells zC 108)
      have f23_4 := (Below.heap_alloc (w.drew.alloc (.cells zC 108)) (.cells zC 108) _ (Array.getElem?_eq_some_iff.1 f17_4).1).trans f17_4
      have f23_5 := al_new (w.drew.alloc (.cells zC 108)) (.cells zC 108) _ rfl
      have t23 : w.heap.size ≤ (w.drew.alloc (.cells zC 108)).heap.size := G17.le
      have u23 : (w.drew.alloc (.cells zC 108)).heap.size = (w.drew.alloc (.cells zC 108)).heap.size := rfl
      have v23_4 : w.drew.heap.size < (w.drew.alloc (.cells zC 108)).heap.size := (Array.getElem?_eq_some_iff.1 f17_4).1
      refine st_val (d := 8) rfl (rr_alloc _ _ _ _ _ _ _ counts_zero) (keep _ G23) ?_
      refine st_one (i := 1) (oi := me4_1) (by kernel_rfl) rfl rfl ?_
      refine st_call (d := 18) rfl (rr_enter1 _ _ _ _ _ _ _ 61 _ (.agg #[vv, mv]) _ (by simp [re_ne, re_eq, re_size, re_const, hsz, h2, h3]) rfl (rr_enter_of Try.func61 (by kernel_rfl) (by kernel_rfl) _ _)) (HC ((w.drew.alloc (.cells zC 108)).alloc (.cells zC 108)) G23) ?_
      rintro e w24 ⟨rfl, g24x⟩
      have G24 := Gr.trans G23 g24x
      have f24_4 := (Below.block g24x _ (Array.getElem?_eq_some_iff.1 f23_4).1).trans f23_4
      have f24_5 := (Below.block g24x _ (Array.getElem?_eq_some_iff.1 f23_5).1).trans f23_5
      have s24 : ((w.drew.alloc (.cells zC 108)).alloc (.cells zC 108)).heap.size ≤ w24.heap.size := g24x.le
      refine ⟨_, rfl, keep _ G24, ?_⟩
      refine st_one (i := 3) (oi := me4_3) (by kernel_rfl) rfl rfl ?_
      refine st_call (d := 20) rfl (rr_enter1 _ _ _ _ _ _ _ 61 _ (.agg #[vv', mv']) _ (by simp [re_ne, re_eq, re_size, re_const, hsz, h2, h3]) rfl (rr_enter_of Try.func61 (by kernel_rfl) (by kernel_rfl) _ _)) (HC' w24 G24) ?_
      rintro e w25 ⟨rfl, g25x⟩
      have G25 := Gr.trans G24 g25x
      have f25_4 := (Below.block g25x _ (Array.getElem?_eq_some_iff.1 f24_4).1).trans f24_4
      have f25_5 := (Below.block g25x _ (Array.getElem?_eq_some_iff.1 f24_5).1).trans f24_5
      have s25 : w24.heap.size ≤ w25.heap.size := g25x.le
      refine ⟨_, rfl, keep _ G25, ?_⟩
      rw [re_comm _ 8 18 _ _ (by decide), re_comm _ 8 20 _ _ (by decide), re_comm _ 7 18 _ _ (by decide), re_comm _ 7 20 _ _ (by decide)]
      exact fin w25 w.drew.heap.size (w.drew.alloc (.cells zC 108)).heap.size _ rfl G25 t17 t23 (by have := u17; have := u23; omega) f25_4 f25_5
  · have G26 := Gr.alloc G0 (.cells zC 108)
    have f26_5 := al_new w.drew (.cells zC 108) _ rfl
    have t26 : w.heap.size ≤ w.drew.heap.size := G0.le
    have u26 : w.drew.heap.size = w.drew.heap.size := rfl
    refine st_val (d := 8) rfl (rr_alloc _ _ _ _ _ _ _ counts_zero) (keep _ G26) ?_
    refine st_pair (i := 1) (j := 4) (oi := me4_1) (oj := me4_4) (by kernel_rfl) rfl rfl rfl rfl ?_ ?_
    · refine st_call (d := 18) rfl (rr_enter1 _ _ _ _ _ _ _ 61 _ (.agg #[vv, mv]) _ (by simp [re_ne, re_eq, re_size, re_const, hsz, h2, h3]) rfl (rr_enter_of Try.func61 (by kernel_rfl) (by kernel_rfl) _ _)) (HC (w.drew.alloc (.cells zC 108)) G26) ?_
      rintro e w27 ⟨rfl, g27x⟩
      have G27 := Gr.trans G26 g27x
      have f27_5 := (Below.block g27x _ (Array.getElem?_eq_some_iff.1 f26_5).1).trans f26_5
      have s27 : (w.drew.alloc (.cells zC 108)).heap.size ≤ w27.heap.size := g27x.le
      refine ⟨_, rfl, keep _ G27, ?_⟩
      refine st_pair (i := 3) (j := 4) (oi := me4_3) (oj := me4_4) (by kernel_rfl) rfl rfl rfl rfl ?_ ?_
      · refine st_call (d := 20) rfl (rr_enter1 _ _ _ _ _ _ _ 61 _ (.agg #[vv', mv']) _ (by simp [re_ne, re_eq, re_size, re_const, hsz, h2, h3]) rfl (rr_enter_of Try.func61 (by kernel_rfl) (by kernel_rfl) _ _)) (HC' w27 G27) ?_
        rintro e w28 ⟨rfl, g28x⟩
        have G28 := Gr.trans G27 g28x
        have f28_5 := (Below.block g28x _ (Array.getElem?_eq_some_iff.1 f27_5).1).trans f27_5
        have s28 : w27.heap.size ≤ w28.heap.size := g28x.le
        refine ⟨_, rfl, keep _ G28, ?_⟩
        refine st_one (i := 4) (oi := me4_4) (by kernel_rfl) rfl rfl ?_
        have G29 := Gr.alloc G28 (.cells zC 108)
        have f29_5 := (Below.heap_alloc w28 (.cells zC 108) _ (Array.getElem?_eq_some_iff.1 f28_5).1).trans f28_5
        have f29_4 := al_new w28 (.cells zC 108) _ rfl
        have t29 : w.heap.size ≤ w28.heap.size := G28.le
        have u29 : w28.heap.size = w28.heap.size := rfl
        have v29_5 : w.drew.heap.size < w28.heap.size := (Array.getElem?_eq_some_iff.1 f28_5).1
        refine st_val (d := 7) rfl (rr_alloc _ _ _ _ _ _ _ counts_zero) (keep _ G29) ?_
        rw [re_comm _ 8 18 _ _ (by decide), re_comm _ 8 20 _ _ (by decide), re_comm _ 8 7 _ _ (by decide)]
        exact fin (w28.alloc (.cells zC 108)) w28.heap.size w.drew.heap.size _ rfl G29 t29 t26 (by have := u29; have := u26; omega) f29_4 f29_5
      · have G30 := Gr.alloc G27 (.cells zC 108)
        have f30_5 := (Below.heap_alloc w27 (.cells zC 108) _ (Array.getElem?_eq_some_iff.1 f27_5).1).trans f27_5
        have f30_4 := al_new w27 (.cells zC 108) _ rfl
        have t30 : w.heap.size ≤ w27.heap.size := G27.le
        have u30 : w27.heap.size = w27.heap.size := rfl
        have v30_5 : w.drew.heap.size < w27.heap.size := (Array.getElem?_eq_some_iff.1 f27_5).1
        refine st_val (d := 7) rfl (rr_alloc _ _ _ _ _ _ _ counts_zero) (keep _ G30) ?_
        refine st_one (i := 3) (oi := me4_3) (by kernel_rfl) rfl rfl ?_
        refine st_call (d := 20) rfl (rr_enter1 _ _ _ _ _ _ _ 61 _ (.agg #[vv', mv']) _ (by simp [re_ne, re_eq, re_size, re_const, hsz, h2, h3]) rfl (rr_enter_of Try.func61 (by kernel_rfl) (by kernel_rfl) _ _)) (HC' (w27.alloc (.cells zC 108)) G30) ?_
        rintro e w31 ⟨rfl, g31x⟩
        have G31 := Gr.trans G30 g31x
        have f31_5 := (Below.block g31x _ (Array.getElem?_eq_some_iff.1 f30_5).1).trans f30_5
        have f31_4 := (Below.block g31x _ (Array.getElem?_eq_some_iff.1 f30_4).1).trans f30_4
        have s31 : (w27.alloc (.cells zC 108)).heap.size ≤ w31.heap.size := g31x.le
        refine ⟨_, rfl, keep _ G31, ?_⟩
        rw [re_comm _ 8 18 _ _ (by decide), re_comm _ 8 7 _ _ (by decide), re_comm _ 8 20 _ _ (by decide), re_comm _ 7 20 _ _ (by decide)]
        exact fin w31 w27.heap.size w.drew.heap.size _ rfl G31 t30 t26 (by have := u30; have := u26; omega) f31_4 f31_5
    · have G32 := Gr.alloc G26 (.cells zC 108)
      have f32_5 := (Below.heap_alloc (w.drew.alloc (.cells zC 108)) (.cells zC 108) _ (Array.getElem?_eq_some_iff.1 f26_5).1).trans f26_5
      have f32_4 := al_new (w.drew.alloc (.cells zC 108)) (.cells zC 108) _ rfl
      have t32 : w.heap.size ≤ (w.drew.alloc (.cells zC 108)).heap.size := G26.le
      have u32 : (w.drew.alloc (.cells zC 108)).heap.size = (w.drew.alloc (.cells zC 108)).heap.size := rfl
      have v32_5 : w.drew.heap.size < (w.drew.alloc (.cells zC 108)).heap.size := (Array.getElem?_eq_some_iff.1 f26_5).1
      refine st_val (d := 7) rfl (rr_alloc _ _ _ _ _ _ _ counts_zero) (keep _ G32) ?_
      refine st_one (i := 1) (oi := me4_1) (by kernel_rfl) rfl rfl ?_
      refine st_call (d := 18) rfl (rr_enter1 _ _ _ _ _ _ _ 61 _ (.agg #[vv, mv]) _ (by simp [re_ne, re_eq, re_size, re_const, hsz, h2, h3]) rfl (rr_enter_of Try.func61 (by kernel_rfl) (by kernel_rfl) _ _)) (HC ((w.drew.alloc (.cells zC 108)).alloc (.cells zC 108)) G32) ?_
      rintro e w33 ⟨rfl, g33x⟩
      have G33 := Gr.trans G32 g33x
      have f33_5 := (Below.block g33x _ (Array.getElem?_eq_some_iff.1 f32_5).1).trans f32_5
      have f33_4 := (Below.block g33x _ (Array.getElem?_eq_some_iff.1 f32_4).1).trans f32_4
      have s33 : ((w.drew.alloc (.cells zC 108)).alloc (.cells zC 108)).heap.size ≤ w33.heap.size := g33x.le
      refine ⟨_, rfl, keep _ G33, ?_⟩
      refine st_one (i := 3) (oi := me4_3) (by kernel_rfl) rfl rfl ?_
      refine st_call (d := 20) rfl (rr_enter1 _ _ _ _ _ _ _ 61 _ (.agg #[vv', mv']) _ (by simp [re_ne, re_eq, re_size, re_const, hsz, h2, h3]) rfl (rr_enter_of Try.func61 (by kernel_rfl) (by kernel_rfl) _ _)) (HC' w33 G33) ?_
      rintro e w34 ⟨rfl, g34x⟩
      have G34 := Gr.trans G33 g34x
      have f34_5 := (Below.block g34x _ (Array.getElem?_eq_some_iff.1 f33_5).1).trans f33_5
      have f34_4 := (Below.block g34x _ (Array.getElem?_eq_some_iff.1 f33_4).1).trans f33_4
      have s34 : w33.heap.size ≤ w34.heap.size := g34x.le
      refine ⟨_, rfl, keep _ G34, ?_⟩
      rw [re_comm _ 8 7 _ _ (by decide), re_comm _ 8 18 _ _ (by decide), re_comm _ 8 20 _ _ (by decide), re_comm _ 7 18 _ _ (by decide), re_comm _ 7 20 _ _ (by decide)]
      exact fin w34 (w.drew.alloc (.cells zC 108)).heap.size w.drew.heap.size _ rfl G34 t32 t26 (by have := u32; have := u26; omega) f34_4 f34_5
def wi4_0 : Oper := Oper.mk (some 16) (Op.load 35 (Operand.tmp 2)) 35 "know.go:86" #[] none
def wi4_1 : Oper := Oper.mk (some 17) (Op.call (Call.mk (Callee.value (Operand.func 61)) #[Operand.tmp 16] #[35])) 108 "know.go:86" #[Edge.mk 0 Ground.data] none
def wi4_2 : Oper := Oper.mk (some 18) (Op.load 35 (Operand.tmp 3)) 35 "know.go:86" #[] none
def wi4_3 : Oper := Oper.mk (some 19) (Op.call (Call.mk (Callee.value (Operand.func 61)) #[Operand.tmp 18] #[35])) 108 "know.go:86" #[Edge.mk 2 Ground.data, Edge.mk 1 Ground.chain] none
def wi4_4 : Oper := Oper.mk (some 7) (Op.alloc 108) 0 "know.go:86" #[] none
def wi4_5 : Oper := Oper.mk (some 8) (Op.alloc 108) 0 "know.go:86" #[] none
def wi4_6 : Oper := Oper.mk none (Op.store 108 (Operand.tmp 7) (Operand.tmp 17)) 0 "know.go:86" #[Edge.mk 4 Ground.data, Edge.mk 1 Ground.data, Edge.mk 3 Ground.chain, Edge.mk 0 Ground.phase, Edge.mk 1 Ground.phase, Edge.mk 2 (Ground.textOnly Departure.lateStores), Edge.mk 3 (Ground.textOnly Departure.lateStoresUnsure), Edge.mk 4 Ground.phase, Edge.mk 5 Ground.phase] none
def wi4_7 : Oper := Oper.mk none (Op.store 108 (Operand.tmp 8) (Operand.tmp 19)) 0 "know.go:86" #[Edge.mk 5 Ground.data, Edge.mk 3 Ground.data, Edge.mk 6 Ground.chain, Edge.mk 0 Ground.phase, Edge.mk 1 Ground.phase, Edge.mk 2 Ground.phase, Edge.mk 3 Ground.phase, Edge.mk 4 Ground.phase, Edge.mk 5 Ground.phase, Edge.mk 6 Ground.phase] none
def wi4_Ops : Array Oper := #[wi4_0, wi4_1, wi4_2, wi4_3, wi4_4, wi4_5, wi4_6, wi4_7]
set_option maxHeartbeats 200000 in
set_option maxRecDepth 100000 in
theorem wi4_reg (Q : Exit → Act → World → Prop) (hQ : ∀ c a d v w, Q (.panic c) (Act.put a (some d) v) w → Q (.panic c) a w) (a : Act) (w : World) (g0 g1 : Nat) (vv mv vv' mv' : Value) (A A' : Array Value)
    (hsz : a.tmps.size = 40) (h2 : a.eval (.tmp 2) = .pointer (some ⟨g0, 0, none⟩)) (h3 : a.eval (.tmp 3) = .pointer (some ⟨g1, 0, none⟩))
    (hS0 : KS2 g0 g1 vv mv vv' mv' w) (hl0 : g0 < w.heap.size) (hl1 : g1 < w.heap.size)
    (hA5 : A.size = 5) (hA1 : A.all (·.oneCell') = true) (hB5 : A'.size = 5) (hB1 : A'.all (·.oneCell') = true)
    (HC : ∀ w', Gr w w' → Calls Try.prog 61 #[.agg #[vv, mv]] w' fun e w'' => e = .returned (.agg A) ∧ Gr w' w'')
    (HC' : ∀ w', Gr w w' → Calls Try.prog 61 #[.agg #[vv', mv']] w' fun e w'' => e = .returned (.agg A') ∧ Gr w' w'')
    (h : ∀ w' b7 b8, Gr w w' → w.heap.size ≤ b7 → w.heap.size ≤ b8 → b7 ≠ b8 → w'.heap[b7]? = some (.cells A 108 (0, 0)) → w'.heap[b8]? = some (.cells A' 108 (0, 0)) → Q .normal (Act.put (Act.put (Act.put (Act.put (Act.put (Act.put a (some 16) (.agg #[vv, mv])) (some 18) (.agg #[vv', mv'])) (some 17) (.agg A)) (some 19) (.agg A')) (some 7) (.pointer (some ⟨b7, 0, none⟩))) (some 8) (.pointer (some ⟨b8, 0, none⟩))) w') : (Code.region 4 wi4_Ops true).wp Try.prog Q a w := by
  have keep : ∀ x, Gr w x → KS2 g0 g1 vv mv vv' mv' x := fun x gx => ⟨(Below.block gx g0 hl0).trans hS0.1, (Below.block gx g1 hl1).trans hS0.2⟩
  have szA : (Try.prog.info? 108).map (·.size) = some A.size := by rw [hA5]; exact counts_size
  have szB : (Try.prog.info? 108).map (·.size) = some A'.size := by rw [hB5]; exact counts_size
  have fin : ∀ (W : World) (b7 b8 : Nat) (L : Array Bool), L = #[true, true, true, true, true, true, false, false] → Gr w W → w.heap.size ≤ b7 → w.heap.size ≤ b8 → b7 ≠ b8 → W.heap[b7]? = some (.cells zC 108 (0, 0)) → W.heap[b8]? = some (.cells zC 108 (0, 0)) →
      wpAnyH Try.prog .any wi4_Ops Q (KS2 g0 g1 vv mv vv' mv') 2 L (Act.put (Act.put (Act.put (Act.put (Act.put (Act.put a (some 16) (.agg #[vv, mv])) (some 18) (.agg #[vv', mv'])) (some 17) (.agg A)) (some 19) (.agg A')) (some 7) (.pointer (some ⟨b7, 0, none⟩))) (some 8) (.pointer (some ⟨b8, 0, none⟩))) W := by
    intro W b7 b8 L hL hg h7 h8 hne e7 e8
    subst hL
    have l7 := (Array.getElem?_eq_some_iff.1 e7).1
    have l8 := (Array.getElem?_eq_some_iff.1 e8).1
    refine st_one (i := 6) (oi := wi4_6) (by kernel_rfl) rfl rfl ?_
    have gA : Gr w (W.setRow b7 A) := below_setRow hg h7 A
    have e8' : (W.setRow b7 A).heap[b8]? = some (.cells zC 108 (0, 0)) := (setRow_other W b7 b8 A (Ne.symm hne)).trans e8
    have e7' : (W.setRow b7 A).heap[b7]? = some (.cells A 108 (0, 0)) := setRow_heap W b7 _ A _ _ e7
    refine st_row 108 (.tmp 7) (.tmp 17) rfl rfl b7 A (by simp [re_ne, re_eq, re_size, re_const, hsz, h2, h3]) (by simp [re_ne, re_eq, re_size, re_const, hsz, h2, h3]) 108 zC e7 szA (by rw [hA5]; rfl) hA1 (keep _ gA) ?_
    refine st_one (i := 7) (oi := wi4_7) (by kernel_rfl) rfl rfl ?_
    have gB : Gr w ((W.setRow b7 A).setRow b8 A') := below_setRow gA h8 A'
    have e7'' : ((W.setRow b7 A).setRow b8 A').heap[b7]? = some (.cells A 108 (0, 0)) := (setRow_other _ b8 b7 A' hne).trans e7'
    refine st_row 108 (.tmp 8) (.tmp 19) rfl rfl b8 A' (by simp [re_ne, re_eq, re_size, re_const, hsz, h2, h3]) (by simp [re_ne, re_eq, re_size, re_const, hsz, h2, h3]) 108 zC e8' szB (by rw [hB5]; rfl) hB1 (keep _ gB) ?_
    exact wpAnyH_done (by kernel_rfl) (h _ b7 b8 gB h7 h8 hne e7'' (setRow_heap _ b8 _ A' _ _ e8')) _
  refine wp_region_held_drew (S := KS2 g0 g1 vv mv vv' mv') (by kernel_rfl) hS0 (fun hHeld => ?_)
  show wpAnyH Try.prog .any wi4_Ops Q _ 8 (Array.replicate 8 false) a w.drew
  refine re_tk (i := 0) (oi := wi4_0) (v := .agg #[vv, mv]) (d := 16) hQ rfl rfl (by kernel_rfl) (by kernel_rfl) (by kernel_rfl) (Or.inl ⟨re_none _ rfl, fun wx hS => rr_lK _ _ _ _ _ _ _ _ g0 vv mv (by simp [re_ne, re_eq, re_size, re_const, hsz, h2, h3]) (kc0 hS.1) (kc1 hS.1)⟩) hHeld ?_
  refine re_tk (i := 2) (oi := wi4_2) (v := .agg #[vv', mv']) (d := 18) hQ rfl rfl (by kernel_rfl) (by kernel_rfl) (by kernel_rfl) (Or.inl ⟨re_none _ rfl, fun wx hS => rr_lK _ _ _ _ _ _ _ _ g1 vv' mv' (by simp [re_ne, re_eq, re_size, re_const, hsz, h2, h3]) (kc0 hS.2) (kc1 hS.2)⟩) hHeld ?_
  have G0 : Gr w w.drew := (Gr.refl w).drew
  refine st_tri (i := 1) (j := 4) (k := 5) (oi := wi4_1) (oj := wi4_4) (ok := wi4_5) (by kernel_rfl) rfl rfl rfl rfl rfl rfl ?_ ?_ ?_
  · refine st_call (d := 17) rfl (rr_enter1 _ _ _ _ _ _ _ 61 _ (.agg #[vv, mv]) _ (by simp [re_ne, re_eq, re_size, re_const, hsz, h2, h3]) rfl (rr_enter_of Try.func61 (by kernel_rfl) (by kernel_rfl) _ _)) (HC w.drew G0) ?_
    rintro e w1 ⟨rfl, g1x⟩
    have G1 := Gr.trans G0 g1x
    have s1 : w.drew.heap.size ≤ w1.heap.size := g1x.le
    refine ⟨_, rfl, keep _ G1, ?_⟩
    refine st_tri (i := 3) (j := 4) (k := 5) (oi := wi4_3) (oj := wi4_4) (ok := wi4_5) (by kernel_rfl) rfl rfl rfl rfl rfl rfl ?_ ?_ ?_
    · refine st_call (d := 19) rfl (rr_enter1 _ _ _ _ _ _ _ 61 _ (.agg #[vv', mv']) _ (by simp [re_ne, re_eq, re_size, re_const, hsz, h2, h3]) rfl (rr_enter_of Try.func61 (by kernel_rfl) (by kernel_rfl) _ _)) (HC' w1 G1) ?_
      rintro e w2 ⟨rfl, g2x⟩
      have G2 := Gr.trans G1 g2x
      have s2 : w1.heap.size ≤ w2.heap.size := g2x.le
      refine ⟨_, rfl, keep _ G2, ?_⟩
      refine st_pair (i := 4) (j := 5) (oi := wi4_4) (oj := wi4_5) (by kernel_rfl) rfl rfl rfl rfl ?_ ?_
      · have G3 := Gr.alloc G2 (.cells zC 108)
        have f3_4 := al_new w2 (.cells zC 108) _ rfl
        have t3 : w.heap.size ≤ w2.heap.size := G2.le
        have u3 : w2.heap.size = w2.heap.size := rfl
        refine st_val (d := 7) rfl (rr_alloc _ _ _ _ _ _ _ counts_zero) (keep _ G3) ?_
        refine st_one (i := 5) (oi := wi4_5) (by kernel_rfl) rfl rfl ?_
        have G4 := Gr.alloc G3 (.cells zC 108)
        have f4_4 := (Below.heap_alloc (w2.alloc (.cells zC 108)) (.cells zC 108) _ (Array.getElem?_eq_some_iff.1 f3_4).1).trans f3_4
        have f4_5 := al_new (w2.alloc (.cells zC 108)) (.cells zC 108) _ rfl
        have t4 : w.heap.size ≤ (w2.alloc (.cells zC 108)).heap.size := G3.le
        have u4 : (w2.alloc (.cells zC 108)).heap.size = (w2.alloc (.cells zC 108)).heap.size := rfl
        have v4_4 : w2.heap.size < (w2.alloc (.cells zC 108)).heap.size := (Array.getElem?_eq_some_iff.1 f3_4).1
        refine st_val (d := 8) rfl (rr_alloc _ _ _ _ _ _ _ counts_zero) (keep _ G4) ?_
        exact fin ((w2.alloc (.cells zC 108)).alloc (.cells zC 108)) w2.heap.size (w2.alloc (.cells zC 108)).heap.size _ rfl G4 t3 t4 (by have := u3; have := u4; omega) f4_4 f4_5
      · have G5 := Gr.alloc G2 (.cells zC 108)
        have f5_5 := al_new w2 (.cells zC 108) _ rfl
        have t5 : w.heap.size ≤ w2.heap.size := G2.le
        have u5 : w2.heap.size = w2.heap.size := rfl
        refine st_val (d := 8) rfl (rr_alloc _ _ _ _ _ _ _ counts_zero) (keep _ G5) ?_
        refine st_one (i := 4) (oi := wi4_4) (by kernel_rfl) rfl rfl ?_
        have G6 := Gr.alloc G5 (.cells zC 108)
        have f6_5 := (Below.heap_alloc (w2.alloc (.cells zC 108)) (.cells zC 108) _ (Array.getElem?_eq_some_iff.1 f5_5).1).trans f5_5
        have f6_4 := al_new (w2.alloc (.cells zC 108)) (.cells zC 108) _ rfl
        have t6 : w.heap.size ≤ (w2.alloc (.cells zC 108)).heap.size := G5.le
        have u6 : (w2.alloc (.cells zC 108)).heap.size = (w2.alloc (.cells zC 108)).heap.size := rfl
        have v6_5 : w2.heap.size < (w2.alloc (.cells zC 108)).heap.size := (Array.getElem?_eq_some_iff.1 f5_5).1
        refine st_val (d := 7) rfl (rr_alloc _ _ _ _ _ _ _ counts_zero) (keep _ G6) ?_
        rw [re_comm _ 8 7 _ _ (by decide)]
        exact fin ((w2.alloc (.cells zC 108)).alloc (.cells zC 108)) (w2.alloc (.cells zC 108)).heap.size w2.heap.size _ rfl G6 t6 t5 (by have := u6; have := u5; omega) f6_4 f6_5
    · have G7 := Gr.alloc G1 (.cells zC 108)
      have f7_4 := al_new w1 (.cells zC 108) _ rfl
      have t7 : w.heap.size ≤ w1.heap.size := G1.le
      have u7 : w1.heap.size = w1.heap.size := rfl
      refine st_val (d := 7) rfl (rr_alloc _ _ _ _ _ _ _ counts_zero) (keep _ G7) ?_
      refine st_pair (i := 3) (j := 5) (oi := wi4_3) (oj := wi4_5) (by kernel_rfl) rfl rfl rfl rfl ?_ ?_
      · refine st_call (d := 19) rfl (rr_enter1 _ _ _ _ _ _ _ 61 _ (.agg #[vv', mv']) _ (by simp [re_ne, re_eq, re_size, re_const, hsz, h2, h3]) rfl (rr_enter_of Try.func61 (by kernel_rfl) (by kernel_rfl) _ _)) (HC' (w1.alloc (.cells zC 108)) G7) ?_
        rintro e w8 ⟨rfl, g8x⟩
        have G8 := Gr.trans G7 g8x
        have f8_4 := (Below.block g8x _ (Array.getElem?_eq_some_iff.1 f7_4).1).trans f7_4
        have s8 : (w1.alloc (.cells zC 108)).heap.size ≤ w8.heap.size := g8x.le
        refine ⟨_, rfl, keep _ G8, ?_⟩
        refine st_one (i := 5) (oi := wi4_5) (by kernel_rfl) rfl rfl ?_
        have G9 := Gr.alloc G8 (.cells zC 108)
        have f9_4 := (Below.heap_alloc w8 (.cells zC 108) _ (Array.getElem?_eq_some_iff.1 f8_4).1).trans f8_4
        have f9_5 := al_new w8 (.cells zC 108) _ rfl
        have t9 : w.heap.size ≤ w8.heap.size := G8.le
        have u9 : w8.heap.size = w8.heap.size := rfl
        have v9_4 : w1.heap.size < w8.heap.size := (Array.getElem?_eq_some_iff.1 f8_4).1
        refine st_val (d := 8) rfl (rr_alloc _ _ _ _ _ _ _ counts_zero) (keep _ G9) ?_
        rw [re_comm _ 7 19 _ _ (by decide)]
        exact fin (w8.alloc (.cells zC 108)) w1.heap.size w8.heap.size _ rfl G9 t7 t9 (by have := u7; have := u9; omega) f9_4 f9_5
      · have G10 := Gr.alloc G7 (.cells zC 108)
        have f10_4 := (Below.heap_alloc (w1.alloc (.cells zC 108)) (.cells zC 108) _ (Array.getElem?_eq_some_iff.1 f7_4).1).trans f7_4
        have f10_5 := al_new (w1.alloc (.cells zC 108)) (.cells zC 108) _ rfl
        have t10 : w.heap.size ≤ (w1.alloc (.cells zC 108)).heap.size := G7.le
        have u10 : (w1.alloc (.cells zC 108)).heap.size = (w1.alloc (.cells zC 108)).heap.size := rfl
        have v10_4 : w1.heap.size < (w1.alloc (.cells zC 108)).heap.size := (Array.getElem?_eq_some_iff.1 f7_4).1
        refine st_val (d := 8) rfl (rr_alloc _ _ _ _ _ _ _ counts_zero) (keep _ G10) ?_
        refine st_one (i := 3) (oi := wi4_3) (by kernel_rfl) rfl rfl ?_
        refine st_call (d := 19) rfl (rr_enter1 _ _ _ _ _ _ _ 61 _ (.agg #[vv', mv']) _ (by simp [re_ne, re_eq, re_size, re_const, hsz, h2, h3]) rfl (rr_enter_of Try.func61 (by kernel_rfl) (by kernel_rfl) _ _)) (HC' ((w1.alloc (.cells zC 108)).alloc (.cells zC 108)) G10) ?_
        rintro e w11 ⟨rfl, g11x⟩
        have G11 := Gr.trans G10 g11x
        have f11_4 := (Below.block g11x _ (Array.getElem?_eq_some_iff.1 f10_4).1).trans f10_4
        have f11_5 := (Below.block g11x _ (Array.getElem?_eq_some_iff.1 f10_5).1).trans f10_5
        have s11 : ((w1.alloc (.cells zC 108)).alloc (.cells zC 108)).heap.size ≤ w11.heap.size := g11x.le
        refine ⟨_, rfl, keep _ G11, ?_⟩
        rw [re_comm _ 8 19 _ _ (by decide), re_comm _ 7 19 _ _ (by decide)]
        exact fin w11 w1.heap.size (w1.alloc (.cells zC 108)).heap.size _ rfl G11 t7 t10 (by have := u7; have := u10; omega) f11_4 f11_5
    · have G12 := Gr.alloc G1 (.cells zC 108)
      have f12_5 := al_new w1 (.cells zC 108) _ rfl
      have t12 : w.heap.size ≤ w1.heap.size := G1.le
      have u12 : w1.heap.size = w1.heap.size := rfl
      refine st_val (d := 8) rfl (rr_alloc _ _ _ _ _ _ _ counts_zero) (keep _ G12) ?_
      refine st_pair (i := 3) (j := 4) (oi := wi4_3) (oj := wi4_4) (by kernel_rfl) rfl rfl rfl rfl ?_ ?_
      · refine st_call (d := 19) rfl (rr_enter1 _ _ _ _ _ _ _ 61 _ (.agg #[vv', mv']) _ (by simp [re_ne, re_eq, re_size, re_const, hsz, h2, h3]) rfl (rr_enter_of Try.func61 (by kernel_rfl) (by kernel_rfl) _ _)) (HC' (w1.alloc (.cells zC 108)) G12) ?_
        rintro e w13 ⟨rfl, g13x⟩
        have G13 := Gr.trans G12 g13x
        have f13_5 := (Below.block g13x _ (Array.getElem?_eq_some_iff.1 f12_5).1).trans f12_5
        have s13 : (w1.alloc (.cells zC 108)).heap.size ≤ w13.heap.size := g13x.le
        refine ⟨_, rfl, keep _ G13, ?_⟩
        refine st_one (i := 4) (oi := wi4_4) (by kernel_rfl) rfl rfl ?_
        have G14 := Gr.alloc G13 (.cells zC 108)
        have f14_5 := (Below.heap_alloc w13 (.cells zC 108) _ (Array.getElem?_eq_some_iff.1 f13_5).1).trans f13_5
        have f14_4 := al_new w13 (.cells zC 108) _ rfl
        have t14 : w.heap.size ≤ w13.heap.size := G13.le
        have u14 : w13.heap.size = w13.heap.size := rfl
        have v14_5 : w1.heap.size < w13.heap.size := (Array.getElem?_eq_some_iff.1 f13_5).1
        refine st_val (d := 7) rfl (rr_alloc _ _ _ _ _ _ _ counts_zero) (keep _ G14) ?_
        rw [re_comm _ 8 19 _ _ (by decide), re_comm _ 8 7 _ _ (by decide)]
        exact fin (w13.alloc (.cells zC 108)) w13.heap.size w1.heap.size _ rfl G14 t14 t12 (by have := u14; have := u12; omega) f14_4 f14_5
      · have G15 := Gr.alloc G12 (.cells zC 108)
        have f15_5 := (Below.heap_alloc (w1.alloc (.cells zC 108)) (.cells zC 108) _ (Array.getElem?_eq_some_iff.1 f12_5).1).trans f12_5
        have f15_4 := al_new (w1.alloc (.cells zC 108)) (.cells zC 108) _ rfl
        have t15 : w.heap.size ≤ (w1.alloc (.cells zC 108)).heap.size := G12.le
        have u15 : (w1.alloc (.cells zC 108)).heap.size = (w1.alloc (.cells zC 108)).heap.size := rfl
        have v15_5 : w1.heap.size < (w1.alloc (.cells zC 108)).heap.size := (Array.getElem?_eq_some_iff.1 f12_5).1
        refine st_val (d := 7) rfl (rr_alloc _ _ _ _ _ _ _ counts_zero) (keep _ G15) ?_
        refine st_one (i := 3) (oi := wi4_3) (by kernel_rfl) rfl rfl ?_
        refine st_call (d := 19) rfl (rr_enter1 _ _ _ _ _ _ _ 61 _ (.agg #[vv', mv']) _ (by simp [re_ne, re_eq, re_size, re_const, hsz, h2, h3]) rfl (rr_enter_of Try.func61 (by kernel_rfl) (by kernel_rfl) _ _)) (HC' ((w1.alloc (.cells zC 108)).alloc (.cells zC 108)) G15) ?_
        rintro e w16 ⟨rfl, g16x⟩
        have G16 := Gr.trans G15 g16x
        have f16_5 := (Below.block g16x _ (Array.getElem?_eq_some_iff.1 f15_5).1).trans f15_5
        have f16_4 := (Below.block g16x _ (Array.getElem?_eq_some_iff.1 f15_4).1).trans f15_4
        have s16 : ((w1.alloc (.cells zC 108)).alloc (.cells zC 108)).heap.size ≤ w16.heap.size := g16x.le
        refine ⟨_, rfl, keep _ G16, ?_⟩
        rw [re_comm _ 8 7 _ _ (by decide), re_comm _ 8 19 _ _ (by decide), re_comm _ 7 19 _ _ (by decide)]
        exact fin w16 (w1.alloc (.cells zC 108)).heap.size w1.heap.size _ rfl G16 t15 t12 (by have := u15; have := u12; omega) f16_4 f16_5
  · have G17 := Gr.alloc G0 (.cells zC 108)
    have f17_4 := al_new w.drew (.cells zC 108) _ rfl
    have t17 : w.heap.size ≤ w.drew.heap.size := G0.le
    have u17 : w.drew.heap.size = w.drew.heap.size := rfl
    refine st_val (d := 7) rfl (rr_alloc _ _ _ _ _ _ _ counts_zero) (keep _ G17) ?_
    refine st_pair (i := 1) (j := 5) (oi := wi4_1) (oj := wi4_5) (by kernel_rfl) rfl rfl rfl rfl ?_ ?_
    · refine st_call (d := 17) rfl (rr_enter1 _ _ _ _ _ _ _ 61 _ (.agg #[vv, mv]) _ (by simp [re_ne, re_eq, re_size, re_const, hsz, h2, h3]) rfl (rr_enter_of Try.func61 (by kernel_rfl) (by kernel_rfl) _ _)) (HC (w.drew.alloc (.cells zC 108)) G17) ?_
      rintro e w18 ⟨rfl, g18x⟩
      have G18 := Gr.trans G17 g18x
      have f18_4 := (Below.block g18x _ (Array.getElem?_eq_some_iff.1 f17_4).1).trans f17_4
      have s18 : (w.drew.alloc (.cells zC 108)).heap.size ≤ w18.heap.size := g18x.le
      refine ⟨_, rfl, keep _ G18, ?_⟩
      refine st_pair (i := 3) (j := 5) (oi := wi4_3) (oj := wi4_5) (by kernel_rfl) rfl rfl rfl rfl ?_ ?_
      · refine st_call (d := 19) rfl (rr_enter1 _ _ _ _ _ _ _ 61 _ (.agg #[vv', mv']) _ (by simp [re_ne, re_eq, re_size, re_const, hsz, h2, h3]) rfl (rr_enter_of Try.func61 (by kernel_rfl) (by kernel_rfl) _ _)) (HC' w18 G18) ?_
        rintro e w19 ⟨rfl, g19x⟩
        have G19 := Gr.trans G18 g19x
        have f19_4 := (Below.block g19x _ (Array.getElem?_eq_some_iff.1 f18_4).1).trans f18_4
        have s19 : w18.heap.size ≤ w19.heap.size := g19x.le
        refine ⟨_, rfl, keep _ G19, ?_⟩
        refine st_one (i := 5) (oi := wi4_5) (by kernel_rfl) rfl rfl ?_
        have G20 := Gr.alloc G19 (.cells zC 108)
        have f20_4 := (Below.heap_alloc w19 (.cells zC 108) _ (Array.getElem?_eq_some_iff.1 f19_4).1).trans f19_4
        have f20_5 := al_new w19 (.cells zC 108) _ rfl
        have t20 : w.heap.size ≤ w19.heap.size := G19.le
        have u20 : w19.heap.size = w19.heap.size := rfl
        have v20_4 : w.drew.heap.size < w19.heap.size := (Array.getElem?_eq_some_iff.1 f19_4).1
        refine st_val (d := 8) rfl (rr_alloc _ _ _ _ _ _ _ counts_zero) (keep _ G20) ?_
        rw [re_comm _ 7 17 _ _ (by decide), re_comm _ 7 19 _ _ (by decide)]
        exact fin (w19.alloc (.cells zC 108)) w.drew.heap.size w19.heap.size _ rfl G20 t17 t20 (by have := u17; have := u20; omega) f20_4 f20_5
      · have G21 := Gr.alloc G18 (.cells zC 108)
        have f21_4 := (Below.heap_alloc w18 (.cells zC 108) _ (Array.getElem?_eq_some_iff.1 f18_4).1).trans f18_4
        have f21_5 := al_new w18 (.cells zC 108) _ rfl
        have t21 : w.heap.size ≤ w18.heap.size := G18.le
        have u21 : w18.heap.size = w18.heap.size := rfl
        have v21_4 : w.drew.heap.size < w18.heap.size := (Array.getElem?_eq_some_iff.1 f18_4).1
        refine st_val (d := 8) rfl (rr_alloc _ _ _ _ _ _ _ counts_zero) (keep _ G21) ?_
        refine st_one (i := 3) (oi := wi4_3) (by kernel_rfl) rfl rfl ?_
        refine st_call (d := 19) rfl (rr_enter1 _ _ _ _ _ _ _ 61 _ (.agg #[vv', mv']) _ (by simp [re_ne, re_eq, re_size, re_const, hsz, h2, h3]) rfl (rr_enter_of Try.func61 (by kernel_rfl) (by kernel_rfl) _ _)) (HC' (w18.alloc (.cells zC 108)) G21) ?_
        rintro e w22 ⟨rfl, g22x⟩
        have G22 := Gr.trans G21 g22x
        have f22_4 := (Below.block g22x _ (Array.getElem?_eq_some_iff.1 f21_4).1).trans f21_4
        have f22_5 := (Below.block g22x _ (Array.getElem?_eq_some_iff.1 f21_5).1).trans f21_5
        have s22 : (w18.alloc (.cells zC 108)).heap.size ≤ w22.heap.size := g22x.le
        refine ⟨_, rfl, keep _ G22, ?_⟩
        rw [re_comm _ 7 17 _ _ (by decide), re_comm _ 8 19 _ _ (by decide), re_comm _ 7 19 _ _ (by decide)]
        exact fin w22 w.drew.heap.size w18.heap.size _ rfl G22 t17 t21 (by have := u17; have := u21; omega) f22_4 f22_5
    · have G23 := Gr.alloc G17 (.cells zC 108)
      have f23_4 := (Below.heap_alloc (w.drew.alloc (.cells zC 108)) (.cells zC 108) _ (Array.getElem?_eq_some_iff.1 f17_4).1).trans f17_4
      have f23_5 := al_new (w.drew.alloc (.cells zC 108)) (.cells zC 108) _ rfl
      have t23 : w.heap.size ≤ (w.drew.alloc (.cells zC 108)).heap.size := G17.le
      have u23 : (w.drew.alloc (.cells zC 108)).heap.size = (w.drew.alloc (.cells zC 108)).heap.size := rfl
      have v23_4 : w.drew.heap.size < (w.drew.alloc (.cells zC 108)).heap.size := (Array.getElem?_eq_some_iff.1 f17_4).1
      refine st_val (d := 8) rfl (rr_alloc _ _ _ _ _ _ _ counts_zero) (keep _ G23) ?_
      refine st_one (i := 1) (oi := wi4_1) (by kernel_rfl) rfl rfl ?_
      refine st_call (d := 17) rfl (rr_enter1 _ _ _ _ _ _ _ 61 _ (.agg #[vv, mv]) _ (by simp [re_ne, re_eq, re_size, re_const, hsz, h2, h3]) rfl (rr_enter_of Try.func61 (by kernel_rfl) (by kernel_rfl) _ _)) (HC ((w.drew.alloc (.cells zC 108)).alloc (.cells zC 108)) G23) ?_
      rintro e w24 ⟨rfl, g24x⟩
      have G24 := Gr.trans G23 g24x
      have f24_4 := (Below.block g24x _ (Array.getElem?_eq_some_iff.1 f23_4).1).trans f23_4
      have f24_5 := (Below.block g24x _ (Array.getElem?_eq_some_iff.1 f23_5).1).trans f23_5
      have s24 : ((w.drew.alloc (.cells zC 108)).alloc (.cells zC 108)).heap.size ≤ w24.heap.size := g24x.le
      refine ⟨_, rfl, keep _ G24, ?_⟩
      refine st_one (i := 3) (oi := wi4_3) (by kernel_rfl) rfl rfl ?_
      refine st_call (d := 19) rfl (rr_enter1 _ _ _ _ _ _ _ 61 _ (.agg #[vv', mv']) _ (by simp [re_ne, re_eq, re_size, re_const, hsz, h2, h3]) rfl (rr_enter_of Try.func61 (by kernel_rfl) (by kernel_rfl) _ _)) (HC' w24 G24) ?_
      rintro e w25 ⟨rfl, g25x⟩
      have G25 := Gr.trans G24 g25x
      have f25_4 := (Below.block g25x _ (Array.getElem?_eq_some_iff.1 f24_4).1).trans f24_4
      have f25_5 := (Below.block g25x _ (Array.getElem?_eq_some_iff.1 f24_5).1).trans f24_5
      have s25 : w24.heap.size ≤ w25.heap.size := g25x.le
      refine ⟨_, rfl, keep _ G25, ?_⟩
      rw [re_comm _ 8 17 _ _ (by decide), re_comm _ 8 19 _ _ (by decide), re_comm _ 7 17 _ _ (by decide), re_comm _ 7 19 _ _ (by decide)]
      exact fin w25 w.drew.heap.size (w.drew.alloc (.cells zC 108)).heap.size _ rfl G25 t17 t23 (by have := u17; have := u23; omega) f25_4 f25_5
  · have G26 := Gr.alloc G0 (.cells zC 108)
    have f26_5 := al_new w.drew (.cells zC 108) _ rfl
    have t26 : w.heap.size ≤ w.drew.heap.size := G0.le
    have u26 : w.drew.heap.size = w.drew.heap.size := rfl
    refine st_val (d := 8) rfl (rr_alloc _ _ _ _ _ _ _ counts_zero) (keep _ G26) ?_
    refine st_pair (i := 1) (j := 4) (oi := wi4_1) (oj := wi4_4) (by kernel_rfl) rfl rfl rfl rfl ?_ ?_
    · refine st_call (d := 17) rfl (rr_enter1 _ _ _ _ _ _ _ 61 _ (.agg #[vv, mv]) _ (by simp [re_ne, re_eq, re_size, re_const, hsz, h2, h3]) rfl (rr_enter_of Try.func61 (by kernel_rfl) (by kernel_rfl) _ _)) (HC (w.drew.alloc (.cells zC 108)) G26) ?_
      rintro e w27 ⟨rfl, g27x⟩
      have G27 := Gr.trans G26 g27x
      have f27_5 := (Below.block g27x _ (Array.getElem?_eq_some_iff.1 f26_5).1).trans f26_5
      have s27 : (w.drew.alloc (.cells zC 108)).heap.size ≤ w27.heap.size := g27x.le
      refine ⟨_, rfl, keep _ G27, ?_⟩
      refine st_pair (i := 3) (j := 4) (oi := wi4_3) (oj := wi4_4) (by kernel_rfl) rfl rfl rfl rfl ?_ ?_
      · refine st_call (d := 19) rfl (rr_enter1 _ _ _ _ _ _ _ 61 _ (.agg #[vv', mv']) _ (by simp [re_ne, re_eq, re_size, re_const, hsz, h2, h3]) rfl (rr_enter_of Try.func61 (by kernel_rfl) (by kernel_rfl) _ _)) (HC' w27 G27) ?_
        rintro e w28 ⟨rfl, g28x⟩
        have G28 := Gr.trans G27 g28x
        have f28_5 := (Below.block g28x _ (Array.getElem?_eq_some_iff.1 f27_5).1).trans f27_5
        have s28 : w27.heap.size ≤ w28.heap.size := g28x.le
        refine ⟨_, rfl, keep _ G28, ?_⟩
        refine st_one (i := 4) (oi := wi4_4) (by kernel_rfl) rfl rfl ?_
        have G29 := Gr.alloc G28 (.cells zC 108)
        have f29_5 := (Below.heap_alloc w28 (.cells zC 108) _ (Array.getElem?_eq_some_iff.1 f28_5).1).trans f28_5
        have f29_4 := al_new w28 (.cells zC 108) _ rfl
        have t29 : w.heap.size ≤ w28.heap.size := G28.le
        have u29 : w28.heap.size = w28.heap.size := rfl
        have v29_5 : w.drew.heap.size < w28.heap.size := (Array.getElem?_eq_some_iff.1 f28_5).1
        refine st_val (d := 7) rfl (rr_alloc _ _ _ _ _ _ _ counts_zero) (keep _ G29) ?_
        rw [re_comm _ 8 17 _ _ (by decide), re_comm _ 8 19 _ _ (by decide), re_comm _ 8 7 _ _ (by decide)]
        exact fin (w28.alloc (.cells zC 108)) w28.heap.size w.drew.heap.size _ rfl G29 t29 t26 (by have := u29; have := u26; omega) f29_4 f29_5
      · have G30 := Gr.alloc G27 (.cells zC 108)
        have f30_5 := (Below.heap_alloc w27 (.cells zC 108) _ (Array.getElem?_eq_some_iff.1 f27_5).1).trans f27_5
        have f30_4 := al_new w27 (.cells zC 108) _ rfl
        have t30 : w.heap.size ≤ w27.heap.size := G27.le
        have u30 : w27.heap.size = w27.heap.size := rfl
        have v30_5 : w.drew.heap.size < w27.heap.size := (Array.getElem?_eq_some_iff.1 f27_5).1
        refine st_val (d := 7) rfl (rr_alloc _ _ _ _ _ _ _ counts_zero) (keep _ G30) ?_
        refine st_one (i := 3) (oi := wi4_3) (by kernel_rfl) rfl rfl ?_
        refine st_call (d := 19) rfl (rr_enter1 _ _ _ _ _ _ _ 61 _ (.agg #[vv', mv']) _ (by simp [re_ne, re_eq, re_size, re_const, hsz, h2, h3]) rfl (rr_enter_of Try.func61 (by kernel_rfl) (by kernel_rfl) _ _)) (HC' (w27.alloc (.cells zC 108)) G30) ?_
        rintro e w31 ⟨rfl, g31x⟩
        have G31 := Gr.trans G30 g31x
        have f31_5 := (Below.block g31x _ (Array.getElem?_eq_some_iff.1 f30_5).1).trans f30_5
        have f31_4 := (Below.block g31x _ (Array.getElem?_eq_some_iff.1 f30_4).1).trans f30_4
        have s31 : (w27.alloc (.cells zC 108)).heap.size ≤ w31.heap.size := g31x.le
        refine ⟨_, rfl, keep _ G31, ?_⟩
        rw [re_comm _ 8 17 _ _ (by decide), re_comm _ 8 7 _ _ (by decide), re_comm _ 8 19 _ _ (by decide), re_comm _ 7 19 _ _ (by decide)]
        exact fin w31 w27.heap.size w.drew.heap.size _ rfl G31 t30 t26 (by have := u30; have := u26; omega) f31_4 f31_5
    · have G32 := Gr.alloc G26 (.cells zC 108)
      have f32_5 := (Below.heap_alloc (w.drew.alloc (.cells zC 108)) (.cells zC 108) _ (Array.getElem?_eq_some_iff.1 f26_5).1).trans f26_5
      have f32_4 := al_new (w.drew.alloc (.cells zC 108)) (.cells zC 108) _ rfl
      have t32 : w.heap.size ≤ (w.drew.alloc (.cells zC 108)).heap.size := G26.le
      have u32 : (w.drew.alloc (.cells zC 108)).heap.size = (w.drew.alloc (.cells zC 108)).heap.size := rfl
      have v32_5 : w.drew.heap.size < (w.drew.alloc (.cells zC 108)).heap.size := (Array.getElem?_eq_some_iff.1 f26_5).1
      refine st_val (d := 7) rfl (rr_alloc _ _ _ _ _ _ _ counts_zero) (keep _ G32) ?_
      refine st_one (i := 1) (oi := wi4_1) (by kernel_rfl) rfl rfl ?_
      refine st_call (d := 17) rfl (rr_enter1 _ _ _ _ _ _ _ 61 _ (.agg #[vv, mv]) _ (by simp [re_ne, re_eq, re_size, re_const, hsz, h2, h3]) rfl (rr_enter_of Try.func61 (by kernel_rfl) (by kernel_rfl) _ _)) (HC ((w.drew.alloc (.cells zC 108)).alloc (.cells zC 108)) G32) ?_
      rintro e w33 ⟨rfl, g33x⟩
      have G33 := Gr.trans G32 g33x
      have f33_5 := (Below.block g33x _ (Array.getElem?_eq_some_iff.1 f32_5).1).trans f32_5
      have f33_4 := (Below.block g33x _ (Array.getElem?_eq_some_iff.1 f32_4).1).trans f32_4
      have s33 : ((w.drew.alloc (.cells zC 108)).alloc (.cells zC 108)).heap.size ≤ w33.heap.size := g33x.le
      refine ⟨_, rfl, keep _ G33, ?_⟩
      refine st_one (i := 3) (oi := wi4_3) (by kernel_rfl) rfl rfl ?_
      refine st_call (d := 19) rfl (rr_enter1 _ _ _ _ _ _ _ 61 _ (.agg #[vv', mv']) _ (by simp [re_ne, re_eq, re_size, re_const, hsz, h2, h3]) rfl (rr_enter_of Try.func61 (by kernel_rfl) (by kernel_rfl) _ _)) (HC' w33 G33) ?_
      rintro e w34 ⟨rfl, g34x⟩
      have G34 := Gr.trans G33 g34x
      have f34_5 := (Below.block g34x _ (Array.getElem?_eq_some_iff.1 f33_5).1).trans f33_5
      have f34_4 := (Below.block g34x _ (Array.getElem?_eq_some_iff.1 f33_4).1).trans f33_4
      have s34 : w33.heap.size ≤ w34.heap.size := g34x.le
      refine ⟨_, rfl, keep _ G34, ?_⟩
      rw [re_comm _ 8 7 _ _ (by decide), re_comm _ 8 17 _ _ (by decide), re_comm _ 8 19 _ _ (by decide), re_comm _ 7 17 _ _ (by decide), re_comm _ 7 19 _ _ (by decide)]
      exact fin w34 (w.drew.alloc (.cells zC 108)).heap.size w.drew.heap.size _ rfl G34 t32 t26 (by have := u32; have := u26; omega) f34_4 f34_5
end Go.Proofs.Ytghjfakellaecaa
