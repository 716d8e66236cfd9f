/- The walk of PartNarrows. -/
import Derived.Test.YtghjfakellaecaaGreatPa5
set_option linter.unusedVariables false
set_option linter.unusedSimpArgs false
namespace Go.Proofs.YtghjfakellaecaaGreat
open Go.RowKit Rm Gx
set_option maxHeartbeats 8000000 in
set_option maxRecDepth 100000 in
theorem partNarrows_bad0 (Fs0 : List (List BoxI)) (Ls0 : List (List (List Int))) (fa0 la0 : Option Addr) (fc0 lc0 : Nat) (hfc0 : Fs0.length ≤ fc0) (fv gv : Value) (t n a c : Int) (lf : List BoxI) (hbad : ¬ chkF lf = 0) (w : World) (hF0 : RdV (fun w u x => RdF w u x) w fa0 Fs0) (hL0 : RdV (fun w u x => RdLL w u x) w la0 Ls0) (hfl : RdF w fv lf) :
    Calls Tryz.prog 5 #[.slice fa0 Fs0.length fc0, .slice la0 Ls0.length lc0, fv, gv, .agg #[.int .i64 (t), .int .i64 (n)], .agg #[.int .i64 (a), .int .i64 (c)]] w fun e w' => e = .returned (.bool true) ∧ Gr w w' := by
  refine enter (N := 127) Tryz.func5 rfl rfl rfl (fun a0 ok0 h0 => ?_)
  have e0_0 : a0.eval (.tmp 0) = .slice fa0 Fs0.length fc0 := h0 0 _ rfl
  have e0_1 : a0.eval (.tmp 1) = .slice la0 Ls0.length lc0 := h0 1 _ rfl
  have e0_2 : a0.eval (.tmp 2) = fv := h0 2 _ rfl
  have e0_3 : a0.eval (.tmp 3) = gv := h0 3 _ rfl
  have e0_4 : a0.eval (.tmp 4) = .agg #[.int .i64 (t), .int .i64 (n)] := h0 4 _ rfl
  have e0_5 : a0.eval (.tmp 5) = .agg #[.int .i64 (a), .int .i64 (c)] := h0 5 _ rfl
  clear h0
  have G0 := Gr.refl w
  refine wp_seq_k (fun K1 hK1 => ?_)
  refine wp_region_lit ?_
  refine sal (cs := #[.int .i64 (t), .int .i64 (n)]) ok0 rfl (wn _ rfl) rfl (o_box e0_4) (fun an2 w4 b3 W5 n2 => ?_)
  have l6 : w.heap.size ≤ b3 := by rw [W5.eq]; exact G0.size
  have G7 := G0.trans W5.gr
  refine sal (cs := #[.int .i64 (a), .int .i64 (c)]) n2.ok rfl (wn _ rfl) rfl (o_box (n2.ne rfl e0_5)) (fun an8 w10 b9 W11 n8 => ?_)
  have l12 : b3 < b9 := by rw [W11.eq]; exact W5.bk.lt
  have l13 : w.heap.size ≤ b9 := by rw [W11.eq]; exact G7.size
  have G14 := G7.trans W11.gr
  have B15 := W5.bk.gr W11.gr
  refine sv n8.ok rfl (wn _ rfl) rfl (o_as ev_const) (fun an16 n16 => ?_)
  refine wpList_nil ?_
  refine th_n (hK1 _ _ ?_)
  refine wp_seq_k (fun K17 hK17 => ?_)
  refine wp_seq_k (fun K18 hK18 => ?_)
  refine wp_region_lit ?_
  refine sc n16.ok rfl (wn _ rfl) rfl (o_f0 Tryz.func20 rfl rfl rfl ) (partBegun_any w10) ?_
  rintro _ w20 ⟨rfl, g21⟩
  refine ⟨_, rfl, fun an19 n19 => ?_⟩
  have G22 := G14.trans g21
  have B23 := B15.gr g21
  have B24 := W11.bk.gr g21
  refine sv n19.ok rfl (wn _ rfl) rfl (o_not n19.at_ rfl) (fun an25 n25 => ?_)
  refine wpList_nil ?_
  refine th_n (hK18 _ _ ?_)
  refine wp_cond_false (n25.at_) ?_
  refine wp_skip ?_
  refine th_n (hK17 _ _ ?_)
  refine wp_seq_k (fun K26 hK26 => ?_)
  refine wp_region_lit ?_
  have e27 := n25.ne rfl (n19.ne rfl (n16.ne rfl (n8.ne rfl (n2.ne rfl e0_0))))
  refine sv n25.ok rfl (wn _ rfl) rfl (o_mv e27) (fun an28 n28 => ?_)
  have e29 := n28.ne rfl (n25.ne rfl (n19.ne rfl (n16.ne rfl (n8.ne rfl (n2.ne rfl e0_1)))))
  refine sv n28.ok rfl (wn _ rfl) rfl (o_mv e29) (fun an30 n30 => ?_)
  refine sc n30.ok rfl (wn _ rfl) rfl (o_f2 Tryz.func21 rfl rfl rfl (n30.ne rfl n28.at_) n30.at_) (parts_any Fs0 Ls0 fa0 la0 fc0 lc0 hfc0 w20 (RdV.gr rdf_gr hF0 G22) (RdV.gr rdll_gr hL0 G22)) ?_
  rintro _ w32 ⟨Kp0, vp0, rfl, hlp0, hop0, hmp0, g33⟩
  obtain ⟨pap0, pcp0, rfl, hcp0⟩ := ow_form hop0
  have hnp0 := ow_nil hop0
  have hrp0 := RdA.own encP_ok hop0 rfl
  refine ⟨_, rfl, fun an31 n31 => ?_⟩
  have G34 := G22.trans g33
  have B35 := B23.gr g33
  have B36 := B24.gr g33
  have A38 := Gr.refl w32
  refine sv n31.ok rfl (wn _ rfl) rfl (o_as n31.at_) (fun an39 n39 => ?_)
  refine wpList_nil ?_
  refine th_n (hK26 _ _ ?_)
  refine wp_seq_k (fun K40 hK40 => ?_)
  refine wp_region_lit ?_
  refine sv n39.ok rfl (wn _ rfl) rfl (o_mv n39.at_) (fun an41 n41 => ?_)
  have e42 := n41.ne rfl (n39.ne rfl (n31.ne rfl (n30.ne rfl (n28.ne rfl (n25.ne rfl (n19.ne rfl (n16.ne rfl (n8.ne rfl (n2.ne rfl e0_2)))))))))
  refine sv n41.ok rfl (wn _ rfl) rfl (o_mv e42) (fun an43 n43 => ?_)
  refine sc n43.ok rfl (wn _ rfl) rfl (o_f2 Tryz.func10 rfl rfl rfl (n43.ne rfl n41.at_) n43.at_) (pnarrow_badF Kp0 pap0 pcp0 fv lf (by omega) hbad w32 (hrp0.gr A38) (hmp0.gr A38) (hfl.gr G34)) ?_
  rintro _ w45 ⟨rfl, g46⟩
  refine ⟨_, rfl, fun an44 n44 => ?_⟩
  have G47 := G34.trans g46
  have B48 := B35.gr g46
  have B49 := B36.gr g46
  have A50 := A38.trans g46
  refine sv n44.ok rfl (wn _ rfl) rfl (o_mv n44.at_) (fun an51 n51 => ?_)
  refine sv n51.ok rfl (wn _ rfl) rfl (o_ex n51.at_ rfl) (fun an52 n52 => ?_)
  refine sv n52.ok rfl (wn _ rfl) rfl (o_ex (n52.ne rfl n51.at_) rfl) (fun an53 n53 => ?_)
  refine sv n53.ok rfl (wn _ rfl) rfl (o_as (n53.ne rfl n52.at_)) (fun an54 n54 => ?_)
  refine sv n54.ok rfl (wn _ rfl) rfl (o_as (n54.ne rfl n53.at_)) (fun an55 n55 => ?_)
  refine wpList_nil ?_
  refine th_n (hK40 _ _ ?_)
  refine wp_seq_k (fun K56 hK56 => ?_)
  refine wp_seq_k (fun K57 hK57 => ?_)
  refine wp_region_lit ?_
  refine sv n55.ok rfl (wn _ rfl) rfl (o_mv n55.at_) (fun an58 n58 => ?_)
  refine sv n58.ok rfl (wn _ rfl) rfl (o_neq (b := true) n58.at_ ev_const (by simp [show ¬ (chkF lf) = 0 from hbad])) (fun an59 n59 => ?_)
  refine wpList_nil ?_
  refine th_n (hK57 _ _ ?_)
  refine wp_cond_true (n59.at_) ?_
  refine wp_seq_k (fun K60 hK60 => ?_)
  refine wp_region_lit ?_
  have e61 := n59.ne rfl (n58.ne rfl (n55.ne rfl n54.at_))
  refine sv n59.ok rfl (wn _ rfl) rfl (o_mv e61) (fun an62 n62 => ?_)
  refine sv n62.ok rfl (wn _ rfl) rfl (o_len n62.at_ Tryz.underlying22) (fun an63 n63 => ?_)
  refine sv n63.ok rfl (wn _ rfl) rfl (o_eq (b := true) n63.at_ ev_const (by decide)) (fun an64 n64 => ?_)
  refine sv n64.ok rfl (wn _ rfl) rfl (o_as n64.at_) (fun an65 n65 => ?_)
  refine wpList_nil ?_
  refine th_n (hK60 _ _ ?_)
  refine wp_ret ?_
  refine th_r ?_
  exact ret1 n65.ok rfl (n65.at_) ⟨rfl, G47⟩
set_option maxHeartbeats 8000000 in
set_option maxRecDepth 100000 in
theorem partNarrows_bad1 (Fs0 : List (List BoxI)) (Ls0 : List (List (List Int))) (fa0 la0 : Option Addr) (fc0 lc0 : Nat) (hfc0 : Fs0.length ≤ fc0) (fv gv : Value) (t n a c : Int) (U : Nat → Nat) (lf lg : List BoxI) (hbad : (chkF2 lf lg == 0) = false) (w : World) (hF0 : RdV (fun w u x => RdF w u x) w fa0 Fs0) (hL0 : RdV (fun w u x => RdLL w u x) w la0 Ls0) (hf : FS w fv U) (hfl : RdF w fv lf) (hgl : RdF w gv lg) :
    Calls Tryz.prog 5 #[.slice fa0 Fs0.length fc0, .slice la0 Ls0.length lc0, fv, gv, .agg #[.int .i64 (t), .int .i64 (n)], .agg #[.int .i64 (a), .int .i64 (c)]] w fun e w' => e = .returned (.bool true) ∧ Gr w w' := by
  refine enter (N := 127) Tryz.func5 rfl rfl rfl (fun a0 ok0 h0 => ?_)
  have e0_0 : a0.eval (.tmp 0) = .slice fa0 Fs0.length fc0 := h0 0 _ rfl
  have e0_1 : a0.eval (.tmp 1) = .slice la0 Ls0.length lc0 := h0 1 _ rfl
  have e0_2 : a0.eval (.tmp 2) = fv := h0 2 _ rfl
  have e0_3 : a0.eval (.tmp 3) = gv := h0 3 _ rfl
  have e0_4 : a0.eval (.tmp 4) = .agg #[.int .i64 (t), .int .i64 (n)] := h0 4 _ rfl
  have e0_5 : a0.eval (.tmp 5) = .agg #[.int .i64 (a), .int .i64 (c)] := h0 5 _ rfl
  clear h0
  have G0 := Gr.refl w
  refine wp_seq_k (fun K1 hK1 => ?_)
  refine wp_region_lit ?_
  refine sal (cs := #[.int .i64 (t), .int .i64 (n)]) ok0 rfl (wn _ rfl) rfl (o_box e0_4) (fun an2 w4 b3 W5 n2 => ?_)
  have l6 : w.heap.size ≤ b3 := by rw [W5.eq]; exact G0.size
  have G7 := G0.trans W5.gr
  refine sal (cs := #[.int .i64 (a), .int .i64 (c)]) n2.ok rfl (wn _ rfl) rfl (o_box (n2.ne rfl e0_5)) (fun an8 w10 b9 W11 n8 => ?_)
  have l12 : b3 < b9 := by rw [W11.eq]; exact W5.bk.lt
  have l13 : w.heap.size ≤ b9 := by rw [W11.eq]; exact G7.size
  have G14 := G7.trans W11.gr
  have B15 := W5.bk.gr W11.gr
  refine sv n8.ok rfl (wn _ rfl) rfl (o_as ev_const) (fun an16 n16 => ?_)
  refine wpList_nil ?_
  refine th_n (hK1 _ _ ?_)
  refine wp_seq_k (fun K17 hK17 => ?_)
  refine wp_seq_k (fun K18 hK18 => ?_)
  refine wp_region_lit ?_
  refine sc n16.ok rfl (wn _ rfl) rfl (o_f0 Tryz.func20 rfl rfl rfl ) (partBegun_any w10) ?_
  rintro _ w20 ⟨rfl, g21⟩
  refine ⟨_, rfl, fun an19 n19 => ?_⟩
  have G22 := G14.trans g21
  have B23 := B15.gr g21
  have B24 := W11.bk.gr g21
  refine sv n19.ok rfl (wn _ rfl) rfl (o_not n19.at_ rfl) (fun an25 n25 => ?_)
  refine wpList_nil ?_
  refine th_n (hK18 _ _ ?_)
  refine wp_cond_false (n25.at_) ?_
  refine wp_skip ?_
  refine th_n (hK17 _ _ ?_)
  refine wp_seq_k (fun K26 hK26 => ?_)
  refine wp_region_lit ?_
  have e27 := n25.ne rfl (n19.ne rfl (n16.ne rfl (n8.ne rfl (n2.ne rfl e0_0))))
  refine sv n25.ok rfl (wn _ rfl) rfl (o_mv e27) (fun an28 n28 => ?_)
  have e29 := n28.ne rfl (n25.ne rfl (n19.ne rfl (n16.ne rfl (n8.ne rfl (n2.ne rfl e0_1)))))
  refine sv n28.ok rfl (wn _ rfl) rfl (o_mv e29) (fun an30 n30 => ?_)
  refine sc n30.ok rfl (wn _ rfl) rfl (o_f2 Tryz.func21 rfl rfl rfl (n30.ne rfl n28.at_) n30.at_) (parts_any Fs0 Ls0 fa0 la0 fc0 lc0 hfc0 w20 (RdV.gr rdf_gr hF0 G22) (RdV.gr rdll_gr hL0 G22)) ?_
  rintro _ w32 ⟨Kp0, vp0, rfl, hlp0, hop0, hmp0, g33⟩
  obtain ⟨pap0, pcp0, rfl, hcp0⟩ := ow_form hop0
  have hnp0 := ow_nil hop0
  have hrp0 := RdA.own encP_ok hop0 rfl
  refine ⟨_, rfl, fun an31 n31 => ?_⟩
  have G34 := G22.trans g33
  have B35 := B23.gr g33
  have B36 := B24.gr g33
  have A38 := Gr.refl w32
  refine sv n31.ok rfl (wn _ rfl) rfl (o_as n31.at_) (fun an39 n39 => ?_)
  refine wpList_nil ?_
  refine th_n (hK26 _ _ ?_)
  refine wp_seq_k (fun K40 hK40 => ?_)
  refine wp_region_lit ?_
  refine sv n39.ok rfl (wn _ rfl) rfl (o_mv n39.at_) (fun an41 n41 => ?_)
  have e42 := n41.ne rfl (n39.ne rfl (n31.ne rfl (n30.ne rfl (n28.ne rfl (n25.ne rfl (n19.ne rfl (n16.ne rfl (n8.ne rfl (n2.ne rfl e0_2)))))))))
  refine sv n41.ok rfl (wn _ rfl) rfl (o_mv e42) (fun an43 n43 => ?_)
  refine sc n43.ok rfl (wn _ rfl) rfl (o_f2 Tryz.func10 rfl rfl rfl (n43.ne rfl n41.at_) n43.at_) (pnarrow_small Kp0 pap0 pcp0 fv U (by omega) w32 (hrp0.gr A38) (hmp0.gr A38) (hf.gr G34)) ?_
  rintro _ w45 ⟨Fn1, qan1, qcn1, rfl, hcn1, hnn1, hln1, hen1, hfn1, hrn1, hmn1, g46⟩
  refine ⟨_, rfl, fun an44 n44 => ?_⟩
  have G47 := G34.trans g46
  have B48 := B35.gr g46
  have B49 := B36.gr g46
  have A50 := A38.trans g46
  have A52 := Gr.refl w45
  refine sv n44.ok rfl (wn _ rfl) rfl (o_mv n44.at_) (fun an53 n53 => ?_)
  refine sv n53.ok rfl (wn _ rfl) rfl (o_ex n53.at_ rfl) (fun an54 n54 => ?_)
  refine sv n54.ok rfl (wn _ rfl) rfl (o_ex (n54.ne rfl n53.at_) rfl) (fun an55 n55 => ?_)
  refine sv n55.ok rfl (wn _ rfl) rfl (o_as (n55.ne rfl n54.at_)) (fun an56 n56 => ?_)
  refine sv n56.ok rfl (wn _ rfl) rfl (o_as (n56.ne rfl n55.at_)) (fun an57 n57 => ?_)
  refine wpList_nil ?_
  refine th_n (hK40 _ _ ?_)
  refine wp_seq_k (fun K58 hK58 => ?_)
  refine wp_seq_k (fun K59 hK59 => ?_)
  refine wp_region_lit ?_
  refine sv n57.ok rfl (wn _ rfl) rfl (o_mv n57.at_) (fun an60 n60 => ?_)
  refine sv n60.ok rfl (wn _ rfl) rfl (o_neq (b := false) n60.at_ ev_const (by decide)) (fun an61 n61 => ?_)
  refine wpList_nil ?_
  refine th_n (hK59 _ _ ?_)
  refine wp_cond_false (n61.at_) ?_
  refine wp_skip ?_
  refine th_n (hK58 _ _ ?_)
  refine wp_seq_k (fun K62 hK62 => ?_)
  refine wp_region_lit ?_
  have e63 := n61.ne rfl (n60.ne rfl (n57.ne rfl (n56.ne rfl (n55.ne rfl (n54.ne rfl (n53.ne rfl (n44.ne rfl (n43.ne rfl (n41.ne rfl n39.at_)))))))))
  refine sv n61.ok rfl (wn _ rfl) rfl (o_mv e63) (fun an64 n64 => ?_)
  have e65 := n64.ne rfl (n61.ne rfl (n60.ne rfl (n57.ne rfl (n56.ne rfl (n55.ne rfl (n54.ne rfl (n53.ne rfl (n44.ne rfl (n43.ne rfl (n41.ne rfl (n39.ne rfl (n31.ne rfl (n30.ne rfl (n28.ne rfl (n25.ne rfl (n19.ne rfl (n16.ne rfl (n8.ne rfl n2.at_))))))))))))))))))
  refine sv n64.ok rfl (wn _ rfl) rfl (o_ldR e65 B48 Tryz.underlying56 rfl (by kernel_rfl)) (fun an66 n66 => ?_)
  have e67 := n66.ne rfl (n64.ne rfl (n61.ne rfl (n60.ne rfl (n57.ne rfl (n56.ne rfl (n55.ne rfl (n54.ne rfl (n53.ne rfl (n44.ne rfl (n43.ne rfl (n41.ne rfl (n39.ne rfl (n31.ne rfl (n30.ne rfl (n28.ne rfl (n25.ne rfl (n19.ne rfl (n16.ne rfl n8.at_))))))))))))))))))
  refine sv n66.ok rfl (wn _ rfl) rfl (o_ldR e67 B49 Tryz.underlying58 rfl (by kernel_rfl)) (fun an68 n68 => ?_)
  obtain ⟨pu, hpu⟩ : ∃ b, hasV Kp0 t n a c = b := ⟨_, rfl⟩
  refine sc n68.ok rfl (wn _ rfl) rfl (o_f3 Tryz.func23 rfl rfl rfl (n68.ne rfl (n66.ne rfl n64.at_)) (n68.ne rfl n66.at_) n68.at_) ((by have h := phas Kp0 pap0 pcp0 t n a c w45 (by omega) (hrp0.gr A50) (hmp0.gr A50); rw [hpu] at h; exact h)) ?_
  rintro _ w70 ⟨rfl, g71⟩
  refine ⟨_, rfl, fun an69 n69 => ?_⟩
  have G72 := G47.trans g71
  have B73 := B48.gr g71
  have B74 := B49.gr g71
  have A75 := A50.trans g71
  have A76 := A52.trans g71
  refine sv n69.ok rfl (wn _ rfl) rfl (o_mv n69.at_) (fun an77 n77 => ?_)
  refine sv n77.ok rfl (wn _ rfl) rfl (o_ex n77.at_ rfl) (fun an78 n78 => ?_)
  refine sv n78.ok rfl (wn _ rfl) rfl (o_ex (n78.ne rfl n77.at_) rfl) (fun an79 n79 => ?_)
  refine sv n79.ok rfl (wn _ rfl) rfl (o_as (n79.ne rfl n78.at_)) (fun an80 n80 => ?_)
  refine sv n80.ok rfl (wn _ rfl) rfl (o_as (n80.ne rfl n79.at_)) (fun an81 n81 => ?_)
  refine wpList_nil ?_
  refine th_n (hK62 _ _ ?_)
  refine wp_seq_k (fun K82 hK82 => ?_)
  refine wp_region_lit ?_
  have e83 := n81.ne rfl (n80.ne rfl (n79.ne rfl (n78.ne rfl (n77.ne rfl (n69.ne rfl (n68.ne rfl (n66.ne rfl (n64.ne rfl (n61.ne rfl (n60.ne rfl (n57.ne rfl n56.at_)))))))))))
  refine sv n81.ok rfl (wn _ rfl) rfl (o_mv e83) (fun an84 n84 => ?_)
  have e85 := n84.ne rfl (n81.ne rfl (n80.ne rfl (n79.ne rfl (n78.ne rfl (n77.ne rfl (n69.ne rfl (n68.ne rfl (n66.ne rfl e65))))))))
  refine sv n84.ok rfl (wn _ rfl) rfl (o_ldR e85 B73 Tryz.underlying56 rfl (by kernel_rfl)) (fun an86 n86 => ?_)
  have e87 := n86.ne rfl (n84.ne rfl (n81.ne rfl (n80.ne rfl (n79.ne rfl (n78.ne rfl (n77.ne rfl (n69.ne rfl (n68.ne rfl e67))))))))
  refine sv n86.ok rfl (wn _ rfl) rfl (o_ldR e87 B74 Tryz.underlying58 rfl (by kernel_rfl)) (fun an88 n88 => ?_)
  obtain ⟨pi, hpi⟩ : ∃ b, bitT U t n = b := ⟨_, rfl⟩
  refine sc n88.ok rfl (wn _ rfl) rfl (o_f3 Tryz.func23 rfl rfl rfl (n88.ne rfl (n86.ne rfl n84.at_)) (n88.ne rfl n86.at_) n88.at_) ((by have h := phas Fn1 qan1 qcn1 t n a c w70 (by omega) (hrn1.gr A76) (hmn1.gr A76); rw [hasV_nar hen1, hpu, hpi] at h; exact h)) ?_
  rintro _ w90 ⟨rfl, g91⟩
  refine ⟨_, rfl, fun an89 n89 => ?_⟩
  have G92 := G72.trans g91
  have B93 := B73.gr g91
  have B94 := B74.gr g91
  have A95 := A75.trans g91
  have A96 := A76.trans g91
  refine sv n89.ok rfl (wn _ rfl) rfl (o_mv n89.at_) (fun an97 n97 => ?_)
  refine sv n97.ok rfl (wn _ rfl) rfl (o_ex n97.at_ rfl) (fun an98 n98 => ?_)
  refine sv n98.ok rfl (wn _ rfl) rfl (o_ex (n98.ne rfl n97.at_) rfl) (fun an99 n99 => ?_)
  refine sv n99.ok rfl (wn _ rfl) rfl (o_as (n99.ne rfl n98.at_)) (fun an100 n100 => ?_)
  refine sv n100.ok rfl (wn _ rfl) rfl (o_as (n100.ne rfl n99.at_)) (fun an101 n101 => ?_)
  refine wpList_nil ?_
  refine th_n (hK82 _ _ ?_)
  refine wp_seq_k (fun K102 hK102 => ?_)
  refine wp_region_lit ?_
  have e103 := n101.ne rfl (n100.ne rfl (n99.ne rfl (n98.ne rfl (n97.ne rfl (n89.ne rfl (n88.ne rfl (n86.ne rfl (n84.ne rfl (n81.ne rfl (n80.ne rfl (n79.ne rfl (n78.ne rfl (n77.ne rfl (n69.ne rfl (n68.ne rfl (n66.ne rfl (n64.ne rfl (n61.ne rfl (n60.ne rfl (n57.ne rfl (n56.ne rfl (n55.ne rfl (n54.ne rfl (n53.ne rfl (n44.ne rfl (n43.ne rfl e42))))))))))))))))))))))))))
  refine sv n101.ok rfl (wn _ rfl) rfl (o_mv e103) (fun an104 n104 => ?_)
  have e105 := n104.ne rfl (n101.ne rfl (n100.ne rfl (n99.ne rfl (n98.ne rfl (n97.ne rfl (n89.ne rfl (n88.ne rfl (n86.ne rfl e85))))))))
  refine sv n104.ok rfl (wn _ rfl) rfl (o_ldR e105 B93 Tryz.underlying56 rfl (by kernel_rfl)) (fun an106 n106 => ?_)
  refine sc n106.ok rfl (wn _ rfl) rfl (o_f2 Tryz.func25 rfl rfl rfl (n106.ne rfl n104.at_) n106.at_) ((by have h := fhas_ok (hf.gr G92) t n; rw [hpi] at h; exact h)) ?_
  rintro _ w108 ⟨rfl, g109⟩
  refine ⟨_, rfl, fun an107 n107 => ?_⟩
  have G110 := G92.trans g109
  have B111 := B93.gr g109
  have B112 := B94.gr g109
  have A113 := A95.trans g109
  have A114 := A96.trans g109
  refine sv n107.ok rfl (wn _ rfl) rfl (o_mv n107.at_) (fun an115 n115 => ?_)
  refine sv n115.ok rfl (wn _ rfl) rfl (o_ex n115.at_ rfl) (fun an116 n116 => ?_)
  refine sv n116.ok rfl (wn _ rfl) rfl (o_ex (n116.ne rfl n115.at_) rfl) (fun an117 n117 => ?_)
  refine sv n117.ok rfl (wn _ rfl) rfl (o_as (n117.ne rfl n116.at_)) (fun an118 n118 => ?_)
  refine sv n118.ok rfl (wn _ rfl) rfl (o_as (n118.ne rfl n117.at_)) (fun an119 n119 => ?_)
  refine wpList_nil ?_
  refine th_n (hK102 _ _ ?_)
  refine wp_seq_k (fun K120 hK120 => ?_)
  refine wp_seq_k (fun K121 hK121 => ?_)
  refine wp_region_lit ?_
  have e122 := n119.ne rfl (n118.ne rfl (n117.ne rfl (n116.ne rfl (n115.ne rfl (n107.ne rfl (n106.ne rfl e105))))))
  refine sv n119.ok rfl (wn _ rfl) rfl (o_ldR e122 B111 Tryz.underlying56 rfl (by kernel_rfl)) (fun an123 n123 => ?_)
  obtain ⟨pp, hpp⟩ : ∃ b, pointB t n = b := ⟨_, rfl⟩
  refine sc n123.ok rfl (wn _ rfl) rfl (o_f1 Tryz.func26 rfl rfl rfl n123.at_) ((by have h := point_any t n w108; rw [hpp] at h; exact h)) ?_
  rintro _ w125 ⟨rfl, g126⟩
  refine ⟨_, rfl, fun an124 n124 => ?_⟩
  have G127 := G110.trans g126
  have B128 := B111.gr g126
  have B129 := B112.gr g126
  have A130 := A113.trans g126
  have A131 := A114.trans g126
  refine sv n124.ok rfl (wn _ rfl) rfl (o_notI n124.at_) (fun an132 n132 => ?_)
  refine sv n132.ok rfl (wn _ rfl) rfl (o_mv n132.at_) (fun an133 n133 => ?_)
  cases c134 : (!pp)
  · have e135 := (n133.at_).trans (congrArg Value.bool (c134))
    have e136 := ((n133.ne rfl n132.at_)).trans (congrArg Value.bool (c134))
    have hpc134 : pp = true := by simpa using c134
    have e137 := n133.ne rfl (n132.ne rfl (n124.ne rfl (n123.ne rfl (n119.ne rfl (n118.ne rfl (n117.ne rfl (n116.ne rfl (n115.ne rfl (n107.ne rfl (n106.ne rfl (n104.ne rfl (n101.ne rfl (n100.ne rfl (n99.ne rfl (n98.ne rfl (n97.ne rfl (n89.ne rfl (n88.ne rfl e87))))))))))))))))))
    refine sv n133.ok rfl (wgT rfl (yl 3 false rfl e135) rfl) rfl (o_ldR e137 B129 Tryz.underlying58 rfl (by kernel_rfl)) (fun an138 n138 => ?_)
    obtain ⟨pd, hpd⟩ : ∃ b, dotB (a, c) = b := ⟨_, rfl⟩
    refine sc n138.ok rfl (wgT rfl (yl 3 false rfl (n138.ne rfl e135)) rfl) rfl (o_f1 Tryz.func27 rfl rfl rfl n138.at_) ((by have h := dot_any (a, c) w125; rw [hpd] at h; exact h)) ?_
    rintro _ w140 ⟨rfl, g141⟩
    refine ⟨_, rfl, fun an139 n139 => ?_⟩
    have G142 := G127.trans g141
    have B143 := B128.gr g141
    have B144 := B129.gr g141
    have A145 := A130.trans g141
    have A146 := A131.trans g141
    refine sv n139.ok rfl (wgT rfl (yl 3 false rfl (n139.ne rfl (n138.ne rfl e135))) rfl) rfl (o_notI n139.at_) (fun an147 n147 => ?_)
    have e148 := n147.ne rfl (n139.ne rfl (n138.ne rfl e135))
    refine sv n147.ok rfl (wn _ rfl) rfl (o_pkF e148 n147.at_) (fun an149 n149 => ?_)
    refine wpList_nil ?_
    refine th_n (hK121 _ _ ?_)
    cases c150 : (!pd)
    · refine wp_cond_false ((n149.at_).trans (congrArg Value.bool (c150))) ?_
      have hdc150 : pd = true := by simpa using c150
      refine wp_skip ?_
      refine th_n (hK120 _ _ ?_)
      refine wp_seq_k (fun K151 hK151 => ?_)
      refine wp_seq_k (fun K152 hK152 => ?_)
      refine wp_region_lit ?_
      have e153 := n149.ne rfl (n147.ne rfl (n139.ne rfl (n138.ne rfl (n133.ne rfl (n132.ne rfl (n124.ne rfl (n123.ne rfl (n119.ne rfl (n118.ne rfl (n117.ne rfl (n116.ne rfl (n115.ne rfl (n107.ne rfl (n106.ne rfl (n104.ne rfl (n101.ne rfl (n100.ne rfl (n99.ne rfl (n98.ne rfl (n97.ne rfl (n89.ne rfl (n88.ne rfl (n86.ne rfl (n84.ne rfl n81.at_))))))))))))))))))))))))
      refine sv n149.ok rfl (wn _ rfl) rfl (o_mv e153) (fun an154 n154 => ?_)
      refine sv n154.ok rfl (wn _ rfl) rfl (o_neq (b := false) n154.at_ ev_const (by simp [show (hasE t n a c) = 0 from (by unfold hasE; rw [hpp, hpc134, hpd, hdc150]; rfl)])) (fun an155 n155 => ?_)
      refine sv n155.ok rfl (wn _ rfl) rfl (o_mv n155.at_) (fun an156 n156 => ?_)
      have e157 := n156.ne rfl (n155.ne rfl (n154.ne rfl (n149.ne rfl (n147.ne rfl (n139.ne rfl (n138.ne rfl (n133.ne rfl (n132.ne rfl (n124.ne rfl (n123.ne rfl (n119.ne rfl (n118.ne rfl (n117.ne rfl (n116.ne rfl (n115.ne rfl (n107.ne rfl (n106.ne rfl (n104.ne rfl n101.at_))))))))))))))))))
      refine sv n156.ok rfl (wgT rfl (yl 2 false rfl n156.at_) rfl) rfl (o_mv e157) (fun an158 n158 => ?_)
      refine sv n158.ok rfl (wgT rfl (yl 2 false rfl (n158.ne rfl n156.at_)) rfl) rfl (o_neq (b := false) n158.at_ ev_const (by simp [show (hasE t n a c) = 0 from (by unfold hasE; rw [hpp, hpc134, hpd, hdc150]; rfl)])) (fun an159 n159 => ?_)
      refine sv n159.ok rfl (wn _ rfl) rfl (o_pkF (n159.ne rfl (n158.ne rfl n156.at_)) n159.at_) (fun an160 n160 => ?_)
      refine sv n160.ok rfl (wn _ rfl) rfl (o_mv n160.at_) (fun an161 n161 => ?_)
      have e162 := n161.ne rfl (n160.ne rfl (n159.ne rfl (n158.ne rfl (n156.ne rfl (n155.ne rfl (n154.ne rfl (n149.ne rfl (n147.ne rfl (n139.ne rfl (n138.ne rfl (n133.ne rfl (n132.ne rfl (n124.ne rfl (n123.ne rfl n119.at_))))))))))))))
      refine sv n161.ok rfl (wgT rfl (yl 6 false rfl n161.at_) rfl) rfl (o_mv e162) (fun an163 n163 => ?_)
      refine sv n163.ok rfl (wgT rfl (yl 6 false rfl (n163.ne rfl n161.at_)) rfl) rfl (o_neq (b := false) n163.at_ ev_const (by simp [show (errP t n) = 0 from (by unfold errP; rw [hpp, hpc134]; rfl)])) (fun an164 n164 => ?_)
      refine sv n164.ok rfl (wn _ rfl) rfl (o_pkF (n164.ne rfl (n163.ne rfl n161.at_)) n164.at_) (fun an165 n165 => ?_)
      refine sv n165.ok rfl (wn _ rfl) rfl (o_mv n165.at_) (fun an166 n166 => ?_)
      have e167 := n166.ne rfl (n165.ne rfl (n164.ne rfl (n163.ne rfl (n161.ne rfl (n160.ne rfl (n159.ne rfl (n158.ne rfl (n156.ne rfl (n155.ne rfl (n154.ne rfl (n149.ne rfl (n147.ne rfl (n139.ne rfl (n138.ne rfl (n133.ne rfl (n132.ne rfl (n124.ne rfl (n123.ne rfl (n119.ne rfl (n118.ne rfl (n117.ne rfl (n116.ne rfl (n115.ne rfl (n107.ne rfl (n106.ne rfl (n104.ne rfl (n101.ne rfl n100.at_)))))))))))))))))))))))))))
      refine sv n166.ok rfl (wgT rfl (yl 10 false rfl n166.at_) rfl) rfl (o_mv e167) (fun an168 n168 => ?_)
      have e169 := n168.ne rfl (n166.ne rfl (n165.ne rfl (n164.ne rfl (n163.ne rfl (n161.ne rfl (n160.ne rfl (n159.ne rfl (n158.ne rfl (n156.ne rfl (n155.ne rfl (n154.ne rfl (n149.ne rfl (n147.ne rfl (n139.ne rfl (n138.ne rfl (n133.ne rfl (n132.ne rfl (n124.ne rfl (n123.ne rfl (n119.ne rfl (n118.ne rfl (n117.ne rfl (n116.ne rfl (n115.ne rfl (n107.ne rfl (n106.ne rfl (n104.ne rfl (n101.ne rfl (n100.ne rfl (n99.ne rfl (n98.ne rfl (n97.ne rfl (n89.ne rfl (n88.ne rfl (n86.ne rfl (n84.ne rfl (n81.ne rfl n80.at_)))))))))))))))))))))))))))))))))))))
      refine sv n168.ok rfl (wgT rfl (yl 10 false rfl (n168.ne rfl n166.at_)) rfl) rfl (o_mv e169) (fun an170 n170 => ?_)
      refine sv n170.ok rfl (wgT rfl (yl 10 false rfl (n170.ne rfl (n168.ne rfl n166.at_))) rfl) rfl (o_mv n170.at_) (fun an171 n171 => ?_)
      cases c172 : pu
      · have e173 := (n171.at_).trans (congrArg Value.bool (c172))
        have e174 := n171.ne rfl (n170.ne rfl (n168.ne rfl (n166.ne rfl (n165.ne rfl (n164.ne rfl (n163.ne rfl (n161.ne rfl (n160.ne rfl (n159.ne rfl (n158.ne rfl (n156.ne rfl (n155.ne rfl (n154.ne rfl (n149.ne rfl (n147.ne rfl (n139.ne rfl (n138.ne rfl (n133.ne rfl (n132.ne rfl (n124.ne rfl (n123.ne rfl (n119.ne rfl (n118.ne rfl (n117.ne rfl (n116.ne rfl (n115.ne rfl (n107.ne rfl (n106.ne rfl (n104.ne rfl (n101.ne rfl (n100.ne rfl (n99.ne rfl (n98.ne rfl (n97.ne rfl (n89.ne rfl (n88.ne rfl (n86.ne rfl (n84.ne rfl (n81.ne rfl (n80.ne rfl (n79.ne rfl n78.at_)))))))))))))))))))))))))))))))))))))))))
        have e175 := (e174).trans (congrArg Value.bool (c172))
        have e176 := ((n171.ne rfl (n170.ne rfl e169))).trans (congrArg Value.bool (c172))
        have e177 := ((n171.ne rfl n170.at_)).trans (congrArg Value.bool (c172))
        have e178 := n171.ne rfl (n170.ne rfl (n168.ne rfl (n166.ne rfl (n165.ne rfl (n164.ne rfl (n163.ne rfl (n161.ne rfl (n160.ne rfl (n159.ne rfl (n158.ne rfl (n156.ne rfl (n155.ne rfl (n154.ne rfl (n149.ne rfl (n147.ne rfl (n139.ne rfl (n138.ne rfl (n133.ne rfl (n132.ne rfl (n124.ne rfl (n123.ne rfl (n119.ne rfl (n118.ne rfl (n117.ne rfl (n116.ne rfl (n115.ne rfl (n107.ne rfl (n106.ne rfl (n104.ne rfl (n101.ne rfl (n100.ne rfl (n99.ne rfl n98.at_))))))))))))))))))))))))))))))))
        have e179 := (e178).trans (congrArg Value.bool (show (pu && pi) = false by simp [c172]))
        have e180 := n171.ne rfl (n170.ne rfl (n168.ne rfl e167))
        have e181 := (e180).trans (congrArg Value.bool (show (pu && pi) = false by simp [c172]))
        have e182 := ((n171.ne rfl (n170.ne rfl n168.at_))).trans (congrArg Value.bool (show (pu && pi) = false by simp [c172]))
        refine sn n171.ok rfl (wgF rfl (yl 13 false rfl e173) rfl) rfl (fun an183 n183 => ?_)
        have e184 := n183.ne rfl (n171.ne rfl (n170.ne rfl (n168.ne rfl n166.at_)))
        refine sv n183.ok rfl (wgT rfl (yl 10 false rfl e184) rfl) rfl (o_pkF (n183.ne rfl e173) ev_const) (fun an185 n185 => ?_)
        refine sv n185.ok rfl (wgT rfl (yl 10 false rfl (n185.ne rfl e184)) rfl) rfl (o_neqB (b := false) (n185.ne rfl (n183.ne rfl e182)) n185.at_ (by simp) Tryz.underlying4) (fun an186 n186 => ?_)
        refine sv n186.ok rfl (wn _ rfl) rfl (o_pkF (n186.ne rfl (n185.ne rfl e184)) n186.at_) (fun an187 n187 => ?_)
        refine wpList_nil ?_
        refine th_n (hK152 _ _ ?_)
        refine wp_cond_false (n187.at_) ?_
        refine wp_skip ?_
        refine th_n (hK151 _ _ ?_)
        refine wp_seq_k (fun K188 hK188 => ?_)
        refine wp_region_lit ?_
        have e189 := n187.ne rfl (n186.ne rfl (n185.ne rfl (n183.ne rfl (n171.ne rfl (n170.ne rfl (n168.ne rfl (n166.ne rfl (n165.ne rfl (n164.ne rfl (n163.ne rfl (n161.ne rfl (n160.ne rfl (n159.ne rfl (n158.ne rfl (n156.ne rfl (n155.ne rfl (n154.ne rfl (n149.ne rfl (n147.ne rfl (n139.ne rfl (n138.ne rfl (n133.ne rfl (n132.ne rfl (n124.ne rfl (n123.ne rfl (n119.ne rfl (n118.ne rfl (n117.ne rfl (n116.ne rfl (n115.ne rfl (n107.ne rfl (n106.ne rfl (n104.ne rfl e103)))))))))))))))))))))))))))))))))
        refine sv n187.ok rfl (wn _ rfl) rfl (o_mv e189) (fun an190 n190 => ?_)
        have e191 := n190.ne rfl (n187.ne rfl (n186.ne rfl (n185.ne rfl (n183.ne rfl (n171.ne rfl (n170.ne rfl (n168.ne rfl (n166.ne rfl (n165.ne rfl (n164.ne rfl (n163.ne rfl (n161.ne rfl (n160.ne rfl (n159.ne rfl (n158.ne rfl (n156.ne rfl (n155.ne rfl (n154.ne rfl (n149.ne rfl (n147.ne rfl (n139.ne rfl (n138.ne rfl (n133.ne rfl (n132.ne rfl (n124.ne rfl (n123.ne rfl (n119.ne rfl (n118.ne rfl (n117.ne rfl (n116.ne rfl (n115.ne rfl (n107.ne rfl (n106.ne rfl (n104.ne rfl (n101.ne rfl (n100.ne rfl (n99.ne rfl (n98.ne rfl (n97.ne rfl (n89.ne rfl (n88.ne rfl (n86.ne rfl (n84.ne rfl (n81.ne rfl (n80.ne rfl (n79.ne rfl (n78.ne rfl (n77.ne rfl (n69.ne rfl (n68.ne rfl (n66.ne rfl (n64.ne rfl (n61.ne rfl (n60.ne rfl (n57.ne rfl (n56.ne rfl (n55.ne rfl (n54.ne rfl (n53.ne rfl (n44.ne rfl (n43.ne rfl (n41.ne rfl (n39.ne rfl (n31.ne rfl (n30.ne rfl (n28.ne rfl (n25.ne rfl (n19.ne rfl (n16.ne rfl (n8.ne rfl (n2.ne rfl e0_3)))))))))))))))))))))))))))))))))))))))))))))))))))))))))))))))))))))))
        refine sv n190.ok rfl (wn _ rfl) rfl (o_mv e191) (fun an192 n192 => ?_)
        refine sc n192.ok rfl (wn _ rfl) rfl (o_f2 Tryz.func28 rfl rfl rfl (n192.ne rfl n190.at_) n192.at_) (fmeet_bad (hfl.gr G142) (hgl.gr G142) hbad) ?_
        rintro _ w194 ⟨ba, bc, rfl, g195⟩
        refine ⟨_, rfl, fun an193 n193 => ?_⟩
        have G196 := G142.trans g195
        have B197 := B143.gr g195
        have B198 := B144.gr g195
        have A199 := A145.trans g195
        have A200 := A146.trans g195
        refine sv n193.ok rfl (wn _ rfl) rfl (o_mv n193.at_) (fun an201 n201 => ?_)
        refine sv n201.ok rfl (wn _ rfl) rfl (o_ex n201.at_ rfl) (fun an202 n202 => ?_)
        refine sv n202.ok rfl (wn _ rfl) rfl (o_ex (n202.ne rfl n201.at_) rfl) (fun an203 n203 => ?_)
        refine sv n203.ok rfl (wn _ rfl) rfl (o_as (n203.ne rfl n202.at_)) (fun an204 n204 => ?_)
        refine sv n204.ok rfl (wn _ rfl) rfl (o_as (n204.ne rfl n203.at_)) (fun an205 n205 => ?_)
        refine wpList_nil ?_
        refine th_n (hK188 _ _ ?_)
        refine wp_seq_k (fun K206 hK206 => ?_)
        refine wp_seq_k (fun K207 hK207 => ?_)
        refine wp_region_lit ?_
        refine sv n205.ok rfl (wn _ rfl) rfl (o_mv n205.at_) (fun an208 n208 => ?_)
        refine sv n208.ok rfl (wn _ rfl) rfl (o_neq (b := true) n208.at_ ev_const (by simp [show ¬ (chkF2 lf lg) = 0 from (by simpa using hbad)])) (fun an209 n209 => ?_)
        refine wpList_nil ?_
        refine th_n (hK207 _ _ ?_)
        refine wp_cond_true (n209.at_) ?_
        refine wp_seq_k (fun K210 hK210 => ?_)
        refine wp_region_lit ?_
        have e211 := n209.ne rfl (n208.ne rfl (n205.ne rfl n204.at_))
        refine sv n209.ok rfl (wn _ rfl) rfl (o_mv e211) (fun an212 n212 => ?_)
        refine sv n212.ok rfl (wn _ rfl) rfl (o_len n212.at_ Tryz.underlying23) (fun an213 n213 => ?_)
        refine sv n213.ok rfl (wn _ rfl) rfl (o_eq (b := true) n213.at_ ev_const (by decide)) (fun an214 n214 => ?_)
        refine sv n214.ok rfl (wn _ rfl) rfl (o_as n214.at_) (fun an215 n215 => ?_)
        refine wpList_nil ?_
        refine th_n (hK210 _ _ ?_)
        refine wp_ret ?_
        refine th_r ?_
        exact ret1 n215.ok rfl (n215.at_) ⟨rfl, G196⟩
      · have e216 := (n171.at_).trans (congrArg Value.bool (c172))
        have e217 := n171.ne rfl (n170.ne rfl (n168.ne rfl (n166.ne rfl (n165.ne rfl (n164.ne rfl (n163.ne rfl (n161.ne rfl (n160.ne rfl (n159.ne rfl (n158.ne rfl (n156.ne rfl (n155.ne rfl (n154.ne rfl (n149.ne rfl (n147.ne rfl (n139.ne rfl (n138.ne rfl (n133.ne rfl (n132.ne rfl (n124.ne rfl (n123.ne rfl (n119.ne rfl (n118.ne rfl (n117.ne rfl (n116.ne rfl (n115.ne rfl (n107.ne rfl (n106.ne rfl (n104.ne rfl (n101.ne rfl (n100.ne rfl (n99.ne rfl (n98.ne rfl (n97.ne rfl (n89.ne rfl (n88.ne rfl (n86.ne rfl (n84.ne rfl (n81.ne rfl (n80.ne rfl (n79.ne rfl n78.at_)))))))))))))))))))))))))))))))))))))))))
        have e218 := (e217).trans (congrArg Value.bool (c172))
        have e219 := ((n171.ne rfl (n170.ne rfl e169))).trans (congrArg Value.bool (c172))
        have e220 := ((n171.ne rfl n170.at_)).trans (congrArg Value.bool (c172))
        have e221 := n171.ne rfl (n170.ne rfl (n168.ne rfl (n166.ne rfl (n165.ne rfl (n164.ne rfl (n163.ne rfl (n161.ne rfl (n160.ne rfl (n159.ne rfl (n158.ne rfl (n156.ne rfl (n155.ne rfl (n154.ne rfl (n149.ne rfl (n147.ne rfl (n139.ne rfl (n138.ne rfl (n133.ne rfl (n132.ne rfl (n124.ne rfl (n123.ne rfl (n119.ne rfl (n118.ne rfl (n117.ne rfl (n116.ne rfl (n115.ne rfl (n107.ne rfl (n106.ne rfl (n104.ne rfl (n101.ne rfl (n100.ne rfl (n99.ne rfl n98.at_))))))))))))))))))))))))))))))))
        have e222 := (e221).trans (congrArg Value.bool (show (pu && pi) = pi by simp [c172]))
        have e223 := n171.ne rfl (n170.ne rfl (n168.ne rfl e167))
        have e224 := (e223).trans (congrArg Value.bool (show (pu && pi) = pi by simp [c172]))
        have e225 := ((n171.ne rfl (n170.ne rfl n168.at_))).trans (congrArg Value.bool (show (pu && pi) = pi by simp [c172]))
        have e226 := n171.ne rfl (n170.ne rfl (n168.ne rfl (n166.ne rfl (n165.ne rfl (n164.ne rfl (n163.ne rfl (n161.ne rfl (n160.ne rfl (n159.ne rfl (n158.ne rfl (n156.ne rfl (n155.ne rfl (n154.ne rfl (n149.ne rfl (n147.ne rfl (n139.ne rfl (n138.ne rfl (n133.ne rfl (n132.ne rfl (n124.ne rfl (n123.ne rfl (n119.ne rfl n118.at_))))))))))))))))))))))
        refine sv n171.ok rfl (wgT rfl (yl 13 true rfl e216) rfl) rfl (o_mv e226) (fun an227 n227 => ?_)
        have e228 := n227.ne rfl (n171.ne rfl (n170.ne rfl (n168.ne rfl n166.at_)))
        refine sv n227.ok rfl (wgT rfl (yl 10 false rfl e228) rfl) rfl (o_pkT (n227.ne rfl e216) n227.at_) (fun an229 n229 => ?_)
        refine sv n229.ok rfl (wgT rfl (yl 10 false rfl (n229.ne rfl e228)) rfl) rfl (o_neqB (b := false) (n229.ne rfl (n227.ne rfl e225)) n229.at_ (by simp) Tryz.underlying4) (fun an230 n230 => ?_)
        refine sv n230.ok rfl (wn _ rfl) rfl (o_pkF (n230.ne rfl (n229.ne rfl e228)) n230.at_) (fun an231 n231 => ?_)
        refine wpList_nil ?_
        refine th_n (hK152 _ _ ?_)
        refine wp_cond_false (n231.at_) ?_
        refine wp_skip ?_
        refine th_n (hK151 _ _ ?_)
        refine wp_seq_k (fun K232 hK232 => ?_)
        refine wp_region_lit ?_
        have e233 := n231.ne rfl (n230.ne rfl (n229.ne rfl (n227.ne rfl (n171.ne rfl (n170.ne rfl (n168.ne rfl (n166.ne rfl (n165.ne rfl (n164.ne rfl (n163.ne rfl (n161.ne rfl (n160.ne rfl (n159.ne rfl (n158.ne rfl (n156.ne rfl (n155.ne rfl (n154.ne rfl (n149.ne rfl (n147.ne rfl (n139.ne rfl (n138.ne rfl (n133.ne rfl (n132.ne rfl (n124.ne rfl (n123.ne rfl (n119.ne rfl (n118.ne rfl (n117.ne rfl (n116.ne rfl (n115.ne rfl (n107.ne rfl (n106.ne rfl (n104.ne rfl e103)))))))))))))))))))))))))))))))))
        refine sv n231.ok rfl (wn _ rfl) rfl (o_mv e233) (fun an234 n234 => ?_)
        have e235 := n234.ne rfl (n231.ne rfl (n230.ne rfl (n229.ne rfl (n227.ne rfl (n171.ne rfl (n170.ne rfl (n168.ne rfl (n166.ne rfl (n165.ne rfl (n164.ne rfl (n163.ne rfl (n161.ne rfl (n160.ne rfl (n159.ne rfl (n158.ne rfl (n156.ne rfl (n155.ne rfl (n154.ne rfl (n149.ne rfl (n147.ne rfl (n139.ne rfl (n138.ne rfl (n133.ne rfl (n132.ne rfl (n124.ne rfl (n123.ne rfl (n119.ne rfl (n118.ne rfl (n117.ne rfl (n116.ne rfl (n115.ne rfl (n107.ne rfl (n106.ne rfl (n104.ne rfl (n101.ne rfl (n100.ne rfl (n99.ne rfl (n98.ne rfl (n97.ne rfl (n89.ne rfl (n88.ne rfl (n86.ne rfl (n84.ne rfl (n81.ne rfl (n80.ne rfl (n79.ne rfl (n78.ne rfl (n77.ne rfl (n69.ne rfl (n68.ne rfl (n66.ne rfl (n64.ne rfl (n61.ne rfl (n60.ne rfl (n57.ne rfl (n56.ne rfl (n55.ne rfl (n54.ne rfl (n53.ne rfl (n44.ne rfl (n43.ne rfl (n41.ne rfl (n39.ne rfl (n31.ne rfl (n30.ne rfl (n28.ne rfl (n25.ne rfl (n19.ne rfl (n16.ne rfl (n8.ne rfl (n2.ne rfl e0_3)))))))))))))))))))))))))))))))))))))))))))))))))))))))))))))))))))))))
        refine sv n234.ok rfl (wn _ rfl) rfl (o_mv e235) (fun an236 n236 => ?_)
        refine sc n236.ok rfl (wn _ rfl) rfl (o_f2 Tryz.func28 rfl rfl rfl (n236.ne rfl n234.at_) n236.at_) (fmeet_bad (hfl.gr G142) (hgl.gr G142) hbad) ?_
        rintro _ w238 ⟨ba, bc, rfl, g239⟩
        refine ⟨_, rfl, fun an237 n237 => ?_⟩
        have G240 := G142.trans g239
        have B241 := B143.gr g239
        have B242 := B144.gr g239
        have A243 := A145.trans g239
        have A244 := A146.trans g239
        refine sv n237.ok rfl (wn _ rfl) rfl (o_mv n237.at_) (fun an245 n245 => ?_)
        refine sv n245.ok rfl (wn _ rfl) rfl (o_ex n245.at_ rfl) (fun an246 n246 => ?_)
        refine sv n246.ok rfl (wn _ rfl) rfl (o_ex (n246.ne rfl n245.at_) rfl) (fun an247 n247 => ?_)
        refine sv n247.ok rfl (wn _ rfl) rfl (o_as (n247.ne rfl n246.at_)) (fun an248 n248 => ?_)
        refine sv n248.ok rfl (wn _ rfl) rfl (o_as (n248.ne rfl n247.at_)) (fun an249 n249 => ?_)
        refine wpList_nil ?_
        refine th_n (hK232 _ _ ?_)
        refine wp_seq_k (fun K250 hK250 => ?_)
        refine wp_seq_k (fun K251 hK251 => ?_)
        refine wp_region_lit ?_
        refine sv n249.ok rfl (wn _ rfl) rfl (o_mv n249.at_) (fun an252 n252 => ?_)
        refine sv n252.ok rfl (wn _ rfl) rfl (o_neq (b := true) n252.at_ ev_const (by simp [show ¬ (chkF2 lf lg) = 0 from (by simpa using hbad)])) (fun an253 n253 => ?_)
        refine wpList_nil ?_
        refine th_n (hK251 _ _ ?_)
        refine wp_cond_true (n253.at_) ?_
        refine wp_seq_k (fun K254 hK254 => ?_)
        refine wp_region_lit ?_
        have e255 := n253.ne rfl (n252.ne rfl (n249.ne rfl n248.at_))
        refine sv n253.ok rfl (wn _ rfl) rfl (o_mv e255) (fun an256 n256 => ?_)
        refine sv n256.ok rfl (wn _ rfl) rfl (o_len n256.at_ Tryz.underlying23) (fun an257 n257 => ?_)
        refine sv n257.ok rfl (wn _ rfl) rfl (o_eq (b := true) n257.at_ ev_const (by decide)) (fun an258 n258 => ?_)
        refine sv n258.ok rfl (wn _ rfl) rfl (o_as n258.at_) (fun an259 n259 => ?_)
        refine wpList_nil ?_
        refine th_n (hK254 _ _ ?_)
        refine wp_ret ?_
        refine th_r ?_
        exact ret1 n259.ok rfl (n259.at_) ⟨rfl, G240⟩
    · refine wp_cond_true ((n149.at_).trans (congrArg Value.bool (c150))) ?_
      have hdc150 : pd = false := by simpa using c150
      refine wp_seq_k (fun K260 hK260 => ?_)
      refine wp_region_lit ?_
      have e261 := n149.ne rfl (n147.ne rfl (n139.ne rfl (n138.ne rfl (n133.ne rfl (n132.ne rfl (n124.ne rfl (n123.ne rfl (n119.ne rfl (n118.ne rfl (n117.ne rfl (n116.ne rfl (n115.ne rfl (n107.ne rfl (n106.ne rfl (n104.ne rfl (n101.ne rfl (n100.ne rfl (n99.ne rfl (n98.ne rfl (n97.ne rfl (n89.ne rfl (n88.ne rfl (n86.ne rfl (n84.ne rfl n81.at_))))))))))))))))))))))))
      refine sv n149.ok rfl (wn _ rfl) rfl (o_mv e261) (fun an262 n262 => ?_)
      refine sv n262.ok rfl (wn _ rfl) rfl (o_neq (b := true) n262.at_ ev_const (by simp [show ¬ (hasE t n a c) = 0 from (by unfold hasE; rw [hpd, hdc150]; simp)])) (fun an263 n263 => ?_)
      refine sv n263.ok rfl (wn _ rfl) rfl (o_mv n263.at_) (fun an264 n264 => ?_)
      have e265 := n264.ne rfl (n263.ne rfl (n262.ne rfl (n149.ne rfl (n147.ne rfl (n139.ne rfl (n138.ne rfl (n133.ne rfl (n132.ne rfl (n124.ne rfl (n123.ne rfl (n119.ne rfl (n118.ne rfl (n117.ne rfl (n116.ne rfl (n115.ne rfl (n107.ne rfl (n106.ne rfl (n104.ne rfl n101.at_))))))))))))))))))
      refine sv n264.ok rfl (wgT rfl (yl 2 true rfl n264.at_) rfl) rfl (o_mv e265) (fun an266 n266 => ?_)
      refine sv n266.ok rfl (wgT rfl (yl 2 true rfl (n266.ne rfl n264.at_)) rfl) rfl (o_neq (b := true) n266.at_ ev_const (by simp [show ¬ (hasE t n a c) = 0 from (by unfold hasE; rw [hpd, hdc150]; simp)])) (fun an267 n267 => ?_)
      refine sv n267.ok rfl (wn _ rfl) rfl (o_pkT (n267.ne rfl (n266.ne rfl n264.at_)) n267.at_) (fun an268 n268 => ?_)
      refine sv n268.ok rfl (wn _ rfl) rfl (o_as n268.at_) (fun an269 n269 => ?_)
      refine wpList_nil ?_
      refine th_n (hK260 _ _ ?_)
      refine wp_ret ?_
      refine th_r ?_
      exact ret1 n269.ok rfl (n269.at_) ⟨rfl, G142⟩
  · have e270 := (n133.at_).trans (congrArg Value.bool (c134))
    have e271 := ((n133.ne rfl n132.at_)).trans (congrArg Value.bool (c134))
    have hpc134 : pp = false := by simpa using c134
    refine sn n133.ok rfl (wgF rfl (yl 3 true rfl e270) rfl) rfl (fun an272 n272 => ?_)
    refine sn n272.ok rfl (wgF rfl (yl 3 true rfl (n272.ne rfl e270)) rfl) rfl (fun an273 n273 => ?_)
    refine sn n273.ok rfl (wgF rfl (yl 3 true rfl (n273.ne rfl (n272.ne rfl e270))) rfl) rfl (fun an274 n274 => ?_)
    have e275 := n274.ne rfl (n273.ne rfl (n272.ne rfl e270))
    refine sv n274.ok rfl (wn _ rfl) rfl (o_pkT e275 ev_const) (fun an276 n276 => ?_)
    refine wpList_nil ?_
    refine th_n (hK121 _ _ ?_)
    refine wp_cond_true (n276.at_) ?_
    refine wp_seq_k (fun K277 hK277 => ?_)
    refine wp_region_lit ?_
    have e278 := n276.ne rfl (n274.ne rfl (n273.ne rfl (n272.ne rfl (n133.ne rfl (n132.ne rfl (n124.ne rfl (n123.ne rfl (n119.ne rfl (n118.ne rfl (n117.ne rfl (n116.ne rfl (n115.ne rfl (n107.ne rfl (n106.ne rfl (n104.ne rfl (n101.ne rfl (n100.ne rfl (n99.ne rfl (n98.ne rfl (n97.ne rfl (n89.ne rfl (n88.ne rfl (n86.ne rfl (n84.ne rfl n81.at_))))))))))))))))))))))))
    refine sv n276.ok rfl (wn _ rfl) rfl (o_mv e278) (fun an279 n279 => ?_)
    refine sv n279.ok rfl (wn _ rfl) rfl (o_neq (b := true) n279.at_ ev_const (by simp [show ¬ (hasE t n a c) = 0 from (by unfold hasE; rw [hpp, hpc134]; simp)])) (fun an280 n280 => ?_)
    refine sv n280.ok rfl (wn _ rfl) rfl (o_mv n280.at_) (fun an281 n281 => ?_)
    have e282 := n281.ne rfl (n280.ne rfl (n279.ne rfl (n276.ne rfl (n274.ne rfl (n273.ne rfl (n272.ne rfl (n133.ne rfl (n132.ne rfl (n124.ne rfl (n123.ne rfl (n119.ne rfl (n118.ne rfl (n117.ne rfl (n116.ne rfl (n115.ne rfl (n107.ne rfl (n106.ne rfl (n104.ne rfl n101.at_))))))))))))))))))
    refine sv n281.ok rfl (wgT rfl (yl 2 true rfl n281.at_) rfl) rfl (o_mv e282) (fun an283 n283 => ?_)
    refine sv n283.ok rfl (wgT rfl (yl 2 true rfl (n283.ne rfl n281.at_)) rfl) rfl (o_neq (b := true) n283.at_ ev_const (by simp [show ¬ (hasE t n a c) = 0 from (by unfold hasE; rw [hpp, hpc134]; simp)])) (fun an284 n284 => ?_)
    refine sv n284.ok rfl (wn _ rfl) rfl (o_pkT (n284.ne rfl (n283.ne rfl n281.at_)) n284.at_) (fun an285 n285 => ?_)
    refine sv n285.ok rfl (wn _ rfl) rfl (o_as n285.at_) (fun an286 n286 => ?_)
    refine wpList_nil ?_
    refine th_n (hK277 _ _ ?_)
    refine wp_ret ?_
    refine th_r ?_
    exact ret1 n286.ok rfl (n286.at_) ⟨rfl, G127⟩
set_option maxHeartbeats 8000000 in
set_option maxRecDepth 100000 in
theorem partNarrows_ok (Fs0 : List (List BoxI)) (Ls0 : List (List (List Int))) (fa0 la0 : Option Addr) (fc0 lc0 : Nat) (hfc0 : Fs0.length ≤ fc0) (fv gv : Value) (t n a c : Int) (U V : Nat → Nat) (w : World) (hF0 : RdV (fun w u x => RdF w u x) w fa0 Fs0) (hL0 : RdV (fun w u x => RdLL w u x) w la0 Ls0) (hf : FS w fv U) (hg : FS w gv V) :
    Calls Tryz.prog 5 #[.slice fa0 Fs0.length fc0, .slice la0 Ls0.length lc0, fv, gv, .agg #[.int .i64 (t), .int .i64 (n)], .agg #[.int .i64 (a), .int .i64 (c)]] w fun e w' => e = .returned (.bool true) ∧ Gr w w' := by
  refine enter (N := 127) Tryz.func5 rfl rfl rfl (fun a0 ok0 h0 => ?_)
  have e0_0 : a0.eval (.tmp 0) = .slice fa0 Fs0.length fc0 := h0 0 _ rfl
  have e0_1 : a0.eval (.tmp 1) = .slice la0 Ls0.length lc0 := h0 1 _ rfl
  have e0_2 : a0.eval (.tmp 2) = fv := h0 2 _ rfl
  have e0_3 : a0.eval (.tmp 3) = gv := h0 3 _ rfl
  have e0_4 : a0.eval (.tmp 4) = .agg #[.int .i64 (t), .int .i64 (n)] := h0 4 _ rfl
  have e0_5 : a0.eval (.tmp 5) = .agg #[.int .i64 (a), .int .i64 (c)] := h0 5 _ rfl
  clear h0
  have G0 := Gr.refl w
  refine wp_seq_k (fun K1 hK1 => ?_)
  refine wp_region_lit ?_
  refine sal (cs := #[.int .i64 (t), .int .i64 (n)]) ok0 rfl (wn _ rfl) rfl (o_box e0_4) (fun an2 w4 b3 W5 n2 => ?_)
  have l6 : w.heap.size ≤ b3 := by rw [W5.eq]; exact G0.size
  have G7 := G0.trans W5.gr
  refine sal (cs := #[.int .i64 (a), .int .i64 (c)]) n2.ok rfl (wn _ rfl) rfl (o_box (n2.ne rfl e0_5)) (fun an8 w10 b9 W11 n8 => ?_)
  have l12 : b3 < b9 := by rw [W11.eq]; exact W5.bk.lt
  have l13 : w.heap.size ≤ b9 := by rw [W11.eq]; exact G7.size
  have G14 := G7.trans W11.gr
  have B15 := W5.bk.gr W11.gr
  refine sv n8.ok rfl (wn _ rfl) rfl (o_as ev_const) (fun an16 n16 => ?_)
  refine wpList_nil ?_
  refine th_n (hK1 _ _ ?_)
  refine wp_seq_k (fun K17 hK17 => ?_)
  refine wp_seq_k (fun K18 hK18 => ?_)
  refine wp_region_lit ?_
  refine sc n16.ok rfl (wn _ rfl) rfl (o_f0 Tryz.func20 rfl rfl rfl ) (partBegun_any w10) ?_
  rintro _ w20 ⟨rfl, g21⟩
  refine ⟨_, rfl, fun an19 n19 => ?_⟩
  have G22 := G14.trans g21
  have B23 := B15.gr g21
  have B24 := W11.bk.gr g21
  refine sv n19.ok rfl (wn _ rfl) rfl (o_not n19.at_ rfl) (fun an25 n25 => ?_)
  refine wpList_nil ?_
  refine th_n (hK18 _ _ ?_)
  refine wp_cond_false (n25.at_) ?_
  refine wp_skip ?_
  refine th_n (hK17 _ _ ?_)
  refine wp_seq_k (fun K26 hK26 => ?_)
  refine wp_region_lit ?_
  have e27 := n25.ne rfl (n19.ne rfl (n16.ne rfl (n8.ne rfl (n2.ne rfl e0_0))))
  refine sv n25.ok rfl (wn _ rfl) rfl (o_mv e27) (fun an28 n28 => ?_)
  have e29 := n28.ne rfl (n25.ne rfl (n19.ne rfl (n16.ne rfl (n8.ne rfl (n2.ne rfl e0_1)))))
  refine sv n28.ok rfl (wn _ rfl) rfl (o_mv e29) (fun an30 n30 => ?_)
  refine sc n30.ok rfl (wn _ rfl) rfl (o_f2 Tryz.func21 rfl rfl rfl (n30.ne rfl n28.at_) n30.at_) (parts_any Fs0 Ls0 fa0 la0 fc0 lc0 hfc0 w20 (RdV.gr rdf_gr hF0 G22) (RdV.gr rdll_gr hL0 G22)) ?_
  rintro _ w32 ⟨Kp0, vp0, rfl, hlp0, hop0, hmp0, g33⟩
  obtain ⟨pap0, pcp0, rfl, hcp0⟩ := ow_form hop0
  have hnp0 := ow_nil hop0
  have hrp0 := RdA.own encP_ok hop0 rfl
  refine ⟨_, rfl, fun an31 n31 => ?_⟩
  have G34 := G22.trans g33
  have B35 := B23.gr g33
  have B36 := B24.gr g33
  have A38 := Gr.refl w32
  refine sv n31.ok rfl (wn _ rfl) rfl (o_as n31.at_) (fun an39 n39 => ?_)
  refine wpList_nil ?_
  refine th_n (hK26 _ _ ?_)
  refine wp_seq_k (fun K40 hK40 => ?_)
  refine wp_region_lit ?_
  refine sv n39.ok rfl (wn _ rfl) rfl (o_mv n39.at_) (fun an41 n41 => ?_)
  have e42 := n41.ne rfl (n39.ne rfl (n31.ne rfl (n30.ne rfl (n28.ne rfl (n25.ne rfl (n19.ne rfl (n16.ne rfl (n8.ne rfl (n2.ne rfl e0_2)))))))))
  refine sv n41.ok rfl (wn _ rfl) rfl (o_mv e42) (fun an43 n43 => ?_)
  refine sc n43.ok rfl (wn _ rfl) rfl (o_f2 Tryz.func10 rfl rfl rfl (n43.ne rfl n41.at_) n43.at_) (pnarrow_small Kp0 pap0 pcp0 fv U (by omega) w32 (hrp0.gr A38) (hmp0.gr A38) (hf.gr G34)) ?_
  rintro _ w45 ⟨Fn1, qan1, qcn1, rfl, hcn1, hnn1, hln1, hen1, hfn1, hrn1, hmn1, g46⟩
  refine ⟨_, rfl, fun an44 n44 => ?_⟩
  have G47 := G34.trans g46
  have B48 := B35.gr g46
  have B49 := B36.gr g46
  have A50 := A38.trans g46
  have A52 := Gr.refl w45
  refine sv n44.ok rfl (wn _ rfl) rfl (o_mv n44.at_) (fun an53 n53 => ?_)
  refine sv n53.ok rfl (wn _ rfl) rfl (o_ex n53.at_ rfl) (fun an54 n54 => ?_)
  refine sv n54.ok rfl (wn _ rfl) rfl (o_ex (n54.ne rfl n53.at_) rfl) (fun an55 n55 => ?_)
  refine sv n55.ok rfl (wn _ rfl) rfl (o_as (n55.ne rfl n54.at_)) (fun an56 n56 => ?_)
  refine sv n56.ok rfl (wn _ rfl) rfl (o_as (n56.ne rfl n55.at_)) (fun an57 n57 => ?_)
  refine wpList_nil ?_
  refine th_n (hK40 _ _ ?_)
  refine wp_seq_k (fun K58 hK58 => ?_)
  refine wp_seq_k (fun K59 hK59 => ?_)
  refine wp_region_lit ?_
  refine sv n57.ok rfl (wn _ rfl) rfl (o_mv n57.at_) (fun an60 n60 => ?_)
  refine sv n60.ok rfl (wn _ rfl) rfl (o_neq (b := false) n60.at_ ev_const (by decide)) (fun an61 n61 => ?_)
  refine wpList_nil ?_
  refine th_n (hK59 _ _ ?_)
  refine wp_cond_false (n61.at_) ?_
  refine wp_skip ?_
  refine th_n (hK58 _ _ ?_)
  refine wp_seq_k (fun K62 hK62 => ?_)
  refine wp_region_lit ?_
  have e63 := n61.ne rfl (n60.ne rfl (n57.ne rfl (n56.ne rfl (n55.ne rfl (n54.ne rfl (n53.ne rfl (n44.ne rfl (n43.ne rfl (n41.ne rfl n39.at_)))))))))
  refine sv n61.ok rfl (wn _ rfl) rfl (o_mv e63) (fun an64 n64 => ?_)
  have e65 := n64.ne rfl (n61.ne rfl (n60.ne rfl (n57.ne rfl (n56.ne rfl (n55.ne rfl (n54.ne rfl (n53.ne rfl (n44.ne rfl (n43.ne rfl (n41.ne rfl (n39.ne rfl (n31.ne rfl (n30.ne rfl (n28.ne rfl (n25.ne rfl (n19.ne rfl (n16.ne rfl (n8.ne rfl n2.at_))))))))))))))))))
  refine sv n64.ok rfl (wn _ rfl) rfl (o_ldR e65 B48 Tryz.underlying56 rfl (by kernel_rfl)) (fun an66 n66 => ?_)
  have e67 := n66.ne rfl (n64.ne rfl (n61.ne rfl (n60.ne rfl (n57.ne rfl (n56.ne rfl (n55.ne rfl (n54.ne rfl (n53.ne rfl (n44.ne rfl (n43.ne rfl (n41.ne rfl (n39.ne rfl (n31.ne rfl (n30.ne rfl (n28.ne rfl (n25.ne rfl (n19.ne rfl (n16.ne rfl n8.at_))))))))))))))))))
  refine sv n66.ok rfl (wn _ rfl) rfl (o_ldR e67 B49 Tryz.underlying58 rfl (by kernel_rfl)) (fun an68 n68 => ?_)
  obtain ⟨pu, hpu⟩ : ∃ b, hasV Kp0 t n a c = b := ⟨_, rfl⟩
  refine sc n68.ok rfl (wn _ rfl) rfl (o_f3 Tryz.func23 rfl rfl rfl (n68.ne rfl (n66.ne rfl n64.at_)) (n68.ne rfl n66.at_) n68.at_) ((by have h := phas Kp0 pap0 pcp0 t n a c w45 (by omega) (hrp0.gr A50) (hmp0.gr A50); rw [hpu] at h; exact h)) ?_
  rintro _ w70 ⟨rfl, g71⟩
  refine ⟨_, rfl, fun an69 n69 => ?_⟩
  have G72 := G47.trans g71
  have B73 := B48.gr g71
  have B74 := B49.gr g71
  have A75 := A50.trans g71
  have A76 := A52.trans g71
  refine sv n69.ok rfl (wn _ rfl) rfl (o_mv n69.at_) (fun an77 n77 => ?_)
  refine sv n77.ok rfl (wn _ rfl) rfl (o_ex n77.at_ rfl) (fun an78 n78 => ?_)
  refine sv n78.ok rfl (wn _ rfl) rfl (o_ex (n78.ne rfl n77.at_) rfl) (fun an79 n79 => ?_)
  refine sv n79.ok rfl (wn _ rfl) rfl (o_as (n79.ne rfl n78.at_)) (fun an80 n80 => ?_)
  refine sv n80.ok rfl (wn _ rfl) rfl (o_as (n80.ne rfl n79.at_)) (fun an81 n81 => ?_)
  refine wpList_nil ?_
  refine th_n (hK62 _ _ ?_)
  refine wp_seq_k (fun K82 hK82 => ?_)
  refine wp_region_lit ?_
  have e83 := n81.ne rfl (n80.ne rfl (n79.ne rfl (n78.ne rfl (n77.ne rfl (n69.ne rfl (n68.ne rfl (n66.ne rfl (n64.ne rfl (n61.ne rfl (n60.ne rfl (n57.ne rfl n56.at_)))))))))))
  refine sv n81.ok rfl (wn _ rfl) rfl (o_mv e83) (fun an84 n84 => ?_)
  have e85 := n84.ne rfl (n81.ne rfl (n80.ne rfl (n79.ne rfl (n78.ne rfl (n77.ne rfl (n69.ne rfl (n68.ne rfl (n66.ne rfl e65))))))))
  refine sv n84.ok rfl (wn _ rfl) rfl (o_ldR e85 B73 Tryz.underlying56 rfl (by kernel_rfl)) (fun an86 n86 => ?_)
  have e87 := n86.ne rfl (n84.ne rfl (n81.ne rfl (n80.ne rfl (n79.ne rfl (n78.ne rfl (n77.ne rfl (n69.ne rfl (n68.ne rfl e67))))))))
  refine sv n86.ok rfl (wn _ rfl) rfl (o_ldR e87 B74 Tryz.underlying58 rfl (by kernel_rfl)) (fun an88 n88 => ?_)
  obtain ⟨pi, hpi⟩ : ∃ b, bitT U t n = b := ⟨_, rfl⟩
  refine sc n88.ok rfl (wn _ rfl) rfl (o_f3 Tryz.func23 rfl rfl rfl (n88.ne rfl (n86.ne rfl n84.at_)) (n88.ne rfl n86.at_) n88.at_) ((by have h := phas Fn1 qan1 qcn1 t n a c w70 (by omega) (hrn1.gr A76) (hmn1.gr A76); rw [hasV_nar hen1, hpu, hpi] at h; exact h)) ?_
  rintro _ w90 ⟨rfl, g91⟩
  refine ⟨_, rfl, fun an89 n89 => ?_⟩
  have G92 := G72.trans g91
  have B93 := B73.gr g91
  have B94 := B74.gr g91
  have A95 := A75.trans g91
  have A96 := A76.trans g91
  refine sv n89.ok rfl (wn _ rfl) rfl (o_mv n89.at_) (fun an97 n97 => ?_)
  refine sv n97.ok rfl (wn _ rfl) rfl (o_ex n97.at_ rfl) (fun an98 n98 => ?_)
  refine sv n98.ok rfl (wn _ rfl) rfl (o_ex (n98.ne rfl n97.at_) rfl) (fun an99 n99 => ?_)
  refine sv n99.ok rfl (wn _ rfl) rfl (o_as (n99.ne rfl n98.at_)) (fun an100 n100 => ?_)
  refine sv n100.ok rfl (wn _ rfl) rfl (o_as (n100.ne rfl n99.at_)) (fun an101 n101 => ?_)
  refine wpList_nil ?_
  refine th_n (hK82 _ _ ?_)
  refine wp_seq_k (fun K102 hK102 => ?_)
  refine wp_region_lit ?_
  have e103 := n101.ne rfl (n100.ne rfl (n99.ne rfl (n98.ne rfl (n97.ne rfl (n89.ne rfl (n88.ne rfl (n86.ne rfl (n84.ne rfl (n81.ne rfl (n80.ne rfl (n79.ne rfl (n78.ne rfl (n77.ne rfl (n69.ne rfl (n68.ne rfl (n66.ne rfl (n64.ne rfl (n61.ne rfl (n60.ne rfl (n57.ne rfl (n56.ne rfl (n55.ne rfl (n54.ne rfl (n53.ne rfl (n44.ne rfl (n43.ne rfl e42))))))))))))))))))))))))))
  refine sv n101.ok rfl (wn _ rfl) rfl (o_mv e103) (fun an104 n104 => ?_)
  have e105 := n104.ne rfl (n101.ne rfl (n100.ne rfl (n99.ne rfl (n98.ne rfl (n97.ne rfl (n89.ne rfl (n88.ne rfl (n86.ne rfl e85))))))))
  refine sv n104.ok rfl (wn _ rfl) rfl (o_ldR e105 B93 Tryz.underlying56 rfl (by kernel_rfl)) (fun an106 n106 => ?_)
  refine sc n106.ok rfl (wn _ rfl) rfl (o_f2 Tryz.func25 rfl rfl rfl (n106.ne rfl n104.at_) n106.at_) ((by have h := fhas_ok (hf.gr G92) t n; rw [hpi] at h; exact h)) ?_
  rintro _ w108 ⟨rfl, g109⟩
  refine ⟨_, rfl, fun an107 n107 => ?_⟩
  have G110 := G92.trans g109
  have B111 := B93.gr g109
  have B112 := B94.gr g109
  have A113 := A95.trans g109
  have A114 := A96.trans g109
  refine sv n107.ok rfl (wn _ rfl) rfl (o_mv n107.at_) (fun an115 n115 => ?_)
  refine sv n115.ok rfl (wn _ rfl) rfl (o_ex n115.at_ rfl) (fun an116 n116 => ?_)
  refine sv n116.ok rfl (wn _ rfl) rfl (o_ex (n116.ne rfl n115.at_) rfl) (fun an117 n117 => ?_)
  refine sv n117.ok rfl (wn _ rfl) rfl (o_as (n117.ne rfl n116.at_)) (fun an118 n118 => ?_)
  refine sv n118.ok rfl (wn _ rfl) rfl (o_as (n118.ne rfl n117.at_)) (fun an119 n119 => ?_)
  refine wpList_nil ?_
  refine th_n (hK102 _ _ ?_)
  refine wp_seq_k (fun K120 hK120 => ?_)
  refine wp_seq_k (fun K121 hK121 => ?_)
  refine wp_region_lit ?_
  have e122 := n119.ne rfl (n118.ne rfl (n117.ne rfl (n116.ne rfl (n115.ne rfl (n107.ne rfl (n106.ne rfl e105))))))
  refine sv n119.ok rfl (wn _ rfl) rfl (o_ldR e122 B111 Tryz.underlying56 rfl (by kernel_rfl)) (fun an123 n123 => ?_)
  obtain ⟨pp, hpp⟩ : ∃ b, pointB t n = b := ⟨_, rfl⟩
  refine sc n123.ok rfl (wn _ rfl) rfl (o_f1 Tryz.func26 rfl rfl rfl n123.at_) ((by have h := point_any t n w108; rw [hpp] at h; exact h)) ?_
  rintro _ w125 ⟨rfl, g126⟩
  refine ⟨_, rfl, fun an124 n124 => ?_⟩
  have G127 := G110.trans g126
  have B128 := B111.gr g126
  have B129 := B112.gr g126
  have A130 := A113.trans g126
  have A131 := A114.trans g126
  refine sv n124.ok rfl (wn _ rfl) rfl (o_notI n124.at_) (fun an132 n132 => ?_)
  refine sv n132.ok rfl (wn _ rfl) rfl (o_mv n132.at_) (fun an133 n133 => ?_)
  cases c134 : (!pp)
  · have e135 := (n133.at_).trans (congrArg Value.bool (c134))
    have e136 := ((n133.ne rfl n132.at_)).trans (congrArg Value.bool (c134))
    have hpc134 : pp = true := by simpa using c134
    have e137 := n133.ne rfl (n132.ne rfl (n124.ne rfl (n123.ne rfl (n119.ne rfl (n118.ne rfl (n117.ne rfl (n116.ne rfl (n115.ne rfl (n107.ne rfl (n106.ne rfl (n104.ne rfl (n101.ne rfl (n100.ne rfl (n99.ne rfl (n98.ne rfl (n97.ne rfl (n89.ne rfl (n88.ne rfl e87))))))))))))))))))
    refine sv n133.ok rfl (wgT rfl (yl 3 false rfl e135) rfl) rfl (o_ldR e137 B129 Tryz.underlying58 rfl (by kernel_rfl)) (fun an138 n138 => ?_)
    obtain ⟨pd, hpd⟩ : ∃ b, dotB (a, c) = b := ⟨_, rfl⟩
    refine sc n138.ok rfl (wgT rfl (yl 3 false rfl (n138.ne rfl e135)) rfl) rfl (o_f1 Tryz.func27 rfl rfl rfl n138.at_) ((by have h := dot_any (a, c) w125; rw [hpd] at h; exact h)) ?_
    rintro _ w140 ⟨rfl, g141⟩
    refine ⟨_, rfl, fun an139 n139 => ?_⟩
    have G142 := G127.trans g141
    have B143 := B128.gr g141
    have B144 := B129.gr g141
    have A145 := A130.trans g141
    have A146 := A131.trans g141
    refine sv n139.ok rfl (wgT rfl (yl 3 false rfl (n139.ne rfl (n138.ne rfl e135))) rfl) rfl (o_notI n139.at_) (fun an147 n147 => ?_)
    have e148 := n147.ne rfl (n139.ne rfl (n138.ne rfl e135))
    refine sv n147.ok rfl (wn _ rfl) rfl (o_pkF e148 n147.at_) (fun an149 n149 => ?_)
    refine wpList_nil ?_
    refine th_n (hK121 _ _ ?_)
    cases c150 : (!pd)
    · refine wp_cond_false ((n149.at_).trans (congrArg Value.bool (c150))) ?_
      have hdc150 : pd = true := by simpa using c150
      refine wp_skip ?_
      refine th_n (hK120 _ _ ?_)
      refine wp_seq_k (fun K151 hK151 => ?_)
      refine wp_seq_k (fun K152 hK152 => ?_)
      refine wp_region_lit ?_
      have e153 := n149.ne rfl (n147.ne rfl (n139.ne rfl (n138.ne rfl (n133.ne rfl (n132.ne rfl (n124.ne rfl (n123.ne rfl (n119.ne rfl (n118.ne rfl (n117.ne rfl (n116.ne rfl (n115.ne rfl (n107.ne rfl (n106.ne rfl (n104.ne rfl (n101.ne rfl (n100.ne rfl (n99.ne rfl (n98.ne rfl (n97.ne rfl (n89.ne rfl (n88.ne rfl (n86.ne rfl (n84.ne rfl n81.at_))))))))))))))))))))))))
      refine sv n149.ok rfl (wn _ rfl) rfl (o_mv e153) (fun an154 n154 => ?_)
      refine sv n154.ok rfl (wn _ rfl) rfl (o_neq (b := false) n154.at_ ev_const (by simp [show (hasE t n a c) = 0 from (by unfold hasE; rw [hpp, hpc134, hpd, hdc150]; rfl)])) (fun an155 n155 => ?_)
      refine sv n155.ok rfl (wn _ rfl) rfl (o_mv n155.at_) (fun an156 n156 => ?_)
      have e157 := n156.ne rfl (n155.ne rfl (n154.ne rfl (n149.ne rfl (n147.ne rfl (n139.ne rfl (n138.ne rfl (n133.ne rfl (n132.ne rfl (n124.ne rfl (n123.ne rfl (n119.ne rfl (n118.ne rfl (n117.ne rfl (n116.ne rfl (n115.ne rfl (n107.ne rfl (n106.ne rfl (n104.ne rfl n101.at_))))))))))))))))))
      refine sv n156.ok rfl (wgT rfl (yl 2 false rfl n156.at_) rfl) rfl (o_mv e157) (fun an158 n158 => ?_)
      refine sv n158.ok rfl (wgT rfl (yl 2 false rfl (n158.ne rfl n156.at_)) rfl) rfl (o_neq (b := false) n158.at_ ev_const (by simp [show (hasE t n a c) = 0 from (by unfold hasE; rw [hpp, hpc134, hpd, hdc150]; rfl)])) (fun an159 n159 => ?_)
      refine sv n159.ok rfl (wn _ rfl) rfl (o_pkF (n159.ne rfl (n158.ne rfl n156.at_)) n159.at_) (fun an160 n160 => ?_)
      refine sv n160.ok rfl (wn _ rfl) rfl (o_mv n160.at_) (fun an161 n161 => ?_)
      have e162 := n161.ne rfl (n160.ne rfl (n159.ne rfl (n158.ne rfl (n156.ne rfl (n155.ne rfl (n154.ne rfl (n149.ne rfl (n147.ne rfl (n139.ne rfl (n138.ne rfl (n133.ne rfl (n132.ne rfl (n124.ne rfl (n123.ne rfl n119.at_))))))))))))))
      refine sv n161.ok rfl (wgT rfl (yl 6 false rfl n161.at_) rfl) rfl (o_mv e162) (fun an163 n163 => ?_)
      refine sv n163.ok rfl (wgT rfl (yl 6 false rfl (n163.ne rfl n161.at_)) rfl) rfl (o_neq (b := false) n163.at_ ev_const (by simp [show (errP t n) = 0 from (by unfold errP; rw [hpp, hpc134]; rfl)])) (fun an164 n164 => ?_)
      refine sv n164.ok rfl (wn _ rfl) rfl (o_pkF (n164.ne rfl (n163.ne rfl n161.at_)) n164.at_) (fun an165 n165 => ?_)
      refine sv n165.ok rfl (wn _ rfl) rfl (o_mv n165.at_) (fun an166 n166 => ?_)
      have e167 := n166.ne rfl (n165.ne rfl (n164.ne rfl (n163.ne rfl (n161.ne rfl (n160.ne rfl (n159.ne rfl (n158.ne rfl (n156.ne rfl (n155.ne rfl (n154.ne rfl (n149.ne rfl (n147.ne rfl (n139.ne rfl (n138.ne rfl (n133.ne rfl (n132.ne rfl (n124.ne rfl (n123.ne rfl (n119.ne rfl (n118.ne rfl (n117.ne rfl (n116.ne rfl (n115.ne rfl (n107.ne rfl (n106.ne rfl (n104.ne rfl (n101.ne rfl n100.at_)))))))))))))))))))))))))))
      refine sv n166.ok rfl (wgT rfl (yl 10 false rfl n166.at_) rfl) rfl (o_mv e167) (fun an168 n168 => ?_)
      have e169 := n168.ne rfl (n166.ne rfl (n165.ne rfl (n164.ne rfl (n163.ne rfl (n161.ne rfl (n160.ne rfl (n159.ne rfl (n158.ne rfl (n156.ne rfl (n155.ne rfl (n154.ne rfl (n149.ne rfl (n147.ne rfl (n139.ne rfl (n138.ne rfl (n133.ne rfl (n132.ne rfl (n124.ne rfl (n123.ne rfl (n119.ne rfl (n118.ne rfl (n117.ne rfl (n116.ne rfl (n115.ne rfl (n107.ne rfl (n106.ne rfl (n104.ne rfl (n101.ne rfl (n100.ne rfl (n99.ne rfl (n98.ne rfl (n97.ne rfl (n89.ne rfl (n88.ne rfl (n86.ne rfl (n84.ne rfl (n81.ne rfl n80.at_)))))))))))))))))))))))))))))))))))))
      refine sv n168.ok rfl (wgT rfl (yl 10 false rfl (n168.ne rfl n166.at_)) rfl) rfl (o_mv e169) (fun an170 n170 => ?_)
      refine sv n170.ok rfl (wgT rfl (yl 10 false rfl (n170.ne rfl (n168.ne rfl n166.at_))) rfl) rfl (o_mv n170.at_) (fun an171 n171 => ?_)
      cases c172 : pu
      · have e173 := (n171.at_).trans (congrArg Value.bool (c172))
        have e174 := n171.ne rfl (n170.ne rfl (n168.ne rfl (n166.ne rfl (n165.ne rfl (n164.ne rfl (n163.ne rfl (n161.ne rfl (n160.ne rfl (n159.ne rfl (n158.ne rfl (n156.ne rfl (n155.ne rfl (n154.ne rfl (n149.ne rfl (n147.ne rfl (n139.ne rfl (n138.ne rfl (n133.ne rfl (n132.ne rfl (n124.ne rfl (n123.ne rfl (n119.ne rfl (n118.ne rfl (n117.ne rfl (n116.ne rfl (n115.ne rfl (n107.ne rfl (n106.ne rfl (n104.ne rfl (n101.ne rfl (n100.ne rfl (n99.ne rfl (n98.ne rfl (n97.ne rfl (n89.ne rfl (n88.ne rfl (n86.ne rfl (n84.ne rfl (n81.ne rfl (n80.ne rfl (n79.ne rfl n78.at_)))))))))))))))))))))))))))))))))))))))))
        have e175 := (e174).trans (congrArg Value.bool (c172))
        have e176 := ((n171.ne rfl (n170.ne rfl e169))).trans (congrArg Value.bool (c172))
        have e177 := ((n171.ne rfl n170.at_)).trans (congrArg Value.bool (c172))
        have e178 := n171.ne rfl (n170.ne rfl (n168.ne rfl (n166.ne rfl (n165.ne rfl (n164.ne rfl (n163.ne rfl (n161.ne rfl (n160.ne rfl (n159.ne rfl (n158.ne rfl (n156.ne rfl (n155.ne rfl (n154.ne rfl (n149.ne rfl (n147.ne rfl (n139.ne rfl (n138.ne rfl (n133.ne rfl (n132.ne rfl (n124.ne rfl (n123.ne rfl (n119.ne rfl (n118.ne rfl (n117.ne rfl (n116.ne rfl (n115.ne rfl (n107.ne rfl (n106.ne rfl (n104.ne rfl (n101.ne rfl (n100.ne rfl (n99.ne rfl n98.at_))))))))))))))))))))))))))))))))
        have e179 := (e178).trans (congrArg Value.bool (show (pu && pi) = false by simp [c172]))
        have e180 := n171.ne rfl (n170.ne rfl (n168.ne rfl e167))
        have e181 := (e180).trans (congrArg Value.bool (show (pu && pi) = false by simp [c172]))
        have e182 := ((n171.ne rfl (n170.ne rfl n168.at_))).trans (congrArg Value.bool (show (pu && pi) = false by simp [c172]))
        refine sn n171.ok rfl (wgF rfl (yl 13 false rfl e173) rfl) rfl (fun an183 n183 => ?_)
        have e184 := n183.ne rfl (n171.ne rfl (n170.ne rfl (n168.ne rfl n166.at_)))
        refine sv n183.ok rfl (wgT rfl (yl 10 false rfl e184) rfl) rfl (o_pkF (n183.ne rfl e173) ev_const) (fun an185 n185 => ?_)
        refine sv n185.ok rfl (wgT rfl (yl 10 false rfl (n185.ne rfl e184)) rfl) rfl (o_neqB (b := false) (n185.ne rfl (n183.ne rfl e182)) n185.at_ (by simp) Tryz.underlying4) (fun an186 n186 => ?_)
        refine sv n186.ok rfl (wn _ rfl) rfl (o_pkF (n186.ne rfl (n185.ne rfl e184)) n186.at_) (fun an187 n187 => ?_)
        refine wpList_nil ?_
        refine th_n (hK152 _ _ ?_)
        refine wp_cond_false (n187.at_) ?_
        refine wp_skip ?_
        refine th_n (hK151 _ _ ?_)
        refine wp_seq_k (fun K188 hK188 => ?_)
        refine wp_region_lit ?_
        have e189 := n187.ne rfl (n186.ne rfl (n185.ne rfl (n183.ne rfl (n171.ne rfl (n170.ne rfl (n168.ne rfl (n166.ne rfl (n165.ne rfl (n164.ne rfl (n163.ne rfl (n161.ne rfl (n160.ne rfl (n159.ne rfl (n158.ne rfl (n156.ne rfl (n155.ne rfl (n154.ne rfl (n149.ne rfl (n147.ne rfl (n139.ne rfl (n138.ne rfl (n133.ne rfl (n132.ne rfl (n124.ne rfl (n123.ne rfl (n119.ne rfl (n118.ne rfl (n117.ne rfl (n116.ne rfl (n115.ne rfl (n107.ne rfl (n106.ne rfl (n104.ne rfl e103)))))))))))))))))))))))))))))))))
        refine sv n187.ok rfl (wn _ rfl) rfl (o_mv e189) (fun an190 n190 => ?_)
        have e191 := n190.ne rfl (n187.ne rfl (n186.ne rfl (n185.ne rfl (n183.ne rfl (n171.ne rfl (n170.ne rfl (n168.ne rfl (n166.ne rfl (n165.ne rfl (n164.ne rfl (n163.ne rfl (n161.ne rfl (n160.ne rfl (n159.ne rfl (n158.ne rfl (n156.ne rfl (n155.ne rfl (n154.ne rfl (n149.ne rfl (n147.ne rfl (n139.ne rfl (n138.ne rfl (n133.ne rfl (n132.ne rfl (n124.ne rfl (n123.ne rfl (n119.ne rfl (n118.ne rfl (n117.ne rfl (n116.ne rfl (n115.ne rfl (n107.ne rfl (n106.ne rfl (n104.ne rfl (n101.ne rfl (n100.ne rfl (n99.ne rfl (n98.ne rfl (n97.ne rfl (n89.ne rfl (n88.ne rfl (n86.ne rfl (n84.ne rfl (n81.ne rfl (n80.ne rfl (n79.ne rfl (n78.ne rfl (n77.ne rfl (n69.ne rfl (n68.ne rfl (n66.ne rfl (n64.ne rfl (n61.ne rfl (n60.ne rfl (n57.ne rfl (n56.ne rfl (n55.ne rfl (n54.ne rfl (n53.ne rfl (n44.ne rfl (n43.ne rfl (n41.ne rfl (n39.ne rfl (n31.ne rfl (n30.ne rfl (n28.ne rfl (n25.ne rfl (n19.ne rfl (n16.ne rfl (n8.ne rfl (n2.ne rfl e0_3)))))))))))))))))))))))))))))))))))))))))))))))))))))))))))))))))))))))
        refine sv n190.ok rfl (wn _ rfl) rfl (o_mv e191) (fun an192 n192 => ?_)
        refine sc n192.ok rfl (wn _ rfl) rfl (o_f2 Tryz.func28 rfl rfl rfl (n192.ne rfl n190.at_) n192.at_) (fmeet_ok (hf.gr G142) (hg.gr G142)) ?_
        rintro _ w194 ⟨mo, rfl, hmo, g195⟩
        refine ⟨_, rfl, fun an193 n193 => ?_⟩
        have G196 := G142.trans g195
        have B197 := B143.gr g195
        have B198 := B144.gr g195
        have A199 := A145.trans g195
        have A200 := A146.trans g195
        have A202 := Gr.refl w194
        refine sv n193.ok rfl (wn _ rfl) rfl (o_mv n193.at_) (fun an203 n203 => ?_)
        refine sv n203.ok rfl (wn _ rfl) rfl (o_ex n203.at_ rfl) (fun an204 n204 => ?_)
        refine sv n204.ok rfl (wn _ rfl) rfl (o_ex (n204.ne rfl n203.at_) rfl) (fun an205 n205 => ?_)
        refine sv n205.ok rfl (wn _ rfl) rfl (o_as (n205.ne rfl n204.at_)) (fun an206 n206 => ?_)
        refine sv n206.ok rfl (wn _ rfl) rfl (o_as (n206.ne rfl n205.at_)) (fun an207 n207 => ?_)
        refine wpList_nil ?_
        refine th_n (hK188 _ _ ?_)
        refine wp_seq_k (fun K208 hK208 => ?_)
        refine wp_seq_k (fun K209 hK209 => ?_)
        refine wp_region_lit ?_
        refine sv n207.ok rfl (wn _ rfl) rfl (o_mv n207.at_) (fun an210 n210 => ?_)
        refine sv n210.ok rfl (wn _ rfl) rfl (o_neq (b := false) n210.at_ ev_const (by decide)) (fun an211 n211 => ?_)
        refine wpList_nil ?_
        refine th_n (hK209 _ _ ?_)
        refine wp_cond_false (n211.at_) ?_
        refine wp_skip ?_
        refine th_n (hK208 _ _ ?_)
        refine wp_seq_k (fun K212 hK212 => ?_)
        refine wp_region_lit ?_
        have e213 := n211.ne rfl (n210.ne rfl (n207.ne rfl (n206.ne rfl (n205.ne rfl (n204.ne rfl (n203.ne rfl (n193.ne rfl (n192.ne rfl (n190.ne rfl (n187.ne rfl (n186.ne rfl (n185.ne rfl (n183.ne rfl (n171.ne rfl (n170.ne rfl (n168.ne rfl (n166.ne rfl (n165.ne rfl (n164.ne rfl (n163.ne rfl (n161.ne rfl (n160.ne rfl (n159.ne rfl (n158.ne rfl (n156.ne rfl (n155.ne rfl (n154.ne rfl (n149.ne rfl (n147.ne rfl (n139.ne rfl (n138.ne rfl (n133.ne rfl (n132.ne rfl (n124.ne rfl (n123.ne rfl (n119.ne rfl (n118.ne rfl (n117.ne rfl (n116.ne rfl (n115.ne rfl (n107.ne rfl (n106.ne rfl (n104.ne rfl (n101.ne rfl (n100.ne rfl (n99.ne rfl (n98.ne rfl (n97.ne rfl (n89.ne rfl (n88.ne rfl (n86.ne rfl (n84.ne rfl e83))))))))))))))))))))))))))))))))))))))))))))))))))))
        refine sv n211.ok rfl (wn _ rfl) rfl (o_mv e213) (fun an214 n214 => ?_)
        have e215 := n214.ne rfl (n211.ne rfl (n210.ne rfl (n207.ne rfl (n206.ne rfl (n205.ne rfl (n204.ne rfl (n203.ne rfl (n193.ne rfl (n192.ne rfl e191)))))))))
        refine sv n214.ok rfl (wn _ rfl) rfl (o_mv e215) (fun an216 n216 => ?_)
        refine sc n216.ok rfl (wn _ rfl) rfl (o_f2 Tryz.func10 rfl rfl rfl (n216.ne rfl n214.at_) n216.at_) (pnarrow_small Fn1 qan1 qcn1 gv V (by omega) w194 (hrn1.gr A200) (hmn1.gr A200) (hg.gr G196)) ?_
        rintro _ w218 ⟨Fn2, qan2, qcn2, rfl, hcn2, hnn2, hln2, hen2, hfn2, hrn2, hmn2, g219⟩
        refine ⟨_, rfl, fun an217 n217 => ?_⟩
        have G220 := G196.trans g219
        have B221 := B197.gr g219
        have B222 := B198.gr g219
        have A223 := A199.trans g219
        have A224 := A200.trans g219
        have A225 := A202.trans g219
        have A227 := Gr.refl w218
        refine sv n217.ok rfl (wn _ rfl) rfl (o_mv n217.at_) (fun an228 n228 => ?_)
        refine sv n228.ok rfl (wn _ rfl) rfl (o_ex n228.at_ rfl) (fun an229 n229 => ?_)
        refine sv n229.ok rfl (wn _ rfl) rfl (o_ex (n229.ne rfl n228.at_) rfl) (fun an230 n230 => ?_)
        refine sv n230.ok rfl (wn _ rfl) rfl (o_as (n230.ne rfl n229.at_)) (fun an231 n231 => ?_)
        refine sv n231.ok rfl (wn _ rfl) rfl (o_as (n231.ne rfl n230.at_)) (fun an232 n232 => ?_)
        refine wpList_nil ?_
        refine th_n (hK212 _ _ ?_)
        refine wp_seq_k (fun K233 hK233 => ?_)
        refine wp_region_lit ?_
        have e234 := n232.ne rfl (n231.ne rfl (n230.ne rfl (n229.ne rfl (n228.ne rfl (n217.ne rfl (n216.ne rfl (n214.ne rfl (n211.ne rfl (n210.ne rfl (n207.ne rfl (n206.ne rfl (n205.ne rfl (n204.ne rfl (n203.ne rfl (n193.ne rfl (n192.ne rfl (n190.ne rfl (n187.ne rfl (n186.ne rfl (n185.ne rfl (n183.ne rfl (n171.ne rfl (n170.ne rfl (n168.ne rfl (n166.ne rfl (n165.ne rfl (n164.ne rfl (n163.ne rfl (n161.ne rfl (n160.ne rfl (n159.ne rfl (n158.ne rfl (n156.ne rfl (n155.ne rfl (n154.ne rfl (n149.ne rfl (n147.ne rfl (n139.ne rfl (n138.ne rfl (n133.ne rfl (n132.ne rfl (n124.ne rfl (n123.ne rfl (n119.ne rfl (n118.ne rfl (n117.ne rfl (n116.ne rfl (n115.ne rfl (n107.ne rfl (n106.ne rfl (n104.ne rfl (n101.ne rfl (n100.ne rfl (n99.ne rfl (n98.ne rfl (n97.ne rfl (n89.ne rfl (n88.ne rfl (n86.ne rfl (n84.ne rfl (n81.ne rfl (n80.ne rfl (n79.ne rfl (n78.ne rfl (n77.ne rfl (n69.ne rfl (n68.ne rfl (n66.ne rfl (n64.ne rfl e63)))))))))))))))))))))))))))))))))))))))))))))))))))))))))))))))))))))
        refine sv n232.ok rfl (wn _ rfl) rfl (o_mv e234) (fun an235 n235 => ?_)
        have e236 := n235.ne rfl (n232.ne rfl (n231.ne rfl (n230.ne rfl (n229.ne rfl (n228.ne rfl (n217.ne rfl (n216.ne rfl (n214.ne rfl (n211.ne rfl (n210.ne rfl (n207.ne rfl n206.at_)))))))))))
        refine sv n235.ok rfl (wn _ rfl) rfl (o_mv e236) (fun an237 n237 => ?_)
        refine sc n237.ok rfl (wn _ rfl) rfl (o_f2 Tryz.func10 rfl rfl rfl (n237.ne rfl n235.at_) n237.at_) (pnarrow_small Kp0 pap0 pcp0 mo (fun t => U t &&& V t) (by omega) w218 (hrp0.gr A223) (hmp0.gr A223) (FSn.le (hmo.gr A225) (by decide))) ?_
        rintro _ w239 ⟨Fn3, qan3, qcn3, rfl, hcn3, hnn3, hln3, hen3, hfn3, hrn3, hmn3, g240⟩
        refine ⟨_, rfl, fun an238 n238 => ?_⟩
        have G241 := G220.trans g240
        have B242 := B221.gr g240
        have B243 := B222.gr g240
        have A244 := A223.trans g240
        have A245 := A224.trans g240
        have A246 := A225.trans g240
        have A247 := A227.trans g240
        have A249 := Gr.refl w239
        refine sv n238.ok rfl (wn _ rfl) rfl (o_mv n238.at_) (fun an250 n250 => ?_)
        refine sv n250.ok rfl (wn _ rfl) rfl (o_ex n250.at_ rfl) (fun an251 n251 => ?_)
        refine sv n251.ok rfl (wn _ rfl) rfl (o_ex (n251.ne rfl n250.at_) rfl) (fun an252 n252 => ?_)
        refine sv n252.ok rfl (wn _ rfl) rfl (o_as (n252.ne rfl n251.at_)) (fun an253 n253 => ?_)
        refine sv n253.ok rfl (wn _ rfl) rfl (o_as (n253.ne rfl n252.at_)) (fun an254 n254 => ?_)
        refine wpList_nil ?_
        refine th_n (hK233 _ _ ?_)
        refine wp_seq_k (fun K255 hK255 => ?_)
        refine wp_region_lit ?_
        have e256 := n254.ne rfl (n253.ne rfl (n252.ne rfl (n251.ne rfl (n250.ne rfl (n238.ne rfl (n237.ne rfl (n235.ne rfl n232.at_)))))))
        refine sv n254.ok rfl (wn _ rfl) rfl (o_mv e256) (fun an257 n257 => ?_)
        refine sv n257.ok rfl (wn _ rfl) rfl (o_eq (b := true) n257.at_ ev_const (by decide)) (fun an258 n258 => ?_)
        refine sv n258.ok rfl (wn _ rfl) rfl (o_mv n258.at_) (fun an259 n259 => ?_)
        have e260 := n259.ne rfl (n258.ne rfl (n257.ne rfl n254.at_))
        refine sv n259.ok rfl (wgT rfl (yl 2 true rfl n259.at_) rfl) rfl (o_mv e260) (fun an261 n261 => ?_)
        refine sv n261.ok rfl (wgT rfl (yl 2 true rfl (n261.ne rfl n259.at_)) rfl) rfl (o_eq (b := true) n261.at_ ev_const (by decide)) (fun an262 n262 => ?_)
        refine sv n262.ok rfl (wn _ rfl) rfl (o_pkT (n262.ne rfl (n261.ne rfl n259.at_)) n262.at_) (fun an263 n263 => ?_)
        refine sv n263.ok rfl (wn _ rfl) rfl (o_mv n263.at_) (fun an264 n264 => ?_)
        have e265 := n264.ne rfl (n263.ne rfl (n262.ne rfl (n261.ne rfl (n259.ne rfl (n258.ne rfl (n257.ne rfl (n254.ne rfl (n253.ne rfl (n252.ne rfl (n251.ne rfl (n250.ne rfl (n238.ne rfl (n237.ne rfl (n235.ne rfl (n232.ne rfl n231.at_)))))))))))))))
        refine sv n264.ok rfl (wgT rfl (yl 6 true rfl n264.at_) rfl) rfl (o_mv e265) (fun an266 n266 => ?_)
        have e267 := n266.ne rfl (n264.ne rfl (n263.ne rfl (n262.ne rfl (n261.ne rfl (n259.ne rfl (n258.ne rfl (n257.ne rfl (n254.ne rfl n253.at_))))))))
        refine sv n266.ok rfl (wgT rfl (yl 6 true rfl (n266.ne rfl n264.at_)) rfl) rfl (o_mv e267) (fun an268 n268 => ?_)
        refine sc n268.ok rfl (wgT rfl (yl 6 true rfl (n268.ne rfl (n266.ne rfl n264.at_))) rfl) rfl (o_f2 Tryz.func22 rfl rfl rfl (n268.ne rfl n266.at_) n268.at_) (both_eq Fn2 Fn3 qan2 qan3 qcn2 qcn3 (by omega) (by omega) (nar_nar hen1 hen2 hen3) w239 (hrn2.gr A247) (hrn3.gr A249) (hmn2.gr A247) (hmn3.gr A249)) ?_
        rintro _ w270 ⟨rfl, g271⟩
        refine ⟨_, rfl, fun an269 n269 => ?_⟩
        have G272 := G241.trans g271
        have B273 := B242.gr g271
        have B274 := B243.gr g271
        have A275 := A244.trans g271
        have A276 := A245.trans g271
        have A277 := A246.trans g271
        have A278 := A247.trans g271
        have A279 := A249.trans g271
        have e280 := n269.ne rfl (n268.ne rfl (n266.ne rfl n264.at_))
        refine sv n269.ok rfl (wn _ rfl) rfl (o_pkT e280 n269.at_) (fun an281 n281 => ?_)
        refine sv n281.ok rfl (wn _ rfl) rfl (o_as n281.at_) (fun an282 n282 => ?_)
        refine wpList_nil ?_
        refine th_n (hK255 _ _ ?_)
        refine wp_ret ?_
        exact ret1 n282.ok rfl (n282.at_) ⟨rfl, G272⟩
      · have e283 := (n171.at_).trans (congrArg Value.bool (c172))
        have e284 := n171.ne rfl (n170.ne rfl (n168.ne rfl (n166.ne rfl (n165.ne rfl (n164.ne rfl (n163.ne rfl (n161.ne rfl (n160.ne rfl (n159.ne rfl (n158.ne rfl (n156.ne rfl (n155.ne rfl (n154.ne rfl (n149.ne rfl (n147.ne rfl (n139.ne rfl (n138.ne rfl (n133.ne rfl (n132.ne rfl (n124.ne rfl (n123.ne rfl (n119.ne rfl (n118.ne rfl (n117.ne rfl (n116.ne rfl (n115.ne rfl (n107.ne rfl (n106.ne rfl (n104.ne rfl (n101.ne rfl (n100.ne rfl (n99.ne rfl (n98.ne rfl (n97.ne rfl (n89.ne rfl (n88.ne rfl (n86.ne rfl (n84.ne rfl (n81.ne rfl (n80.ne rfl (n79.ne rfl n78.at_)))))))))))))))))))))))))))))))))))))))))
        have e285 := (e284).trans (congrArg Value.bool (c172))
        have e286 := ((n171.ne rfl (n170.ne rfl e169))).trans (congrArg Value.bool (c172))
        have e287 := ((n171.ne rfl n170.at_)).trans (congrArg Value.bool (c172))
        have e288 := n171.ne rfl (n170.ne rfl (n168.ne rfl (n166.ne rfl (n165.ne rfl (n164.ne rfl (n163.ne rfl (n161.ne rfl (n160.ne rfl (n159.ne rfl (n158.ne rfl (n156.ne rfl (n155.ne rfl (n154.ne rfl (n149.ne rfl (n147.ne rfl (n139.ne rfl (n138.ne rfl (n133.ne rfl (n132.ne rfl (n124.ne rfl (n123.ne rfl (n119.ne rfl (n118.ne rfl (n117.ne rfl (n116.ne rfl (n115.ne rfl (n107.ne rfl (n106.ne rfl (n104.ne rfl (n101.ne rfl (n100.ne rfl (n99.ne rfl n98.at_))))))))))))))))))))))))))))))))
        have e289 := (e288).trans (congrArg Value.bool (show (pu && pi) = pi by simp [c172]))
        have e290 := n171.ne rfl (n170.ne rfl (n168.ne rfl e167))
        have e291 := (e290).trans (congrArg Value.bool (show (pu && pi) = pi by simp [c172]))
        have e292 := ((n171.ne rfl (n170.ne rfl n168.at_))).trans (congrArg Value.bool (show (pu && pi) = pi by simp [c172]))
        have e293 := n171.ne rfl (n170.ne rfl (n168.ne rfl (n166.ne rfl (n165.ne rfl (n164.ne rfl (n163.ne rfl (n161.ne rfl (n160.ne rfl (n159.ne rfl (n158.ne rfl (n156.ne rfl (n155.ne rfl (n154.ne rfl (n149.ne rfl (n147.ne rfl (n139.ne rfl (n138.ne rfl (n133.ne rfl (n132.ne rfl (n124.ne rfl (n123.ne rfl (n119.ne rfl n118.at_))))))))))))))))))))))
        refine sv n171.ok rfl (wgT rfl (yl 13 true rfl e283) rfl) rfl (o_mv e293) (fun an294 n294 => ?_)
        have e295 := n294.ne rfl (n171.ne rfl (n170.ne rfl (n168.ne rfl n166.at_)))
        refine sv n294.ok rfl (wgT rfl (yl 10 false rfl e295) rfl) rfl (o_pkT (n294.ne rfl e283) n294.at_) (fun an296 n296 => ?_)
        refine sv n296.ok rfl (wgT rfl (yl 10 false rfl (n296.ne rfl e295)) rfl) rfl (o_neqB (b := false) (n296.ne rfl (n294.ne rfl e292)) n296.at_ (by simp) Tryz.underlying4) (fun an297 n297 => ?_)
        refine sv n297.ok rfl (wn _ rfl) rfl (o_pkF (n297.ne rfl (n296.ne rfl e295)) n297.at_) (fun an298 n298 => ?_)
        refine wpList_nil ?_
        refine th_n (hK152 _ _ ?_)
        refine wp_cond_false (n298.at_) ?_
        refine wp_skip ?_
        refine th_n (hK151 _ _ ?_)
        refine wp_seq_k (fun K299 hK299 => ?_)
        refine wp_region_lit ?_
        have e300 := n298.ne rfl (n297.ne rfl (n296.ne rfl (n294.ne rfl (n171.ne rfl (n170.ne rfl (n168.ne rfl (n166.ne rfl (n165.ne rfl (n164.ne rfl (n163.ne rfl (n161.ne rfl (n160.ne rfl (n159.ne rfl (n158.ne rfl (n156.ne rfl (n155.ne rfl (n154.ne rfl (n149.ne rfl (n147.ne rfl (n139.ne rfl (n138.ne rfl (n133.ne rfl (n132.ne rfl (n124.ne rfl (n123.ne rfl (n119.ne rfl (n118.ne rfl (n117.ne rfl (n116.ne rfl (n115.ne rfl (n107.ne rfl (n106.ne rfl (n104.ne rfl e103)))))))))))))))))))))))))))))))))
        refine sv n298.ok rfl (wn _ rfl) rfl (o_mv e300) (fun an301 n301 => ?_)
        have e302 := n301.ne rfl (n298.ne rfl (n297.ne rfl (n296.ne rfl (n294.ne rfl (n171.ne rfl (n170.ne rfl (n168.ne rfl (n166.ne rfl (n165.ne rfl (n164.ne rfl (n163.ne rfl (n161.ne rfl (n160.ne rfl (n159.ne rfl (n158.ne rfl (n156.ne rfl (n155.ne rfl (n154.ne rfl (n149.ne rfl (n147.ne rfl (n139.ne rfl (n138.ne rfl (n133.ne rfl (n132.ne rfl (n124.ne rfl (n123.ne rfl (n119.ne rfl (n118.ne rfl (n117.ne rfl (n116.ne rfl (n115.ne rfl (n107.ne rfl (n106.ne rfl (n104.ne rfl (n101.ne rfl (n100.ne rfl (n99.ne rfl (n98.ne rfl (n97.ne rfl (n89.ne rfl (n88.ne rfl (n86.ne rfl (n84.ne rfl (n81.ne rfl (n80.ne rfl (n79.ne rfl (n78.ne rfl (n77.ne rfl (n69.ne rfl (n68.ne rfl (n66.ne rfl (n64.ne rfl (n61.ne rfl (n60.ne rfl (n57.ne rfl (n56.ne rfl (n55.ne rfl (n54.ne rfl (n53.ne rfl (n44.ne rfl (n43.ne rfl (n41.ne rfl (n39.ne rfl (n31.ne rfl (n30.ne rfl (n28.ne rfl (n25.ne rfl (n19.ne rfl (n16.ne rfl (n8.ne rfl (n2.ne rfl e0_3)))))))))))))))))))))))))))))))))))))))))))))))))))))))))))))))))))))))
        refine sv n301.ok rfl (wn _ rfl) rfl (o_mv e302) (fun an303 n303 => ?_)
        refine sc n303.ok rfl (wn _ rfl) rfl (o_f2 Tryz.func28 rfl rfl rfl (n303.ne rfl n301.at_) n303.at_) (fmeet_ok (hf.gr G142) (hg.gr G142)) ?_
        rintro _ w305 ⟨mo, rfl, hmo, g306⟩
        refine ⟨_, rfl, fun an304 n304 => ?_⟩
        have G307 := G142.trans g306
        have B308 := B143.gr g306
        have B309 := B144.gr g306
        have A310 := A145.trans g306
        have A311 := A146.trans g306
        have A313 := Gr.refl w305
        refine sv n304.ok rfl (wn _ rfl) rfl (o_mv n304.at_) (fun an314 n314 => ?_)
        refine sv n314.ok rfl (wn _ rfl) rfl (o_ex n314.at_ rfl) (fun an315 n315 => ?_)
        refine sv n315.ok rfl (wn _ rfl) rfl (o_ex (n315.ne rfl n314.at_) rfl) (fun an316 n316 => ?_)
        refine sv n316.ok rfl (wn _ rfl) rfl (o_as (n316.ne rfl n315.at_)) (fun an317 n317 => ?_)
        refine sv n317.ok rfl (wn _ rfl) rfl (o_as (n317.ne rfl n316.at_)) (fun an318 n318 => ?_)
        refine wpList_nil ?_
        refine th_n (hK299 _ _ ?_)
        refine wp_seq_k (fun K319 hK319 => ?_)
        refine wp_seq_k (fun K320 hK320 => ?_)
        refine wp_region_lit ?_
        refine sv n318.ok rfl (wn _ rfl) rfl (o_mv n318.at_) (fun an321 n321 => ?_)
        refine sv n321.ok rfl (wn _ rfl) rfl (o_neq (b := false) n321.at_ ev_const (by decide)) (fun an322 n322 => ?_)
        refine wpList_nil ?_
        refine th_n (hK320 _ _ ?_)
        refine wp_cond_false (n322.at_) ?_
        refine wp_skip ?_
        refine th_n (hK319 _ _ ?_)
        refine wp_seq_k (fun K323 hK323 => ?_)
        refine wp_region_lit ?_
        have e324 := n322.ne rfl (n321.ne rfl (n318.ne rfl (n317.ne rfl (n316.ne rfl (n315.ne rfl (n314.ne rfl (n304.ne rfl (n303.ne rfl (n301.ne rfl (n298.ne rfl (n297.ne rfl (n296.ne rfl (n294.ne rfl (n171.ne rfl (n170.ne rfl (n168.ne rfl (n166.ne rfl (n165.ne rfl (n164.ne rfl (n163.ne rfl (n161.ne rfl (n160.ne rfl (n159.ne rfl (n158.ne rfl (n156.ne rfl (n155.ne rfl (n154.ne rfl (n149.ne rfl (n147.ne rfl (n139.ne rfl (n138.ne rfl (n133.ne rfl (n132.ne rfl (n124.ne rfl (n123.ne rfl (n119.ne rfl (n118.ne rfl (n117.ne rfl (n116.ne rfl (n115.ne rfl (n107.ne rfl (n106.ne rfl (n104.ne rfl (n101.ne rfl (n100.ne rfl (n99.ne rfl (n98.ne rfl (n97.ne rfl (n89.ne rfl (n88.ne rfl (n86.ne rfl (n84.ne rfl e83))))))))))))))))))))))))))))))))))))))))))))))))))))
        refine sv n322.ok rfl (wn _ rfl) rfl (o_mv e324) (fun an325 n325 => ?_)
        have e326 := n325.ne rfl (n322.ne rfl (n321.ne rfl (n318.ne rfl (n317.ne rfl (n316.ne rfl (n315.ne rfl (n314.ne rfl (n304.ne rfl (n303.ne rfl e302)))))))))
        refine sv n325.ok rfl (wn _ rfl) rfl (o_mv e326) (fun an327 n327 => ?_)
        refine sc n327.ok rfl (wn _ rfl) rfl (o_f2 Tryz.func10 rfl rfl rfl (n327.ne rfl n325.at_) n327.at_) (pnarrow_small Fn1 qan1 qcn1 gv V (by omega) w305 (hrn1.gr A311) (hmn1.gr A311) (hg.gr G307)) ?_
        rintro _ w329 ⟨Fn2, qan2, qcn2, rfl, hcn2, hnn2, hln2, hen2, hfn2, hrn2, hmn2, g330⟩
        refine ⟨_, rfl, fun an328 n328 => ?_⟩
        have G331 := G307.trans g330
        have B332 := B308.gr g330
        have B333 := B309.gr g330
        have A334 := A310.trans g330
        have A335 := A311.trans g330
        have A336 := A313.trans g330
        have A338 := Gr.refl w329
        refine sv n328.ok rfl (wn _ rfl) rfl (o_mv n328.at_) (fun an339 n339 => ?_)
        refine sv n339.ok rfl (wn _ rfl) rfl (o_ex n339.at_ rfl) (fun an340 n340 => ?_)
        refine sv n340.ok rfl (wn _ rfl) rfl (o_ex (n340.ne rfl n339.at_) rfl) (fun an341 n341 => ?_)
        refine sv n341.ok rfl (wn _ rfl) rfl (o_as (n341.ne rfl n340.at_)) (fun an342 n342 => ?_)
        refine sv n342.ok rfl (wn _ rfl) rfl (o_as (n342.ne rfl n341.at_)) (fun an343 n343 => ?_)
        refine wpList_nil ?_
        refine th_n (hK323 _ _ ?_)
        refine wp_seq_k (fun K344 hK344 => ?_)
        refine wp_region_lit ?_
        have e345 := n343.ne rfl (n342.ne rfl (n341.ne rfl (n340.ne rfl (n339.ne rfl (n328.ne rfl (n327.ne rfl (n325.ne rfl (n322.ne rfl (n321.ne rfl (n318.ne rfl (n317.ne rfl (n316.ne rfl (n315.ne rfl (n314.ne rfl (n304.ne rfl (n303.ne rfl (n301.ne rfl (n298.ne rfl (n297.ne rfl (n296.ne rfl (n294.ne rfl (n171.ne rfl (n170.ne rfl (n168.ne rfl (n166.ne rfl (n165.ne rfl (n164.ne rfl (n163.ne rfl (n161.ne rfl (n160.ne rfl (n159.ne rfl (n158.ne rfl (n156.ne rfl (n155.ne rfl (n154.ne rfl (n149.ne rfl (n147.ne rfl (n139.ne rfl (n138.ne rfl (n133.ne rfl (n132.ne rfl (n124.ne rfl (n123.ne rfl (n119.ne rfl (n118.ne rfl (n117.ne rfl (n116.ne rfl (n115.ne rfl (n107.ne rfl (n106.ne rfl (n104.ne rfl (n101.ne rfl (n100.ne rfl (n99.ne rfl (n98.ne rfl (n97.ne rfl (n89.ne rfl (n88.ne rfl (n86.ne rfl (n84.ne rfl (n81.ne rfl (n80.ne rfl (n79.ne rfl (n78.ne rfl (n77.ne rfl (n69.ne rfl (n68.ne rfl (n66.ne rfl (n64.ne rfl e63)))))))))))))))))))))))))))))))))))))))))))))))))))))))))))))))))))))
        refine sv n343.ok rfl (wn _ rfl) rfl (o_mv e345) (fun an346 n346 => ?_)
        have e347 := n346.ne rfl (n343.ne rfl (n342.ne rfl (n341.ne rfl (n340.ne rfl (n339.ne rfl (n328.ne rfl (n327.ne rfl (n325.ne rfl (n322.ne rfl (n321.ne rfl (n318.ne rfl n317.at_)))))))))))
        refine sv n346.ok rfl (wn _ rfl) rfl (o_mv e347) (fun an348 n348 => ?_)
        refine sc n348.ok rfl (wn _ rfl) rfl (o_f2 Tryz.func10 rfl rfl rfl (n348.ne rfl n346.at_) n348.at_) (pnarrow_small Kp0 pap0 pcp0 mo (fun t => U t &&& V t) (by omega) w329 (hrp0.gr A334) (hmp0.gr A334) (FSn.le (hmo.gr A336) (by decide))) ?_
        rintro _ w350 ⟨Fn3, qan3, qcn3, rfl, hcn3, hnn3, hln3, hen3, hfn3, hrn3, hmn3, g351⟩
        refine ⟨_, rfl, fun an349 n349 => ?_⟩
        have G352 := G331.trans g351
        have B353 := B332.gr g351
        have B354 := B333.gr g351
        have A355 := A334.trans g351
        have A356 := A335.trans g351
        have A357 := A336.trans g351
        have A358 := A338.trans g351
        have A360 := Gr.refl w350
        refine sv n349.ok rfl (wn _ rfl) rfl (o_mv n349.at_) (fun an361 n361 => ?_)
        refine sv n361.ok rfl (wn _ rfl) rfl (o_ex n361.at_ rfl) (fun an362 n362 => ?_)
        refine sv n362.ok rfl (wn _ rfl) rfl (o_ex (n362.ne rfl n361.at_) rfl) (fun an363 n363 => ?_)
        refine sv n363.ok rfl (wn _ rfl) rfl (o_as (n363.ne rfl n362.at_)) (fun an364 n364 => ?_)
        refine sv n364.ok rfl (wn _ rfl) rfl (o_as (n364.ne rfl n363.at_)) (fun an365 n365 => ?_)
        refine wpList_nil ?_
        refine th_n (hK344 _ _ ?_)
        refine wp_seq_k (fun K366 hK366 => ?_)
        refine wp_region_lit ?_
        have e367 := n365.ne rfl (n364.ne rfl (n363.ne rfl (n362.ne rfl (n361.ne rfl (n349.ne rfl (n348.ne rfl (n346.ne rfl n343.at_)))))))
        refine sv n365.ok rfl (wn _ rfl) rfl (o_mv e367) (fun an368 n368 => ?_)
        refine sv n368.ok rfl (wn _ rfl) rfl (o_eq (b := true) n368.at_ ev_const (by decide)) (fun an369 n369 => ?_)
        refine sv n369.ok rfl (wn _ rfl) rfl (o_mv n369.at_) (fun an370 n370 => ?_)
        have e371 := n370.ne rfl (n369.ne rfl (n368.ne rfl n365.at_))
        refine sv n370.ok rfl (wgT rfl (yl 2 true rfl n370.at_) rfl) rfl (o_mv e371) (fun an372 n372 => ?_)
        refine sv n372.ok rfl (wgT rfl (yl 2 true rfl (n372.ne rfl n370.at_)) rfl) rfl (o_eq (b := true) n372.at_ ev_const (by decide)) (fun an373 n373 => ?_)
        refine sv n373.ok rfl (wn _ rfl) rfl (o_pkT (n373.ne rfl (n372.ne rfl n370.at_)) n373.at_) (fun an374 n374 => ?_)
        refine sv n374.ok rfl (wn _ rfl) rfl (o_mv n374.at_) (fun an375 n375 => ?_)
        have e376 := n375.ne rfl (n374.ne rfl (n373.ne rfl (n372.ne rfl (n370.ne rfl (n369.ne rfl (n368.ne rfl (n365.ne rfl (n364.ne rfl (n363.ne rfl (n362.ne rfl (n361.ne rfl (n349.ne rfl (n348.ne rfl (n346.ne rfl (n343.ne rfl n342.at_)))))))))))))))
        refine sv n375.ok rfl (wgT rfl (yl 6 true rfl n375.at_) rfl) rfl (o_mv e376) (fun an377 n377 => ?_)
        have e378 := n377.ne rfl (n375.ne rfl (n374.ne rfl (n373.ne rfl (n372.ne rfl (n370.ne rfl (n369.ne rfl (n368.ne rfl (n365.ne rfl n364.at_))))))))
        refine sv n377.ok rfl (wgT rfl (yl 6 true rfl (n377.ne rfl n375.at_)) rfl) rfl (o_mv e378) (fun an379 n379 => ?_)
        refine sc n379.ok rfl (wgT rfl (yl 6 true rfl (n379.ne rfl (n377.ne rfl n375.at_))) rfl) rfl (o_f2 Tryz.func22 rfl rfl rfl (n379.ne rfl n377.at_) n379.at_) (both_eq Fn2 Fn3 qan2 qan3 qcn2 qcn3 (by omega) (by omega) (nar_nar hen1 hen2 hen3) w350 (hrn2.gr A358) (hrn3.gr A360) (hmn2.gr A358) (hmn3.gr A360)) ?_
        rintro _ w381 ⟨rfl, g382⟩
        refine ⟨_, rfl, fun an380 n380 => ?_⟩
        have G383 := G352.trans g382
        have B384 := B353.gr g382
        have B385 := B354.gr g382
        have A386 := A355.trans g382
        have A387 := A356.trans g382
        have A388 := A357.trans g382
        have A389 := A358.trans g382
        have A390 := A360.trans g382
        have e391 := n380.ne rfl (n379.ne rfl (n377.ne rfl n375.at_))
        refine sv n380.ok rfl (wn _ rfl) rfl (o_pkT e391 n380.at_) (fun an392 n392 => ?_)
        refine sv n392.ok rfl (wn _ rfl) rfl (o_as n392.at_) (fun an393 n393 => ?_)
        refine wpList_nil ?_
        refine th_n (hK366 _ _ ?_)
        refine wp_ret ?_
        exact ret1 n393.ok rfl (n393.at_) ⟨rfl, G383⟩
    · refine wp_cond_true ((n149.at_).trans (congrArg Value.bool (c150))) ?_
      have hdc150 : pd = false := by simpa using c150
      refine wp_seq_k (fun K394 hK394 => ?_)
      refine wp_region_lit ?_
      have e395 := n149.ne rfl (n147.ne rfl (n139.ne rfl (n138.ne rfl (n133.ne rfl (n132.ne rfl (n124.ne rfl (n123.ne rfl (n119.ne rfl (n118.ne rfl (n117.ne rfl (n116.ne rfl (n115.ne rfl (n107.ne rfl (n106.ne rfl (n104.ne rfl (n101.ne rfl (n100.ne rfl (n99.ne rfl (n98.ne rfl (n97.ne rfl (n89.ne rfl (n88.ne rfl (n86.ne rfl (n84.ne rfl n81.at_))))))))))))))))))))))))
      refine sv n149.ok rfl (wn _ rfl) rfl (o_mv e395) (fun an396 n396 => ?_)
      refine sv n396.ok rfl (wn _ rfl) rfl (o_neq (b := true) n396.at_ ev_const (by simp [show ¬ (hasE t n a c) = 0 from (by unfold hasE; rw [hpd, hdc150]; simp)])) (fun an397 n397 => ?_)
      refine sv n397.ok rfl (wn _ rfl) rfl (o_mv n397.at_) (fun an398 n398 => ?_)
      have e399 := n398.ne rfl (n397.ne rfl (n396.ne rfl (n149.ne rfl (n147.ne rfl (n139.ne rfl (n138.ne rfl (n133.ne rfl (n132.ne rfl (n124.ne rfl (n123.ne rfl (n119.ne rfl (n118.ne rfl (n117.ne rfl (n116.ne rfl (n115.ne rfl (n107.ne rfl (n106.ne rfl (n104.ne rfl n101.at_))))))))))))))))))
      refine sv n398.ok rfl (wgT rfl (yl 2 true rfl n398.at_) rfl) rfl (o_mv e399) (fun an400 n400 => ?_)
      refine sv n400.ok rfl (wgT rfl (yl 2 true rfl (n400.ne rfl n398.at_)) rfl) rfl (o_neq (b := true) n400.at_ ev_const (by simp [show ¬ (hasE t n a c) = 0 from (by unfold hasE; rw [hpd, hdc150]; simp)])) (fun an401 n401 => ?_)
      refine sv n401.ok rfl (wn _ rfl) rfl (o_pkT (n401.ne rfl (n400.ne rfl n398.at_)) n401.at_) (fun an402 n402 => ?_)
      refine sv n402.ok rfl (wn _ rfl) rfl (o_as n402.at_) (fun an403 n403 => ?_)
      refine wpList_nil ?_
      refine th_n (hK394 _ _ ?_)
      refine wp_ret ?_
      refine th_r ?_
      exact ret1 n403.ok rfl (n403.at_) ⟨rfl, G142⟩
  · have e404 := (n133.at_).trans (congrArg Value.bool (c134))
    have e405 := ((n133.ne rfl n132.at_)).trans (congrArg Value.bool (c134))
    have hpc134 : pp = false := by simpa using c134
    refine sn n133.ok rfl (wgF rfl (yl 3 true rfl e404) rfl) rfl (fun an406 n406 => ?_)
    refine sn n406.ok rfl (wgF rfl (yl 3 true rfl (n406.ne rfl e404)) rfl) rfl (fun an407 n407 => ?_)
    refine sn n407.ok rfl (wgF rfl (yl 3 true rfl (n407.ne rfl (n406.ne rfl e404))) rfl) rfl (fun an408 n408 => ?_)
    have e409 := n408.ne rfl (n407.ne rfl (n406.ne rfl e404))
    refine sv n408.ok rfl (wn _ rfl) rfl (o_pkT e409 ev_const) (fun an410 n410 => ?_)
    refine wpList_nil ?_
    refine th_n (hK121 _ _ ?_)
    refine wp_cond_true (n410.at_) ?_
    refine wp_seq_k (fun K411 hK411 => ?_)
    refine wp_region_lit ?_
    have e412 := n410.ne rfl (n408.ne rfl (n407.ne rfl (n406.ne rfl (n133.ne rfl (n132.ne rfl (n124.ne rfl (n123.ne rfl (n119.ne rfl (n118.ne rfl (n117.ne rfl (n116.ne rfl (n115.ne rfl (n107.ne rfl (n106.ne rfl (n104.ne rfl (n101.ne rfl (n100.ne rfl (n99.ne rfl (n98.ne rfl (n97.ne rfl (n89.ne rfl (n88.ne rfl (n86.ne rfl (n84.ne rfl n81.at_))))))))))))))))))))))))
    refine sv n410.ok rfl (wn _ rfl) rfl (o_mv e412) (fun an413 n413 => ?_)
    refine sv n413.ok rfl (wn _ rfl) rfl (o_neq (b := true) n413.at_ ev_const (by simp [show ¬ (hasE t n a c) = 0 from (by unfold hasE; rw [hpp, hpc134]; simp)])) (fun an414 n414 => ?_)
    refine sv n414.ok rfl (wn _ rfl) rfl (o_mv n414.at_) (fun an415 n415 => ?_)
    have e416 := n415.ne rfl (n414.ne rfl (n413.ne rfl (n410.ne rfl (n408.ne rfl (n407.ne rfl (n406.ne rfl (n133.ne rfl (n132.ne rfl (n124.ne rfl (n123.ne rfl (n119.ne rfl (n118.ne rfl (n117.ne rfl (n116.ne rfl (n115.ne rfl (n107.ne rfl (n106.ne rfl (n104.ne rfl n101.at_))))))))))))))))))
    refine sv n415.ok rfl (wgT rfl (yl 2 true rfl n415.at_) rfl) rfl (o_mv e416) (fun an417 n417 => ?_)
    refine sv n417.ok rfl (wgT rfl (yl 2 true rfl (n417.ne rfl n415.at_)) rfl) rfl (o_neq (b := true) n417.at_ ev_const (by simp [show ¬ (hasE t n a c) = 0 from (by unfold hasE; rw [hpp, hpc134]; simp)])) (fun an418 n418 => ?_)
    refine sv n418.ok rfl (wn _ rfl) rfl (o_pkT (n418.ne rfl (n417.ne rfl n415.at_)) n418.at_) (fun an419 n419 => ?_)
    refine sv n419.ok rfl (wn _ rfl) rfl (o_as n419.at_) (fun an420 n420 => ?_)
    refine wpList_nil ?_
    refine th_n (hK411 _ _ ?_)
    refine wp_ret ?_
    refine th_r ?_
    exact ret1 n420.ok rfl (n420.at_) ⟨rfl, G127⟩
theorem partNarrows_walk (Fs0 : List (List BoxI)) (Ls0 : List (List (List Int))) (fa0 la0 : Option Addr) (fc0 lc0 : Nat) (hfc0 : Fs0.length ≤ fc0) (fv gv : Value) (t n a c : Int) (lf lg : List BoxI) (w : World) (hF0 : RdV (fun w u x => RdF w u x) w fa0 Fs0) (hL0 : RdV (fun w u x => RdLL w u x) w la0 Ls0) (hf : RdF w fv lf) (hg : RdF w gv lg) :
    Calls Tryz.prog 5 #[.slice fa0 Fs0.length fc0, .slice la0 Ls0.length lc0, fv, gv, .agg #[.int .i64 t, .int .i64 n], .agg #[.int .i64 a, .int .i64 c]] w fun e w' => e = .returned (.bool true) ∧ Gr w w' := by
  by_cases h0 : chkF lf = 0
  · obtain ⟨U, h1, -⟩ := fs_of hf (by simpa using h0)
    cases hc : (chkF2 lf lg == 0)
    · exact partNarrows_bad1 Fs0 Ls0 fa0 la0 fc0 lc0 hfc0 fv gv t n a c U lf lg hc w hF0 hL0 h1 hf hg
    · obtain ⟨T, V, h1, h2, -, -⟩ := fs2_of hf hg hc
      exact partNarrows_ok Fs0 Ls0 fa0 la0 fc0 lc0 hfc0 fv gv t n a c T V w hF0 hL0 h1 h2
  · exact partNarrows_bad0 Fs0 Ls0 fa0 la0 fc0 lc0 hfc0 fv gv t n a c lf h0 w hF0 hL0 hf
end Go.Proofs.YtghjfakellaecaaGreat
