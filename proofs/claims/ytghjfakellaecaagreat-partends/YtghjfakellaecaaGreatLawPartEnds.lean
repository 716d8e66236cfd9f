/- The walk of PartEnds. -/
import Derived.Test.YtghjfakellaecaaGreatPa5
set_option linter.unusedVariables false
set_option linter.unusedSimpArgs false
namespace Go.Proofs.YtghjfakellaecaaGreat
open Go.RowKit Rm Gx
set_option maxHeartbeats 8000000 in
set_option maxRecDepth 100000 in
theorem partEnds_bad (Fs0 : List (List BoxI)) (Ls0 : List (List (List Int))) (fa0 la0 : Option Addr) (fc0 lc0 : Nat) (hfc0 : Fs0.length ≤ fc0) (fv gv : Value) (lf lg : List BoxI) (hbad : (chkF2 lf lg == 0) = false) (w : World) (hF0 : RdV (fun w u x => RdF w u x) w fa0 Fs0) (hL0 : RdV (fun w u x => RdLL w u x) w la0 Ls0) (hf : RdF w fv lf) (hg : RdF w gv lg) :
    Calls Tryz.prog 7 #[.slice fa0 Fs0.length fc0, .slice la0 Ls0.length lc0, fv, gv] w fun e w' => e = .returned (.bool true) ∧ Gr w w' := by
  refine enter (N := 110) Tryz.func7 rfl rfl rfl (fun a0 ok0 h0 => ?_)
  have e0_0 : a0.eval (.tmp 0) = .slice fa0 Fs0.length fc0 := h0 0 _ rfl
  have e0_1 : a0.eval (.tmp 1) = .slice la0 Ls0.length lc0 := h0 1 _ rfl
  have e0_2 : a0.eval (.tmp 2) = fv := h0 2 _ rfl
  have e0_3 : a0.eval (.tmp 3) = gv := h0 3 _ rfl
  clear h0
  have G0 := Gr.refl w
  refine wp_seq_k (fun K1 hK1 => ?_)
  refine wp_region_lit ?_
  refine sv ok0 rfl (wn _ rfl) rfl (o_as ev_const) (fun an2 n2 => ?_)
  refine wpList_nil ?_
  refine th_n (hK1 _ _ ?_)
  refine wp_seq_k (fun K3 hK3 => ?_)
  refine wp_seq_k (fun K4 hK4 => ?_)
  refine wp_region_lit ?_
  refine sc n2.ok rfl (wn _ rfl) rfl (o_f0 Tryz.func20 rfl rfl rfl ) (partBegun_any w) ?_
  rintro _ w6 ⟨rfl, g7⟩
  refine ⟨_, rfl, fun an5 n5 => ?_⟩
  have G8 := G0.trans g7
  refine sv n5.ok rfl (wn _ rfl) rfl (o_not n5.at_ rfl) (fun an9 n9 => ?_)
  refine wpList_nil ?_
  refine th_n (hK4 _ _ ?_)
  refine wp_cond_false (n9.at_) ?_
  refine wp_skip ?_
  refine th_n (hK3 _ _ ?_)
  refine wp_seq_k (fun K10 hK10 => ?_)
  refine wp_region_lit ?_
  have e11 := n9.ne rfl (n5.ne rfl (n2.ne rfl e0_0))
  refine sv n9.ok rfl (wn _ rfl) rfl (o_mv e11) (fun an12 n12 => ?_)
  have e13 := n12.ne rfl (n9.ne rfl (n5.ne rfl (n2.ne rfl e0_1)))
  refine sv n12.ok rfl (wn _ rfl) rfl (o_mv e13) (fun an14 n14 => ?_)
  refine sc n14.ok rfl (wn _ rfl) rfl (o_f2 Tryz.func21 rfl rfl rfl (n14.ne rfl n12.at_) n14.at_) (parts_any Fs0 Ls0 fa0 la0 fc0 lc0 hfc0 w6 (RdV.gr rdf_gr hF0 G8) (RdV.gr rdll_gr hL0 G8)) ?_
  rintro _ w16 ⟨Kp0, vp0, rfl, hlp0, hop0, hmp0, g17⟩
  obtain ⟨pap0, pcp0, rfl, hcp0⟩ := ow_form hop0
  have hnp0 := ow_nil hop0
  have hrp0 := RdA.own encP_ok hop0 rfl
  refine ⟨_, rfl, fun an15 n15 => ?_⟩
  have G18 := G8.trans g17
  have A20 := Gr.refl w16
  refine sv n15.ok rfl (wn _ rfl) rfl (o_as n15.at_) (fun an21 n21 => ?_)
  refine wpList_nil ?_
  refine th_n (hK10 _ _ ?_)
  refine wp_seq_k (fun K22 hK22 => ?_)
  refine wp_region_lit ?_
  refine sv n21.ok rfl (wn _ rfl) rfl (o_mv n21.at_) (fun an23 n23 => ?_)
  refine sc n23.ok rfl (wn _ rfl) rfl (o_f0 Tryz.func12 rfl rfl rfl ) (fevery w16) ?_
  rintro _ w25 ⟨ev, rfl, hev, g26⟩
  refine ⟨_, rfl, fun an24 n24 => ?_⟩
  have G27 := G18.trans g26
  have A28 := A20.trans g26
  have A30 := Gr.refl w25
  refine sc n24.ok rfl (wn _ rfl) rfl (o_f2 Tryz.func10 rfl rfl rfl (n24.ne rfl n23.at_) n24.at_) (pnarrow_small Kp0 pap0 pcp0 ev fullT (by omega) w25 (hrp0.gr A28) (hmp0.gr A28) (FSn.le (hev.gr A30) (by decide))) ?_
  rintro _ w32 ⟨Fn1, qan1, qcn1, rfl, hcn1, hnn1, hln1, hen1, hfn1, hrn1, hmn1, g33⟩
  refine ⟨_, rfl, fun an31 n31 => ?_⟩
  have G34 := G27.trans g33
  have A35 := A28.trans g33
  have A36 := A30.trans g33
  have A38 := Gr.refl w32
  refine sv n31.ok rfl (wn _ rfl) rfl (o_mv n31.at_) (fun an39 n39 => ?_)
  refine sv n39.ok rfl (wn _ rfl) rfl (o_ex n39.at_ rfl) (fun an40 n40 => ?_)
  refine sv n40.ok rfl (wn _ rfl) rfl (o_ex (n40.ne rfl n39.at_) rfl) (fun an41 n41 => ?_)
  refine sv n41.ok rfl (wn _ rfl) rfl (o_as (n41.ne rfl n40.at_)) (fun an42 n42 => ?_)
  refine sv n42.ok rfl (wn _ rfl) rfl (o_as (n42.ne rfl n41.at_)) (fun an43 n43 => ?_)
  refine wpList_nil ?_
  refine th_n (hK22 _ _ ?_)
  refine wp_seq_k (fun K44 hK44 => ?_)
  refine wp_region_lit ?_
  have e45 := n43.ne rfl (n42.ne rfl (n41.ne rfl (n40.ne rfl (n39.ne rfl (n31.ne rfl (n24.ne rfl (n23.ne rfl n21.at_)))))))
  refine sv n43.ok rfl (wn _ rfl) rfl (o_mv e45) (fun an46 n46 => ?_)
  refine sc n46.ok rfl (wn _ rfl) rfl (o_f2 Tryz.func10 rfl rfl rfl n46.at_ ev_const) (pnarrow_none Kp0 pap0 pcp0 (by omega) w32 (hrp0.gr A35) (hmp0.gr A35)) ?_
  rintro _ w48 ⟨nan2, ncn2, rfl, g49⟩
  refine ⟨_, rfl, fun an47 n47 => ?_⟩
  have G50 := G34.trans g49
  have A51 := A35.trans g49
  have A52 := A36.trans g49
  have A53 := A38.trans g49
  refine sv n47.ok rfl (wn _ rfl) rfl (o_mv n47.at_) (fun an54 n54 => ?_)
  refine sv n54.ok rfl (wn _ rfl) rfl (o_ex n54.at_ rfl) (fun an55 n55 => ?_)
  refine sv n55.ok rfl (wn _ rfl) rfl (o_ex (n55.ne rfl n54.at_) rfl) (fun an56 n56 => ?_)
  refine sv n56.ok rfl (wn _ rfl) rfl (o_as (n56.ne rfl n55.at_)) (fun an57 n57 => ?_)
  refine sv n57.ok rfl (wn _ rfl) rfl (o_as (n57.ne rfl n56.at_)) (fun an58 n58 => ?_)
  refine wpList_nil ?_
  refine th_n (hK44 _ _ ?_)
  refine wp_seq_k (fun K59 hK59 => ?_)
  refine wp_seq_k (fun K60 hK60 => ?_)
  refine wp_region_lit ?_
  have e61 := n58.ne rfl (n57.ne rfl (n56.ne rfl (n55.ne rfl (n54.ne rfl (n47.ne rfl (n46.ne rfl n43.at_))))))
  refine sv n58.ok rfl (wn _ rfl) rfl (o_mv e61) (fun an62 n62 => ?_)
  refine sv n62.ok rfl (wn _ rfl) rfl (o_neq (b := false) n62.at_ ev_const (by decide)) (fun an63 n63 => ?_)
  refine sv n63.ok rfl (wn _ rfl) rfl (o_mv n63.at_) (fun an64 n64 => ?_)
  have e65 := n64.ne rfl (n63.ne rfl (n62.ne rfl n58.at_))
  refine sv n64.ok rfl (wgT rfl (yl 2 false rfl n64.at_) rfl) rfl (o_mv e65) (fun an66 n66 => ?_)
  refine sv n66.ok rfl (wgT rfl (yl 2 false rfl (n66.ne rfl n64.at_)) rfl) rfl (o_neq (b := false) n66.at_ ev_const (by decide)) (fun an67 n67 => ?_)
  refine sv n67.ok rfl (wn _ rfl) rfl (o_pkF (n67.ne rfl (n66.ne rfl n64.at_)) n67.at_) (fun an68 n68 => ?_)
  refine sv n68.ok rfl (wn _ rfl) rfl (o_mv n68.at_) (fun an69 n69 => ?_)
  have e70 := n69.ne rfl (n68.ne rfl (n67.ne rfl (n66.ne rfl (n64.ne rfl (n63.ne rfl (n62.ne rfl (n58.ne rfl (n57.ne rfl (n56.ne rfl (n55.ne rfl (n54.ne rfl (n47.ne rfl (n46.ne rfl e45)))))))))))))
  refine sv n69.ok rfl (wgT rfl (yl 6 false rfl n69.at_) rfl) rfl (o_mv e70) (fun an71 n71 => ?_)
  have e72 := n71.ne rfl (n69.ne rfl (n68.ne rfl (n67.ne rfl (n66.ne rfl (n64.ne rfl (n63.ne rfl (n62.ne rfl (n58.ne rfl (n57.ne rfl (n56.ne rfl (n55.ne rfl (n54.ne rfl (n47.ne rfl (n46.ne rfl (n43.ne rfl n42.at_)))))))))))))))
  refine sv n71.ok rfl (wgT rfl (yl 6 false rfl (n71.ne rfl n69.at_)) rfl) rfl (o_mv e72) (fun an73 n73 => ?_)
  refine sc n73.ok rfl (wgT rfl (yl 6 false rfl (n73.ne rfl (n71.ne rfl n69.at_))) rfl) rfl (o_f2 Tryz.func22 rfl rfl rfl (n73.ne rfl n71.at_) n73.at_) (both_eq Kp0 Fn1 pap0 qan1 pcp0 qcn1 (by omega) (by omega) (nar_full hen1) w48 (hrp0.gr A51) (hrn1.gr A53) (hmp0.gr A51) (hmn1.gr A53)) ?_
  rintro _ w75 ⟨rfl, g76⟩
  refine ⟨_, rfl, fun an74 n74 => ?_⟩
  have G77 := G50.trans g76
  have A78 := A51.trans g76
  have A79 := A52.trans g76
  have A80 := A53.trans g76
  have e81 := n74.ne rfl (n73.ne rfl (n71.ne rfl n69.at_))
  refine sv n74.ok rfl (wgT rfl (yl 6 false rfl e81) rfl) rfl (o_not n74.at_ rfl) (fun an82 n82 => ?_)
  refine sv n82.ok rfl (wn _ rfl) rfl (o_pkF (n82.ne rfl e81) n82.at_) (fun an83 n83 => ?_)
  refine sv n83.ok rfl (wn _ rfl) rfl (o_mv n83.at_) (fun an84 n84 => ?_)
  have e85 := n84.ne rfl (n83.ne rfl (n82.ne rfl (n74.ne rfl (n73.ne rfl (n71.ne rfl (n69.ne rfl (n68.ne rfl (n67.ne rfl (n66.ne rfl (n64.ne rfl (n63.ne rfl (n62.ne rfl (n58.ne rfl n57.at_)))))))))))))
  refine sv n84.ok rfl (wgT rfl (yl 12 false rfl n84.at_) rfl) rfl (o_mv e85) (fun an86 n86 => ?_)
  refine sv n86.ok rfl (wgT rfl (yl 12 false rfl (n86.ne rfl n84.at_)) rfl) rfl (o_len n86.at_ Tryz.underlying22) (fun an87 n87 => ?_)
  refine sv n87.ok rfl (wgT rfl (yl 12 false rfl (n87.ne rfl (n86.ne rfl n84.at_))) rfl) rfl (o_neq (b := false) n87.at_ ev_const (by decide)) (fun an88 n88 => ?_)
  have e89 := n88.ne rfl (n87.ne rfl (n86.ne rfl n84.at_))
  refine sv n88.ok rfl (wn _ rfl) rfl (o_pkF e89 n88.at_) (fun an90 n90 => ?_)
  refine wpList_nil ?_
  refine th_n (hK60 _ _ ?_)
  refine wp_cond_false (n90.at_) ?_
  refine wp_skip ?_
  refine th_n (hK59 _ _ ?_)
  refine wp_seq_k (fun K91 hK91 => ?_)
  refine wp_region_lit ?_
  have e92 := n90.ne rfl (n88.ne rfl (n87.ne rfl (n86.ne rfl (n84.ne rfl (n83.ne rfl (n82.ne rfl (n74.ne rfl (n73.ne rfl (n71.ne rfl (n69.ne rfl (n68.ne rfl (n67.ne rfl (n66.ne rfl (n64.ne rfl (n63.ne rfl (n62.ne rfl (n58.ne rfl (n57.ne rfl (n56.ne rfl (n55.ne rfl (n54.ne rfl (n47.ne rfl (n46.ne rfl (n43.ne rfl (n42.ne rfl (n41.ne rfl (n40.ne rfl (n39.ne rfl (n31.ne rfl (n24.ne rfl (n23.ne rfl (n21.ne rfl (n15.ne rfl (n14.ne rfl (n12.ne rfl (n9.ne rfl (n5.ne rfl (n2.ne rfl e0_2))))))))))))))))))))))))))))))))))))))
  refine sv n90.ok rfl (wn _ rfl) rfl (o_mv e92) (fun an93 n93 => ?_)
  have e94 := n93.ne rfl (n90.ne rfl (n88.ne rfl (n87.ne rfl (n86.ne rfl (n84.ne rfl (n83.ne rfl (n82.ne rfl (n74.ne rfl (n73.ne rfl (n71.ne rfl (n69.ne rfl (n68.ne rfl (n67.ne rfl (n66.ne rfl (n64.ne rfl (n63.ne rfl (n62.ne rfl (n58.ne rfl (n57.ne rfl (n56.ne rfl (n55.ne rfl (n54.ne rfl (n47.ne rfl (n46.ne rfl (n43.ne rfl (n42.ne rfl (n41.ne rfl (n40.ne rfl (n39.ne rfl (n31.ne rfl (n24.ne rfl (n23.ne rfl (n21.ne rfl (n15.ne rfl (n14.ne rfl (n12.ne rfl (n9.ne rfl (n5.ne rfl (n2.ne rfl e0_3)))))))))))))))))))))))))))))))))))))))
  refine sv n93.ok rfl (wn _ rfl) rfl (o_mv e94) (fun an95 n95 => ?_)
  refine sc n95.ok rfl (wn _ rfl) rfl (o_f2 Tryz.func29 rfl rfl rfl (n95.ne rfl n93.at_) n95.at_) (fjoin_bad (hf.gr G77) (hg.gr G77) hbad) ?_
  rintro _ w97 ⟨ba, bc, rfl, g98⟩
  refine ⟨_, rfl, fun an96 n96 => ?_⟩
  have G99 := G77.trans g98
  have A100 := A78.trans g98
  have A101 := A79.trans g98
  have A102 := A80.trans g98
  refine sv n96.ok rfl (wn _ rfl) rfl (o_mv n96.at_) (fun an103 n103 => ?_)
  refine sv n103.ok rfl (wn _ rfl) rfl (o_ex n103.at_ rfl) (fun an104 n104 => ?_)
  refine sv n104.ok rfl (wn _ rfl) rfl (o_ex (n104.ne rfl n103.at_) rfl) (fun an105 n105 => ?_)
  refine sv n105.ok rfl (wn _ rfl) rfl (o_as (n105.ne rfl n104.at_)) (fun an106 n106 => ?_)
  refine sv n106.ok rfl (wn _ rfl) rfl (o_as (n106.ne rfl n105.at_)) (fun an107 n107 => ?_)
  refine wpList_nil ?_
  refine th_n (hK91 _ _ ?_)
  refine wp_seq_k (fun K108 hK108 => ?_)
  refine wp_seq_k (fun K109 hK109 => ?_)
  refine wp_region_lit ?_
  refine sv n107.ok rfl (wn _ rfl) rfl (o_mv n107.at_) (fun an110 n110 => ?_)
  refine sv n110.ok rfl (wn _ rfl) rfl (o_neq (b := true) n110.at_ ev_const (by simp [show ¬ (chkF2 lf lg) = 0 from (by simpa using hbad)])) (fun an111 n111 => ?_)
  refine wpList_nil ?_
  refine th_n (hK109 _ _ ?_)
  refine wp_cond_true (n111.at_) ?_
  refine wp_seq_k (fun K112 hK112 => ?_)
  refine wp_region_lit ?_
  have e113 := n111.ne rfl (n110.ne rfl (n107.ne rfl n106.at_))
  refine sv n111.ok rfl (wn _ rfl) rfl (o_mv e113) (fun an114 n114 => ?_)
  refine sv n114.ok rfl (wn _ rfl) rfl (o_len n114.at_ Tryz.underlying23) (fun an115 n115 => ?_)
  refine sv n115.ok rfl (wn _ rfl) rfl (o_eq (b := true) n115.at_ ev_const (by decide)) (fun an116 n116 => ?_)
  refine sv n116.ok rfl (wn _ rfl) rfl (o_as n116.at_) (fun an117 n117 => ?_)
  refine wpList_nil ?_
  refine th_n (hK112 _ _ ?_)
  refine wp_ret ?_
  refine th_r ?_
  exact ret1 n117.ok rfl (n117.at_) ⟨rfl, G99⟩
set_option maxHeartbeats 8000000 in
set_option maxRecDepth 100000 in
theorem partEnds_ok (Fs0 : List (List BoxI)) (Ls0 : List (List (List Int))) (fa0 la0 : Option Addr) (fc0 lc0 : Nat) (hfc0 : Fs0.length ≤ fc0) (fv gv : Value) (U V : Nat → Nat) (w : World) (hF0 : RdV (fun w u x => RdF w u x) w fa0 Fs0) (hL0 : RdV (fun w u x => RdLL w u x) w la0 Ls0) (hf : FS w fv U) (hg : FS w gv V) :
    Calls Tryz.prog 7 #[.slice fa0 Fs0.length fc0, .slice la0 Ls0.length lc0, fv, gv] w fun e w' => e = .returned (.bool true) ∧ Gr w w' := by
  refine enter (N := 110) Tryz.func7 rfl rfl rfl (fun a0 ok0 h0 => ?_)
  have e0_0 : a0.eval (.tmp 0) = .slice fa0 Fs0.length fc0 := h0 0 _ rfl
  have e0_1 : a0.eval (.tmp 1) = .slice la0 Ls0.length lc0 := h0 1 _ rfl
  have e0_2 : a0.eval (.tmp 2) = fv := h0 2 _ rfl
  have e0_3 : a0.eval (.tmp 3) = gv := h0 3 _ rfl
  clear h0
  have G0 := Gr.refl w
  refine wp_seq_k (fun K1 hK1 => ?_)
  refine wp_region_lit ?_
  refine sv ok0 rfl (wn _ rfl) rfl (o_as ev_const) (fun an2 n2 => ?_)
  refine wpList_nil ?_
  refine th_n (hK1 _ _ ?_)
  refine wp_seq_k (fun K3 hK3 => ?_)
  refine wp_seq_k (fun K4 hK4 => ?_)
  refine wp_region_lit ?_
  refine sc n2.ok rfl (wn _ rfl) rfl (o_f0 Tryz.func20 rfl rfl rfl ) (partBegun_any w) ?_
  rintro _ w6 ⟨rfl, g7⟩
  refine ⟨_, rfl, fun an5 n5 => ?_⟩
  have G8 := G0.trans g7
  refine sv n5.ok rfl (wn _ rfl) rfl (o_not n5.at_ rfl) (fun an9 n9 => ?_)
  refine wpList_nil ?_
  refine th_n (hK4 _ _ ?_)
  refine wp_cond_false (n9.at_) ?_
  refine wp_skip ?_
  refine th_n (hK3 _ _ ?_)
  refine wp_seq_k (fun K10 hK10 => ?_)
  refine wp_region_lit ?_
  have e11 := n9.ne rfl (n5.ne rfl (n2.ne rfl e0_0))
  refine sv n9.ok rfl (wn _ rfl) rfl (o_mv e11) (fun an12 n12 => ?_)
  have e13 := n12.ne rfl (n9.ne rfl (n5.ne rfl (n2.ne rfl e0_1)))
  refine sv n12.ok rfl (wn _ rfl) rfl (o_mv e13) (fun an14 n14 => ?_)
  refine sc n14.ok rfl (wn _ rfl) rfl (o_f2 Tryz.func21 rfl rfl rfl (n14.ne rfl n12.at_) n14.at_) (parts_any Fs0 Ls0 fa0 la0 fc0 lc0 hfc0 w6 (RdV.gr rdf_gr hF0 G8) (RdV.gr rdll_gr hL0 G8)) ?_
  rintro _ w16 ⟨Kp0, vp0, rfl, hlp0, hop0, hmp0, g17⟩
  obtain ⟨pap0, pcp0, rfl, hcp0⟩ := ow_form hop0
  have hnp0 := ow_nil hop0
  have hrp0 := RdA.own encP_ok hop0 rfl
  refine ⟨_, rfl, fun an15 n15 => ?_⟩
  have G18 := G8.trans g17
  have A20 := Gr.refl w16
  refine sv n15.ok rfl (wn _ rfl) rfl (o_as n15.at_) (fun an21 n21 => ?_)
  refine wpList_nil ?_
  refine th_n (hK10 _ _ ?_)
  refine wp_seq_k (fun K22 hK22 => ?_)
  refine wp_region_lit ?_
  refine sv n21.ok rfl (wn _ rfl) rfl (o_mv n21.at_) (fun an23 n23 => ?_)
  refine sc n23.ok rfl (wn _ rfl) rfl (o_f0 Tryz.func12 rfl rfl rfl ) (fevery w16) ?_
  rintro _ w25 ⟨ev, rfl, hev, g26⟩
  refine ⟨_, rfl, fun an24 n24 => ?_⟩
  have G27 := G18.trans g26
  have A28 := A20.trans g26
  have A30 := Gr.refl w25
  refine sc n24.ok rfl (wn _ rfl) rfl (o_f2 Tryz.func10 rfl rfl rfl (n24.ne rfl n23.at_) n24.at_) (pnarrow_small Kp0 pap0 pcp0 ev fullT (by omega) w25 (hrp0.gr A28) (hmp0.gr A28) (FSn.le (hev.gr A30) (by decide))) ?_
  rintro _ w32 ⟨Fn1, qan1, qcn1, rfl, hcn1, hnn1, hln1, hen1, hfn1, hrn1, hmn1, g33⟩
  refine ⟨_, rfl, fun an31 n31 => ?_⟩
  have G34 := G27.trans g33
  have A35 := A28.trans g33
  have A36 := A30.trans g33
  have A38 := Gr.refl w32
  refine sv n31.ok rfl (wn _ rfl) rfl (o_mv n31.at_) (fun an39 n39 => ?_)
  refine sv n39.ok rfl (wn _ rfl) rfl (o_ex n39.at_ rfl) (fun an40 n40 => ?_)
  refine sv n40.ok rfl (wn _ rfl) rfl (o_ex (n40.ne rfl n39.at_) rfl) (fun an41 n41 => ?_)
  refine sv n41.ok rfl (wn _ rfl) rfl (o_as (n41.ne rfl n40.at_)) (fun an42 n42 => ?_)
  refine sv n42.ok rfl (wn _ rfl) rfl (o_as (n42.ne rfl n41.at_)) (fun an43 n43 => ?_)
  refine wpList_nil ?_
  refine th_n (hK22 _ _ ?_)
  refine wp_seq_k (fun K44 hK44 => ?_)
  refine wp_region_lit ?_
  have e45 := n43.ne rfl (n42.ne rfl (n41.ne rfl (n40.ne rfl (n39.ne rfl (n31.ne rfl (n24.ne rfl (n23.ne rfl n21.at_)))))))
  refine sv n43.ok rfl (wn _ rfl) rfl (o_mv e45) (fun an46 n46 => ?_)
  refine sc n46.ok rfl (wn _ rfl) rfl (o_f2 Tryz.func10 rfl rfl rfl n46.at_ ev_const) (pnarrow_none Kp0 pap0 pcp0 (by omega) w32 (hrp0.gr A35) (hmp0.gr A35)) ?_
  rintro _ w48 ⟨nan2, ncn2, rfl, g49⟩
  refine ⟨_, rfl, fun an47 n47 => ?_⟩
  have G50 := G34.trans g49
  have A51 := A35.trans g49
  have A52 := A36.trans g49
  have A53 := A38.trans g49
  refine sv n47.ok rfl (wn _ rfl) rfl (o_mv n47.at_) (fun an54 n54 => ?_)
  refine sv n54.ok rfl (wn _ rfl) rfl (o_ex n54.at_ rfl) (fun an55 n55 => ?_)
  refine sv n55.ok rfl (wn _ rfl) rfl (o_ex (n55.ne rfl n54.at_) rfl) (fun an56 n56 => ?_)
  refine sv n56.ok rfl (wn _ rfl) rfl (o_as (n56.ne rfl n55.at_)) (fun an57 n57 => ?_)
  refine sv n57.ok rfl (wn _ rfl) rfl (o_as (n57.ne rfl n56.at_)) (fun an58 n58 => ?_)
  refine wpList_nil ?_
  refine th_n (hK44 _ _ ?_)
  refine wp_seq_k (fun K59 hK59 => ?_)
  refine wp_seq_k (fun K60 hK60 => ?_)
  refine wp_region_lit ?_
  have e61 := n58.ne rfl (n57.ne rfl (n56.ne rfl (n55.ne rfl (n54.ne rfl (n47.ne rfl (n46.ne rfl n43.at_))))))
  refine sv n58.ok rfl (wn _ rfl) rfl (o_mv e61) (fun an62 n62 => ?_)
  refine sv n62.ok rfl (wn _ rfl) rfl (o_neq (b := false) n62.at_ ev_const (by decide)) (fun an63 n63 => ?_)
  refine sv n63.ok rfl (wn _ rfl) rfl (o_mv n63.at_) (fun an64 n64 => ?_)
  have e65 := n64.ne rfl (n63.ne rfl (n62.ne rfl n58.at_))
  refine sv n64.ok rfl (wgT rfl (yl 2 false rfl n64.at_) rfl) rfl (o_mv e65) (fun an66 n66 => ?_)
  refine sv n66.ok rfl (wgT rfl (yl 2 false rfl (n66.ne rfl n64.at_)) rfl) rfl (o_neq (b := false) n66.at_ ev_const (by decide)) (fun an67 n67 => ?_)
  refine sv n67.ok rfl (wn _ rfl) rfl (o_pkF (n67.ne rfl (n66.ne rfl n64.at_)) n67.at_) (fun an68 n68 => ?_)
  refine sv n68.ok rfl (wn _ rfl) rfl (o_mv n68.at_) (fun an69 n69 => ?_)
  have e70 := n69.ne rfl (n68.ne rfl (n67.ne rfl (n66.ne rfl (n64.ne rfl (n63.ne rfl (n62.ne rfl (n58.ne rfl (n57.ne rfl (n56.ne rfl (n55.ne rfl (n54.ne rfl (n47.ne rfl (n46.ne rfl e45)))))))))))))
  refine sv n69.ok rfl (wgT rfl (yl 6 false rfl n69.at_) rfl) rfl (o_mv e70) (fun an71 n71 => ?_)
  have e72 := n71.ne rfl (n69.ne rfl (n68.ne rfl (n67.ne rfl (n66.ne rfl (n64.ne rfl (n63.ne rfl (n62.ne rfl (n58.ne rfl (n57.ne rfl (n56.ne rfl (n55.ne rfl (n54.ne rfl (n47.ne rfl (n46.ne rfl (n43.ne rfl n42.at_)))))))))))))))
  refine sv n71.ok rfl (wgT rfl (yl 6 false rfl (n71.ne rfl n69.at_)) rfl) rfl (o_mv e72) (fun an73 n73 => ?_)
  refine sc n73.ok rfl (wgT rfl (yl 6 false rfl (n73.ne rfl (n71.ne rfl n69.at_))) rfl) rfl (o_f2 Tryz.func22 rfl rfl rfl (n73.ne rfl n71.at_) n73.at_) (both_eq Kp0 Fn1 pap0 qan1 pcp0 qcn1 (by omega) (by omega) (nar_full hen1) w48 (hrp0.gr A51) (hrn1.gr A53) (hmp0.gr A51) (hmn1.gr A53)) ?_
  rintro _ w75 ⟨rfl, g76⟩
  refine ⟨_, rfl, fun an74 n74 => ?_⟩
  have G77 := G50.trans g76
  have A78 := A51.trans g76
  have A79 := A52.trans g76
  have A80 := A53.trans g76
  have e81 := n74.ne rfl (n73.ne rfl (n71.ne rfl n69.at_))
  refine sv n74.ok rfl (wgT rfl (yl 6 false rfl e81) rfl) rfl (o_not n74.at_ rfl) (fun an82 n82 => ?_)
  refine sv n82.ok rfl (wn _ rfl) rfl (o_pkF (n82.ne rfl e81) n82.at_) (fun an83 n83 => ?_)
  refine sv n83.ok rfl (wn _ rfl) rfl (o_mv n83.at_) (fun an84 n84 => ?_)
  have e85 := n84.ne rfl (n83.ne rfl (n82.ne rfl (n74.ne rfl (n73.ne rfl (n71.ne rfl (n69.ne rfl (n68.ne rfl (n67.ne rfl (n66.ne rfl (n64.ne rfl (n63.ne rfl (n62.ne rfl (n58.ne rfl n57.at_)))))))))))))
  refine sv n84.ok rfl (wgT rfl (yl 12 false rfl n84.at_) rfl) rfl (o_mv e85) (fun an86 n86 => ?_)
  refine sv n86.ok rfl (wgT rfl (yl 12 false rfl (n86.ne rfl n84.at_)) rfl) rfl (o_len n86.at_ Tryz.underlying22) (fun an87 n87 => ?_)
  refine sv n87.ok rfl (wgT rfl (yl 12 false rfl (n87.ne rfl (n86.ne rfl n84.at_))) rfl) rfl (o_neq (b := false) n87.at_ ev_const (by decide)) (fun an88 n88 => ?_)
  have e89 := n88.ne rfl (n87.ne rfl (n86.ne rfl n84.at_))
  refine sv n88.ok rfl (wn _ rfl) rfl (o_pkF e89 n88.at_) (fun an90 n90 => ?_)
  refine wpList_nil ?_
  refine th_n (hK60 _ _ ?_)
  refine wp_cond_false (n90.at_) ?_
  refine wp_skip ?_
  refine th_n (hK59 _ _ ?_)
  refine wp_seq_k (fun K91 hK91 => ?_)
  refine wp_region_lit ?_
  have e92 := n90.ne rfl (n88.ne rfl (n87.ne rfl (n86.ne rfl (n84.ne rfl (n83.ne rfl (n82.ne rfl (n74.ne rfl (n73.ne rfl (n71.ne rfl (n69.ne rfl (n68.ne rfl (n67.ne rfl (n66.ne rfl (n64.ne rfl (n63.ne rfl (n62.ne rfl (n58.ne rfl (n57.ne rfl (n56.ne rfl (n55.ne rfl (n54.ne rfl (n47.ne rfl (n46.ne rfl (n43.ne rfl (n42.ne rfl (n41.ne rfl (n40.ne rfl (n39.ne rfl (n31.ne rfl (n24.ne rfl (n23.ne rfl (n21.ne rfl (n15.ne rfl (n14.ne rfl (n12.ne rfl (n9.ne rfl (n5.ne rfl (n2.ne rfl e0_2))))))))))))))))))))))))))))))))))))))
  refine sv n90.ok rfl (wn _ rfl) rfl (o_mv e92) (fun an93 n93 => ?_)
  have e94 := n93.ne rfl (n90.ne rfl (n88.ne rfl (n87.ne rfl (n86.ne rfl (n84.ne rfl (n83.ne rfl (n82.ne rfl (n74.ne rfl (n73.ne rfl (n71.ne rfl (n69.ne rfl (n68.ne rfl (n67.ne rfl (n66.ne rfl (n64.ne rfl (n63.ne rfl (n62.ne rfl (n58.ne rfl (n57.ne rfl (n56.ne rfl (n55.ne rfl (n54.ne rfl (n47.ne rfl (n46.ne rfl (n43.ne rfl (n42.ne rfl (n41.ne rfl (n40.ne rfl (n39.ne rfl (n31.ne rfl (n24.ne rfl (n23.ne rfl (n21.ne rfl (n15.ne rfl (n14.ne rfl (n12.ne rfl (n9.ne rfl (n5.ne rfl (n2.ne rfl e0_3)))))))))))))))))))))))))))))))))))))))
  refine sv n93.ok rfl (wn _ rfl) rfl (o_mv e94) (fun an95 n95 => ?_)
  refine sc n95.ok rfl (wn _ rfl) rfl (o_f2 Tryz.func29 rfl rfl rfl (n95.ne rfl n93.at_) n95.at_) (fjoin_ok (hf.gr G77) (hg.gr G77)) ?_
  rintro _ w97 ⟨mo, rfl, hmo, g98⟩
  refine ⟨_, rfl, fun an96 n96 => ?_⟩
  have G99 := G77.trans g98
  have A100 := A78.trans g98
  have A101 := A79.trans g98
  have A102 := A80.trans g98
  have A104 := Gr.refl w97
  refine sv n96.ok rfl (wn _ rfl) rfl (o_mv n96.at_) (fun an105 n105 => ?_)
  refine sv n105.ok rfl (wn _ rfl) rfl (o_ex n105.at_ rfl) (fun an106 n106 => ?_)
  refine sv n106.ok rfl (wn _ rfl) rfl (o_ex (n106.ne rfl n105.at_) rfl) (fun an107 n107 => ?_)
  refine sv n107.ok rfl (wn _ rfl) rfl (o_as (n107.ne rfl n106.at_)) (fun an108 n108 => ?_)
  refine sv n108.ok rfl (wn _ rfl) rfl (o_as (n108.ne rfl n107.at_)) (fun an109 n109 => ?_)
  refine wpList_nil ?_
  refine th_n (hK91 _ _ ?_)
  refine wp_seq_k (fun K110 hK110 => ?_)
  refine wp_seq_k (fun K111 hK111 => ?_)
  refine wp_region_lit ?_
  refine sv n109.ok rfl (wn _ rfl) rfl (o_mv n109.at_) (fun an112 n112 => ?_)
  refine sv n112.ok rfl (wn _ rfl) rfl (o_neq (b := false) n112.at_ ev_const (by decide)) (fun an113 n113 => ?_)
  refine wpList_nil ?_
  refine th_n (hK111 _ _ ?_)
  refine wp_cond_false (n113.at_) ?_
  refine wp_skip ?_
  refine th_n (hK110 _ _ ?_)
  refine wp_seq_k (fun K114 hK114 => ?_)
  refine wp_region_lit ?_
  have e115 := n113.ne rfl (n112.ne rfl (n109.ne rfl (n108.ne rfl (n107.ne rfl (n106.ne rfl (n105.ne rfl (n96.ne rfl (n95.ne rfl (n93.ne rfl (n90.ne rfl (n88.ne rfl (n87.ne rfl (n86.ne rfl (n84.ne rfl (n83.ne rfl (n82.ne rfl (n74.ne rfl (n73.ne rfl (n71.ne rfl e70)))))))))))))))))))
  refine sv n113.ok rfl (wn _ rfl) rfl (o_mv e115) (fun an116 n116 => ?_)
  have e117 := n116.ne rfl (n113.ne rfl (n112.ne rfl (n109.ne rfl (n108.ne rfl (n107.ne rfl (n106.ne rfl (n105.ne rfl (n96.ne rfl (n95.ne rfl (n93.ne rfl e92))))))))))
  refine sv n116.ok rfl (wn _ rfl) rfl (o_mv e117) (fun an118 n118 => ?_)
  refine sc n118.ok rfl (wn _ rfl) rfl (o_f2 Tryz.func10 rfl rfl rfl (n118.ne rfl n116.at_) n118.at_) (pnarrow_small Kp0 pap0 pcp0 fv U (by omega) w97 (hrp0.gr A100) (hmp0.gr A100) (hf.gr G99)) ?_
  rintro _ w120 ⟨Fn3, qan3, qcn3, rfl, hcn3, hnn3, hln3, hen3, hfn3, hrn3, hmn3, g121⟩
  refine ⟨_, rfl, fun an119 n119 => ?_⟩
  have G122 := G99.trans g121
  have A123 := A100.trans g121
  have A124 := A101.trans g121
  have A125 := A102.trans g121
  have A126 := A104.trans g121
  have A128 := Gr.refl w120
  refine sv n119.ok rfl (wn _ rfl) rfl (o_mv n119.at_) (fun an129 n129 => ?_)
  refine sv n129.ok rfl (wn _ rfl) rfl (o_ex n129.at_ rfl) (fun an130 n130 => ?_)
  refine sv n130.ok rfl (wn _ rfl) rfl (o_ex (n130.ne rfl n129.at_) rfl) (fun an131 n131 => ?_)
  refine sv n131.ok rfl (wn _ rfl) rfl (o_as (n131.ne rfl n130.at_)) (fun an132 n132 => ?_)
  refine sv n132.ok rfl (wn _ rfl) rfl (o_as (n132.ne rfl n131.at_)) (fun an133 n133 => ?_)
  refine wpList_nil ?_
  refine th_n (hK114 _ _ ?_)
  refine wp_seq_k (fun K134 hK134 => ?_)
  refine wp_region_lit ?_
  have e135 := n133.ne rfl (n132.ne rfl (n131.ne rfl (n130.ne rfl (n129.ne rfl (n119.ne rfl (n118.ne rfl (n116.ne rfl e115)))))))
  refine sv n133.ok rfl (wn _ rfl) rfl (o_mv e135) (fun an136 n136 => ?_)
  have e137 := n136.ne rfl (n133.ne rfl (n132.ne rfl (n131.ne rfl (n130.ne rfl (n129.ne rfl (n119.ne rfl (n118.ne rfl (n116.ne rfl (n113.ne rfl (n112.ne rfl (n109.ne rfl n108.at_)))))))))))
  refine sv n136.ok rfl (wn _ rfl) rfl (o_mv e137) (fun an138 n138 => ?_)
  refine sc n138.ok rfl (wn _ rfl) rfl (o_f2 Tryz.func10 rfl rfl rfl (n138.ne rfl n136.at_) n138.at_) (pnarrow_small Kp0 pap0 pcp0 mo (fun t => U t ||| V t) (by omega) w120 (hrp0.gr A123) (hmp0.gr A123) (FSn.le (hmo.gr A126) (by decide))) ?_
  rintro _ w140 ⟨Fn4, qan4, qcn4, rfl, hcn4, hnn4, hln4, hen4, hfn4, hrn4, hmn4, g141⟩
  refine ⟨_, rfl, fun an139 n139 => ?_⟩
  have G142 := G122.trans g141
  have A143 := A123.trans g141
  have A144 := A124.trans g141
  have A145 := A125.trans g141
  have A146 := A126.trans g141
  have A147 := A128.trans g141
  have A149 := Gr.refl w140
  refine sv n139.ok rfl (wn _ rfl) rfl (o_mv n139.at_) (fun an150 n150 => ?_)
  refine sv n150.ok rfl (wn _ rfl) rfl (o_ex n150.at_ rfl) (fun an151 n151 => ?_)
  refine sv n151.ok rfl (wn _ rfl) rfl (o_ex (n151.ne rfl n150.at_) rfl) (fun an152 n152 => ?_)
  refine sv n152.ok rfl (wn _ rfl) rfl (o_as (n152.ne rfl n151.at_)) (fun an153 n153 => ?_)
  refine sv n153.ok rfl (wn _ rfl) rfl (o_as (n153.ne rfl n152.at_)) (fun an154 n154 => ?_)
  refine wpList_nil ?_
  refine th_n (hK134 _ _ ?_)
  refine wp_seq_k (fun K155 hK155 => ?_)
  refine wp_region_lit ?_
  have e156 := n154.ne rfl (n153.ne rfl (n152.ne rfl (n151.ne rfl (n150.ne rfl (n139.ne rfl (n138.ne rfl (n136.ne rfl (n133.ne rfl n132.at_))))))))
  refine sv n154.ok rfl (wn _ rfl) rfl (o_mv e156) (fun an157 n157 => ?_)
  refine sv n157.ok rfl (wn _ rfl) rfl (o_mv (n157.ne rfl (n154.ne rfl n153.at_))) (fun an158 n158 => ?_)
  refine sc n158.ok rfl (wn _ rfl) rfl (o_f2 Tryz.func24 rfl rfl rfl (n158.ne rfl n157.at_) n158.at_) (pwithin_b Fn3 Fn4 qan3 qan4 qcn3 qcn4 true (⟨fun _ => nar_sub hen3 hen4, fun _ => rfl⟩) (by omega) (by omega) w140 (hrn3.gr A147) (hrn4.gr A149) (hmn3.gr A147) (hmn4.gr A149)) ?_
  rintro _ w160 ⟨rfl, g161⟩
  refine ⟨_, rfl, fun an159 n159 => ?_⟩
  have G162 := G142.trans g161
  have A163 := A143.trans g161
  have A164 := A144.trans g161
  have A165 := A145.trans g161
  have A166 := A146.trans g161
  have A167 := A147.trans g161
  have A168 := A149.trans g161
  refine sv n159.ok rfl (wn _ rfl) rfl (o_mv n159.at_) (fun an169 n169 => ?_)
  refine sv n169.ok rfl (wn _ rfl) rfl (o_ex n169.at_ rfl) (fun an170 n170 => ?_)
  refine sv n170.ok rfl (wn _ rfl) rfl (o_ex (n170.ne rfl n169.at_) rfl) (fun an171 n171 => ?_)
  refine sv n171.ok rfl (wn _ rfl) rfl (o_as (n171.ne rfl n170.at_)) (fun an172 n172 => ?_)
  refine sv n172.ok rfl (wn _ rfl) rfl (o_as (n172.ne rfl n171.at_)) (fun an173 n173 => ?_)
  refine wpList_nil ?_
  refine th_n (hK155 _ _ ?_)
  refine wp_seq_k (fun K174 hK174 => ?_)
  refine wp_region_lit ?_
  have e175 := n173.ne rfl (n172.ne rfl (n171.ne rfl (n170.ne rfl (n169.ne rfl (n159.ne rfl (n158.ne rfl (n157.ne rfl (n154.ne rfl n153.at_))))))))
  refine sv n173.ok rfl (wn _ rfl) rfl (o_mv e175) (fun an176 n176 => ?_)
  have e177 := n176.ne rfl (n173.ne rfl (n172.ne rfl (n171.ne rfl (n170.ne rfl (n169.ne rfl (n159.ne rfl (n158.ne rfl (n157.ne rfl (n154.ne rfl (n153.ne rfl (n152.ne rfl (n151.ne rfl (n150.ne rfl (n139.ne rfl (n138.ne rfl (n136.ne rfl e135))))))))))))))))
  refine sv n176.ok rfl (wn _ rfl) rfl (o_mv e177) (fun an178 n178 => ?_)
  refine sc n178.ok rfl (wn _ rfl) rfl (o_f2 Tryz.func24 rfl rfl rfl (n178.ne rfl n176.at_) n178.at_) (pwithin_b Fn4 Kp0 qan4 pap0 qcn4 pcp0 true (⟨fun _ => nar_within hen4, fun _ => rfl⟩) (by omega) (by omega) w160 (hrn4.gr A168) (hrp0.gr A163) (hmn4.gr A168) (hmp0.gr A163)) ?_
  rintro _ w180 ⟨rfl, g181⟩
  refine ⟨_, rfl, fun an179 n179 => ?_⟩
  have G182 := G162.trans g181
  have A183 := A163.trans g181
  have A184 := A164.trans g181
  have A185 := A165.trans g181
  have A186 := A166.trans g181
  have A187 := A167.trans g181
  have A188 := A168.trans g181
  refine sv n179.ok rfl (wn _ rfl) rfl (o_mv n179.at_) (fun an189 n189 => ?_)
  refine sv n189.ok rfl (wn _ rfl) rfl (o_ex n189.at_ rfl) (fun an190 n190 => ?_)
  refine sv n190.ok rfl (wn _ rfl) rfl (o_ex (n190.ne rfl n189.at_) rfl) (fun an191 n191 => ?_)
  refine sv n191.ok rfl (wn _ rfl) rfl (o_as (n191.ne rfl n190.at_)) (fun an192 n192 => ?_)
  refine sv n192.ok rfl (wn _ rfl) rfl (o_as (n192.ne rfl n191.at_)) (fun an193 n193 => ?_)
  refine wpList_nil ?_
  refine th_n (hK174 _ _ ?_)
  refine wp_seq_k (fun K194 hK194 => ?_)
  refine wp_region_lit ?_
  have e195 := n193.ne rfl (n192.ne rfl (n191.ne rfl (n190.ne rfl (n189.ne rfl (n179.ne rfl (n178.ne rfl (n176.ne rfl (n173.ne rfl (n172.ne rfl (n171.ne rfl (n170.ne rfl (n169.ne rfl (n159.ne rfl (n158.ne rfl (n157.ne rfl (n154.ne rfl (n153.ne rfl (n152.ne rfl (n151.ne rfl (n150.ne rfl (n139.ne rfl (n138.ne rfl (n136.ne rfl n133.at_)))))))))))))))))))))))
  refine sv n193.ok rfl (wn _ rfl) rfl (o_mv e195) (fun an196 n196 => ?_)
  refine sv n196.ok rfl (wn _ rfl) rfl (o_eq (b := true) n196.at_ ev_const (by decide)) (fun an197 n197 => ?_)
  refine sv n197.ok rfl (wn _ rfl) rfl (o_mv n197.at_) (fun an198 n198 => ?_)
  have e199 := n198.ne rfl (n197.ne rfl (n196.ne rfl (n193.ne rfl (n192.ne rfl (n191.ne rfl (n190.ne rfl (n189.ne rfl (n179.ne rfl (n178.ne rfl (n176.ne rfl (n173.ne rfl (n172.ne rfl (n171.ne rfl (n170.ne rfl (n169.ne rfl (n159.ne rfl (n158.ne rfl (n157.ne rfl n154.at_))))))))))))))))))
  refine sv n198.ok rfl (wgT rfl (yl 2 true rfl n198.at_) rfl) rfl (o_mv e199) (fun an200 n200 => ?_)
  refine sv n200.ok rfl (wgT rfl (yl 2 true rfl (n200.ne rfl n198.at_)) rfl) rfl (o_eq (b := true) n200.at_ ev_const (by decide)) (fun an201 n201 => ?_)
  refine sv n201.ok rfl (wn _ rfl) rfl (o_pkT (n201.ne rfl (n200.ne rfl n198.at_)) n201.at_) (fun an202 n202 => ?_)
  refine sv n202.ok rfl (wn _ rfl) rfl (o_mv n202.at_) (fun an203 n203 => ?_)
  have e204 := n203.ne rfl (n202.ne rfl (n201.ne rfl (n200.ne rfl (n198.ne rfl (n197.ne rfl (n196.ne rfl (n193.ne rfl (n192.ne rfl (n191.ne rfl (n190.ne rfl (n189.ne rfl (n179.ne rfl (n178.ne rfl (n176.ne rfl n173.at_))))))))))))))
  refine sv n203.ok rfl (wgT rfl (yl 6 true rfl n203.at_) rfl) rfl (o_mv e204) (fun an205 n205 => ?_)
  refine sv n205.ok rfl (wgT rfl (yl 6 true rfl (n205.ne rfl n203.at_)) rfl) rfl (o_eq (b := true) n205.at_ ev_const (by decide)) (fun an206 n206 => ?_)
  refine sv n206.ok rfl (wn _ rfl) rfl (o_pkT (n206.ne rfl (n205.ne rfl n203.at_)) n206.at_) (fun an207 n207 => ?_)
  refine sv n207.ok rfl (wn _ rfl) rfl (o_mv n207.at_) (fun an208 n208 => ?_)
  have e209 := n208.ne rfl (n207.ne rfl (n206.ne rfl (n205.ne rfl (n203.ne rfl (n202.ne rfl (n201.ne rfl (n200.ne rfl (n198.ne rfl (n197.ne rfl (n196.ne rfl n193.at_))))))))))
  refine sv n208.ok rfl (wgT rfl (yl 10 true rfl n208.at_) rfl) rfl (o_mv e209) (fun an210 n210 => ?_)
  refine sv n210.ok rfl (wgT rfl (yl 10 true rfl (n210.ne rfl n208.at_)) rfl) rfl (o_eq (b := true) n210.at_ ev_const (by decide)) (fun an211 n211 => ?_)
  refine sv n211.ok rfl (wn _ rfl) rfl (o_pkT (n211.ne rfl (n210.ne rfl n208.at_)) n211.at_) (fun an212 n212 => ?_)
  refine sv n212.ok rfl (wn _ rfl) rfl (o_mv n212.at_) (fun an213 n213 => ?_)
  have e214 := n213.ne rfl (n212.ne rfl (n211.ne rfl (n210.ne rfl (n208.ne rfl (n207.ne rfl (n206.ne rfl (n205.ne rfl (n203.ne rfl (n202.ne rfl (n201.ne rfl (n200.ne rfl (n198.ne rfl (n197.ne rfl (n196.ne rfl (n193.ne rfl (n192.ne rfl (n191.ne rfl (n190.ne rfl (n189.ne rfl (n179.ne rfl (n178.ne rfl (n176.ne rfl (n173.ne rfl n172.at_)))))))))))))))))))))))
  refine sv n213.ok rfl (wgT rfl (yl 14 true rfl n213.at_) rfl) rfl (o_mv e214) (fun an215 n215 => ?_)
  refine sv n215.ok rfl (wn _ rfl) rfl (o_pkT (n215.ne rfl n213.at_) n215.at_) (fun an216 n216 => ?_)
  refine sv n216.ok rfl (wn _ rfl) rfl (o_mv n216.at_) (fun an217 n217 => ?_)
  have e218 := n217.ne rfl (n216.ne rfl (n215.ne rfl (n213.ne rfl (n212.ne rfl (n211.ne rfl (n210.ne rfl (n208.ne rfl (n207.ne rfl (n206.ne rfl (n205.ne rfl (n203.ne rfl (n202.ne rfl (n201.ne rfl (n200.ne rfl (n198.ne rfl (n197.ne rfl (n196.ne rfl (n193.ne rfl n192.at_))))))))))))))))))
  refine sv n217.ok rfl (wgT rfl (yl 17 true rfl n217.at_) rfl) rfl (o_mv e218) (fun an219 n219 => ?_)
  refine sv n219.ok rfl (wn _ rfl) rfl (o_pkT (n219.ne rfl n217.at_) n219.at_) (fun an220 n220 => ?_)
  refine sv n220.ok rfl (wn _ rfl) rfl (o_as n220.at_) (fun an221 n221 => ?_)
  refine wpList_nil ?_
  refine th_n (hK194 _ _ ?_)
  refine wp_ret ?_
  exact ret1 n221.ok rfl (n221.at_) ⟨rfl, G182⟩
theorem partEnds_walk (Fs0 : List (List BoxI)) (Ls0 : List (List (List Int))) (fa0 la0 : Option Addr) (fc0 lc0 : Nat) (hfc0 : Fs0.length ≤ fc0) (fv gv : Value) (lf lg : List BoxI) (w : World) (hF0 : RdV (fun w u x => RdF w u x) w fa0 Fs0) (hL0 : RdV (fun w u x => RdLL w u x) w la0 Ls0) (hf : RdF w fv lf) (hg : RdF w gv lg) :
    Calls Tryz.prog 7 #[.slice fa0 Fs0.length fc0, .slice la0 Ls0.length lc0, fv, gv] w fun e w' => e = .returned (.bool true) ∧ Gr w w' := by
  cases hc : (chkF2 lf lg == 0)
  · exact partEnds_bad Fs0 Ls0 fa0 la0 fc0 lc0 hfc0 fv gv lf lg hc w hF0 hL0 hf hg
  · obtain ⟨T, U, h1, h2, -, -⟩ := fs2_of hf hg hc
    exact partEnds_ok Fs0 Ls0 fa0 la0 fc0 lc0 hfc0 fv gv T U w hF0 hL0 h1 h2
end Go.Proofs.YtghjfakellaecaaGreat
