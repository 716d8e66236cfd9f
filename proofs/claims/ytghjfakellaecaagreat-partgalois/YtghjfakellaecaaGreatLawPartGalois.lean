/- The walk of PartGalois. -/
import Derived.Test.YtghjfakellaecaaGreatPa5
set_option linter.unusedVariables false
set_option linter.unusedSimpArgs false
namespace Go.Proofs.YtghjfakellaecaaGreat
open Go.RowKit Rm Gx
set_option maxHeartbeats 8000000 in
set_option maxRecDepth 100000 in
theorem partGalois_walk (Fs0 : List (List BoxI)) (Ls0 : List (List (List Int))) (fa0 la0 : Option Addr) (fc0 lc0 : Nat) (hfc0 : Fs0.length ≤ fc0) (Fs1 : List (List BoxI)) (Ls1 : List (List (List Int))) (fa1 la1 : Option Addr) (fc1 lc1 : Nat) (hfc1 : Fs1.length ≤ fc1) (Fs2 : List (List BoxI)) (Ls2 : List (List (List Int))) (fa2 la2 : Option Addr) (fc2 lc2 : Nat) (hfc2 : Fs2.length ≤ fc2) (w : World) (hF0 : RdV (fun w u x => RdF w u x) w fa0 Fs0) (hL0 : RdV (fun w u x => RdLL w u x) w la0 Ls0) (hF1 : RdV (fun w u x => RdF w u x) w fa1 Fs1) (hL1 : RdV (fun w u x => RdLL w u x) w la1 Ls1) (hF2 : RdV (fun w u x => RdF w u x) w fa2 Fs2) (hL2 : RdV (fun w u x => RdLL w u x) w la2 Ls2) :
    Calls Tryz.prog 6 #[.slice fa0 Fs0.length fc0, .slice fa1 Fs1.length fc1, .slice fa2 Fs2.length fc2, .slice la0 Ls0.length lc0, .slice la1 Ls1.length lc1, .slice la2 Ls2.length lc2] w fun e w' => e = .returned (.bool true) ∧ Gr w w' := by
  refine enter (N := 102) Tryz.func6 rfl rfl rfl (fun a0 ok0 h0 => ?_)
  have e0_0 : a0.eval (.tmp 0) = .slice fa0 Fs0.length fc0 := h0 0 _ rfl
  have e0_1 : a0.eval (.tmp 1) = .slice fa1 Fs1.length fc1 := h0 1 _ rfl
  have e0_2 : a0.eval (.tmp 2) = .slice fa2 Fs2.length fc2 := h0 2 _ rfl
  have e0_3 : a0.eval (.tmp 3) = .slice la0 Ls0.length lc0 := h0 3 _ rfl
  have e0_4 : a0.eval (.tmp 4) = .slice la1 Ls1.length lc1 := h0 4 _ rfl
  have e0_5 : a0.eval (.tmp 5) = .slice la2 Ls2.length lc2 := h0 5 _ rfl
  clear h0
  have G0 := Gr.refl w
  refine wp_seq_k (fun K1 hK1 => ?_)
  refine wp_region_lit ?_
  refine sv ok0 rfl (wn _ rfl) rfl (o_as ev_const) (fun an2 n2 => ?_)
  refine wpList_nil ?_
  refine th_n (hK1 _ _ ?_)
  refine wp_seq_k (fun K3 hK3 => ?_)
  refine wp_seq_k (fun K4 hK4 => ?_)
  refine wp_region_lit ?_
  refine sc n2.ok rfl (wn _ rfl) rfl (o_f0 Tryz.func20 rfl rfl rfl ) (partBegun_any w) ?_
  rintro _ w6 ⟨rfl, g7⟩
  refine ⟨_, rfl, fun an5 n5 => ?_⟩
  have G8 := G0.trans g7
  refine sv n5.ok rfl (wn _ rfl) rfl (o_not n5.at_ rfl) (fun an9 n9 => ?_)
  refine wpList_nil ?_
  refine th_n (hK4 _ _ ?_)
  refine wp_cond_false (n9.at_) ?_
  refine wp_skip ?_
  refine th_n (hK3 _ _ ?_)
  refine wp_seq_k (fun K10 hK10 => ?_)
  refine wp_region_lit ?_
  have e11 := n9.ne rfl (n5.ne rfl (n2.ne rfl e0_0))
  refine sv n9.ok rfl (wn _ rfl) rfl (o_mv e11) (fun an12 n12 => ?_)
  have e13 := n12.ne rfl (n9.ne rfl (n5.ne rfl (n2.ne rfl e0_3)))
  refine sv n12.ok rfl (wn _ rfl) rfl (o_mv e13) (fun an14 n14 => ?_)
  refine sc n14.ok rfl (wn _ rfl) rfl (o_f2 Tryz.func21 rfl rfl rfl (n14.ne rfl n12.at_) n14.at_) (parts_any Fs0 Ls0 fa0 la0 fc0 lc0 hfc0 w6 (RdV.gr rdf_gr hF0 G8) (RdV.gr rdll_gr hL0 G8)) ?_
  rintro _ w16 ⟨Kp0, vp0, rfl, hlp0, hop0, hmp0, g17⟩
  obtain ⟨pap0, pcp0, rfl, hcp0⟩ := ow_form hop0
  have hnp0 := ow_nil hop0
  have hrp0 := RdA.own encP_ok hop0 rfl
  refine ⟨_, rfl, fun an15 n15 => ?_⟩
  have G18 := G8.trans g17
  have A20 := Gr.refl w16
  have e21 := n15.ne rfl (n14.ne rfl (n12.ne rfl (n9.ne rfl (n5.ne rfl (n2.ne rfl e0_1)))))
  refine sv n15.ok rfl (wn _ rfl) rfl (o_mv e21) (fun an22 n22 => ?_)
  have e23 := n22.ne rfl (n15.ne rfl (n14.ne rfl (n12.ne rfl (n9.ne rfl (n5.ne rfl (n2.ne rfl e0_4))))))
  refine sv n22.ok rfl (wn _ rfl) rfl (o_mv e23) (fun an24 n24 => ?_)
  refine sc n24.ok rfl (wn _ rfl) rfl (o_f2 Tryz.func21 rfl rfl rfl (n24.ne rfl n22.at_) n24.at_) (parts_any Fs1 Ls1 fa1 la1 fc1 lc1 hfc1 w16 (RdV.gr rdf_gr hF1 G18) (RdV.gr rdll_gr hL1 G18)) ?_
  rintro _ w26 ⟨Kp1, vp1, rfl, hlp1, hop1, hmp1, g27⟩
  obtain ⟨pap1, pcp1, rfl, hcp1⟩ := ow_form hop1
  have hnp1 := ow_nil hop1
  have hrp1 := RdA.own encP_ok hop1 rfl
  refine ⟨_, rfl, fun an25 n25 => ?_⟩
  have G28 := G18.trans g27
  have A29 := A20.trans g27
  have A31 := Gr.refl w26
  have e32 := n25.ne rfl (n24.ne rfl (n22.ne rfl (n15.ne rfl (n14.ne rfl (n12.ne rfl (n9.ne rfl (n5.ne rfl (n2.ne rfl e0_2))))))))
  refine sv n25.ok rfl (wn _ rfl) rfl (o_mv e32) (fun an33 n33 => ?_)
  have e34 := n33.ne rfl (n25.ne rfl (n24.ne rfl (n22.ne rfl (n15.ne rfl (n14.ne rfl (n12.ne rfl (n9.ne rfl (n5.ne rfl (n2.ne rfl e0_5)))))))))
  refine sv n33.ok rfl (wn _ rfl) rfl (o_mv e34) (fun an35 n35 => ?_)
  refine sc n35.ok rfl (wn _ rfl) rfl (o_f2 Tryz.func21 rfl rfl rfl (n35.ne rfl n33.at_) n35.at_) (parts_any Fs2 Ls2 fa2 la2 fc2 lc2 hfc2 w26 (RdV.gr rdf_gr hF2 G28) (RdV.gr rdll_gr hL2 G28)) ?_
  rintro _ w37 ⟨Kp2, vp2, rfl, hlp2, hop2, hmp2, g38⟩
  obtain ⟨pap2, pcp2, rfl, hcp2⟩ := ow_form hop2
  have hnp2 := ow_nil hop2
  have hrp2 := RdA.own encP_ok hop2 rfl
  refine ⟨_, rfl, fun an36 n36 => ?_⟩
  have G39 := G28.trans g38
  have A40 := A29.trans g38
  have A41 := A31.trans g38
  have A43 := Gr.refl w37
  have e44 := n36.ne rfl (n35.ne rfl (n33.ne rfl (n25.ne rfl (n24.ne rfl (n22.ne rfl n15.at_)))))
  refine sv n36.ok rfl (wn _ rfl) rfl (o_as e44) (fun an45 n45 => ?_)
  have e46 := n45.ne rfl (n36.ne rfl (n35.ne rfl (n33.ne rfl n25.at_)))
  refine sv n45.ok rfl (wn _ rfl) rfl (o_as e46) (fun an47 n47 => ?_)
  refine sv n47.ok rfl (wn _ rfl) rfl (o_as (n47.ne rfl (n45.ne rfl n36.at_))) (fun an48 n48 => ?_)
  refine wpList_nil ?_
  refine th_n (hK10 _ _ ?_)
  refine wp_seq_k (fun K49 hK49 => ?_)
  refine wp_region_lit ?_
  refine sv n48.ok rfl (wn _ rfl) rfl (o_mv (n48.ne rfl (n47.ne rfl n45.at_))) (fun an50 n50 => ?_)
  refine sv n50.ok rfl (wn _ rfl) rfl (o_mv (n50.ne rfl (n48.ne rfl n47.at_))) (fun an51 n51 => ?_)
  refine sc n51.ok rfl (wn _ rfl) rfl (o_f2 Tryz.func9 rfl rfl rfl (n51.ne rfl n50.at_) n51.at_) (pjoin_small Kp0 Kp1 pap0 pap1 pcp0 pcp1 (by omega) hcp0 hcp1 hnp0 hnp1 w37 (hrp0.gr A40) (hrp1.gr A41) (hmp0.gr A40) (hmp1.gr A41)) ?_
  rintro _ w53 ⟨Fj1, qaj1, qcj1, rfl, hcj1, hnj1, hlj1, hej1, hfj1, hrj1, hmj1, g54⟩
  refine ⟨_, rfl, fun an52 n52 => ?_⟩
  have G55 := G39.trans g54
  have A56 := A40.trans g54
  have A57 := A41.trans g54
  have A58 := A43.trans g54
  have A60 := Gr.refl w53
  refine sv n52.ok rfl (wn _ rfl) rfl (o_mv n52.at_) (fun an61 n61 => ?_)
  refine sv n61.ok rfl (wn _ rfl) rfl (o_ex n61.at_ rfl) (fun an62 n62 => ?_)
  refine sv n62.ok rfl (wn _ rfl) rfl (o_ex (n62.ne rfl n61.at_) rfl) (fun an63 n63 => ?_)
  refine sv n63.ok rfl (wn _ rfl) rfl (o_as (n63.ne rfl n62.at_)) (fun an64 n64 => ?_)
  refine sv n64.ok rfl (wn _ rfl) rfl (o_as (n64.ne rfl n63.at_)) (fun an65 n65 => ?_)
  refine wpList_nil ?_
  refine th_n (hK49 _ _ ?_)
  refine wp_seq_k (fun K66 hK66 => ?_)
  refine wp_region_lit ?_
  have e67 := n65.ne rfl (n64.ne rfl (n63.ne rfl (n62.ne rfl (n61.ne rfl (n52.ne rfl (n51.ne rfl (n50.ne rfl (n48.ne rfl (n47.ne rfl n45.at_)))))))))
  refine sv n65.ok rfl (wn _ rfl) rfl (o_mv e67) (fun an68 n68 => ?_)
  have e69 := n68.ne rfl (n65.ne rfl (n64.ne rfl (n63.ne rfl (n62.ne rfl (n61.ne rfl (n52.ne rfl (n51.ne rfl (n50.ne rfl n48.at_))))))))
  refine sv n68.ok rfl (wn _ rfl) rfl (o_mv e69) (fun an70 n70 => ?_)
  obtain ⟨p, hp⟩ := bool_of (subP Kp0 Kp2)
  refine sc n70.ok rfl (wn _ rfl) rfl (o_f2 Tryz.func24 rfl rfl rfl (n70.ne rfl n68.at_) n70.at_) (pwithin_b Kp0 Kp2 pap0 pap2 pcp0 pcp2 p (hp) (by omega) (by omega) w53 (hrp0.gr A56) (hrp2.gr A58) (hmp0.gr A56) (hmp2.gr A58)) ?_
  rintro _ w72 ⟨rfl, g73⟩
  refine ⟨_, rfl, fun an71 n71 => ?_⟩
  have G74 := G55.trans g73
  have A75 := A56.trans g73
  have A76 := A57.trans g73
  have A77 := A58.trans g73
  have A78 := A60.trans g73
  refine sv n71.ok rfl (wn _ rfl) rfl (o_mv n71.at_) (fun an79 n79 => ?_)
  refine sv n79.ok rfl (wn _ rfl) rfl (o_ex n79.at_ rfl) (fun an80 n80 => ?_)
  refine sv n80.ok rfl (wn _ rfl) rfl (o_ex (n80.ne rfl n79.at_) rfl) (fun an81 n81 => ?_)
  refine sv n81.ok rfl (wn _ rfl) rfl (o_as (n81.ne rfl n80.at_)) (fun an82 n82 => ?_)
  refine sv n82.ok rfl (wn _ rfl) rfl (o_as (n82.ne rfl n81.at_)) (fun an83 n83 => ?_)
  refine wpList_nil ?_
  refine th_n (hK66 _ _ ?_)
  refine wp_seq_k (fun K84 hK84 => ?_)
  refine wp_region_lit ?_
  have e85 := n83.ne rfl (n82.ne rfl (n81.ne rfl (n80.ne rfl (n79.ne rfl (n71.ne rfl (n70.ne rfl (n68.ne rfl (n65.ne rfl (n64.ne rfl (n63.ne rfl (n62.ne rfl (n61.ne rfl (n52.ne rfl (n51.ne rfl (n50.ne rfl (n48.ne rfl n47.at_))))))))))))))))
  refine sv n83.ok rfl (wn _ rfl) rfl (o_mv e85) (fun an86 n86 => ?_)
  have e87 := n86.ne rfl (n83.ne rfl (n82.ne rfl (n81.ne rfl (n80.ne rfl (n79.ne rfl (n71.ne rfl (n70.ne rfl e69)))))))
  refine sv n86.ok rfl (wn _ rfl) rfl (o_mv e87) (fun an88 n88 => ?_)
  obtain ⟨q, hq⟩ := bool_of (subP Kp1 Kp2)
  refine sc n88.ok rfl (wn _ rfl) rfl (o_f2 Tryz.func24 rfl rfl rfl (n88.ne rfl n86.at_) n88.at_) (pwithin_b Kp1 Kp2 pap1 pap2 pcp1 pcp2 q (hq) (by omega) (by omega) w72 (hrp1.gr A76) (hrp2.gr A77) (hmp1.gr A76) (hmp2.gr A77)) ?_
  rintro _ w90 ⟨rfl, g91⟩
  refine ⟨_, rfl, fun an89 n89 => ?_⟩
  have G92 := G74.trans g91
  have A93 := A75.trans g91
  have A94 := A76.trans g91
  have A95 := A77.trans g91
  have A96 := A78.trans g91
  refine sv n89.ok rfl (wn _ rfl) rfl (o_mv n89.at_) (fun an97 n97 => ?_)
  refine sv n97.ok rfl (wn _ rfl) rfl (o_ex n97.at_ rfl) (fun an98 n98 => ?_)
  refine sv n98.ok rfl (wn _ rfl) rfl (o_ex (n98.ne rfl n97.at_) rfl) (fun an99 n99 => ?_)
  refine sv n99.ok rfl (wn _ rfl) rfl (o_as (n99.ne rfl n98.at_)) (fun an100 n100 => ?_)
  refine sv n100.ok rfl (wn _ rfl) rfl (o_as (n100.ne rfl n99.at_)) (fun an101 n101 => ?_)
  refine wpList_nil ?_
  refine th_n (hK84 _ _ ?_)
  refine wp_seq_k (fun K102 hK102 => ?_)
  refine wp_region_lit ?_
  have e103 := n101.ne rfl (n100.ne rfl (n99.ne rfl (n98.ne rfl (n97.ne rfl (n89.ne rfl (n88.ne rfl (n86.ne rfl (n83.ne rfl (n82.ne rfl (n81.ne rfl (n80.ne rfl (n79.ne rfl (n71.ne rfl (n70.ne rfl (n68.ne rfl (n65.ne rfl n64.at_))))))))))))))))
  refine sv n101.ok rfl (wn _ rfl) rfl (o_mv e103) (fun an104 n104 => ?_)
  have e105 := n104.ne rfl (n101.ne rfl (n100.ne rfl (n99.ne rfl (n98.ne rfl (n97.ne rfl (n89.ne rfl (n88.ne rfl e87)))))))
  refine sv n104.ok rfl (wn _ rfl) rfl (o_mv e105) (fun an106 n106 => ?_)
  refine sc n106.ok rfl (wn _ rfl) rfl (o_f2 Tryz.func24 rfl rfl rfl (n106.ne rfl n104.at_) n106.at_) (pwithin_b Fj1 Kp2 qaj1 pap2 qcj1 pcp2 ((p && q)) (by rw [Bool.and_eq_true, hp, hq]; exact (sub_both hej1).symm) (by omega) (by omega) w90 (hrj1.gr A96) (hrp2.gr A95) (hmj1.gr A96) (hmp2.gr A95)) ?_
  rintro _ w108 ⟨rfl, g109⟩
  refine ⟨_, rfl, fun an107 n107 => ?_⟩
  have G110 := G92.trans g109
  have A111 := A93.trans g109
  have A112 := A94.trans g109
  have A113 := A95.trans g109
  have A114 := A96.trans g109
  refine sv n107.ok rfl (wn _ rfl) rfl (o_mv n107.at_) (fun an115 n115 => ?_)
  refine sv n115.ok rfl (wn _ rfl) rfl (o_ex n115.at_ rfl) (fun an116 n116 => ?_)
  refine sv n116.ok rfl (wn _ rfl) rfl (o_ex (n116.ne rfl n115.at_) rfl) (fun an117 n117 => ?_)
  refine sv n117.ok rfl (wn _ rfl) rfl (o_as (n117.ne rfl n116.at_)) (fun an118 n118 => ?_)
  refine sv n118.ok rfl (wn _ rfl) rfl (o_as (n118.ne rfl n117.at_)) (fun an119 n119 => ?_)
  refine wpList_nil ?_
  refine th_n (hK102 _ _ ?_)
  refine wp_seq_k (fun K120 hK120 => ?_)
  refine wp_region_lit ?_
  have e121 := n119.ne rfl (n118.ne rfl (n117.ne rfl (n116.ne rfl (n115.ne rfl (n107.ne rfl (n106.ne rfl (n104.ne rfl (n101.ne rfl (n100.ne rfl (n99.ne rfl (n98.ne rfl (n97.ne rfl (n89.ne rfl (n88.ne rfl (n86.ne rfl (n83.ne rfl (n82.ne rfl (n81.ne rfl (n80.ne rfl (n79.ne rfl (n71.ne rfl (n70.ne rfl (n68.ne rfl e67)))))))))))))))))))))))
  refine sv n119.ok rfl (wn _ rfl) rfl (o_mv e121) (fun an122 n122 => ?_)
  have e123 := n122.ne rfl (n119.ne rfl (n118.ne rfl (n117.ne rfl (n116.ne rfl (n115.ne rfl (n107.ne rfl (n106.ne rfl (n104.ne rfl (n101.ne rfl (n100.ne rfl (n99.ne rfl (n98.ne rfl (n97.ne rfl (n89.ne rfl (n88.ne rfl (n86.ne rfl e85))))))))))))))))
  refine sv n122.ok rfl (wn _ rfl) rfl (o_mv e123) (fun an124 n124 => ?_)
  obtain ⟨r, hr⟩ := bool_of (subP Kp0 Kp1)
  refine sc n124.ok rfl (wn _ rfl) rfl (o_f2 Tryz.func24 rfl rfl rfl (n124.ne rfl n122.at_) n124.at_) (pwithin_b Kp0 Kp1 pap0 pap1 pcp0 pcp1 r (hr) (by omega) (by omega) w108 (hrp0.gr A111) (hrp1.gr A112) (hmp0.gr A111) (hmp1.gr A112)) ?_
  rintro _ w126 ⟨rfl, g127⟩
  refine ⟨_, rfl, fun an125 n125 => ?_⟩
  have G128 := G110.trans g127
  have A129 := A111.trans g127
  have A130 := A112.trans g127
  have A131 := A113.trans g127
  have A132 := A114.trans g127
  refine sv n125.ok rfl (wn _ rfl) rfl (o_mv n125.at_) (fun an133 n133 => ?_)
  refine sv n133.ok rfl (wn _ rfl) rfl (o_ex n133.at_ rfl) (fun an134 n134 => ?_)
  refine sv n134.ok rfl (wn _ rfl) rfl (o_ex (n134.ne rfl n133.at_) rfl) (fun an135 n135 => ?_)
  refine sv n135.ok rfl (wn _ rfl) rfl (o_as (n135.ne rfl n134.at_)) (fun an136 n136 => ?_)
  refine sv n136.ok rfl (wn _ rfl) rfl (o_as (n136.ne rfl n135.at_)) (fun an137 n137 => ?_)
  refine wpList_nil ?_
  refine th_n (hK120 _ _ ?_)
  refine wp_seq_k (fun K138 hK138 => ?_)
  refine wp_seq_k (fun K139 hK139 => ?_)
  refine wp_region_lit ?_
  have e140 := n137.ne rfl (n136.ne rfl (n135.ne rfl (n134.ne rfl (n133.ne rfl (n125.ne rfl (n124.ne rfl (n122.ne rfl (n119.ne rfl (n118.ne rfl (n117.ne rfl (n116.ne rfl (n115.ne rfl (n107.ne rfl (n106.ne rfl (n104.ne rfl (n101.ne rfl (n100.ne rfl (n99.ne rfl (n98.ne rfl (n97.ne rfl (n89.ne rfl (n88.ne rfl (n86.ne rfl (n83.ne rfl (n82.ne rfl (n81.ne rfl (n80.ne rfl (n79.ne rfl (n71.ne rfl (n70.ne rfl (n68.ne rfl n65.at_)))))))))))))))))))))))))))))))
  refine sv n137.ok rfl (wn _ rfl) rfl (o_mv e140) (fun an141 n141 => ?_)
  refine sv n141.ok rfl (wn _ rfl) rfl (o_neq (b := false) n141.at_ ev_const (by decide)) (fun an142 n142 => ?_)
  refine sv n142.ok rfl (wn _ rfl) rfl (o_mv n142.at_) (fun an143 n143 => ?_)
  have e144 := n143.ne rfl (n142.ne rfl (n141.ne rfl (n137.ne rfl (n136.ne rfl (n135.ne rfl (n134.ne rfl (n133.ne rfl (n125.ne rfl (n124.ne rfl (n122.ne rfl (n119.ne rfl (n118.ne rfl (n117.ne rfl (n116.ne rfl (n115.ne rfl (n107.ne rfl (n106.ne rfl (n104.ne rfl (n101.ne rfl (n100.ne rfl (n99.ne rfl (n98.ne rfl (n97.ne rfl (n89.ne rfl (n88.ne rfl (n86.ne rfl n83.at_))))))))))))))))))))))))))
  refine sv n143.ok rfl (wgT rfl (yl 2 false rfl n143.at_) rfl) rfl (o_mv e144) (fun an145 n145 => ?_)
  refine sv n145.ok rfl (wgT rfl (yl 2 false rfl (n145.ne rfl n143.at_)) rfl) rfl (o_neq (b := false) n145.at_ ev_const (by decide)) (fun an146 n146 => ?_)
  refine sv n146.ok rfl (wn _ rfl) rfl (o_pkF (n146.ne rfl (n145.ne rfl n143.at_)) n146.at_) (fun an147 n147 => ?_)
  refine sv n147.ok rfl (wn _ rfl) rfl (o_mv n147.at_) (fun an148 n148 => ?_)
  have e149 := n148.ne rfl (n147.ne rfl (n146.ne rfl (n145.ne rfl (n143.ne rfl (n142.ne rfl (n141.ne rfl (n137.ne rfl (n136.ne rfl (n135.ne rfl (n134.ne rfl (n133.ne rfl (n125.ne rfl (n124.ne rfl (n122.ne rfl (n119.ne rfl (n118.ne rfl (n117.ne rfl (n116.ne rfl (n115.ne rfl (n107.ne rfl (n106.ne rfl (n104.ne rfl n101.at_))))))))))))))))))))))
  refine sv n148.ok rfl (wgT rfl (yl 6 false rfl n148.at_) rfl) rfl (o_mv e149) (fun an150 n150 => ?_)
  refine sv n150.ok rfl (wgT rfl (yl 6 false rfl (n150.ne rfl n148.at_)) rfl) rfl (o_neq (b := false) n150.at_ ev_const (by decide)) (fun an151 n151 => ?_)
  refine sv n151.ok rfl (wn _ rfl) rfl (o_pkF (n151.ne rfl (n150.ne rfl n148.at_)) n151.at_) (fun an152 n152 => ?_)
  refine sv n152.ok rfl (wn _ rfl) rfl (o_mv n152.at_) (fun an153 n153 => ?_)
  have e154 := n153.ne rfl (n152.ne rfl (n151.ne rfl (n150.ne rfl (n148.ne rfl (n147.ne rfl (n146.ne rfl (n145.ne rfl (n143.ne rfl (n142.ne rfl (n141.ne rfl (n137.ne rfl (n136.ne rfl (n135.ne rfl (n134.ne rfl (n133.ne rfl (n125.ne rfl (n124.ne rfl (n122.ne rfl n119.at_))))))))))))))))))
  refine sv n153.ok rfl (wgT rfl (yl 10 false rfl n153.at_) rfl) rfl (o_mv e154) (fun an155 n155 => ?_)
  refine sv n155.ok rfl (wgT rfl (yl 10 false rfl (n155.ne rfl n153.at_)) rfl) rfl (o_neq (b := false) n155.at_ ev_const (by decide)) (fun an156 n156 => ?_)
  refine sv n156.ok rfl (wn _ rfl) rfl (o_pkF (n156.ne rfl (n155.ne rfl n153.at_)) n156.at_) (fun an157 n157 => ?_)
  refine sv n157.ok rfl (wn _ rfl) rfl (o_mv n157.at_) (fun an158 n158 => ?_)
  have e159 := n158.ne rfl (n157.ne rfl (n156.ne rfl (n155.ne rfl (n153.ne rfl (n152.ne rfl (n151.ne rfl (n150.ne rfl (n148.ne rfl (n147.ne rfl (n146.ne rfl (n145.ne rfl (n143.ne rfl (n142.ne rfl (n141.ne rfl n137.at_))))))))))))))
  refine sv n158.ok rfl (wgT rfl (yl 14 false rfl n158.at_) rfl) rfl (o_mv e159) (fun an160 n160 => ?_)
  refine sv n160.ok rfl (wgT rfl (yl 14 false rfl (n160.ne rfl n158.at_)) rfl) rfl (o_neq (b := false) n160.at_ ev_const (by decide)) (fun an161 n161 => ?_)
  refine sv n161.ok rfl (wn _ rfl) rfl (o_pkF (n161.ne rfl (n160.ne rfl n158.at_)) n161.at_) (fun an162 n162 => ?_)
  refine wpList_nil ?_
  refine th_n (hK139 _ _ ?_)
  refine wp_cond_false (n162.at_) ?_
  refine wp_skip ?_
  refine th_n (hK138 _ _ ?_)
  refine wp_seq_k (fun K163 hK163 => ?_)
  refine wp_region_lit ?_
  have e164 := n162.ne rfl (n161.ne rfl (n160.ne rfl (n158.ne rfl (n157.ne rfl (n156.ne rfl (n155.ne rfl (n153.ne rfl (n152.ne rfl (n151.ne rfl (n150.ne rfl (n148.ne rfl (n147.ne rfl (n146.ne rfl (n145.ne rfl (n143.ne rfl (n142.ne rfl (n141.ne rfl (n137.ne rfl (n136.ne rfl (n135.ne rfl (n134.ne rfl (n133.ne rfl (n125.ne rfl (n124.ne rfl (n122.ne rfl (n119.ne rfl n118.at_))))))))))))))))))))))))))
  refine sv n162.ok rfl (wn _ rfl) rfl (o_mv e164) (fun an165 n165 => ?_)
  have e166 := n165.ne rfl (n162.ne rfl (n161.ne rfl (n160.ne rfl (n158.ne rfl (n157.ne rfl (n156.ne rfl (n155.ne rfl (n153.ne rfl (n152.ne rfl (n151.ne rfl (n150.ne rfl (n148.ne rfl (n147.ne rfl (n146.ne rfl (n145.ne rfl (n143.ne rfl (n142.ne rfl (n141.ne rfl (n137.ne rfl (n136.ne rfl (n135.ne rfl (n134.ne rfl (n133.ne rfl (n125.ne rfl (n124.ne rfl (n122.ne rfl (n119.ne rfl (n118.ne rfl (n117.ne rfl (n116.ne rfl (n115.ne rfl (n107.ne rfl (n106.ne rfl (n104.ne rfl (n101.ne rfl (n100.ne rfl (n99.ne rfl (n98.ne rfl (n97.ne rfl (n89.ne rfl (n88.ne rfl (n86.ne rfl (n83.ne rfl n82.at_)))))))))))))))))))))))))))))))))))))))))))
  refine sv n165.ok rfl (wn _ rfl) rfl (o_mv e166) (fun an167 n167 => ?_)
  refine sv n167.ok rfl (wn _ rfl) rfl (o_mv n167.at_) (fun an168 n168 => ?_)
  cases c169 : p
  · have e170 := (n168.at_).trans (congrArg Value.bool (c169))
    have e171 := n168.ne rfl (n167.ne rfl (n165.ne rfl (n162.ne rfl (n161.ne rfl (n160.ne rfl (n158.ne rfl (n157.ne rfl (n156.ne rfl (n155.ne rfl (n153.ne rfl (n152.ne rfl (n151.ne rfl (n150.ne rfl (n148.ne rfl (n147.ne rfl (n146.ne rfl (n145.ne rfl (n143.ne rfl (n142.ne rfl (n141.ne rfl (n137.ne rfl (n136.ne rfl (n135.ne rfl (n134.ne rfl (n133.ne rfl (n125.ne rfl (n124.ne rfl (n122.ne rfl (n119.ne rfl (n118.ne rfl (n117.ne rfl (n116.ne rfl (n115.ne rfl (n107.ne rfl (n106.ne rfl (n104.ne rfl (n101.ne rfl (n100.ne rfl (n99.ne rfl (n98.ne rfl (n97.ne rfl (n89.ne rfl (n88.ne rfl (n86.ne rfl (n83.ne rfl (n82.ne rfl (n81.ne rfl n80.at_)))))))))))))))))))))))))))))))))))))))))))))))
    have e172 := (e171).trans (congrArg Value.bool (c169))
    have e173 := ((n168.ne rfl (n167.ne rfl e166))).trans (congrArg Value.bool (c169))
    have e174 := ((n168.ne rfl n167.at_)).trans (congrArg Value.bool (c169))
    have e175 := n168.ne rfl (n167.ne rfl (n165.ne rfl (n162.ne rfl (n161.ne rfl (n160.ne rfl (n158.ne rfl (n157.ne rfl (n156.ne rfl (n155.ne rfl (n153.ne rfl (n152.ne rfl (n151.ne rfl (n150.ne rfl (n148.ne rfl (n147.ne rfl (n146.ne rfl (n145.ne rfl (n143.ne rfl (n142.ne rfl (n141.ne rfl (n137.ne rfl (n136.ne rfl (n135.ne rfl (n134.ne rfl (n133.ne rfl (n125.ne rfl (n124.ne rfl (n122.ne rfl (n119.ne rfl (n118.ne rfl (n117.ne rfl n116.at_)))))))))))))))))))))))))))))))
    have e176 := (e175).trans (congrArg Value.bool (show (p && q) = false by simp [c169]))
    have e177 := n168.ne rfl (n167.ne rfl (n165.ne rfl e164))
    have e178 := (e177).trans (congrArg Value.bool (show (p && q) = false by simp [c169]))
    have e179 := ((n168.ne rfl (n167.ne rfl n165.at_))).trans (congrArg Value.bool (show (p && q) = false by simp [c169]))
    refine sn n168.ok rfl (wgF rfl (yl 2 false rfl e170) rfl) rfl (fun an180 n180 => ?_)
    refine sv n180.ok rfl (wn _ rfl) rfl (o_pkF (n180.ne rfl e170) ev_const) (fun an181 n181 => ?_)
    refine sv n181.ok rfl (wn _ rfl) rfl (o_eqB (b := true) (n181.ne rfl (n180.ne rfl e179)) n181.at_ (by simp) Tryz.underlying4) (fun an182 n182 => ?_)
    refine sv n182.ok rfl (wn _ rfl) rfl (o_mv n182.at_) (fun an183 n183 => ?_)
    have e184 := n183.ne rfl (n182.ne rfl (n181.ne rfl (n180.ne rfl (n168.ne rfl (n167.ne rfl (n165.ne rfl (n162.ne rfl (n161.ne rfl (n160.ne rfl (n158.ne rfl (n157.ne rfl (n156.ne rfl (n155.ne rfl (n153.ne rfl (n152.ne rfl (n151.ne rfl (n150.ne rfl (n148.ne rfl (n147.ne rfl (n146.ne rfl (n145.ne rfl (n143.ne rfl (n142.ne rfl (n141.ne rfl (n137.ne rfl n136.at_)))))))))))))))))))))))))
    refine sv n183.ok rfl (wgT rfl (yl 6 true rfl n183.at_) rfl) rfl (o_mv e184) (fun an185 n185 => ?_)
    refine sv n185.ok rfl (wgT rfl (yl 6 true rfl (n185.ne rfl n183.at_)) rfl) rfl (o_notI n185.at_) (fun an186 n186 => ?_)
    refine sv n186.ok rfl (wgT rfl (yl 6 true rfl (n186.ne rfl (n185.ne rfl n183.at_))) rfl) rfl (o_mv n186.at_) (fun an187 n187 => ?_)
    cases c188 : (!r)
    · have e189 := (n187.at_).trans (congrArg Value.bool (c188))
      have e190 := ((n187.ne rfl n186.at_)).trans (congrArg Value.bool (c188))
      have e191 := n187.ne rfl (n186.ne rfl (n185.ne rfl (n183.ne rfl (n182.ne rfl (n181.ne rfl (n180.ne rfl (n168.ne rfl (n167.ne rfl (n165.ne rfl (n162.ne rfl (n161.ne rfl (n160.ne rfl (n158.ne rfl (n157.ne rfl (n156.ne rfl (n155.ne rfl (n153.ne rfl (n152.ne rfl (n151.ne rfl (n150.ne rfl (n148.ne rfl (n147.ne rfl (n146.ne rfl (n145.ne rfl (n143.ne rfl (n142.ne rfl (n141.ne rfl (n137.ne rfl (n136.ne rfl (n135.ne rfl (n134.ne rfl (n133.ne rfl (n125.ne rfl (n124.ne rfl (n122.ne rfl (n119.ne rfl (n118.ne rfl (n117.ne rfl (n116.ne rfl (n115.ne rfl (n107.ne rfl (n106.ne rfl (n104.ne rfl (n101.ne rfl n100.at_))))))))))))))))))))))))))))))))))))))))))))
      refine sv n187.ok rfl (wgT rfl (yl 9 false rfl e189) rfl) rfl (o_mv e191) (fun an192 n192 => ?_)
      refine sv n192.ok rfl (wgT rfl (yl 9 false rfl (n192.ne rfl e189)) rfl) rfl (o_notI n192.at_) (fun an193 n193 => ?_)
      have e194 := n193.ne rfl (n192.ne rfl (n187.ne rfl (n186.ne rfl (n185.ne rfl n183.at_))))
      refine sv n193.ok rfl (wgT rfl (yl 6 true rfl e194) rfl) rfl (o_pkF (n193.ne rfl (n192.ne rfl e189)) n193.at_) (fun an195 n195 => ?_)
      refine sv n195.ok rfl (wgT rfl (yl 6 true rfl (n195.ne rfl e194)) rfl) rfl (o_mv n195.at_) (fun an196 n196 => ?_)
      cases c197 : (!q)
      · have e198 := (n196.at_).trans (congrArg Value.bool (c197))
        have e199 := ((n196.ne rfl (n195.ne rfl n193.at_))).trans (congrArg Value.bool (c197))
        have e200 := ((n196.ne rfl n195.at_)).trans (congrArg Value.bool (c197))
        have hx := hp.2 (subP_trans (hr.1 (by simpa using c188)) (hq.1 (by simpa using c197)))
        rw [c169] at hx
        cases hx
      · have e201 := (n196.at_).trans (congrArg Value.bool (c197))
        have e202 := ((n196.ne rfl (n195.ne rfl n193.at_))).trans (congrArg Value.bool (c197))
        have e203 := ((n196.ne rfl n195.at_)).trans (congrArg Value.bool (c197))
        refine sn n196.ok rfl (wgF rfl (yl 13 true rfl e201) rfl) rfl (fun an204 n204 => ?_)
        have e205 := n204.ne rfl (n196.ne rfl (n195.ne rfl e194))
        refine sv n204.ok rfl (wgT rfl (yl 6 true rfl e205) rfl) rfl (o_pkT (n204.ne rfl e201) ev_const) (fun an206 n206 => ?_)
        refine sv n206.ok rfl (wn _ rfl) rfl (o_pkT (n206.ne rfl e205) n206.at_) (fun an207 n207 => ?_)
        refine sv n207.ok rfl (wn _ rfl) rfl (o_as n207.at_) (fun an208 n208 => ?_)
        refine wpList_nil ?_
        refine th_n (hK163 _ _ ?_)
        refine wp_ret ?_
        exact ret1 n208.ok rfl (n208.at_) ⟨rfl, G128⟩
    · have e209 := (n187.at_).trans (congrArg Value.bool (c188))
      have e210 := ((n187.ne rfl n186.at_)).trans (congrArg Value.bool (c188))
      refine sn n187.ok rfl (wgF rfl (yl 9 true rfl e209) rfl) rfl (fun an211 n211 => ?_)
      refine sn n211.ok rfl (wgF rfl (yl 9 true rfl (n211.ne rfl e209)) rfl) rfl (fun an212 n212 => ?_)
      have e213 := n212.ne rfl (n211.ne rfl (n187.ne rfl (n186.ne rfl (n185.ne rfl n183.at_))))
      refine sv n212.ok rfl (wgT rfl (yl 6 true rfl e213) rfl) rfl (o_pkT (n212.ne rfl (n211.ne rfl e209)) ev_const) (fun an214 n214 => ?_)
      refine sv n214.ok rfl (wgT rfl (yl 6 true rfl (n214.ne rfl e213)) rfl) rfl (o_mv n214.at_) (fun an215 n215 => ?_)
      refine sn n215.ok rfl (wgF rfl (yl 13 true rfl n215.at_) rfl) rfl (fun an216 n216 => ?_)
      have e217 := n216.ne rfl (n215.ne rfl (n214.ne rfl e213))
      refine sv n216.ok rfl (wgT rfl (yl 6 true rfl e217) rfl) rfl (o_pkT (n216.ne rfl n215.at_) ev_const) (fun an218 n218 => ?_)
      refine sv n218.ok rfl (wn _ rfl) rfl (o_pkT (n218.ne rfl e217) n218.at_) (fun an219 n219 => ?_)
      refine sv n219.ok rfl (wn _ rfl) rfl (o_as n219.at_) (fun an220 n220 => ?_)
      refine wpList_nil ?_
      refine th_n (hK163 _ _ ?_)
      refine wp_ret ?_
      exact ret1 n220.ok rfl (n220.at_) ⟨rfl, G128⟩
  · have e221 := (n168.at_).trans (congrArg Value.bool (c169))
    have e222 := n168.ne rfl (n167.ne rfl (n165.ne rfl (n162.ne rfl (n161.ne rfl (n160.ne rfl (n158.ne rfl (n157.ne rfl (n156.ne rfl (n155.ne rfl (n153.ne rfl (n152.ne rfl (n151.ne rfl (n150.ne rfl (n148.ne rfl (n147.ne rfl (n146.ne rfl (n145.ne rfl (n143.ne rfl (n142.ne rfl (n141.ne rfl (n137.ne rfl (n136.ne rfl (n135.ne rfl (n134.ne rfl (n133.ne rfl (n125.ne rfl (n124.ne rfl (n122.ne rfl (n119.ne rfl (n118.ne rfl (n117.ne rfl (n116.ne rfl (n115.ne rfl (n107.ne rfl (n106.ne rfl (n104.ne rfl (n101.ne rfl (n100.ne rfl (n99.ne rfl (n98.ne rfl (n97.ne rfl (n89.ne rfl (n88.ne rfl (n86.ne rfl (n83.ne rfl (n82.ne rfl (n81.ne rfl n80.at_)))))))))))))))))))))))))))))))))))))))))))))))
    have e223 := (e222).trans (congrArg Value.bool (c169))
    have e224 := ((n168.ne rfl (n167.ne rfl e166))).trans (congrArg Value.bool (c169))
    have e225 := ((n168.ne rfl n167.at_)).trans (congrArg Value.bool (c169))
    have e226 := n168.ne rfl (n167.ne rfl (n165.ne rfl (n162.ne rfl (n161.ne rfl (n160.ne rfl (n158.ne rfl (n157.ne rfl (n156.ne rfl (n155.ne rfl (n153.ne rfl (n152.ne rfl (n151.ne rfl (n150.ne rfl (n148.ne rfl (n147.ne rfl (n146.ne rfl (n145.ne rfl (n143.ne rfl (n142.ne rfl (n141.ne rfl (n137.ne rfl (n136.ne rfl (n135.ne rfl (n134.ne rfl (n133.ne rfl (n125.ne rfl (n124.ne rfl (n122.ne rfl (n119.ne rfl (n118.ne rfl (n117.ne rfl n116.at_)))))))))))))))))))))))))))))))
    have e227 := (e226).trans (congrArg Value.bool (show (p && q) = q by simp [c169]))
    have e228 := n168.ne rfl (n167.ne rfl (n165.ne rfl e164))
    have e229 := (e228).trans (congrArg Value.bool (show (p && q) = q by simp [c169]))
    have e230 := ((n168.ne rfl (n167.ne rfl n165.at_))).trans (congrArg Value.bool (show (p && q) = q by simp [c169]))
    have e231 := n168.ne rfl (n167.ne rfl (n165.ne rfl (n162.ne rfl (n161.ne rfl (n160.ne rfl (n158.ne rfl (n157.ne rfl (n156.ne rfl (n155.ne rfl (n153.ne rfl (n152.ne rfl (n151.ne rfl (n150.ne rfl (n148.ne rfl (n147.ne rfl (n146.ne rfl (n145.ne rfl (n143.ne rfl (n142.ne rfl (n141.ne rfl (n137.ne rfl (n136.ne rfl (n135.ne rfl (n134.ne rfl (n133.ne rfl (n125.ne rfl (n124.ne rfl (n122.ne rfl (n119.ne rfl (n118.ne rfl (n117.ne rfl (n116.ne rfl (n115.ne rfl (n107.ne rfl (n106.ne rfl (n104.ne rfl (n101.ne rfl n100.at_)))))))))))))))))))))))))))))))))))))
    refine sv n168.ok rfl (wgT rfl (yl 2 true rfl e221) rfl) rfl (o_mv e231) (fun an232 n232 => ?_)
    refine sv n232.ok rfl (wn _ rfl) rfl (o_pkT (n232.ne rfl e221) n232.at_) (fun an233 n233 => ?_)
    refine sv n233.ok rfl (wn _ rfl) rfl (o_eqB (b := true) (n233.ne rfl (n232.ne rfl e230)) n233.at_ (by simp) Tryz.underlying4) (fun an234 n234 => ?_)
    refine sv n234.ok rfl (wn _ rfl) rfl (o_mv n234.at_) (fun an235 n235 => ?_)
    have e236 := n235.ne rfl (n234.ne rfl (n233.ne rfl (n232.ne rfl (n168.ne rfl (n167.ne rfl (n165.ne rfl (n162.ne rfl (n161.ne rfl (n160.ne rfl (n158.ne rfl (n157.ne rfl (n156.ne rfl (n155.ne rfl (n153.ne rfl (n152.ne rfl (n151.ne rfl (n150.ne rfl (n148.ne rfl (n147.ne rfl (n146.ne rfl (n145.ne rfl (n143.ne rfl (n142.ne rfl (n141.ne rfl (n137.ne rfl n136.at_)))))))))))))))))))))))))
    refine sv n235.ok rfl (wgT rfl (yl 6 true rfl n235.at_) rfl) rfl (o_mv e236) (fun an237 n237 => ?_)
    refine sv n237.ok rfl (wgT rfl (yl 6 true rfl (n237.ne rfl n235.at_)) rfl) rfl (o_notI n237.at_) (fun an238 n238 => ?_)
    refine sv n238.ok rfl (wgT rfl (yl 6 true rfl (n238.ne rfl (n237.ne rfl n235.at_))) rfl) rfl (o_mv n238.at_) (fun an239 n239 => ?_)
    cases c240 : (!r)
    · have e241 := (n239.at_).trans (congrArg Value.bool (c240))
      have e242 := ((n239.ne rfl n238.at_)).trans (congrArg Value.bool (c240))
      have e243 := n239.ne rfl (n238.ne rfl (n237.ne rfl (n235.ne rfl (n234.ne rfl (n233.ne rfl (n232.ne rfl e231))))))
      refine sv n239.ok rfl (wgT rfl (yl 9 false rfl e241) rfl) rfl (o_mv e243) (fun an244 n244 => ?_)
      refine sv n244.ok rfl (wgT rfl (yl 9 false rfl (n244.ne rfl e241)) rfl) rfl (o_notI n244.at_) (fun an245 n245 => ?_)
      have e246 := n245.ne rfl (n244.ne rfl (n239.ne rfl (n238.ne rfl (n237.ne rfl n235.at_))))
      refine sv n245.ok rfl (wgT rfl (yl 6 true rfl e246) rfl) rfl (o_pkF (n245.ne rfl (n244.ne rfl e241)) n245.at_) (fun an247 n247 => ?_)
      refine sv n247.ok rfl (wgT rfl (yl 6 true rfl (n247.ne rfl e246)) rfl) rfl (o_mv n247.at_) (fun an248 n248 => ?_)
      cases c249 : (!q)
      · have e250 := (n248.at_).trans (congrArg Value.bool (c249))
        have e251 := ((n248.ne rfl (n247.ne rfl n245.at_))).trans (congrArg Value.bool (c249))
        have e252 := ((n248.ne rfl n247.at_)).trans (congrArg Value.bool (c249))
        have e253 := n248.ne rfl (n247.ne rfl (n245.ne rfl (n244.ne rfl (n239.ne rfl (n238.ne rfl (n237.ne rfl (n235.ne rfl (n234.ne rfl (n233.ne rfl (n232.ne rfl e224))))))))))
        refine sv n248.ok rfl (wgT rfl (yl 13 false rfl e250) rfl) rfl (o_mv e253) (fun an254 n254 => ?_)
        have e255 := n254.ne rfl (n248.ne rfl (n247.ne rfl e246))
        refine sv n254.ok rfl (wgT rfl (yl 6 true rfl e255) rfl) rfl (o_pkF (n254.ne rfl e250) n254.at_) (fun an256 n256 => ?_)
        refine sv n256.ok rfl (wn _ rfl) rfl (o_pkT (n256.ne rfl e255) n256.at_) (fun an257 n257 => ?_)
        refine sv n257.ok rfl (wn _ rfl) rfl (o_as n257.at_) (fun an258 n258 => ?_)
        refine wpList_nil ?_
        refine th_n (hK163 _ _ ?_)
        refine wp_ret ?_
        exact ret1 n258.ok rfl (n258.at_) ⟨rfl, G128⟩
      · have e259 := (n248.at_).trans (congrArg Value.bool (c249))
        have e260 := ((n248.ne rfl (n247.ne rfl n245.at_))).trans (congrArg Value.bool (c249))
        have e261 := ((n248.ne rfl n247.at_)).trans (congrArg Value.bool (c249))
        refine sn n248.ok rfl (wgF rfl (yl 13 true rfl e259) rfl) rfl (fun an262 n262 => ?_)
        have e263 := n262.ne rfl (n248.ne rfl (n247.ne rfl e246))
        refine sv n262.ok rfl (wgT rfl (yl 6 true rfl e263) rfl) rfl (o_pkT (n262.ne rfl e259) ev_const) (fun an264 n264 => ?_)
        refine sv n264.ok rfl (wn _ rfl) rfl (o_pkT (n264.ne rfl e263) n264.at_) (fun an265 n265 => ?_)
        refine sv n265.ok rfl (wn _ rfl) rfl (o_as n265.at_) (fun an266 n266 => ?_)
        refine wpList_nil ?_
        refine th_n (hK163 _ _ ?_)
        refine wp_ret ?_
        exact ret1 n266.ok rfl (n266.at_) ⟨rfl, G128⟩
    · have e267 := (n239.at_).trans (congrArg Value.bool (c240))
      have e268 := ((n239.ne rfl n238.at_)).trans (congrArg Value.bool (c240))
      refine sn n239.ok rfl (wgF rfl (yl 9 true rfl e267) rfl) rfl (fun an269 n269 => ?_)
      refine sn n269.ok rfl (wgF rfl (yl 9 true rfl (n269.ne rfl e267)) rfl) rfl (fun an270 n270 => ?_)
      have e271 := n270.ne rfl (n269.ne rfl (n239.ne rfl (n238.ne rfl (n237.ne rfl n235.at_))))
      refine sv n270.ok rfl (wgT rfl (yl 6 true rfl e271) rfl) rfl (o_pkT (n270.ne rfl (n269.ne rfl e267)) ev_const) (fun an272 n272 => ?_)
      refine sv n272.ok rfl (wgT rfl (yl 6 true rfl (n272.ne rfl e271)) rfl) rfl (o_mv n272.at_) (fun an273 n273 => ?_)
      refine sn n273.ok rfl (wgF rfl (yl 13 true rfl n273.at_) rfl) rfl (fun an274 n274 => ?_)
      have e275 := n274.ne rfl (n273.ne rfl (n272.ne rfl e271))
      refine sv n274.ok rfl (wgT rfl (yl 6 true rfl e275) rfl) rfl (o_pkT (n274.ne rfl n273.at_) ev_const) (fun an276 n276 => ?_)
      refine sv n276.ok rfl (wn _ rfl) rfl (o_pkT (n276.ne rfl e275) n276.at_) (fun an277 n277 => ?_)
      refine sv n277.ok rfl (wn _ rfl) rfl (o_as n277.at_) (fun an278 n278 => ?_)
      refine wpList_nil ?_
      refine th_n (hK163 _ _ ?_)
      refine wp_ret ?_
      exact ret1 n278.ok rfl (n278.at_) ⟨rfl, G128⟩
end Go.Proofs.YtghjfakellaecaaGreat
