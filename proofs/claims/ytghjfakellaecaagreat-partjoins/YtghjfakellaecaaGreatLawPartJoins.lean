/- The walk of PartJoins. -/
import Derived.Test.YtghjfakellaecaaGreatPa5
set_option linter.unusedVariables false
set_option linter.unusedSimpArgs false
namespace Go.Proofs.YtghjfakellaecaaGreat
open Go.RowKit Rm Gx
set_option maxHeartbeats 8000000 in
set_option maxRecDepth 100000 in
theorem partJoins_walk (Fs0 : List (List BoxI)) (Ls0 : List (List (List Int))) (fa0 la0 : Option Addr) (fc0 lc0 : Nat) (hfc0 : Fs0.length ≤ fc0) (Fs1 : List (List BoxI)) (Ls1 : List (List (List Int))) (fa1 la1 : Option Addr) (fc1 lc1 : Nat) (hfc1 : Fs1.length ≤ fc1) (t n a c : Int) (w : World) (hF0 : RdV (fun w u x => RdF w u x) w fa0 Fs0) (hL0 : RdV (fun w u x => RdLL w u x) w la0 Ls0) (hF1 : RdV (fun w u x => RdF w u x) w fa1 Fs1) (hL1 : RdV (fun w u x => RdLL w u x) w la1 Ls1) :
    Calls Tryz.prog 4 #[.slice fa0 Fs0.length fc0, .slice fa1 Fs1.length fc1, .slice la0 Ls0.length lc0, .slice la1 Ls1.length lc1, .agg #[.int .i64 (t), .int .i64 (n)], .agg #[.int .i64 (a), .int .i64 (c)]] w fun e w' => e = .returned (.bool true) ∧ Gr w w' := by
  refine enter (N := 134) Tryz.func4 rfl rfl rfl (fun a0 ok0 h0 => ?_)
  have e0_0 : a0.eval (.tmp 0) = .slice fa0 Fs0.length fc0 := h0 0 _ rfl
  have e0_1 : a0.eval (.tmp 1) = .slice fa1 Fs1.length fc1 := h0 1 _ rfl
  have e0_2 : a0.eval (.tmp 2) = .slice la0 Ls0.length lc0 := h0 2 _ rfl
  have e0_3 : a0.eval (.tmp 3) = .slice la1 Ls1.length lc1 := h0 3 _ rfl
  have e0_4 : a0.eval (.tmp 4) = .agg #[.int .i64 (t), .int .i64 (n)] := h0 4 _ rfl
  have e0_5 : a0.eval (.tmp 5) = .agg #[.int .i64 (a), .int .i64 (c)] := h0 5 _ rfl
  clear h0
  have G0 := Gr.refl w
  refine wp_seq_k (fun K1 hK1 => ?_)
  refine wp_region_lit ?_
  refine sal (cs := #[.int .i64 (t), .int .i64 (n)]) ok0 rfl (wn _ rfl) rfl (o_box e0_4) (fun an2 w4 b3 W5 n2 => ?_)
  have l6 : w.heap.size ≤ b3 := by rw [W5.eq]; exact G0.size
  have G7 := G0.trans W5.gr
  refine sal (cs := #[.int .i64 (a), .int .i64 (c)]) n2.ok rfl (wn _ rfl) rfl (o_box (n2.ne rfl e0_5)) (fun an8 w10 b9 W11 n8 => ?_)
  have l12 : b3 < b9 := by rw [W11.eq]; exact W5.bk.lt
  have l13 : w.heap.size ≤ b9 := by rw [W11.eq]; exact G7.size
  have G14 := G7.trans W11.gr
  have B15 := W5.bk.gr W11.gr
  refine sv n8.ok rfl (wn _ rfl) rfl (o_as ev_const) (fun an16 n16 => ?_)
  refine wpList_nil ?_
  refine th_n (hK1 _ _ ?_)
  refine wp_seq_k (fun K17 hK17 => ?_)
  refine wp_seq_k (fun K18 hK18 => ?_)
  refine wp_region_lit ?_
  refine sc n16.ok rfl (wn _ rfl) rfl (o_f0 Tryz.func20 rfl rfl rfl ) (partBegun_any w10) ?_
  rintro _ w20 ⟨rfl, g21⟩
  refine ⟨_, rfl, fun an19 n19 => ?_⟩
  have G22 := G14.trans g21
  have B23 := B15.gr g21
  have B24 := W11.bk.gr g21
  refine sv n19.ok rfl (wn _ rfl) rfl (o_not n19.at_ rfl) (fun an25 n25 => ?_)
  refine wpList_nil ?_
  refine th_n (hK18 _ _ ?_)
  refine wp_cond_false (n25.at_) ?_
  refine wp_skip ?_
  refine th_n (hK17 _ _ ?_)
  refine wp_seq_k (fun K26 hK26 => ?_)
  refine wp_region_lit ?_
  have e27 := n25.ne rfl (n19.ne rfl (n16.ne rfl (n8.ne rfl (n2.ne rfl e0_0))))
  refine sv n25.ok rfl (wn _ rfl) rfl (o_mv e27) (fun an28 n28 => ?_)
  have e29 := n28.ne rfl (n25.ne rfl (n19.ne rfl (n16.ne rfl (n8.ne rfl (n2.ne rfl e0_2)))))
  refine sv n28.ok rfl (wn _ rfl) rfl (o_mv e29) (fun an30 n30 => ?_)
  refine sc n30.ok rfl (wn _ rfl) rfl (o_f2 Tryz.func21 rfl rfl rfl (n30.ne rfl n28.at_) n30.at_) (parts_any Fs0 Ls0 fa0 la0 fc0 lc0 hfc0 w20 (RdV.gr rdf_gr hF0 G22) (RdV.gr rdll_gr hL0 G22)) ?_
  rintro _ w32 ⟨Kp0, vp0, rfl, hlp0, hop0, hmp0, g33⟩
  obtain ⟨pap0, pcp0, rfl, hcp0⟩ := ow_form hop0
  have hnp0 := ow_nil hop0
  have hrp0 := RdA.own encP_ok hop0 rfl
  refine ⟨_, rfl, fun an31 n31 => ?_⟩
  have G34 := G22.trans g33
  have B35 := B23.gr g33
  have B36 := B24.gr g33
  have A38 := Gr.refl w32
  have e39 := n31.ne rfl (n30.ne rfl (n28.ne rfl (n25.ne rfl (n19.ne rfl (n16.ne rfl (n8.ne rfl (n2.ne rfl e0_1)))))))
  refine sv n31.ok rfl (wn _ rfl) rfl (o_mv e39) (fun an40 n40 => ?_)
  have e41 := n40.ne rfl (n31.ne rfl (n30.ne rfl (n28.ne rfl (n25.ne rfl (n19.ne rfl (n16.ne rfl (n8.ne rfl (n2.ne rfl e0_3))))))))
  refine sv n40.ok rfl (wn _ rfl) rfl (o_mv e41) (fun an42 n42 => ?_)
  refine sc n42.ok rfl (wn _ rfl) rfl (o_f2 Tryz.func21 rfl rfl rfl (n42.ne rfl n40.at_) n42.at_) (parts_any Fs1 Ls1 fa1 la1 fc1 lc1 hfc1 w32 (RdV.gr rdf_gr hF1 G34) (RdV.gr rdll_gr hL1 G34)) ?_
  rintro _ w44 ⟨Kp1, vp1, rfl, hlp1, hop1, hmp1, g45⟩
  obtain ⟨pap1, pcp1, rfl, hcp1⟩ := ow_form hop1
  have hnp1 := ow_nil hop1
  have hrp1 := RdA.own encP_ok hop1 rfl
  refine ⟨_, rfl, fun an43 n43 => ?_⟩
  have G46 := G34.trans g45
  have B47 := B35.gr g45
  have B48 := B36.gr g45
  have A49 := A38.trans g45
  have A51 := Gr.refl w44
  have e52 := n43.ne rfl (n42.ne rfl (n40.ne rfl n31.at_))
  refine sv n43.ok rfl (wn _ rfl) rfl (o_as e52) (fun an53 n53 => ?_)
  refine sv n53.ok rfl (wn _ rfl) rfl (o_as (n53.ne rfl n43.at_)) (fun an54 n54 => ?_)
  refine wpList_nil ?_
  refine th_n (hK26 _ _ ?_)
  refine wp_seq_k (fun K55 hK55 => ?_)
  refine wp_region_lit ?_
  refine sv n54.ok rfl (wn _ rfl) rfl (o_mv (n54.ne rfl n53.at_)) (fun an56 n56 => ?_)
  refine sv n56.ok rfl (wn _ rfl) rfl (o_mv (n56.ne rfl n54.at_)) (fun an57 n57 => ?_)
  refine sc n57.ok rfl (wn _ rfl) rfl (o_f2 Tryz.func9 rfl rfl rfl (n57.ne rfl n56.at_) n57.at_) (pjoin_small Kp0 Kp1 pap0 pap1 pcp0 pcp1 (by omega) hcp0 hcp1 hnp0 hnp1 w44 (hrp0.gr A49) (hrp1.gr A51) (hmp0.gr A49) (hmp1.gr A51)) ?_
  rintro _ w59 ⟨Fj1, qaj1, qcj1, rfl, hcj1, hnj1, hlj1, hej1, hfj1, hrj1, hmj1, g60⟩
  refine ⟨_, rfl, fun an58 n58 => ?_⟩
  have G61 := G46.trans g60
  have B62 := B47.gr g60
  have B63 := B48.gr g60
  have A64 := A49.trans g60
  have A65 := A51.trans g60
  have A67 := Gr.refl w59
  refine sv n58.ok rfl (wn _ rfl) rfl (o_mv n58.at_) (fun an68 n68 => ?_)
  refine sv n68.ok rfl (wn _ rfl) rfl (o_ex n68.at_ rfl) (fun an69 n69 => ?_)
  refine sv n69.ok rfl (wn _ rfl) rfl (o_ex (n69.ne rfl n68.at_) rfl) (fun an70 n70 => ?_)
  refine sv n70.ok rfl (wn _ rfl) rfl (o_as (n70.ne rfl n69.at_)) (fun an71 n71 => ?_)
  refine sv n71.ok rfl (wn _ rfl) rfl (o_as (n71.ne rfl n70.at_)) (fun an72 n72 => ?_)
  refine wpList_nil ?_
  refine th_n (hK55 _ _ ?_)
  refine wp_seq_k (fun K73 hK73 => ?_)
  refine wp_region_lit ?_
  have e74 := n72.ne rfl (n71.ne rfl (n70.ne rfl (n69.ne rfl (n68.ne rfl (n58.ne rfl (n57.ne rfl (n56.ne rfl n54.at_)))))))
  refine sv n72.ok rfl (wn _ rfl) rfl (o_mv e74) (fun an75 n75 => ?_)
  have e76 := n75.ne rfl (n72.ne rfl (n71.ne rfl (n70.ne rfl (n69.ne rfl (n68.ne rfl (n58.ne rfl (n57.ne rfl (n56.ne rfl (n54.ne rfl n53.at_)))))))))
  refine sv n75.ok rfl (wn _ rfl) rfl (o_mv e76) (fun an77 n77 => ?_)
  refine sc n77.ok rfl (wn _ rfl) rfl (o_f2 Tryz.func9 rfl rfl rfl (n77.ne rfl n75.at_) n77.at_) (pjoin_small Kp1 Kp0 pap1 pap0 pcp1 pcp0 (by omega) hcp1 hcp0 hnp1 hnp0 w59 (hrp1.gr A65) (hrp0.gr A64) (hmp1.gr A65) (hmp0.gr A64)) ?_
  rintro _ w79 ⟨Fj2, qaj2, qcj2, rfl, hcj2, hnj2, hlj2, hej2, hfj2, hrj2, hmj2, g80⟩
  refine ⟨_, rfl, fun an78 n78 => ?_⟩
  have G81 := G61.trans g80
  have B82 := B62.gr g80
  have B83 := B63.gr g80
  have A84 := A64.trans g80
  have A85 := A65.trans g80
  have A86 := A67.trans g80
  have A88 := Gr.refl w79
  refine sv n78.ok rfl (wn _ rfl) rfl (o_mv n78.at_) (fun an89 n89 => ?_)
  refine sv n89.ok rfl (wn _ rfl) rfl (o_ex n89.at_ rfl) (fun an90 n90 => ?_)
  refine sv n90.ok rfl (wn _ rfl) rfl (o_ex (n90.ne rfl n89.at_) rfl) (fun an91 n91 => ?_)
  refine sv n91.ok rfl (wn _ rfl) rfl (o_as (n91.ne rfl n90.at_)) (fun an92 n92 => ?_)
  refine sv n92.ok rfl (wn _ rfl) rfl (o_as (n92.ne rfl n91.at_)) (fun an93 n93 => ?_)
  refine wpList_nil ?_
  refine th_n (hK73 _ _ ?_)
  refine wp_seq_k (fun K94 hK94 => ?_)
  refine wp_region_lit ?_
  have e95 := n93.ne rfl (n92.ne rfl (n91.ne rfl (n90.ne rfl (n89.ne rfl (n78.ne rfl (n77.ne rfl (n75.ne rfl (n72.ne rfl n71.at_))))))))
  refine sv n93.ok rfl (wn _ rfl) rfl (o_mv e95) (fun an96 n96 => ?_)
  have e97 := n96.ne rfl (n93.ne rfl (n92.ne rfl (n91.ne rfl (n90.ne rfl (n89.ne rfl (n78.ne rfl (n77.ne rfl e76)))))))
  refine sv n96.ok rfl (wn _ rfl) rfl (o_mv e97) (fun an98 n98 => ?_)
  refine sc n98.ok rfl (wn _ rfl) rfl (o_f2 Tryz.func9 rfl rfl rfl (n98.ne rfl n96.at_) n98.at_) (pjoin_small Fj1 Kp0 qaj1 pap0 qcj1 pcp0 (by omega) hcj1 hcp0 hnj1 hnp0 w79 (hrj1.gr A86) (hrp0.gr A84) (hmj1.gr A86) (hmp0.gr A84)) ?_
  rintro _ w100 ⟨Fj3, qaj3, qcj3, rfl, hcj3, hnj3, hlj3, hej3, hfj3, hrj3, hmj3, g101⟩
  refine ⟨_, rfl, fun an99 n99 => ?_⟩
  have G102 := G81.trans g101
  have B103 := B82.gr g101
  have B104 := B83.gr g101
  have A105 := A84.trans g101
  have A106 := A85.trans g101
  have A107 := A86.trans g101
  have A108 := A88.trans g101
  have A110 := Gr.refl w100
  refine sv n99.ok rfl (wn _ rfl) rfl (o_mv n99.at_) (fun an111 n111 => ?_)
  refine sv n111.ok rfl (wn _ rfl) rfl (o_ex n111.at_ rfl) (fun an112 n112 => ?_)
  refine sv n112.ok rfl (wn _ rfl) rfl (o_ex (n112.ne rfl n111.at_) rfl) (fun an113 n113 => ?_)
  refine sv n113.ok rfl (wn _ rfl) rfl (o_as (n113.ne rfl n112.at_)) (fun an114 n114 => ?_)
  refine sv n114.ok rfl (wn _ rfl) rfl (o_as (n114.ne rfl n113.at_)) (fun an115 n115 => ?_)
  refine wpList_nil ?_
  refine th_n (hK94 _ _ ?_)
  refine wp_seq_k (fun K116 hK116 => ?_)
  refine wp_seq_k (fun K117 hK117 => ?_)
  refine wp_region_lit ?_
  have e118 := n115.ne rfl (n114.ne rfl (n113.ne rfl (n112.ne rfl (n111.ne rfl (n99.ne rfl (n98.ne rfl (n96.ne rfl (n93.ne rfl (n92.ne rfl (n91.ne rfl (n90.ne rfl (n89.ne rfl (n78.ne rfl (n77.ne rfl (n75.ne rfl n72.at_)))))))))))))))
  refine sv n115.ok rfl (wn _ rfl) rfl (o_mv e118) (fun an119 n119 => ?_)
  refine sv n119.ok rfl (wn _ rfl) rfl (o_neq (b := false) n119.at_ ev_const (by decide)) (fun an120 n120 => ?_)
  refine sv n120.ok rfl (wn _ rfl) rfl (o_mv n120.at_) (fun an121 n121 => ?_)
  have e122 := n121.ne rfl (n120.ne rfl (n119.ne rfl (n115.ne rfl (n114.ne rfl (n113.ne rfl (n112.ne rfl (n111.ne rfl (n99.ne rfl (n98.ne rfl (n96.ne rfl n93.at_))))))))))
  refine sv n121.ok rfl (wgT rfl (yl 2 false rfl n121.at_) rfl) rfl (o_mv e122) (fun an123 n123 => ?_)
  refine sv n123.ok rfl (wgT rfl (yl 2 false rfl (n123.ne rfl n121.at_)) rfl) rfl (o_neq (b := false) n123.at_ ev_const (by decide)) (fun an124 n124 => ?_)
  refine sv n124.ok rfl (wn _ rfl) rfl (o_pkF (n124.ne rfl (n123.ne rfl n121.at_)) n124.at_) (fun an125 n125 => ?_)
  refine sv n125.ok rfl (wn _ rfl) rfl (o_mv n125.at_) (fun an126 n126 => ?_)
  have e127 := n126.ne rfl (n125.ne rfl (n124.ne rfl (n123.ne rfl (n121.ne rfl (n120.ne rfl (n119.ne rfl n115.at_))))))
  refine sv n126.ok rfl (wgT rfl (yl 6 false rfl n126.at_) rfl) rfl (o_mv e127) (fun an128 n128 => ?_)
  refine sv n128.ok rfl (wgT rfl (yl 6 false rfl (n128.ne rfl n126.at_)) rfl) rfl (o_neq (b := false) n128.at_ ev_const (by decide)) (fun an129 n129 => ?_)
  refine sv n129.ok rfl (wn _ rfl) rfl (o_pkF (n129.ne rfl (n128.ne rfl n126.at_)) n129.at_) (fun an130 n130 => ?_)
  refine sv n130.ok rfl (wn _ rfl) rfl (o_mv n130.at_) (fun an131 n131 => ?_)
  have e132 := n131.ne rfl (n130.ne rfl (n129.ne rfl (n128.ne rfl (n126.ne rfl (n125.ne rfl (n124.ne rfl (n123.ne rfl (n121.ne rfl (n120.ne rfl (n119.ne rfl (n115.ne rfl (n114.ne rfl (n113.ne rfl (n112.ne rfl (n111.ne rfl (n99.ne rfl (n98.ne rfl (n96.ne rfl e95))))))))))))))))))
  refine sv n131.ok rfl (wgT rfl (yl 10 false rfl n131.at_) rfl) rfl (o_mv e132) (fun an133 n133 => ?_)
  have e134 := n133.ne rfl (n131.ne rfl (n130.ne rfl (n129.ne rfl (n128.ne rfl (n126.ne rfl (n125.ne rfl (n124.ne rfl (n123.ne rfl (n121.ne rfl (n120.ne rfl (n119.ne rfl (n115.ne rfl (n114.ne rfl (n113.ne rfl (n112.ne rfl (n111.ne rfl (n99.ne rfl (n98.ne rfl (n96.ne rfl (n93.ne rfl n92.at_))))))))))))))))))))
  refine sv n133.ok rfl (wgT rfl (yl 10 false rfl (n133.ne rfl n131.at_)) rfl) rfl (o_mv e134) (fun an135 n135 => ?_)
  refine sc n135.ok rfl (wgT rfl (yl 10 false rfl (n135.ne rfl (n133.ne rfl n131.at_))) rfl) rfl (o_f2 Tryz.func22 rfl rfl rfl (n135.ne rfl n133.at_) n135.at_) (both_eq Fj1 Fj2 qaj1 qaj2 qcj1 qcj2 (by omega) (by omega) (hej1.trans ((eqP_comm _ _).trans hej2.symm)) w100 (hrj1.gr A107) (hrj2.gr A108) (hmj1.gr A107) (hmj2.gr A108)) ?_
  rintro _ w137 ⟨rfl, g138⟩
  refine ⟨_, rfl, fun an136 n136 => ?_⟩
  have G139 := G102.trans g138
  have B140 := B103.gr g138
  have B141 := B104.gr g138
  have A142 := A105.trans g138
  have A143 := A106.trans g138
  have A144 := A107.trans g138
  have A145 := A108.trans g138
  have A146 := A110.trans g138
  have e147 := n136.ne rfl (n135.ne rfl (n133.ne rfl n131.at_))
  refine sv n136.ok rfl (wgT rfl (yl 10 false rfl e147) rfl) rfl (o_not n136.at_ rfl) (fun an148 n148 => ?_)
  refine sv n148.ok rfl (wn _ rfl) rfl (o_pkF (n148.ne rfl e147) n148.at_) (fun an149 n149 => ?_)
  refine sv n149.ok rfl (wn _ rfl) rfl (o_mv n149.at_) (fun an150 n150 => ?_)
  have e151 := n150.ne rfl (n149.ne rfl (n148.ne rfl (n136.ne rfl (n135.ne rfl (n133.ne rfl (n131.ne rfl (n130.ne rfl (n129.ne rfl (n128.ne rfl (n126.ne rfl (n125.ne rfl (n124.ne rfl (n123.ne rfl (n121.ne rfl (n120.ne rfl (n119.ne rfl (n115.ne rfl n114.at_)))))))))))))))))
  refine sv n150.ok rfl (wgT rfl (yl 16 false rfl n150.at_) rfl) rfl (o_mv e151) (fun an152 n152 => ?_)
  have e153 := n152.ne rfl (n150.ne rfl (n149.ne rfl (n148.ne rfl (n136.ne rfl (n135.ne rfl (n133.ne rfl e132))))))
  refine sv n152.ok rfl (wgT rfl (yl 16 false rfl (n152.ne rfl n150.at_)) rfl) rfl (o_mv e153) (fun an154 n154 => ?_)
  refine sc n154.ok rfl (wgT rfl (yl 16 false rfl (n154.ne rfl (n152.ne rfl n150.at_))) rfl) rfl (o_f2 Tryz.func22 rfl rfl rfl (n154.ne rfl n152.at_) n154.at_) (both_eq Fj3 Fj1 qaj3 qaj1 qcj3 qcj1 (by omega) (by omega) (hej3.trans (eqP_absorb hej1)) w137 (hrj3.gr A146) (hrj1.gr A144) (hmj3.gr A146) (hmj1.gr A144)) ?_
  rintro _ w156 ⟨rfl, g157⟩
  refine ⟨_, rfl, fun an155 n155 => ?_⟩
  have G158 := G139.trans g157
  have B159 := B140.gr g157
  have B160 := B141.gr g157
  have A161 := A142.trans g157
  have A162 := A143.trans g157
  have A163 := A144.trans g157
  have A164 := A145.trans g157
  have A165 := A146.trans g157
  have e166 := n155.ne rfl (n154.ne rfl (n152.ne rfl n150.at_))
  refine sv n155.ok rfl (wgT rfl (yl 16 false rfl e166) rfl) rfl (o_not n155.at_ rfl) (fun an167 n167 => ?_)
  refine sv n167.ok rfl (wn _ rfl) rfl (o_pkF (n167.ne rfl e166) n167.at_) (fun an168 n168 => ?_)
  refine wpList_nil ?_
  refine th_n (hK117 _ _ ?_)
  refine wp_cond_false (n168.at_) ?_
  refine wp_skip ?_
  refine th_n (hK116 _ _ ?_)
  refine wp_seq_k (fun K169 hK169 => ?_)
  refine wp_region_lit ?_
  have e170 := n168.ne rfl (n167.ne rfl (n155.ne rfl (n154.ne rfl (n152.ne rfl (n150.ne rfl (n149.ne rfl (n148.ne rfl (n136.ne rfl (n135.ne rfl (n133.ne rfl (n131.ne rfl (n130.ne rfl (n129.ne rfl (n128.ne rfl (n126.ne rfl (n125.ne rfl (n124.ne rfl (n123.ne rfl (n121.ne rfl (n120.ne rfl (n119.ne rfl (n115.ne rfl (n114.ne rfl (n113.ne rfl (n112.ne rfl (n111.ne rfl (n99.ne rfl (n98.ne rfl e97))))))))))))))))))))))))))))
  refine sv n168.ok rfl (wn _ rfl) rfl (o_mv e170) (fun an171 n171 => ?_)
  have e172 := n171.ne rfl (n168.ne rfl (n167.ne rfl (n155.ne rfl (n154.ne rfl (n152.ne rfl (n150.ne rfl (n149.ne rfl (n148.ne rfl (n136.ne rfl (n135.ne rfl (n133.ne rfl (n131.ne rfl (n130.ne rfl (n129.ne rfl (n128.ne rfl (n126.ne rfl (n125.ne rfl (n124.ne rfl (n123.ne rfl (n121.ne rfl (n120.ne rfl (n119.ne rfl (n115.ne rfl (n114.ne rfl (n113.ne rfl (n112.ne rfl (n111.ne rfl (n99.ne rfl (n98.ne rfl (n96.ne rfl (n93.ne rfl (n92.ne rfl (n91.ne rfl (n90.ne rfl (n89.ne rfl (n78.ne rfl (n77.ne rfl (n75.ne rfl (n72.ne rfl (n71.ne rfl (n70.ne rfl (n69.ne rfl (n68.ne rfl (n58.ne rfl (n57.ne rfl (n56.ne rfl (n54.ne rfl (n53.ne rfl (n43.ne rfl (n42.ne rfl (n40.ne rfl (n31.ne rfl (n30.ne rfl (n28.ne rfl (n25.ne rfl (n19.ne rfl (n16.ne rfl (n8.ne rfl n2.at_))))))))))))))))))))))))))))))))))))))))))))))))))))))))))
  refine sv n171.ok rfl (wn _ rfl) rfl (o_ldR e172 B159 Tryz.underlying56 rfl (by kernel_rfl)) (fun an173 n173 => ?_)
  have e174 := n173.ne rfl (n171.ne rfl (n168.ne rfl (n167.ne rfl (n155.ne rfl (n154.ne rfl (n152.ne rfl (n150.ne rfl (n149.ne rfl (n148.ne rfl (n136.ne rfl (n135.ne rfl (n133.ne rfl (n131.ne rfl (n130.ne rfl (n129.ne rfl (n128.ne rfl (n126.ne rfl (n125.ne rfl (n124.ne rfl (n123.ne rfl (n121.ne rfl (n120.ne rfl (n119.ne rfl (n115.ne rfl (n114.ne rfl (n113.ne rfl (n112.ne rfl (n111.ne rfl (n99.ne rfl (n98.ne rfl (n96.ne rfl (n93.ne rfl (n92.ne rfl (n91.ne rfl (n90.ne rfl (n89.ne rfl (n78.ne rfl (n77.ne rfl (n75.ne rfl (n72.ne rfl (n71.ne rfl (n70.ne rfl (n69.ne rfl (n68.ne rfl (n58.ne rfl (n57.ne rfl (n56.ne rfl (n54.ne rfl (n53.ne rfl (n43.ne rfl (n42.ne rfl (n40.ne rfl (n31.ne rfl (n30.ne rfl (n28.ne rfl (n25.ne rfl (n19.ne rfl (n16.ne rfl n8.at_))))))))))))))))))))))))))))))))))))))))))))))))))))))))))
  refine sv n173.ok rfl (wn _ rfl) rfl (o_ldR e174 B160 Tryz.underlying58 rfl (by kernel_rfl)) (fun an175 n175 => ?_)
  obtain ⟨pu, hpu⟩ : ∃ b, hasV Kp0 t n a c = b := ⟨_, rfl⟩
  refine sc n175.ok rfl (wn _ rfl) rfl (o_f3 Tryz.func23 rfl rfl rfl (n175.ne rfl (n173.ne rfl n171.at_)) (n175.ne rfl n173.at_) n175.at_) ((by have h := phas Kp0 pap0 pcp0 t n a c w156 (by omega) (hrp0.gr A161) (hmp0.gr A161); rw [hpu] at h; exact h)) ?_
  rintro _ w177 ⟨rfl, g178⟩
  refine ⟨_, rfl, fun an176 n176 => ?_⟩
  have G179 := G158.trans g178
  have B180 := B159.gr g178
  have B181 := B160.gr g178
  have A182 := A161.trans g178
  have A183 := A162.trans g178
  have A184 := A163.trans g178
  have A185 := A164.trans g178
  have A186 := A165.trans g178
  refine sv n176.ok rfl (wn _ rfl) rfl (o_mv n176.at_) (fun an187 n187 => ?_)
  refine sv n187.ok rfl (wn _ rfl) rfl (o_ex n187.at_ rfl) (fun an188 n188 => ?_)
  refine sv n188.ok rfl (wn _ rfl) rfl (o_ex (n188.ne rfl n187.at_) rfl) (fun an189 n189 => ?_)
  refine sv n189.ok rfl (wn _ rfl) rfl (o_as (n189.ne rfl n188.at_)) (fun an190 n190 => ?_)
  refine sv n190.ok rfl (wn _ rfl) rfl (o_as (n190.ne rfl n189.at_)) (fun an191 n191 => ?_)
  refine wpList_nil ?_
  refine th_n (hK169 _ _ ?_)
  refine wp_seq_k (fun K192 hK192 => ?_)
  refine wp_region_lit ?_
  have e193 := n191.ne rfl (n190.ne rfl (n189.ne rfl (n188.ne rfl (n187.ne rfl (n176.ne rfl (n175.ne rfl (n173.ne rfl (n171.ne rfl (n168.ne rfl (n167.ne rfl (n155.ne rfl (n154.ne rfl (n152.ne rfl (n150.ne rfl (n149.ne rfl (n148.ne rfl (n136.ne rfl (n135.ne rfl (n133.ne rfl (n131.ne rfl (n130.ne rfl (n129.ne rfl (n128.ne rfl (n126.ne rfl (n125.ne rfl (n124.ne rfl (n123.ne rfl (n121.ne rfl (n120.ne rfl (n119.ne rfl (n115.ne rfl (n114.ne rfl (n113.ne rfl (n112.ne rfl (n111.ne rfl (n99.ne rfl (n98.ne rfl (n96.ne rfl (n93.ne rfl (n92.ne rfl (n91.ne rfl (n90.ne rfl (n89.ne rfl (n78.ne rfl (n77.ne rfl (n75.ne rfl e74))))))))))))))))))))))))))))))))))))))))))))))
  refine sv n191.ok rfl (wn _ rfl) rfl (o_mv e193) (fun an194 n194 => ?_)
  have e195 := n194.ne rfl (n191.ne rfl (n190.ne rfl (n189.ne rfl (n188.ne rfl (n187.ne rfl (n176.ne rfl (n175.ne rfl (n173.ne rfl e172))))))))
  refine sv n194.ok rfl (wn _ rfl) rfl (o_ldR e195 B180 Tryz.underlying56 rfl (by kernel_rfl)) (fun an196 n196 => ?_)
  have e197 := n196.ne rfl (n194.ne rfl (n191.ne rfl (n190.ne rfl (n189.ne rfl (n188.ne rfl (n187.ne rfl (n176.ne rfl (n175.ne rfl e174))))))))
  refine sv n196.ok rfl (wn _ rfl) rfl (o_ldR e197 B181 Tryz.underlying58 rfl (by kernel_rfl)) (fun an198 n198 => ?_)
  obtain ⟨pv, hpv⟩ : ∃ b, hasV Kp1 t n a c = b := ⟨_, rfl⟩
  refine sc n198.ok rfl (wn _ rfl) rfl (o_f3 Tryz.func23 rfl rfl rfl (n198.ne rfl (n196.ne rfl n194.at_)) (n198.ne rfl n196.at_) n198.at_) ((by have h := phas Kp1 pap1 pcp1 t n a c w177 (by omega) (hrp1.gr A183) (hmp1.gr A183); rw [hpv] at h; exact h)) ?_
  rintro _ w200 ⟨rfl, g201⟩
  refine ⟨_, rfl, fun an199 n199 => ?_⟩
  have G202 := G179.trans g201
  have B203 := B180.gr g201
  have B204 := B181.gr g201
  have A205 := A182.trans g201
  have A206 := A183.trans g201
  have A207 := A184.trans g201
  have A208 := A185.trans g201
  have A209 := A186.trans g201
  refine sv n199.ok rfl (wn _ rfl) rfl (o_mv n199.at_) (fun an210 n210 => ?_)
  refine sv n210.ok rfl (wn _ rfl) rfl (o_ex n210.at_ rfl) (fun an211 n211 => ?_)
  refine sv n211.ok rfl (wn _ rfl) rfl (o_ex (n211.ne rfl n210.at_) rfl) (fun an212 n212 => ?_)
  refine sv n212.ok rfl (wn _ rfl) rfl (o_as (n212.ne rfl n211.at_)) (fun an213 n213 => ?_)
  refine sv n213.ok rfl (wn _ rfl) rfl (o_as (n213.ne rfl n212.at_)) (fun an214 n214 => ?_)
  refine wpList_nil ?_
  refine th_n (hK192 _ _ ?_)
  refine wp_seq_k (fun K215 hK215 => ?_)
  refine wp_region_lit ?_
  have e216 := n214.ne rfl (n213.ne rfl (n212.ne rfl (n211.ne rfl (n210.ne rfl (n199.ne rfl (n198.ne rfl (n196.ne rfl (n194.ne rfl (n191.ne rfl (n190.ne rfl (n189.ne rfl (n188.ne rfl (n187.ne rfl (n176.ne rfl (n175.ne rfl (n173.ne rfl (n171.ne rfl (n168.ne rfl (n167.ne rfl (n155.ne rfl (n154.ne rfl e153)))))))))))))))))))))
  refine sv n214.ok rfl (wn _ rfl) rfl (o_mv e216) (fun an217 n217 => ?_)
  have e218 := n217.ne rfl (n214.ne rfl (n213.ne rfl (n212.ne rfl (n211.ne rfl (n210.ne rfl (n199.ne rfl (n198.ne rfl (n196.ne rfl e195))))))))
  refine sv n217.ok rfl (wn _ rfl) rfl (o_ldR e218 B203 Tryz.underlying56 rfl (by kernel_rfl)) (fun an219 n219 => ?_)
  have e220 := n219.ne rfl (n217.ne rfl (n214.ne rfl (n213.ne rfl (n212.ne rfl (n211.ne rfl (n210.ne rfl (n199.ne rfl (n198.ne rfl e197))))))))
  refine sv n219.ok rfl (wn _ rfl) rfl (o_ldR e220 B204 Tryz.underlying58 rfl (by kernel_rfl)) (fun an221 n221 => ?_)
  refine sc n221.ok rfl (wn _ rfl) rfl (o_f3 Tryz.func23 rfl rfl rfl (n221.ne rfl (n219.ne rfl n217.at_)) (n221.ne rfl n219.at_) n221.at_) ((by have h := phas Fj1 qaj1 qcj1 t n a c w200 (by omega) (hrj1.gr A207) (hmj1.gr A207); rw [hasV_app hej1, hpu, hpv] at h; exact h)) ?_
  rintro _ w223 ⟨rfl, g224⟩
  refine ⟨_, rfl, fun an222 n222 => ?_⟩
  have G225 := G202.trans g224
  have B226 := B203.gr g224
  have B227 := B204.gr g224
  have A228 := A205.trans g224
  have A229 := A206.trans g224
  have A230 := A207.trans g224
  have A231 := A208.trans g224
  have A232 := A209.trans g224
  refine sv n222.ok rfl (wn _ rfl) rfl (o_mv n222.at_) (fun an233 n233 => ?_)
  refine sv n233.ok rfl (wn _ rfl) rfl (o_ex n233.at_ rfl) (fun an234 n234 => ?_)
  refine sv n234.ok rfl (wn _ rfl) rfl (o_ex (n234.ne rfl n233.at_) rfl) (fun an235 n235 => ?_)
  refine sv n235.ok rfl (wn _ rfl) rfl (o_as (n235.ne rfl n234.at_)) (fun an236 n236 => ?_)
  refine sv n236.ok rfl (wn _ rfl) rfl (o_as (n236.ne rfl n235.at_)) (fun an237 n237 => ?_)
  refine wpList_nil ?_
  refine th_n (hK215 _ _ ?_)
  refine wp_seq_k (fun K238 hK238 => ?_)
  refine wp_region_lit ?_
  have e239 := n237.ne rfl (n236.ne rfl (n235.ne rfl (n234.ne rfl (n233.ne rfl (n222.ne rfl (n221.ne rfl (n219.ne rfl (n217.ne rfl (n214.ne rfl (n213.ne rfl (n212.ne rfl (n211.ne rfl (n210.ne rfl (n199.ne rfl (n198.ne rfl (n196.ne rfl (n194.ne rfl (n191.ne rfl (n190.ne rfl (n189.ne rfl (n188.ne rfl (n187.ne rfl (n176.ne rfl (n175.ne rfl (n173.ne rfl (n171.ne rfl e170))))))))))))))))))))))))))
  refine sv n237.ok rfl (wn _ rfl) rfl (o_mv e239) (fun an240 n240 => ?_)
  have e241 := n240.ne rfl (n237.ne rfl (n236.ne rfl (n235.ne rfl (n234.ne rfl (n233.ne rfl (n222.ne rfl (n221.ne rfl (n219.ne rfl (n217.ne rfl e216)))))))))
  refine sv n240.ok rfl (wn _ rfl) rfl (o_mv e241) (fun an242 n242 => ?_)
  refine sc n242.ok rfl (wn _ rfl) rfl (o_f2 Tryz.func24 rfl rfl rfl (n242.ne rfl n240.at_) n242.at_) (pwithin_b Kp0 Fj1 pap0 qaj1 pcp0 qcj1 true (⟨fun _ => sub_app hej1, fun _ => rfl⟩) (by omega) (by omega) w223 (hrp0.gr A228) (hrj1.gr A230) (hmp0.gr A228) (hmj1.gr A230)) ?_
  rintro _ w244 ⟨rfl, g245⟩
  refine ⟨_, rfl, fun an243 n243 => ?_⟩
  have G246 := G225.trans g245
  have B247 := B226.gr g245
  have B248 := B227.gr g245
  have A249 := A228.trans g245
  have A250 := A229.trans g245
  have A251 := A230.trans g245
  have A252 := A231.trans g245
  have A253 := A232.trans g245
  refine sv n243.ok rfl (wn _ rfl) rfl (o_mv n243.at_) (fun an254 n254 => ?_)
  refine sv n254.ok rfl (wn _ rfl) rfl (o_ex n254.at_ rfl) (fun an255 n255 => ?_)
  refine sv n255.ok rfl (wn _ rfl) rfl (o_ex (n255.ne rfl n254.at_) rfl) (fun an256 n256 => ?_)
  refine sv n256.ok rfl (wn _ rfl) rfl (o_as (n256.ne rfl n255.at_)) (fun an257 n257 => ?_)
  refine sv n257.ok rfl (wn _ rfl) rfl (o_as (n257.ne rfl n256.at_)) (fun an258 n258 => ?_)
  refine wpList_nil ?_
  refine th_n (hK238 _ _ ?_)
  refine wp_seq_k (fun K259 hK259 => ?_)
  refine wp_region_lit ?_
  have e260 := n258.ne rfl (n257.ne rfl (n256.ne rfl (n255.ne rfl (n254.ne rfl (n243.ne rfl (n242.ne rfl (n240.ne rfl (n237.ne rfl (n236.ne rfl (n235.ne rfl (n234.ne rfl (n233.ne rfl (n222.ne rfl (n221.ne rfl (n219.ne rfl (n217.ne rfl (n214.ne rfl (n213.ne rfl (n212.ne rfl (n211.ne rfl (n210.ne rfl (n199.ne rfl (n198.ne rfl (n196.ne rfl (n194.ne rfl n191.at_)))))))))))))))))))))))))
  refine sv n258.ok rfl (wn _ rfl) rfl (o_mv e260) (fun an261 n261 => ?_)
  have e262 := n261.ne rfl (n258.ne rfl (n257.ne rfl (n256.ne rfl (n255.ne rfl (n254.ne rfl (n243.ne rfl (n242.ne rfl (n240.ne rfl (n237.ne rfl (n236.ne rfl (n235.ne rfl (n234.ne rfl (n233.ne rfl (n222.ne rfl (n221.ne rfl (n219.ne rfl (n217.ne rfl n214.at_)))))))))))))))))
  refine sv n261.ok rfl (wn _ rfl) rfl (o_mv e262) (fun an263 n263 => ?_)
  refine sv n263.ok rfl (wn _ rfl) rfl (o_eq (n263.ne rfl n261.at_) n263.at_ (decide_eq_true rfl)) (fun an264 n264 => ?_)
  refine sv n264.ok rfl (wn _ rfl) rfl (o_mv n264.at_) (fun an265 n265 => ?_)
  have e266 := n265.ne rfl (n264.ne rfl (n263.ne rfl e262))
  refine sv n265.ok rfl (wgT rfl (yl 3 true rfl n265.at_) rfl) rfl (o_mv e266) (fun an267 n267 => ?_)
  have e268 := n267.ne rfl (n265.ne rfl (n264.ne rfl (n263.ne rfl (n261.ne rfl (n258.ne rfl (n257.ne rfl (n256.ne rfl (n255.ne rfl (n254.ne rfl (n243.ne rfl (n242.ne rfl (n240.ne rfl n237.at_))))))))))))
  refine sv n267.ok rfl (wgT rfl (yl 3 true rfl (n267.ne rfl n265.at_)) rfl) rfl (o_mv e268) (fun an269 n269 => ?_)
  refine sv n269.ok rfl (wgT rfl (yl 3 true rfl (n269.ne rfl (n267.ne rfl n265.at_))) rfl) rfl (o_eq (n269.ne rfl n267.at_) n269.at_ (decide_eq_true rfl)) (fun an270 n270 => ?_)
  have e271 := n270.ne rfl (n269.ne rfl (n267.ne rfl n265.at_))
  refine sv n270.ok rfl (wn _ rfl) rfl (o_pkT e271 n270.at_) (fun an272 n272 => ?_)
  refine sv n272.ok rfl (wn _ rfl) rfl (o_mv n272.at_) (fun an273 n273 => ?_)
  have e274 := n273.ne rfl (n272.ne rfl (n270.ne rfl (n269.ne rfl (n267.ne rfl (n265.ne rfl (n264.ne rfl (n263.ne rfl (n261.ne rfl n258.at_))))))))
  refine sv n273.ok rfl (wgT rfl (yl 8 true rfl n273.at_) rfl) rfl (o_mv e274) (fun an275 n275 => ?_)
  refine sv n275.ok rfl (wgT rfl (yl 8 true rfl (n275.ne rfl n273.at_)) rfl) rfl (o_eq (b := true) n275.at_ ev_const (by decide)) (fun an276 n276 => ?_)
  refine sv n276.ok rfl (wn _ rfl) rfl (o_pkT (n276.ne rfl (n275.ne rfl n273.at_)) n276.at_) (fun an277 n277 => ?_)
  refine sv n277.ok rfl (wn _ rfl) rfl (o_mv n277.at_) (fun an278 n278 => ?_)
  have e279 := n278.ne rfl (n277.ne rfl (n276.ne rfl (n275.ne rfl (n273.ne rfl (n272.ne rfl (n270.ne rfl (n269.ne rfl (n267.ne rfl (n265.ne rfl (n264.ne rfl (n263.ne rfl (n261.ne rfl (n258.ne rfl (n257.ne rfl (n256.ne rfl (n255.ne rfl (n254.ne rfl (n243.ne rfl (n242.ne rfl (n240.ne rfl (n237.ne rfl n236.at_)))))))))))))))))))))
  refine sv n278.ok rfl (wgT rfl (yl 12 true rfl n278.at_) rfl) rfl (o_mv e279) (fun an280 n280 => ?_)
  have e281 := n280.ne rfl (n278.ne rfl (n277.ne rfl (n276.ne rfl (n275.ne rfl (n273.ne rfl (n272.ne rfl (n270.ne rfl (n269.ne rfl (n267.ne rfl (n265.ne rfl (n264.ne rfl (n263.ne rfl (n261.ne rfl (n258.ne rfl (n257.ne rfl (n256.ne rfl (n255.ne rfl (n254.ne rfl (n243.ne rfl (n242.ne rfl (n240.ne rfl (n237.ne rfl (n236.ne rfl (n235.ne rfl (n234.ne rfl (n233.ne rfl (n222.ne rfl (n221.ne rfl (n219.ne rfl (n217.ne rfl (n214.ne rfl (n213.ne rfl (n212.ne rfl (n211.ne rfl (n210.ne rfl (n199.ne rfl (n198.ne rfl (n196.ne rfl (n194.ne rfl (n191.ne rfl n190.at_))))))))))))))))))))))))))))))))))))))))
  refine sv n280.ok rfl (wgT rfl (yl 12 true rfl (n280.ne rfl n278.at_)) rfl) rfl (o_mv e281) (fun an282 n282 => ?_)
  refine sv n282.ok rfl (wgT rfl (yl 12 true rfl (n282.ne rfl (n280.ne rfl n278.at_))) rfl) rfl (o_mv n282.at_) (fun an283 n283 => ?_)
  cases c284 : pu
  · have e285 := (n283.at_).trans (congrArg Value.bool (c284))
    have e286 := n283.ne rfl (n282.ne rfl (n280.ne rfl (n278.ne rfl (n277.ne rfl (n276.ne rfl (n275.ne rfl (n273.ne rfl (n272.ne rfl (n270.ne rfl (n269.ne rfl (n267.ne rfl (n265.ne rfl (n264.ne rfl (n263.ne rfl (n261.ne rfl (n258.ne rfl (n257.ne rfl (n256.ne rfl (n255.ne rfl (n254.ne rfl (n243.ne rfl (n242.ne rfl (n240.ne rfl (n237.ne rfl (n236.ne rfl (n235.ne rfl (n234.ne rfl (n233.ne rfl (n222.ne rfl (n221.ne rfl (n219.ne rfl (n217.ne rfl (n214.ne rfl (n213.ne rfl (n212.ne rfl (n211.ne rfl (n210.ne rfl (n199.ne rfl (n198.ne rfl (n196.ne rfl (n194.ne rfl (n191.ne rfl (n190.ne rfl (n189.ne rfl n188.at_))))))))))))))))))))))))))))))))))))))))))))
    have e287 := (e286).trans (congrArg Value.bool (c284))
    have e288 := ((n283.ne rfl (n282.ne rfl e281))).trans (congrArg Value.bool (c284))
    have e289 := ((n283.ne rfl n282.at_)).trans (congrArg Value.bool (c284))
    have e290 := n283.ne rfl (n282.ne rfl (n280.ne rfl (n278.ne rfl (n277.ne rfl (n276.ne rfl (n275.ne rfl (n273.ne rfl (n272.ne rfl (n270.ne rfl (n269.ne rfl (n267.ne rfl (n265.ne rfl (n264.ne rfl (n263.ne rfl (n261.ne rfl (n258.ne rfl (n257.ne rfl (n256.ne rfl (n255.ne rfl (n254.ne rfl (n243.ne rfl (n242.ne rfl (n240.ne rfl (n237.ne rfl (n236.ne rfl (n235.ne rfl n234.at_))))))))))))))))))))))))))
    have e291 := (e290).trans (congrArg Value.bool (show (pu || pv) = pv by simp [c284]))
    have e292 := n283.ne rfl (n282.ne rfl (n280.ne rfl e279))
    have e293 := (e292).trans (congrArg Value.bool (show (pu || pv) = pv by simp [c284]))
    have e294 := ((n283.ne rfl (n282.ne rfl n280.at_))).trans (congrArg Value.bool (show (pu || pv) = pv by simp [c284]))
    have e295 := n283.ne rfl (n282.ne rfl (n280.ne rfl (n278.ne rfl (n277.ne rfl (n276.ne rfl (n275.ne rfl (n273.ne rfl (n272.ne rfl (n270.ne rfl (n269.ne rfl (n267.ne rfl (n265.ne rfl (n264.ne rfl (n263.ne rfl (n261.ne rfl (n258.ne rfl (n257.ne rfl (n256.ne rfl (n255.ne rfl (n254.ne rfl (n243.ne rfl (n242.ne rfl (n240.ne rfl (n237.ne rfl (n236.ne rfl (n235.ne rfl (n234.ne rfl (n233.ne rfl (n222.ne rfl (n221.ne rfl (n219.ne rfl (n217.ne rfl (n214.ne rfl n213.at_)))))))))))))))))))))))))))))))))
    refine sv n283.ok rfl (wgT rfl (yl 15 false rfl e285) rfl) rfl (o_mv e295) (fun an296 n296 => ?_)
    have e297 := n296.ne rfl (n283.ne rfl (n282.ne rfl (n280.ne rfl n278.at_)))
    refine sv n296.ok rfl (wgT rfl (yl 12 true rfl e297) rfl) rfl (o_pkF (n296.ne rfl e285) n296.at_) (fun an298 n298 => ?_)
    refine sv n298.ok rfl (wgT rfl (yl 12 true rfl (n298.ne rfl e297)) rfl) rfl (o_eqB (b := true) (n298.ne rfl (n296.ne rfl e294)) n298.at_ (by simp) Tryz.underlying4) (fun an299 n299 => ?_)
    refine sv n299.ok rfl (wn _ rfl) rfl (o_pkT (n299.ne rfl (n298.ne rfl e297)) n299.at_) (fun an300 n300 => ?_)
    refine sv n300.ok rfl (wn _ rfl) rfl (o_mv n300.at_) (fun an301 n301 => ?_)
    have e302 := n301.ne rfl (n300.ne rfl (n299.ne rfl (n298.ne rfl (n296.ne rfl (n283.ne rfl (n282.ne rfl (n280.ne rfl (n278.ne rfl (n277.ne rfl (n276.ne rfl (n275.ne rfl (n273.ne rfl (n272.ne rfl (n270.ne rfl (n269.ne rfl (n267.ne rfl (n265.ne rfl (n264.ne rfl (n263.ne rfl (n261.ne rfl (n258.ne rfl n257.at_)))))))))))))))))))))
    refine sv n301.ok rfl (wgT rfl (yl 20 true rfl n301.at_) rfl) rfl (o_mv e302) (fun an303 n303 => ?_)
    refine sv n303.ok rfl (wn _ rfl) rfl (o_pkT (n303.ne rfl n301.at_) n303.at_) (fun an304 n304 => ?_)
    refine sv n304.ok rfl (wn _ rfl) rfl (o_mv n304.at_) (fun an305 n305 => ?_)
    have e306 := n305.ne rfl (n304.ne rfl (n303.ne rfl (n301.ne rfl (n300.ne rfl (n299.ne rfl (n298.ne rfl (n296.ne rfl (n283.ne rfl (n282.ne rfl (n280.ne rfl (n278.ne rfl (n277.ne rfl (n276.ne rfl (n275.ne rfl (n273.ne rfl (n272.ne rfl (n270.ne rfl (n269.ne rfl (n267.ne rfl (n265.ne rfl (n264.ne rfl (n263.ne rfl (n261.ne rfl (n258.ne rfl (n257.ne rfl (n256.ne rfl (n255.ne rfl (n254.ne rfl (n243.ne rfl (n242.ne rfl e241))))))))))))))))))))))))))))))
    refine sv n305.ok rfl (wgT rfl (yl 23 true rfl n305.at_) rfl) rfl (o_mv e306) (fun an307 n307 => ?_)
    refine sv n307.ok rfl (wgT rfl (yl 23 true rfl (n307.ne rfl n305.at_)) rfl) rfl (o_len n307.at_ Tryz.underlying22) (fun an308 n308 => ?_)
    have e309 := n308.ne rfl (n307.ne rfl (n305.ne rfl (n304.ne rfl (n303.ne rfl (n301.ne rfl (n300.ne rfl (n299.ne rfl (n298.ne rfl (n296.ne rfl (n283.ne rfl (n282.ne rfl (n280.ne rfl (n278.ne rfl (n277.ne rfl (n276.ne rfl (n275.ne rfl (n273.ne rfl (n272.ne rfl (n270.ne rfl (n269.ne rfl (n267.ne rfl (n265.ne rfl (n264.ne rfl (n263.ne rfl (n261.ne rfl (n258.ne rfl (n257.ne rfl (n256.ne rfl (n255.ne rfl (n254.ne rfl (n243.ne rfl (n242.ne rfl (n240.ne rfl e239)))))))))))))))))))))))))))))))))
    refine sv n308.ok rfl (wgT rfl (yl 23 true rfl (n308.ne rfl (n307.ne rfl n305.at_))) rfl) rfl (o_mv e309) (fun an310 n310 => ?_)
    have e311 := n310.ne rfl (n308.ne rfl (n307.ne rfl n305.at_))
    refine sv n310.ok rfl (wgT rfl (yl 23 true rfl e311) rfl) rfl (o_len n310.at_ Tryz.underlying22) (fun an312 n312 => ?_)
    have e313 := n312.ne rfl (n310.ne rfl (n308.ne rfl (n307.ne rfl (n305.ne rfl (n304.ne rfl (n303.ne rfl (n301.ne rfl (n300.ne rfl (n299.ne rfl (n298.ne rfl (n296.ne rfl (n283.ne rfl (n282.ne rfl (n280.ne rfl (n278.ne rfl (n277.ne rfl (n276.ne rfl (n275.ne rfl (n273.ne rfl (n272.ne rfl (n270.ne rfl (n269.ne rfl (n267.ne rfl (n265.ne rfl (n264.ne rfl (n263.ne rfl (n261.ne rfl (n258.ne rfl (n257.ne rfl (n256.ne rfl (n255.ne rfl (n254.ne rfl (n243.ne rfl (n242.ne rfl (n240.ne rfl (n237.ne rfl (n236.ne rfl (n235.ne rfl (n234.ne rfl (n233.ne rfl (n222.ne rfl (n221.ne rfl (n219.ne rfl (n217.ne rfl (n214.ne rfl (n213.ne rfl (n212.ne rfl (n211.ne rfl (n210.ne rfl (n199.ne rfl (n198.ne rfl (n196.ne rfl (n194.ne rfl e193)))))))))))))))))))))))))))))))))))))))))))))))))))))
    refine sv n312.ok rfl (wgT rfl (yl 23 true rfl (n312.ne rfl e311)) rfl) rfl (o_mv e313) (fun an314 n314 => ?_)
    refine sv n314.ok rfl (wgT rfl (yl 23 true rfl (n314.ne rfl (n312.ne rfl e311))) rfl) rfl (o_len n314.at_ Tryz.underlying22) (fun an315 n315 => ?_)
    have e316 := n315.ne rfl (n314.ne rfl (n312.ne rfl e311))
    refine sv n315.ok rfl (wgT rfl (yl 23 true rfl e316) rfl) rfl (o_add (r := ((Kp0.length + Kp1.length : Nat) : Int)) (n315.ne rfl (n314.ne rfl n312.at_)) n315.at_ (by omega) (by omega)) (fun an317 n317 => ?_)
    have e318 := n317.ne rfl (n315.ne rfl (n314.ne rfl (n312.ne rfl (n310.ne rfl n308.at_))))
    refine sv n317.ok rfl (wgT rfl (yl 23 true rfl (n317.ne rfl e316)) rfl) rfl (o_leI e318 n317.at_) (fun an319 n319 => ?_)
    refine sv n319.ok rfl (wn _ rfl) rfl (o_pkT (n319.ne rfl (n317.ne rfl e316)) n319.at_) (fun an320 n320 => ?_)
    refine sv n320.ok rfl (wn _ rfl) rfl (o_as n320.at_) (fun an321 n321 => ?_)
    refine wpList_nil ?_
    refine th_n (hK259 _ _ ?_)
    refine wp_ret ?_
    exact ret1 n321.ok rfl (n321.at_) ⟨congrArg (fun b => Ending.returned (Value.bool b)) (decide_eq_true (by omega)), G246⟩
  · have e322 := (n283.at_).trans (congrArg Value.bool (c284))
    have e323 := n283.ne rfl (n282.ne rfl (n280.ne rfl (n278.ne rfl (n277.ne rfl (n276.ne rfl (n275.ne rfl (n273.ne rfl (n272.ne rfl (n270.ne rfl (n269.ne rfl (n267.ne rfl (n265.ne rfl (n264.ne rfl (n263.ne rfl (n261.ne rfl (n258.ne rfl (n257.ne rfl (n256.ne rfl (n255.ne rfl (n254.ne rfl (n243.ne rfl (n242.ne rfl (n240.ne rfl (n237.ne rfl (n236.ne rfl (n235.ne rfl (n234.ne rfl (n233.ne rfl (n222.ne rfl (n221.ne rfl (n219.ne rfl (n217.ne rfl (n214.ne rfl (n213.ne rfl (n212.ne rfl (n211.ne rfl (n210.ne rfl (n199.ne rfl (n198.ne rfl (n196.ne rfl (n194.ne rfl (n191.ne rfl (n190.ne rfl (n189.ne rfl n188.at_))))))))))))))))))))))))))))))))))))))))))))
    have e324 := (e323).trans (congrArg Value.bool (c284))
    have e325 := ((n283.ne rfl (n282.ne rfl e281))).trans (congrArg Value.bool (c284))
    have e326 := ((n283.ne rfl n282.at_)).trans (congrArg Value.bool (c284))
    have e327 := n283.ne rfl (n282.ne rfl (n280.ne rfl (n278.ne rfl (n277.ne rfl (n276.ne rfl (n275.ne rfl (n273.ne rfl (n272.ne rfl (n270.ne rfl (n269.ne rfl (n267.ne rfl (n265.ne rfl (n264.ne rfl (n263.ne rfl (n261.ne rfl (n258.ne rfl (n257.ne rfl (n256.ne rfl (n255.ne rfl (n254.ne rfl (n243.ne rfl (n242.ne rfl (n240.ne rfl (n237.ne rfl (n236.ne rfl (n235.ne rfl n234.at_))))))))))))))))))))))))))
    have e328 := (e327).trans (congrArg Value.bool (show (pu || pv) = true by simp [c284]))
    have e329 := n283.ne rfl (n282.ne rfl (n280.ne rfl e279))
    have e330 := (e329).trans (congrArg Value.bool (show (pu || pv) = true by simp [c284]))
    have e331 := ((n283.ne rfl (n282.ne rfl n280.at_))).trans (congrArg Value.bool (show (pu || pv) = true by simp [c284]))
    refine sn n283.ok rfl (wgF rfl (yl 15 true rfl e322) rfl) rfl (fun an332 n332 => ?_)
    have e333 := n332.ne rfl (n283.ne rfl (n282.ne rfl (n280.ne rfl n278.at_)))
    refine sv n332.ok rfl (wgT rfl (yl 12 true rfl e333) rfl) rfl (o_pkT (n332.ne rfl e322) ev_const) (fun an334 n334 => ?_)
    refine sv n334.ok rfl (wgT rfl (yl 12 true rfl (n334.ne rfl e333)) rfl) rfl (o_eqB (b := true) (n334.ne rfl (n332.ne rfl e331)) n334.at_ (by simp) Tryz.underlying4) (fun an335 n335 => ?_)
    refine sv n335.ok rfl (wn _ rfl) rfl (o_pkT (n335.ne rfl (n334.ne rfl e333)) n335.at_) (fun an336 n336 => ?_)
    refine sv n336.ok rfl (wn _ rfl) rfl (o_mv n336.at_) (fun an337 n337 => ?_)
    have e338 := n337.ne rfl (n336.ne rfl (n335.ne rfl (n334.ne rfl (n332.ne rfl (n283.ne rfl (n282.ne rfl (n280.ne rfl (n278.ne rfl (n277.ne rfl (n276.ne rfl (n275.ne rfl (n273.ne rfl (n272.ne rfl (n270.ne rfl (n269.ne rfl (n267.ne rfl (n265.ne rfl (n264.ne rfl (n263.ne rfl (n261.ne rfl (n258.ne rfl n257.at_)))))))))))))))))))))
    refine sv n337.ok rfl (wgT rfl (yl 20 true rfl n337.at_) rfl) rfl (o_mv e338) (fun an339 n339 => ?_)
    refine sv n339.ok rfl (wn _ rfl) rfl (o_pkT (n339.ne rfl n337.at_) n339.at_) (fun an340 n340 => ?_)
    refine sv n340.ok rfl (wn _ rfl) rfl (o_mv n340.at_) (fun an341 n341 => ?_)
    have e342 := n341.ne rfl (n340.ne rfl (n339.ne rfl (n337.ne rfl (n336.ne rfl (n335.ne rfl (n334.ne rfl (n332.ne rfl (n283.ne rfl (n282.ne rfl (n280.ne rfl (n278.ne rfl (n277.ne rfl (n276.ne rfl (n275.ne rfl (n273.ne rfl (n272.ne rfl (n270.ne rfl (n269.ne rfl (n267.ne rfl (n265.ne rfl (n264.ne rfl (n263.ne rfl (n261.ne rfl (n258.ne rfl (n257.ne rfl (n256.ne rfl (n255.ne rfl (n254.ne rfl (n243.ne rfl (n242.ne rfl e241))))))))))))))))))))))))))))))
    refine sv n341.ok rfl (wgT rfl (yl 23 true rfl n341.at_) rfl) rfl (o_mv e342) (fun an343 n343 => ?_)
    refine sv n343.ok rfl (wgT rfl (yl 23 true rfl (n343.ne rfl n341.at_)) rfl) rfl (o_len n343.at_ Tryz.underlying22) (fun an344 n344 => ?_)
    have e345 := n344.ne rfl (n343.ne rfl (n341.ne rfl (n340.ne rfl (n339.ne rfl (n337.ne rfl (n336.ne rfl (n335.ne rfl (n334.ne rfl (n332.ne rfl (n283.ne rfl (n282.ne rfl (n280.ne rfl (n278.ne rfl (n277.ne rfl (n276.ne rfl (n275.ne rfl (n273.ne rfl (n272.ne rfl (n270.ne rfl (n269.ne rfl (n267.ne rfl (n265.ne rfl (n264.ne rfl (n263.ne rfl (n261.ne rfl (n258.ne rfl (n257.ne rfl (n256.ne rfl (n255.ne rfl (n254.ne rfl (n243.ne rfl (n242.ne rfl (n240.ne rfl e239)))))))))))))))))))))))))))))))))
    refine sv n344.ok rfl (wgT rfl (yl 23 true rfl (n344.ne rfl (n343.ne rfl n341.at_))) rfl) rfl (o_mv e345) (fun an346 n346 => ?_)
    have e347 := n346.ne rfl (n344.ne rfl (n343.ne rfl n341.at_))
    refine sv n346.ok rfl (wgT rfl (yl 23 true rfl e347) rfl) rfl (o_len n346.at_ Tryz.underlying22) (fun an348 n348 => ?_)
    have e349 := n348.ne rfl (n346.ne rfl (n344.ne rfl (n343.ne rfl (n341.ne rfl (n340.ne rfl (n339.ne rfl (n337.ne rfl (n336.ne rfl (n335.ne rfl (n334.ne rfl (n332.ne rfl (n283.ne rfl (n282.ne rfl (n280.ne rfl (n278.ne rfl (n277.ne rfl (n276.ne rfl (n275.ne rfl (n273.ne rfl (n272.ne rfl (n270.ne rfl (n269.ne rfl (n267.ne rfl (n265.ne rfl (n264.ne rfl (n263.ne rfl (n261.ne rfl (n258.ne rfl (n257.ne rfl (n256.ne rfl (n255.ne rfl (n254.ne rfl (n243.ne rfl (n242.ne rfl (n240.ne rfl (n237.ne rfl (n236.ne rfl (n235.ne rfl (n234.ne rfl (n233.ne rfl (n222.ne rfl (n221.ne rfl (n219.ne rfl (n217.ne rfl (n214.ne rfl (n213.ne rfl (n212.ne rfl (n211.ne rfl (n210.ne rfl (n199.ne rfl (n198.ne rfl (n196.ne rfl (n194.ne rfl e193)))))))))))))))))))))))))))))))))))))))))))))))))))))
    refine sv n348.ok rfl (wgT rfl (yl 23 true rfl (n348.ne rfl e347)) rfl) rfl (o_mv e349) (fun an350 n350 => ?_)
    refine sv n350.ok rfl (wgT rfl (yl 23 true rfl (n350.ne rfl (n348.ne rfl e347))) rfl) rfl (o_len n350.at_ Tryz.underlying22) (fun an351 n351 => ?_)
    have e352 := n351.ne rfl (n350.ne rfl (n348.ne rfl e347))
    refine sv n351.ok rfl (wgT rfl (yl 23 true rfl e352) rfl) rfl (o_add (r := ((Kp0.length + Kp1.length : Nat) : Int)) (n351.ne rfl (n350.ne rfl n348.at_)) n351.at_ (by omega) (by omega)) (fun an353 n353 => ?_)
    have e354 := n353.ne rfl (n351.ne rfl (n350.ne rfl (n348.ne rfl (n346.ne rfl n344.at_))))
    refine sv n353.ok rfl (wgT rfl (yl 23 true rfl (n353.ne rfl e352)) rfl) rfl (o_leI e354 n353.at_) (fun an355 n355 => ?_)
    refine sv n355.ok rfl (wn _ rfl) rfl (o_pkT (n355.ne rfl (n353.ne rfl e352)) n355.at_) (fun an356 n356 => ?_)
    refine sv n356.ok rfl (wn _ rfl) rfl (o_as n356.at_) (fun an357 n357 => ?_)
    refine wpList_nil ?_
    refine th_n (hK259 _ _ ?_)
    refine wp_ret ?_
    exact ret1 n357.ok rfl (n357.at_) ⟨congrArg (fun b => Ending.returned (Value.bool b)) (decide_eq_true (by omega)), G246⟩
end Go.Proofs.YtghjfakellaecaaGreat
