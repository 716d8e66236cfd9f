/- The walk of ShelfDrops. -/
import Derived.Test.YtoencnbpjjkjnaaSk5
set_option linter.unusedVariables false
set_option linter.unusedSimpArgs false
namespace Go.Proofs.Ytoencnbpjjkjnaa
open Go.RowKit Rm Gx
set_option maxHeartbeats 8000000 in
set_option maxRecDepth 100000 in
theorem shelfDrops_walk (v0 v1 v2 : Value) (L0 L1 L2 : List (List Int)) (x : List UInt8) (w : World) (h0 : RdLL w v0 L0) (h1 : RdLL w v1 L1) (h2 : RdLL w v2 L2) :
    Calls Try.prog 6 #[v0, v1, v2, .string (bs x)] w fun e w' => e = .returned (.bool true) ∧ Gr w w' := by
  refine enter (N := 154) Try.func6 rfl rfl rfl (fun a0 ok0 h0 => ?_)
  have e0_0 : a0.eval (.tmp 0) = v0 := h0 0 _ rfl
  have e0_1 : a0.eval (.tmp 1) = v1 := h0 1 _ rfl
  have e0_2 : a0.eval (.tmp 2) = v2 := h0 2 _ rfl
  have e0_3 : a0.eval (.tmp 3) = .string (bs x) := h0 3 _ rfl
  clear h0
  have G0 := Gr.refl w
  refine wp_seq_k (fun K1 hK1 => ?_)
  refine wp_region_lit ?_
  refine sv ok0 rfl (wn _ rfl) rfl (o_as ev_const) (fun an2 n2 => ?_)
  refine wpList_nil ?_
  refine th_n (hK1 _ _ ?_)
  refine wp_seq_k (fun K3 hK3 => ?_)
  refine wp_seq_k (fun K4 hK4 => ?_)
  refine wp_region_lit ?_
  refine sc n2.ok rfl (wn _ rfl) rfl (o_f0 Try.func22 rfl rfl rfl ) (begun_shelf w) ?_
  rintro _ w6 ⟨rfl, g7⟩
  refine ⟨_, rfl, fun an5 n5 => ?_⟩
  have G8 := G0.trans g7
  refine sv n5.ok rfl (wn _ rfl) rfl (o_not n5.at_ rfl) (fun an9 n9 => ?_)
  refine wpList_nil ?_
  refine th_n (hK4 _ _ ?_)
  refine wp_cond_false (n9.at_) ?_
  refine wp_skip ?_
  refine th_n (hK3 _ _ ?_)
  refine wp_seq_k (fun K10 hK10 => ?_)
  refine wp_region_lit ?_
  have e11 := n9.ne rfl (n5.ne rfl (n2.ne rfl e0_0))
  refine sv n9.ok rfl (wn _ rfl) rfl (o_mv e11) (fun an12 n12 => ?_)
  refine sc n12.ok rfl (wn _ rfl) rfl (o_f1 Try.func23 rfl rfl rfl n12.at_) (told_any v0 L0 w6 (h0.gr G8)) ?_
  rintro _ w14 ⟨RT, raT, rcT, vT, rfl, hT, hv, hlT, hrT, hmT, g15⟩
  have hTR := hT.tr (by rw [List.length_map]; omega)
  have hlM : (RT.map VerI.d).length ≤ 20 := by rw [List.length_map]; exact hlT
  have hMX := lay_is hTR (fun x hx => hx)
  refine ⟨_, rfl, fun an13 n13 => ?_⟩
  have G16 := G8.trans g15
  have A18 := Gr.refl w14
  refine sc n13.ok rfl (wn _ rfl) rfl (o_f1 Try.func25 rfl rfl rfl n13.at_) (laid_r RT raT rcT w14 (hrT.gr A18) (hmT.gr A18) (by omega) (RT.map VerI.d) ((RT.map VerI.d)) hTR (fun x hx => hx) (rfl)) ?_
  rintro _ w20 ⟨R1, ra1, rc1, rfl, hR1, hr1, hm1, g21⟩
  have hM1 := lay_is hTR (fun x hx => hx)
  have hX := (okS_iff _).2 hM1.ok
  have hXd := okS_dots hM1.ok
  refine ⟨_, rfl, fun an19 n19 => ?_⟩
  have G22 := G16.trans g21
  have A23 := A18.trans g21
  have A25 := Gr.refl w20
  refine sv n19.ok rfl (wn _ rfl) rfl (o_mv n19.at_) (fun an26 n26 => ?_)
  refine sv n26.ok rfl (wn _ rfl) rfl (o_ex n26.at_ rfl) (fun an27 n27 => ?_)
  refine sv n27.ok rfl (wn _ rfl) rfl (o_ex (n27.ne rfl n26.at_) rfl) (fun an28 n28 => ?_)
  refine sv n28.ok rfl (wn _ rfl) rfl (o_as (n28.ne rfl n27.at_)) (fun an29 n29 => ?_)
  refine sv n29.ok rfl (wn _ rfl) rfl (o_as (n29.ne rfl n28.at_)) (fun an30 n30 => ?_)
  refine wpList_nil ?_
  refine th_n (hK10 _ _ ?_)
  refine wp_seq_k (fun K31 hK31 => ?_)
  refine wp_seq_k (fun K32 hK32 => ?_)
  refine wp_region_lit ?_
  refine sv n30.ok rfl (wn _ rfl) rfl (o_mv n30.at_) (fun an33 n33 => ?_)
  refine sv n33.ok rfl (wn _ rfl) rfl (o_not n33.at_ rfl) (fun an34 n34 => ?_)
  refine wpList_nil ?_
  refine th_n (hK32 _ _ ?_)
  refine wp_cond_false (n34.at_) ?_
  refine wp_skip ?_
  refine th_n (hK31 _ _ ?_)
  refine wp_seq_k (fun K35 hK35 => ?_)
  refine wp_region_lit ?_
  obtain ⟨i36, i36a, i36b, i36c⟩ := info3_of (show (Try.prog.info? 9).map (fun i => (i.zero, i.size)) = some (some (.string (bs [])), 1) by kernel_rfl)
  refine sals (cs := #[.string (bs [97]), .string (bs [98])]) n34.ok rfl (wn _ rfl) rfl (o_bs (vs := [(0, .string (bs [97])), (1, .string (bs [98]))]) (by simp [ev_const, bs]) Try.underlying58 i36a i36b (by rw [i36c]; rfl) (by rw [i36c]; rfl) (by rw [i36c]; kernel_rfl)) (fun an37 w39 b38 W40 n37 => ?_)
  have l41 : w.heap.size ≤ b38 := by rw [W40.eq]; exact G22.size
  have l42 : w14.heap.size ≤ b38 := by rw [W40.eq]; exact A23.size
  have l43 : w20.heap.size ≤ b38 := by rw [W40.eq]; exact A25.size
  have G44 := G22.trans W40.gr
  have A45 := A23.trans W40.gr
  have A46 := A25.trans W40.gr
  have e47 := n37.ne rfl (n34.ne rfl (n33.ne rfl (n30.ne rfl (n29.ne rfl (n28.ne rfl (n27.ne rfl (n26.ne rfl (n19.ne rfl (n13.ne rfl (n12.ne rfl (n9.ne rfl (n5.ne rfl (n2.ne rfl e0_3)))))))))))))
  refine sv n37.ok rfl (wn _ rfl) rfl (o_mv e47) (fun an48 n48 => ?_)
  refine sv n48.ok rfl (wn _ rfl) rfl (o_lenS n48.at_ Try.underlying9) (fun an49 n49 => ?_)
  have hw2 := wi_lt ((x.length : Nat) : Int) 2 (by omega)
  refine sc n49.ok rfl (wn _ rfl) rfl (o_f2 Try.func24 rfl rfl rfl n49.at_ ev_const) (kwithin_any ((x.length : Nat) : Int) 2 (by omega) (by omega) w39) ?_
  rintro _ w51 ⟨rfl, g52⟩
  refine ⟨_, rfl, fun an50 n50 => ?_⟩
  have G53 := G44.trans g52
  have B54 := W40.bk.gr g52
  have A55 := A45.trans g52
  have A56 := A46.trans g52
  have e57 := n50.ne rfl (n49.ne rfl (n48.ne rfl n37.at_))
  refine sv n50.ok rfl (wn _ rfl) rfl (o_ia (i := wi (((x.length : Nat) : Int)) 2) (s := 1) e57 n50.at_ Try.underlying58 (by kernel_rfl) (by omega)) (fun an58 n58 => ?_)
  refine sv n58.ok rfl (wn _ rfl) rfl (o_ld n58.at_ (Try.isAgg9 _) (id_at _ _ _ _ B54 (by omega))) (fun an59 n59 => ?_)
  refine sv n59.ok rfl (wn _ rfl) rfl (o_as n59.at_) (fun an60 n60 => ?_)
  refine wpList_nil ?_
  refine th_n (hK35 _ _ ?_)
  refine wp_seq_k (fun K61 hK61 => ?_)
  refine wp_region_lit ?_
  refine sv n60.ok rfl (wn _ rfl) rfl (o_mv n60.at_) (fun an62 n62 => ?_)
  have e63 := n62.ne rfl (n60.ne rfl (n59.ne rfl (n58.ne rfl (n50.ne rfl (n49.ne rfl (n48.ne rfl (n37.ne rfl (n34.ne rfl (n33.ne rfl (n30.ne rfl (n29.ne rfl (n28.ne rfl (n27.ne rfl (n26.ne rfl (n19.ne rfl (n13.ne rfl (n12.ne rfl (n9.ne rfl (n5.ne rfl (n2.ne rfl e0_1))))))))))))))))))))
  refine sv n62.ok rfl (wn _ rfl) rfl (o_mv e63) (fun an64 n64 => ?_)
  refine sc n64.ok rfl (wn _ rfl) rfl (o_f1 Try.func36 rfl rfl rfl n64.at_) (setK v1 L1 w51 (h1.gr G53)) ?_
  rintro _ w66 ⟨ks1, rfl, hks1, g67⟩
  obtain ⟨vas1, vcs1, mas1, mcs1, rfl⟩ := hks1.form
  refine ⟨_, rfl, fun an65 n65 => ?_⟩
  have G68 := G53.trans g67
  have B69 := B54.gr g67
  have A70 := A55.trans g67
  have A71 := A56.trans g67
  have A73 := Gr.refl w66
  refine sv n65.ok rfl (wn _ rfl) rfl (o_bd (cells := #[.string (bs (idOf (wi (((x.length : Nat) : Int)) 2))), .slice vas1 ((ints (formV (setD L1))).length) vcs1, .slice mas1 ((pairs (formM (setD L1))).length) mcs1]) (vs := [(0, .string (bs (idOf (wi (((x.length : Nat) : Int)) 2)))), (1, .agg #[.slice vas1 ((ints (formV (setD L1))).length) vcs1, .slice mas1 ((pairs (formM (setD L1))).length) mcs1])]) (by simp [(n65.ne rfl (n64.ne rfl n62.at_)), n65.at_, ev_const]) (by kernel_rfl)) (fun an74 n74 => ?_)
  have e75 := n74.ne rfl (n65.ne rfl (n64.ne rfl (n62.ne rfl n60.at_)))
  refine sv n74.ok rfl (wn _ rfl) rfl (o_mv e75) (fun an76 n76 => ?_)
  have e77 := n76.ne rfl (n74.ne rfl (n65.ne rfl (n64.ne rfl (n62.ne rfl (n60.ne rfl (n59.ne rfl (n58.ne rfl (n50.ne rfl (n49.ne rfl (n48.ne rfl (n37.ne rfl (n34.ne rfl (n33.ne rfl (n30.ne rfl (n29.ne rfl (n28.ne rfl (n27.ne rfl (n26.ne rfl (n19.ne rfl (n13.ne rfl (n12.ne rfl (n9.ne rfl (n5.ne rfl (n2.ne rfl e0_2))))))))))))))))))))))))
  refine sv n76.ok rfl (wn _ rfl) rfl (o_mv e77) (fun an78 n78 => ?_)
  refine sc n78.ok rfl (wn _ rfl) rfl (o_f1 Try.func36 rfl rfl rfl n78.at_) (setK v2 L2 w66 (h2.gr G68)) ?_
  rintro _ w80 ⟨ks2, rfl, hks2, g81⟩
  obtain ⟨vas2, vcs2, mas2, mcs2, rfl⟩ := hks2.form
  refine ⟨_, rfl, fun an79 n79 => ?_⟩
  have G82 := G68.trans g81
  have B83 := B69.gr g81
  have A84 := A70.trans g81
  have A85 := A71.trans g81
  have A86 := A73.trans g81
  have A88 := Gr.refl w80
  refine sv n79.ok rfl (wn _ rfl) rfl (o_bd (cells := #[.string (bs (idOf (wi (((x.length : Nat) : Int)) 2))), .slice vas2 ((ints (formV (setD L2))).length) vcs2, .slice mas2 ((pairs (formM (setD L2))).length) mcs2]) (vs := [(0, .string (bs (idOf (wi (((x.length : Nat) : Int)) 2)))), (1, .agg #[.slice vas2 ((ints (formV (setD L2))).length) vcs2, .slice mas2 ((pairs (formM (setD L2))).length) mcs2])]) (by simp [(n79.ne rfl (n78.ne rfl n76.at_)), n79.at_, ev_const]) (by kernel_rfl)) (fun an89 n89 => ?_)
  refine sal (cs := #[.string (bs []), .slice none 0 0, .slice none 0 0]) n89.ok rfl (wn _ rfl) rfl (o_al (z := .agg #[.string (bs []), .slice none 0 0, .slice none 0 0]) (by kernel_rfl)) (fun an90 w92 b91 W93 n90 => ?_)
  have l94 : b38 < b91 := by rw [W93.eq]; exact B83.lt
  have l95 : w.heap.size ≤ b91 := by rw [W93.eq]; exact G82.size
  have l96 : w14.heap.size ≤ b91 := by rw [W93.eq]; exact A84.size
  have l97 : w20.heap.size ≤ b91 := by rw [W93.eq]; exact A85.size
  have l98 : w66.heap.size ≤ b91 := by rw [W93.eq]; exact A86.size
  have l99 : w80.heap.size ≤ b91 := by rw [W93.eq]; exact A88.size
  have G100 := G82.trans W93.gr
  have B101 := B83.gr W93.gr
  have A102 := A84.trans W93.gr
  have A103 := A85.trans W93.gr
  have A104 := A86.trans W93.gr
  have A105 := A88.trans W93.gr
  refine sal (cs := #[.string (bs []), .slice none 0 0, .slice none 0 0]) n90.ok rfl (wn _ rfl) rfl (o_al (z := .agg #[.string (bs []), .slice none 0 0, .slice none 0 0]) (by kernel_rfl)) (fun an106 w108 b107 W109 n106 => ?_)
  have l110 : b38 < b107 := by rw [W109.eq]; exact B101.lt
  have l111 : b91 < b107 := by rw [W109.eq]; exact W93.bk.lt
  have l112 : w.heap.size ≤ b107 := by rw [W109.eq]; exact G100.size
  have l113 : w14.heap.size ≤ b107 := by rw [W109.eq]; exact A102.size
  have l114 : w20.heap.size ≤ b107 := by rw [W109.eq]; exact A103.size
  have l115 : w66.heap.size ≤ b107 := by rw [W109.eq]; exact A104.size
  have l116 : w80.heap.size ≤ b107 := by rw [W109.eq]; exact A105.size
  have G117 := G100.trans W109.gr
  have B118 := B101.gr W109.gr
  have B119 := W93.bk.gr W109.gr
  have A120 := A102.trans W109.gr
  have A121 := A103.trans W109.gr
  have A122 := A104.trans W109.gr
  have A123 := A105.trans W109.gr
  have e124 := n106.ne rfl (n90.ne rfl (n89.ne rfl (n79.ne rfl (n78.ne rfl (n76.ne rfl n74.at_)))))
  refine ssR rfl (wn _ rfl) (o_stR (n106.ne rfl n90.at_) e124 B119 (by kernel_rfl) rfl (by simp [Value.oneCell'])) B119 (fun w125 u126 u126b => ?_)
  have G127 : Gr w w125 := Below.upd G117 l95 u126
  have B128 := B118.upd u126 (Nat.ne_of_lt l94)
  have B129 := W109.bk.upd u126 (Nat.ne_of_gt l111)
  have A130 : Gr w14 w125 := Below.upd A120 l96 u126
  have A131 : Gr w20 w125 := Below.upd A121 l97 u126
  have A132 : Gr w66 w125 := Below.upd A122 l98 u126
  have A133 : Gr w80 w125 := Below.upd A123 l99 u126
  refine ssR rfl (wn _ rfl) (o_stR n106.at_ (n106.ne rfl (n90.ne rfl n89.at_)) B129 (by kernel_rfl) rfl (by simp [Value.oneCell'])) B129 (fun w134 u135 u135b => ?_)
  have G136 : Gr w w134 := Below.upd G127 l112 u135
  have B137 := B128.upd u135 (Nat.ne_of_lt l110)
  have B138 := u126b.upd u135 (Nat.ne_of_lt l111)
  have A139 : Gr w14 w134 := Below.upd A130 l113 u135
  have A140 : Gr w20 w134 := Below.upd A131 l114 u135
  have A141 : Gr w66 w134 := Below.upd A132 l115 u135
  have A142 : Gr w80 w134 := Below.upd A133 l116 u135
  refine wpList_nil ?_
  refine th_n (hK61 _ _ ?_)
  refine wp_seq_k (fun K143 hK143 => ?_)
  refine wp_region_lit ?_
  have e144 := n106.ne rfl (n90.ne rfl (n89.ne rfl (n79.ne rfl (n78.ne rfl (n76.ne rfl (n74.ne rfl (n65.ne rfl (n64.ne rfl (n62.ne rfl (n60.ne rfl (n59.ne rfl (n58.ne rfl (n50.ne rfl (n49.ne rfl (n48.ne rfl (n37.ne rfl (n34.ne rfl (n33.ne rfl (n30.ne rfl n29.at_)))))))))))))))))))
  refine sv n106.ok rfl (wn _ rfl) rfl (o_mv e144) (fun an145 n145 => ?_)
  refine sv n145.ok rfl (wn _ rfl) rfl (o_ldR (n145.ne rfl (n106.ne rfl n90.at_)) B138 Try.underlying63 rfl (by kernel_rfl)) (fun an146 n146 => ?_)
  refine sc n146.ok rfl (wn _ rfl) rfl (o_f2 Try.func37 rfl rfl rfl (n146.ne rfl n145.at_) n146.at_) (sdrop_g R1 ra1 rc1 ((idOf (wi (((x.length : Nat) : Int)) 2))) (setD L1) vas1 mas1 vcs1 mcs1 w134 (hr1.gr A140) (hm1.gr A140) (hks1.gr A141) (layL ((RT.map VerI.d))) (hR1) hX (idOf_ok _) (small_form (Sm.set L1))) ?_
  rintro _ w148 ⟨R2, ra2, rc2, rfl, hR2, hr2, hm2, g149⟩
  refine ⟨_, rfl, fun an147 n147 => ?_⟩
  have G150 := G136.trans g149
  have B151 := B137.gr g149
  have B152 := B138.gr g149
  have B153 := u135b.gr g149
  have A154 := A139.trans g149
  have A155 := A140.trans g149
  have A156 := A141.trans g149
  have A157 := A142.trans g149
  have A159 := Gr.refl w148
  refine sv n147.ok rfl (wn _ rfl) rfl (o_mv n147.at_) (fun an160 n160 => ?_)
  refine sv n160.ok rfl (wn _ rfl) rfl (o_ex n160.at_ rfl) (fun an161 n161 => ?_)
  refine sv n161.ok rfl (wn _ rfl) rfl (o_ex (n161.ne rfl n160.at_) rfl) (fun an162 n162 => ?_)
  refine sv n162.ok rfl (wn _ rfl) rfl (o_as (n162.ne rfl n161.at_)) (fun an163 n163 => ?_)
  refine sv n163.ok rfl (wn _ rfl) rfl (o_as (n163.ne rfl n162.at_)) (fun an164 n164 => ?_)
  refine wpList_nil ?_
  refine th_n (hK143 _ _ ?_)
  refine wp_seq_k (fun K165 hK165 => ?_)
  refine wp_region_lit ?_
  refine sv n164.ok rfl (wn _ rfl) rfl (o_mv (n164.ne rfl n163.at_)) (fun an166 n166 => ?_)
  have e167 := n166.ne rfl (n164.ne rfl (n163.ne rfl (n162.ne rfl (n161.ne rfl (n160.ne rfl (n147.ne rfl (n146.ne rfl (n145.ne rfl n106.at_))))))))
  refine sv n166.ok rfl (wn _ rfl) rfl (o_ldR e167 B153 Try.underlying63 rfl (by kernel_rfl)) (fun an168 n168 => ?_)
  refine sc n168.ok rfl (wn _ rfl) rfl (o_f2 Try.func37 rfl rfl rfl (n168.ne rfl n166.at_) n168.at_) (sdrop_g R2 ra2 rc2 ((idOf (wi (((x.length : Nat) : Int)) 2))) (setD L2) vas2 mas2 vcs2 mcs2 w148 (hr2.gr A159) (hm2.gr A159) (hks2.gr A157) (svKeep (layL ((RT.map VerI.d))) (gonD ((idOf (wi (((x.length : Nat) : Int)) 2))) (setD L1))) (hR2) (keep_chk hX _) (idOf_ok _) (small_form (Sm.set L2))) ?_
  rintro _ w170 ⟨R3, ra3, rc3, rfl, hR3, hr3, hm3, g171⟩
  refine ⟨_, rfl, fun an169 n169 => ?_⟩
  have G172 := G150.trans g171
  have B173 := B151.gr g171
  have B174 := B152.gr g171
  have B175 := B153.gr g171
  have A176 := A154.trans g171
  have A177 := A155.trans g171
  have A178 := A156.trans g171
  have A179 := A157.trans g171
  have A180 := A159.trans g171
  have A182 := Gr.refl w170
  refine sv n169.ok rfl (wn _ rfl) rfl (o_mv n169.at_) (fun an183 n183 => ?_)
  refine sv n183.ok rfl (wn _ rfl) rfl (o_ex n183.at_ rfl) (fun an184 n184 => ?_)
  refine sv n184.ok rfl (wn _ rfl) rfl (o_ex (n184.ne rfl n183.at_) rfl) (fun an185 n185 => ?_)
  refine sv n185.ok rfl (wn _ rfl) rfl (o_as (n185.ne rfl n184.at_)) (fun an186 n186 => ?_)
  refine sv n186.ok rfl (wn _ rfl) rfl (o_as (n186.ne rfl n185.at_)) (fun an187 n187 => ?_)
  refine wpList_nil ?_
  refine th_n (hK165 _ _ ?_)
  refine wp_seq_k (fun K188 hK188 => ?_)
  refine wp_region_lit ?_
  have e189 := n187.ne rfl (n186.ne rfl (n185.ne rfl (n184.ne rfl (n183.ne rfl (n169.ne rfl (n168.ne rfl (n166.ne rfl (n164.ne rfl (n163.ne rfl (n162.ne rfl (n161.ne rfl (n160.ne rfl (n147.ne rfl (n146.ne rfl (n145.ne rfl e144)))))))))))))))
  refine sv n187.ok rfl (wn _ rfl) rfl (o_mv e189) (fun an190 n190 => ?_)
  have e191 := n190.ne rfl (n187.ne rfl (n186.ne rfl (n185.ne rfl (n184.ne rfl (n183.ne rfl (n169.ne rfl (n168.ne rfl e167)))))))
  refine sv n190.ok rfl (wn _ rfl) rfl (o_ldR e191 B175 Try.underlying63 rfl (by kernel_rfl)) (fun an192 n192 => ?_)
  refine sc n192.ok rfl (wn _ rfl) rfl (o_f2 Try.func37 rfl rfl rfl (n192.ne rfl n190.at_) n192.at_) (sdrop_g R1 ra1 rc1 ((idOf (wi (((x.length : Nat) : Int)) 2))) (setD L2) vas2 mas2 vcs2 mcs2 w170 (hr1.gr A177) (hm1.gr A177) (hks2.gr A179) (layL ((RT.map VerI.d))) (hR1) hX (idOf_ok _) (small_form (Sm.set L2))) ?_
  rintro _ w194 ⟨R4, ra4, rc4, rfl, hR4, hr4, hm4, g195⟩
  refine ⟨_, rfl, fun an193 n193 => ?_⟩
  have G196 := G172.trans g195
  have B197 := B173.gr g195
  have B198 := B174.gr g195
  have B199 := B175.gr g195
  have A200 := A176.trans g195
  have A201 := A177.trans g195
  have A202 := A178.trans g195
  have A203 := A179.trans g195
  have A204 := A180.trans g195
  have A205 := A182.trans g195
  have A207 := Gr.refl w194
  refine sv n193.ok rfl (wn _ rfl) rfl (o_mv n193.at_) (fun an208 n208 => ?_)
  refine sv n208.ok rfl (wn _ rfl) rfl (o_ex n208.at_ rfl) (fun an209 n209 => ?_)
  refine sv n209.ok rfl (wn _ rfl) rfl (o_ex (n209.ne rfl n208.at_) rfl) (fun an210 n210 => ?_)
  refine sv n210.ok rfl (wn _ rfl) rfl (o_as (n210.ne rfl n209.at_)) (fun an211 n211 => ?_)
  refine sv n211.ok rfl (wn _ rfl) rfl (o_as (n211.ne rfl n210.at_)) (fun an212 n212 => ?_)
  refine wpList_nil ?_
  refine th_n (hK188 _ _ ?_)
  refine wp_seq_k (fun K213 hK213 => ?_)
  refine wp_region_lit ?_
  refine sv n212.ok rfl (wn _ rfl) rfl (o_mv (n212.ne rfl n211.at_)) (fun an214 n214 => ?_)
  have e215 := n214.ne rfl (n212.ne rfl (n211.ne rfl (n210.ne rfl (n209.ne rfl (n208.ne rfl (n193.ne rfl (n192.ne rfl (n190.ne rfl (n187.ne rfl (n186.ne rfl (n185.ne rfl (n184.ne rfl (n183.ne rfl (n169.ne rfl (n168.ne rfl (n166.ne rfl (n164.ne rfl (n163.ne rfl (n162.ne rfl (n161.ne rfl (n160.ne rfl (n147.ne rfl (n146.ne rfl (n145.ne rfl (n106.ne rfl n90.at_)))))))))))))))))))))))))
  refine sv n214.ok rfl (wn _ rfl) rfl (o_ldR e215 B198 Try.underlying63 rfl (by kernel_rfl)) (fun an216 n216 => ?_)
  refine sc n216.ok rfl (wn _ rfl) rfl (o_f2 Try.func37 rfl rfl rfl (n216.ne rfl n214.at_) n216.at_) (sdrop_g R4 ra4 rc4 ((idOf (wi (((x.length : Nat) : Int)) 2))) (setD L1) vas1 mas1 vcs1 mcs1 w194 (hr4.gr A207) (hm4.gr A207) (hks1.gr A202) (svKeep (layL ((RT.map VerI.d))) (gonD ((idOf (wi (((x.length : Nat) : Int)) 2))) (setD L2))) (hR4) (keep_chk hX _) (idOf_ok _) (small_form (Sm.set L1))) ?_
  rintro _ w218 ⟨R5, ra5, rc5, rfl, hR5, hr5, hm5, g219⟩
  refine ⟨_, rfl, fun an217 n217 => ?_⟩
  have G220 := G196.trans g219
  have B221 := B197.gr g219
  have B222 := B198.gr g219
  have B223 := B199.gr g219
  have A224 := A200.trans g219
  have A225 := A201.trans g219
  have A226 := A202.trans g219
  have A227 := A203.trans g219
  have A228 := A204.trans g219
  have A229 := A205.trans g219
  have A230 := A207.trans g219
  have A232 := Gr.refl w218
  refine sv n217.ok rfl (wn _ rfl) rfl (o_mv n217.at_) (fun an233 n233 => ?_)
  refine sv n233.ok rfl (wn _ rfl) rfl (o_ex n233.at_ rfl) (fun an234 n234 => ?_)
  refine sv n234.ok rfl (wn _ rfl) rfl (o_ex (n234.ne rfl n233.at_) rfl) (fun an235 n235 => ?_)
  refine sv n235.ok rfl (wn _ rfl) rfl (o_as (n235.ne rfl n234.at_)) (fun an236 n236 => ?_)
  refine sv n236.ok rfl (wn _ rfl) rfl (o_as (n236.ne rfl n235.at_)) (fun an237 n237 => ?_)
  refine wpList_nil ?_
  refine th_n (hK213 _ _ ?_)
  refine wp_seq_k (fun K238 hK238 => ?_)
  refine wp_region_lit ?_
  have e239 := n237.ne rfl (n236.ne rfl (n235.ne rfl (n234.ne rfl (n233.ne rfl (n217.ne rfl (n216.ne rfl e215))))))
  refine sv n237.ok rfl (wn _ rfl) rfl (o_fa (z := 2) e239 Try.underlying63 rfl (by kernel_rfl) rfl rfl) (fun an240 n240 => ?_)
  refine sv n240.ok rfl (wn _ rfl) rfl (o_ldA (k := 1) (cs := [.slice vas1 ((ints (formV (setD L1))).length) vcs1, .slice mas1 ((pairs (formM (setD L1))).length) mcs1]) n240.at_ (bk_part B222 rfl) Try.underlying30 rfl (by kernel_rfl)) (fun an241 n241 => ?_)
  have e242 := n241.ne rfl (n240.ne rfl (n237.ne rfl (n236.ne rfl (n235.ne rfl (n234.ne rfl (n233.ne rfl (n217.ne rfl (n216.ne rfl (n214.ne rfl (n212.ne rfl (n211.ne rfl (n210.ne rfl (n209.ne rfl (n208.ne rfl (n193.ne rfl (n192.ne rfl e191))))))))))))))))
  refine sv n241.ok rfl (wn _ rfl) rfl (o_fa (z := 2) e242 Try.underlying63 rfl (by kernel_rfl) rfl rfl) (fun an243 n243 => ?_)
  refine sv n243.ok rfl (wn _ rfl) rfl (o_ldA (k := 1) (cs := [.slice vas2 ((ints (formV (setD L2))).length) vcs2, .slice mas2 ((pairs (formM (setD L2))).length) mcs2]) n243.at_ (bk_part B223 rfl) Try.underlying30 rfl (by kernel_rfl)) (fun an244 n244 => ?_)
  refine sc n244.ok rfl (wn _ rfl) rfl (o_f2 Try.func38 rfl rfl rfl (n244.ne rfl (n243.ne rfl n241.at_)) n244.at_) (sjoin _ _ (setD L1) (setD L2) w218 (hks1.gr A226) (hks2.gr A227) (Sm.set L1) (Sm.set L2)) ?_
  rintro _ w246 ⟨kj, rfl, hkj, g247⟩
  obtain ⟨vaj, vcj, maj, mcj, rfl⟩ := hkj.form
  refine ⟨_, rfl, fun an245 n245 => ?_⟩
  have G248 := G220.trans g247
  have B249 := B221.gr g247
  have B250 := B222.gr g247
  have B251 := B223.gr g247
  have A252 := A224.trans g247
  have A253 := A225.trans g247
  have A254 := A226.trans g247
  have A255 := A227.trans g247
  have A256 := A228.trans g247
  have A257 := A229.trans g247
  have A258 := A230.trans g247
  have A259 := A232.trans g247
  have A261 := Gr.refl w246
  refine sv n245.ok rfl (wn _ rfl) rfl (o_mv n245.at_) (fun an262 n262 => ?_)
  refine sv n262.ok rfl (wn _ rfl) rfl (o_ex n262.at_ rfl) (fun an263 n263 => ?_)
  refine sv n263.ok rfl (wn _ rfl) rfl (o_ex (n263.ne rfl n262.at_) rfl) (fun an264 n264 => ?_)
  refine sal (cs := #[.slice none 0 0, .slice none 0 0]) n264.ok rfl (wn _ rfl) rfl (o_al (z := .agg #[.slice none 0 0, .slice none 0 0]) (by kernel_rfl)) (fun an265 w267 b266 W268 n265 => ?_)
  have l269 : b38 < b266 := by rw [W268.eq]; exact B249.lt
  have l270 : b91 < b266 := by rw [W268.eq]; exact B250.lt
  have l271 : b107 < b266 := by rw [W268.eq]; exact B251.lt
  have l272 : w.heap.size ≤ b266 := by rw [W268.eq]; exact G248.size
  have l273 : w14.heap.size ≤ b266 := by rw [W268.eq]; exact A252.size
  have l274 : w20.heap.size ≤ b266 := by rw [W268.eq]; exact A253.size
  have l275 : w66.heap.size ≤ b266 := by rw [W268.eq]; exact A254.size
  have l276 : w80.heap.size ≤ b266 := by rw [W268.eq]; exact A255.size
  have l277 : w148.heap.size ≤ b266 := by rw [W268.eq]; exact A256.size
  have l278 : w170.heap.size ≤ b266 := by rw [W268.eq]; exact A257.size
  have l279 : w194.heap.size ≤ b266 := by rw [W268.eq]; exact A258.size
  have l280 : w218.heap.size ≤ b266 := by rw [W268.eq]; exact A259.size
  have l281 : w246.heap.size ≤ b266 := by rw [W268.eq]; exact A261.size
  have G282 := G248.trans W268.gr
  have B283 := B249.gr W268.gr
  have B284 := B250.gr W268.gr
  have B285 := B251.gr W268.gr
  have A286 := A252.trans W268.gr
  have A287 := A253.trans W268.gr
  have A288 := A254.trans W268.gr
  have A289 := A255.trans W268.gr
  have A290 := A256.trans W268.gr
  have A291 := A257.trans W268.gr
  have A292 := A258.trans W268.gr
  have A293 := A259.trans W268.gr
  have A294 := A261.trans W268.gr
  refine ssR rfl (wn _ rfl) (o_stR n265.at_ (n265.ne rfl (n264.ne rfl n263.at_)) W268.bk (by kernel_rfl) rfl (by simp [Value.oneCell'])) W268.bk (fun w295 u296 u296b => ?_)
  have G297 : Gr w w295 := Below.upd G282 l272 u296
  have B298 := B283.upd u296 (Nat.ne_of_lt l269)
  have B299 := B284.upd u296 (Nat.ne_of_lt l270)
  have B300 := B285.upd u296 (Nat.ne_of_lt l271)
  have A301 : Gr w14 w295 := Below.upd A286 l273 u296
  have A302 : Gr w20 w295 := Below.upd A287 l274 u296
  have A303 : Gr w66 w295 := Below.upd A288 l275 u296
  have A304 : Gr w80 w295 := Below.upd A289 l276 u296
  have A305 : Gr w148 w295 := Below.upd A290 l277 u296
  have A306 : Gr w170 w295 := Below.upd A291 l278 u296
  have A307 : Gr w194 w295 := Below.upd A292 l279 u296
  have A308 : Gr w218 w295 := Below.upd A293 l280 u296
  have A309 : Gr w246 w295 := Below.upd A294 l281 u296
  refine sv n265.ok rfl (wn _ rfl) rfl (o_as (n265.ne rfl n264.at_)) (fun an310 n310 => ?_)
  refine wpList_nil ?_
  refine th_n (hK238 _ _ ?_)
  refine wp_seq_k (fun K311 hK311 => ?_)
  refine wp_region_lit ?_
  have e312 := n310.ne rfl (n265.ne rfl (n264.ne rfl (n263.ne rfl (n262.ne rfl (n245.ne rfl (n244.ne rfl (n243.ne rfl (n241.ne rfl (n240.ne rfl (n237.ne rfl (n236.ne rfl (n235.ne rfl (n234.ne rfl (n233.ne rfl (n217.ne rfl (n216.ne rfl (n214.ne rfl (n212.ne rfl (n211.ne rfl (n210.ne rfl (n209.ne rfl (n208.ne rfl (n193.ne rfl (n192.ne rfl (n190.ne rfl e189)))))))))))))))))))))))))
  refine sv n310.ok rfl (wn _ rfl) rfl (o_mv e312) (fun an313 n313 => ?_)
  have e314 := n313.ne rfl (n310.ne rfl (n265.ne rfl (n264.ne rfl (n263.ne rfl (n262.ne rfl (n245.ne rfl (n244.ne rfl (n243.ne rfl (n241.ne rfl (n240.ne rfl (n237.ne rfl (n236.ne rfl (n235.ne rfl (n234.ne rfl (n233.ne rfl (n217.ne rfl (n216.ne rfl (n214.ne rfl (n212.ne rfl (n211.ne rfl (n210.ne rfl (n209.ne rfl (n208.ne rfl (n193.ne rfl (n192.ne rfl (n190.ne rfl (n187.ne rfl (n186.ne rfl (n185.ne rfl (n184.ne rfl (n183.ne rfl (n169.ne rfl (n168.ne rfl (n166.ne rfl (n164.ne rfl (n163.ne rfl (n162.ne rfl (n161.ne rfl (n160.ne rfl (n147.ne rfl (n146.ne rfl (n145.ne rfl (n106.ne rfl (n90.ne rfl (n89.ne rfl (n79.ne rfl (n78.ne rfl (n76.ne rfl e75))))))))))))))))))))))))))))))))))))))))))))))))
  refine sv n313.ok rfl (wn _ rfl) rfl (o_mv e314) (fun an315 n315 => ?_)
  have e316 := n315.ne rfl (n313.ne rfl (n310.ne rfl n265.at_))
  refine sv n315.ok rfl (wn _ rfl) rfl (o_ldR e316 u296b Try.underlying30 rfl (by kernel_rfl)) (fun an317 n317 => ?_)
  refine sv n317.ok rfl (wn _ rfl) rfl (o_bd (cells := #[.string (bs (idOf (wi (((x.length : Nat) : Int)) 2))), .slice vaj ((ints (formV (orD (setD L1) (setD L2)))).length) vcj, .slice maj ((pairs (formM (orD (setD L1) (setD L2)))).length) mcj]) (vs := [(0, .string (bs (idOf (wi (((x.length : Nat) : Int)) 2)))), (1, .agg #[.slice vaj ((ints (formV (orD (setD L1) (setD L2)))).length) vcj, .slice maj ((pairs (formM (orD (setD L1) (setD L2)))).length) mcj])]) (by simp [(n317.ne rfl n315.at_), n317.at_, ev_const]) (by kernel_rfl)) (fun an318 n318 => ?_)
  have e319 := n318.ne rfl (n317.ne rfl (n315.ne rfl n313.at_))
  refine sc n318.ok rfl (wn _ rfl) rfl (o_f2 Try.func37 rfl rfl rfl e319 n318.at_) (sdrop_g R1 ra1 rc1 ((idOf (wi (((x.length : Nat) : Int)) 2))) (orD (setD L1) (setD L2)) vaj maj vcj mcj w295 (hr1.gr A302) (hm1.gr A302) (hkj.gr A309) (layL ((RT.map VerI.d))) (hR1) hX (idOf_ok _) (small_form (Sm.or (Sm.set L1) (Sm.set L2)))) ?_
  rintro _ w321 ⟨R6, ra6, rc6, rfl, hR6, hr6, hm6, g322⟩
  refine ⟨_, rfl, fun an320 n320 => ?_⟩
  have G323 := G297.trans g322
  have B324 := B298.gr g322
  have B325 := B299.gr g322
  have B326 := B300.gr g322
  have B327 := u296b.gr g322
  have A328 := A301.trans g322
  have A329 := A302.trans g322
  have A330 := A303.trans g322
  have A331 := A304.trans g322
  have A332 := A305.trans g322
  have A333 := A306.trans g322
  have A334 := A307.trans g322
  have A335 := A308.trans g322
  have A336 := A309.trans g322
  have A338 := Gr.refl w321
  refine sv n320.ok rfl (wn _ rfl) rfl (o_mv n320.at_) (fun an339 n339 => ?_)
  refine sv n339.ok rfl (wn _ rfl) rfl (o_ex n339.at_ rfl) (fun an340 n340 => ?_)
  refine sv n340.ok rfl (wn _ rfl) rfl (o_ex (n340.ne rfl n339.at_) rfl) (fun an341 n341 => ?_)
  refine sv n341.ok rfl (wn _ rfl) rfl (o_as (n341.ne rfl n340.at_)) (fun an342 n342 => ?_)
  refine sv n342.ok rfl (wn _ rfl) rfl (o_as (n342.ne rfl n341.at_)) (fun an343 n343 => ?_)
  refine wpList_nil ?_
  refine th_n (hK311 _ _ ?_)
  refine wp_seq_k (fun K344 hK344 => ?_)
  refine wp_seq_k (fun K345 hK345 => ?_)
  refine wp_region_lit ?_
  have e346 := n343.ne rfl (n342.ne rfl (n341.ne rfl (n340.ne rfl (n339.ne rfl (n320.ne rfl (n318.ne rfl (n317.ne rfl (n315.ne rfl (n313.ne rfl (n310.ne rfl (n265.ne rfl (n264.ne rfl (n263.ne rfl (n262.ne rfl (n245.ne rfl (n244.ne rfl (n243.ne rfl (n241.ne rfl (n240.ne rfl (n237.ne rfl (n236.ne rfl (n235.ne rfl (n234.ne rfl (n233.ne rfl (n217.ne rfl (n216.ne rfl (n214.ne rfl (n212.ne rfl (n211.ne rfl (n210.ne rfl (n209.ne rfl (n208.ne rfl (n193.ne rfl (n192.ne rfl (n190.ne rfl (n187.ne rfl (n186.ne rfl (n185.ne rfl (n184.ne rfl (n183.ne rfl (n169.ne rfl (n168.ne rfl (n166.ne rfl n164.at_)))))))))))))))))))))))))))))))))))))))))))
  refine sv n343.ok rfl (wn _ rfl) rfl (o_mv e346) (fun an347 n347 => ?_)
  refine sv n347.ok rfl (wn _ rfl) rfl (o_neq (b := false) n347.at_ ev_const (by decide)) (fun an348 n348 => ?_)
  refine sv n348.ok rfl (wn _ rfl) rfl (o_mv n348.at_) (fun an349 n349 => ?_)
  have e350 := n349.ne rfl (n348.ne rfl (n347.ne rfl (n343.ne rfl (n342.ne rfl (n341.ne rfl (n340.ne rfl (n339.ne rfl (n320.ne rfl (n318.ne rfl (n317.ne rfl (n315.ne rfl (n313.ne rfl (n310.ne rfl (n265.ne rfl (n264.ne rfl (n263.ne rfl (n262.ne rfl (n245.ne rfl (n244.ne rfl (n243.ne rfl (n241.ne rfl (n240.ne rfl (n237.ne rfl (n236.ne rfl (n235.ne rfl (n234.ne rfl (n233.ne rfl (n217.ne rfl (n216.ne rfl (n214.ne rfl (n212.ne rfl (n211.ne rfl (n210.ne rfl (n209.ne rfl (n208.ne rfl (n193.ne rfl (n192.ne rfl (n190.ne rfl n187.at_))))))))))))))))))))))))))))))))))))))
  refine sv n349.ok rfl (wgT rfl (yl 2 false rfl n349.at_) rfl) rfl (o_mv e350) (fun an351 n351 => ?_)
  refine sv n351.ok rfl (wgT rfl (yl 2 false rfl (n351.ne rfl n349.at_)) rfl) rfl (o_neq (b := false) n351.at_ ev_const (by decide)) (fun an352 n352 => ?_)
  refine sv n352.ok rfl (wn _ rfl) rfl (o_pkF (n352.ne rfl (n351.ne rfl n349.at_)) n352.at_) (fun an353 n353 => ?_)
  refine sv n353.ok rfl (wn _ rfl) rfl (o_mv n353.at_) (fun an354 n354 => ?_)
  have e355 := n354.ne rfl (n353.ne rfl (n352.ne rfl (n351.ne rfl (n349.ne rfl (n348.ne rfl (n347.ne rfl (n343.ne rfl (n342.ne rfl (n341.ne rfl (n340.ne rfl (n339.ne rfl (n320.ne rfl (n318.ne rfl (n317.ne rfl (n315.ne rfl (n313.ne rfl (n310.ne rfl (n265.ne rfl (n264.ne rfl (n263.ne rfl (n262.ne rfl (n245.ne rfl (n244.ne rfl (n243.ne rfl (n241.ne rfl (n240.ne rfl (n237.ne rfl (n236.ne rfl (n235.ne rfl (n234.ne rfl (n233.ne rfl (n217.ne rfl (n216.ne rfl (n214.ne rfl n212.at_))))))))))))))))))))))))))))))))))
  refine sv n354.ok rfl (wgT rfl (yl 6 false rfl n354.at_) rfl) rfl (o_mv e355) (fun an356 n356 => ?_)
  refine sv n356.ok rfl (wgT rfl (yl 6 false rfl (n356.ne rfl n354.at_)) rfl) rfl (o_neq (b := false) n356.at_ ev_const (by decide)) (fun an357 n357 => ?_)
  refine sv n357.ok rfl (wn _ rfl) rfl (o_pkF (n357.ne rfl (n356.ne rfl n354.at_)) n357.at_) (fun an358 n358 => ?_)
  refine sv n358.ok rfl (wn _ rfl) rfl (o_mv n358.at_) (fun an359 n359 => ?_)
  have e360 := n359.ne rfl (n358.ne rfl (n357.ne rfl (n356.ne rfl (n354.ne rfl (n353.ne rfl (n352.ne rfl (n351.ne rfl (n349.ne rfl (n348.ne rfl (n347.ne rfl (n343.ne rfl (n342.ne rfl (n341.ne rfl (n340.ne rfl (n339.ne rfl (n320.ne rfl (n318.ne rfl (n317.ne rfl (n315.ne rfl (n313.ne rfl (n310.ne rfl (n265.ne rfl (n264.ne rfl (n263.ne rfl (n262.ne rfl (n245.ne rfl (n244.ne rfl (n243.ne rfl (n241.ne rfl (n240.ne rfl n237.at_))))))))))))))))))))))))))))))
  refine sv n359.ok rfl (wgT rfl (yl 10 false rfl n359.at_) rfl) rfl (o_mv e360) (fun an361 n361 => ?_)
  refine sv n361.ok rfl (wgT rfl (yl 10 false rfl (n361.ne rfl n359.at_)) rfl) rfl (o_neq (b := false) n361.at_ ev_const (by decide)) (fun an362 n362 => ?_)
  refine sv n362.ok rfl (wn _ rfl) rfl (o_pkF (n362.ne rfl (n361.ne rfl n359.at_)) n362.at_) (fun an363 n363 => ?_)
  refine sv n363.ok rfl (wn _ rfl) rfl (o_mv n363.at_) (fun an364 n364 => ?_)
  have e365 := n364.ne rfl (n363.ne rfl (n362.ne rfl (n361.ne rfl (n359.ne rfl (n358.ne rfl (n357.ne rfl (n356.ne rfl (n354.ne rfl (n353.ne rfl (n352.ne rfl (n351.ne rfl (n349.ne rfl (n348.ne rfl (n347.ne rfl (n343.ne rfl (n342.ne rfl (n341.ne rfl (n340.ne rfl (n339.ne rfl (n320.ne rfl (n318.ne rfl (n317.ne rfl (n315.ne rfl (n313.ne rfl n310.at_))))))))))))))))))))))))
  refine sv n364.ok rfl (wgT rfl (yl 14 false rfl n364.at_) rfl) rfl (o_mv e365) (fun an366 n366 => ?_)
  refine sv n366.ok rfl (wgT rfl (yl 14 false rfl (n366.ne rfl n364.at_)) rfl) rfl (o_neq (b := false) n366.at_ ev_const (by decide)) (fun an367 n367 => ?_)
  refine sv n367.ok rfl (wn _ rfl) rfl (o_pkF (n367.ne rfl (n366.ne rfl n364.at_)) n367.at_) (fun an368 n368 => ?_)
  refine sv n368.ok rfl (wn _ rfl) rfl (o_mv n368.at_) (fun an369 n369 => ?_)
  have e370 := n369.ne rfl (n368.ne rfl (n367.ne rfl (n366.ne rfl (n364.ne rfl (n363.ne rfl (n362.ne rfl (n361.ne rfl (n359.ne rfl (n358.ne rfl (n357.ne rfl (n356.ne rfl (n354.ne rfl (n353.ne rfl (n352.ne rfl (n351.ne rfl (n349.ne rfl (n348.ne rfl (n347.ne rfl n343.at_))))))))))))))))))
  refine sv n369.ok rfl (wgT rfl (yl 18 false rfl n369.at_) rfl) rfl (o_mv e370) (fun an371 n371 => ?_)
  refine sv n371.ok rfl (wgT rfl (yl 18 false rfl (n371.ne rfl n369.at_)) rfl) rfl (o_neq (b := false) n371.at_ ev_const (by decide)) (fun an372 n372 => ?_)
  refine sv n372.ok rfl (wn _ rfl) rfl (o_pkF (n372.ne rfl (n371.ne rfl n369.at_)) n372.at_) (fun an373 n373 => ?_)
  refine sv n373.ok rfl (wn _ rfl) rfl (o_mv n373.at_) (fun an374 n374 => ?_)
  have e375 := n374.ne rfl (n373.ne rfl (n372.ne rfl (n371.ne rfl (n369.ne rfl (n368.ne rfl (n367.ne rfl (n366.ne rfl (n364.ne rfl (n363.ne rfl (n362.ne rfl (n361.ne rfl (n359.ne rfl (n358.ne rfl (n357.ne rfl (n356.ne rfl (n354.ne rfl (n353.ne rfl (n352.ne rfl (n351.ne rfl (n349.ne rfl (n348.ne rfl (n347.ne rfl (n343.ne rfl (n342.ne rfl (n341.ne rfl (n340.ne rfl (n339.ne rfl (n320.ne rfl (n318.ne rfl (n317.ne rfl (n315.ne rfl (n313.ne rfl (n310.ne rfl (n265.ne rfl (n264.ne rfl (n263.ne rfl (n262.ne rfl (n245.ne rfl (n244.ne rfl (n243.ne rfl (n241.ne rfl (n240.ne rfl (n237.ne rfl (n236.ne rfl (n235.ne rfl (n234.ne rfl (n233.ne rfl (n217.ne rfl (n216.ne rfl (n214.ne rfl (n212.ne rfl (n211.ne rfl (n210.ne rfl (n209.ne rfl (n208.ne rfl (n193.ne rfl (n192.ne rfl (n190.ne rfl (n187.ne rfl n186.at_)))))))))))))))))))))))))))))))))))))))))))))))))))))))))))
  refine sv n374.ok rfl (wgT rfl (yl 22 false rfl n374.at_) rfl) rfl (o_mv e375) (fun an376 n376 => ?_)
  have e377 := n376.ne rfl (n374.ne rfl (n373.ne rfl (n372.ne rfl (n371.ne rfl (n369.ne rfl (n368.ne rfl (n367.ne rfl (n366.ne rfl (n364.ne rfl (n363.ne rfl (n362.ne rfl (n361.ne rfl (n359.ne rfl (n358.ne rfl (n357.ne rfl (n356.ne rfl (n354.ne rfl (n353.ne rfl (n352.ne rfl (n351.ne rfl (n349.ne rfl (n348.ne rfl (n347.ne rfl (n343.ne rfl (n342.ne rfl (n341.ne rfl (n340.ne rfl (n339.ne rfl (n320.ne rfl (n318.ne rfl (n317.ne rfl (n315.ne rfl (n313.ne rfl (n310.ne rfl (n265.ne rfl (n264.ne rfl (n263.ne rfl (n262.ne rfl (n245.ne rfl (n244.ne rfl (n243.ne rfl (n241.ne rfl (n240.ne rfl (n237.ne rfl n236.at_))))))))))))))))))))))))))))))))))))))))))))
  refine sv n376.ok rfl (wgT rfl (yl 22 false rfl (n376.ne rfl n374.at_)) rfl) rfl (o_mv e377) (fun an378 n378 => ?_)
  refine sc n378.ok rfl (wgT rfl (yl 22 false rfl (n378.ne rfl (n376.ne rfl n374.at_))) rfl) rfl (o_f2 Try.func21 rfl rfl rfl (n378.ne rfl n376.at_) n378.at_) (same_eq R3 R5 ra3 ra5 rc3 rc5 (svKeep (layL (RT.map VerI.d)) (gonD (idOf (wi (((x.length : Nat) : Int)) 2)) (orD (setD L1) (setD L2)))) ((okS_iff _).1 (keep_chk hX _)) (hR3.trans (keep_or (idOf (wi (((x.length : Nat) : Int)) 2)) (setD L1) (setD L2) hXd)) (hR5.trans ((keep_or (idOf (wi (((x.length : Nat) : Int)) 2)) (setD L2) (setD L1) hXd).trans (congrArg (svKeep _) (gonD_congr (orD_comm (setD L2) (setD L1)))))) w321 (hr3.gr A333) (hm3.gr A333) (hr5.gr A335) (hm5.gr A335)) ?_
  rintro _ w380 ⟨rfl, g381⟩
  refine ⟨_, rfl, fun an379 n379 => ?_⟩
  have G382 := G323.trans g381
  have B383 := B324.gr g381
  have B384 := B325.gr g381
  have B385 := B326.gr g381
  have B386 := B327.gr g381
  have A387 := A328.trans g381
  have A388 := A329.trans g381
  have A389 := A330.trans g381
  have A390 := A331.trans g381
  have A391 := A332.trans g381
  have A392 := A333.trans g381
  have A393 := A334.trans g381
  have A394 := A335.trans g381
  have A395 := A336.trans g381
  have A396 := A338.trans g381
  have e397 := n379.ne rfl (n378.ne rfl (n376.ne rfl n374.at_))
  refine sv n379.ok rfl (wgT rfl (yl 22 false rfl e397) rfl) rfl (o_not n379.at_ rfl) (fun an398 n398 => ?_)
  refine sv n398.ok rfl (wn _ rfl) rfl (o_pkF (n398.ne rfl e397) n398.at_) (fun an399 n399 => ?_)
  refine sv n399.ok rfl (wn _ rfl) rfl (o_mv n399.at_) (fun an400 n400 => ?_)
  have e401 := n400.ne rfl (n399.ne rfl (n398.ne rfl (n379.ne rfl (n378.ne rfl (n376.ne rfl e375)))))
  refine sv n400.ok rfl (wgT rfl (yl 28 false rfl n400.at_) rfl) rfl (o_mv e401) (fun an402 n402 => ?_)
  have e403 := n402.ne rfl (n400.ne rfl (n399.ne rfl (n398.ne rfl (n379.ne rfl (n378.ne rfl (n376.ne rfl (n374.ne rfl (n373.ne rfl (n372.ne rfl (n371.ne rfl (n369.ne rfl (n368.ne rfl (n367.ne rfl (n366.ne rfl (n364.ne rfl (n363.ne rfl (n362.ne rfl (n361.ne rfl (n359.ne rfl (n358.ne rfl (n357.ne rfl (n356.ne rfl (n354.ne rfl (n353.ne rfl (n352.ne rfl (n351.ne rfl (n349.ne rfl (n348.ne rfl (n347.ne rfl (n343.ne rfl n342.at_))))))))))))))))))))))))))))))
  refine sv n402.ok rfl (wgT rfl (yl 28 false rfl (n402.ne rfl n400.at_)) rfl) rfl (o_mv e403) (fun an404 n404 => ?_)
  refine sc n404.ok rfl (wgT rfl (yl 28 false rfl (n404.ne rfl (n402.ne rfl n400.at_))) rfl) rfl (o_f2 Try.func21 rfl rfl rfl (n404.ne rfl n402.at_) n404.at_) (same_eq R3 R6 ra3 ra6 rc3 rc6 (svKeep (layL (RT.map VerI.d)) (gonD (idOf (wi (((x.length : Nat) : Int)) 2)) (orD (setD L1) (setD L2)))) ((okS_iff _).1 (keep_chk hX _)) (hR3.trans (keep_or (idOf (wi (((x.length : Nat) : Int)) 2)) (setD L1) (setD L2) hXd)) hR6 w380 (hr3.gr A392) (hm3.gr A392) (hr6.gr A396) (hm6.gr A396)) ?_
  rintro _ w406 ⟨rfl, g407⟩
  refine ⟨_, rfl, fun an405 n405 => ?_⟩
  have G408 := G382.trans g407
  have B409 := B383.gr g407
  have B410 := B384.gr g407
  have B411 := B385.gr g407
  have B412 := B386.gr g407
  have A413 := A387.trans g407
  have A414 := A388.trans g407
  have A415 := A389.trans g407
  have A416 := A390.trans g407
  have A417 := A391.trans g407
  have A418 := A392.trans g407
  have A419 := A393.trans g407
  have A420 := A394.trans g407
  have A421 := A395.trans g407
  have A422 := A396.trans g407
  have e423 := n405.ne rfl (n404.ne rfl (n402.ne rfl n400.at_))
  refine sv n405.ok rfl (wgT rfl (yl 28 false rfl e423) rfl) rfl (o_not n405.at_ rfl) (fun an424 n424 => ?_)
  refine sv n424.ok rfl (wn _ rfl) rfl (o_pkF (n424.ne rfl e423) n424.at_) (fun an425 n425 => ?_)
  refine wpList_nil ?_
  refine th_n (hK345 _ _ ?_)
  refine wp_cond_false (n425.at_) ?_
  refine wp_skip ?_
  refine th_n (hK344 _ _ ?_)
  refine wp_seq_k (fun K426 hK426 => ?_)
  refine wp_region_lit ?_
  have e427 := n425.ne rfl (n424.ne rfl (n405.ne rfl (n404.ne rfl (n402.ne rfl e401))))
  refine sv n425.ok rfl (wn _ rfl) rfl (o_mv e427) (fun an428 n428 => ?_)
  have e429 := n428.ne rfl (n425.ne rfl (n424.ne rfl (n405.ne rfl (n404.ne rfl (n402.ne rfl (n400.ne rfl (n399.ne rfl (n398.ne rfl (n379.ne rfl (n378.ne rfl (n376.ne rfl (n374.ne rfl (n373.ne rfl (n372.ne rfl (n371.ne rfl (n369.ne rfl (n368.ne rfl (n367.ne rfl (n366.ne rfl (n364.ne rfl (n363.ne rfl (n362.ne rfl (n361.ne rfl (n359.ne rfl (n358.ne rfl (n357.ne rfl (n356.ne rfl (n354.ne rfl (n353.ne rfl (n352.ne rfl (n351.ne rfl (n349.ne rfl (n348.ne rfl (n347.ne rfl (n343.ne rfl (n342.ne rfl (n341.ne rfl (n340.ne rfl (n339.ne rfl (n320.ne rfl (n318.ne rfl (n317.ne rfl (n315.ne rfl e314)))))))))))))))))))))))))))))))))))))))))))
  refine sv n428.ok rfl (wn _ rfl) rfl (o_mv e429) (fun an430 n430 => ?_)
  refine sv n430.ok rfl (wn _ rfl) rfl (o_bd (cells := #[.int .i64 1, .int .i64 900]) (vs := [(0, .int .i64 1), (1, .int .i64 900)]) (by simp [ev_const]) (by kernel_rfl)) (fun an431 n431 => ?_)
  have e432 := n431.ne rfl (n430.ne rfl (n428.ne rfl (n425.ne rfl (n424.ne rfl (n405.ne rfl (n404.ne rfl (n402.ne rfl (n400.ne rfl (n399.ne rfl (n398.ne rfl (n379.ne rfl (n378.ne rfl (n376.ne rfl (n374.ne rfl (n373.ne rfl (n372.ne rfl (n371.ne rfl (n369.ne rfl (n368.ne rfl (n367.ne rfl (n366.ne rfl (n364.ne rfl (n363.ne rfl (n362.ne rfl (n361.ne rfl (n359.ne rfl (n358.ne rfl (n357.ne rfl (n356.ne rfl (n354.ne rfl (n353.ne rfl (n352.ne rfl (n351.ne rfl (n349.ne rfl (n348.ne rfl (n347.ne rfl (n343.ne rfl (n342.ne rfl (n341.ne rfl (n340.ne rfl (n339.ne rfl (n320.ne rfl (n318.ne rfl (n317.ne rfl e316))))))))))))))))))))))))))))))))))))))))))))
  refine sv n431.ok rfl (wn _ rfl) rfl (o_ldR e432 B412 Try.underlying30 rfl (by kernel_rfl)) (fun an433 n433 => ?_)
  refine sv n433.ok rfl (wn _ rfl) rfl (o_bd (cells := #[.string (bs (idOf (wi (((x.length : Nat) : Int)) 2))), .int .i64 1, .int .i64 900, .int .i64 0, .int .i64 0, .int .i64 0, .slice vaj ((ints (formV (orD (setD L1) (setD L2)))).length) vcj, .slice maj ((pairs (formM (orD (setD L1) (setD L2)))).length) mcj]) (vs := [(0, .string (bs (idOf (wi (((x.length : Nat) : Int)) 2)))), (1, .agg #[.int .i64 1, .int .i64 900]), (4, .agg #[.slice vaj ((ints (formV (orD (setD L1) (setD L2)))).length) vcj, .slice maj ((pairs (formM (orD (setD L1) (setD L2)))).length) mcj])]) (by simp [(n433.ne rfl (n431.ne rfl n430.at_)), (n433.ne rfl n431.at_), n433.at_, ev_const]) (by kernel_rfl)) (fun an434 n434 => ?_)
  have hdp := drop_put hT hv hlM (idOf_ok _) (Sm.or (Sm.set L1) (Sm.set L2)) (id := (idOf (wi (((x.length : Nat) : Int)) 2)))
  have e435 := n434.ne rfl (n433.ne rfl (n431.ne rfl (n430.ne rfl n428.at_)))
  refine sc n434.ok rfl (wn _ rfl) rfl (o_f2 Try.func34 rfl rfl rfl e435 n434.at_) (sput_far R3 ra3 rc3 (idOf (wi (((x.length : Nat) : Int)) 2)) 1 0 (orD (setD L1) (setD L2)) vaj maj vcj mcj w406 (hr3.gr A418) (hm3.gr A418) (hkj.gr A421) _ _ (hR3.trans (keep_or (idOf (wi (((x.length : Nat) : Int)) 2)) (setD L1) (setD L2) hXd)) hdp.1 hdp.2.1) ?_
  rintro _ w437 ⟨R7, ra7, rc7, rfl, hR7, hr7, hm7, g438⟩
  refine ⟨_, rfl, fun an436 n436 => ?_⟩
  have G439 := G408.trans g438
  have B440 := B409.gr g438
  have B441 := B410.gr g438
  have B442 := B411.gr g438
  have B443 := B412.gr g438
  have A444 := A413.trans g438
  have A445 := A414.trans g438
  have A446 := A415.trans g438
  have A447 := A416.trans g438
  have A448 := A417.trans g438
  have A449 := A418.trans g438
  have A450 := A419.trans g438
  have A451 := A420.trans g438
  have A452 := A421.trans g438
  have A453 := A422.trans g438
  have A455 := Gr.refl w437
  refine sv n436.ok rfl (wn _ rfl) rfl (o_mv n436.at_) (fun an456 n456 => ?_)
  refine sv n456.ok rfl (wn _ rfl) rfl (o_ex n456.at_ rfl) (fun an457 n457 => ?_)
  refine sv n457.ok rfl (wn _ rfl) rfl (o_ex (n457.ne rfl n456.at_) rfl) (fun an458 n458 => ?_)
  refine sv n458.ok rfl (wn _ rfl) rfl (o_as (n458.ne rfl n457.at_)) (fun an459 n459 => ?_)
  refine sv n459.ok rfl (wn _ rfl) rfl (o_as (n459.ne rfl n458.at_)) (fun an460 n460 => ?_)
  refine wpList_nil ?_
  refine th_n (hK426 _ _ ?_)
  refine wp_seq_k (fun K461 hK461 => ?_)
  refine wp_region_lit ?_
  have e462 := n460.ne rfl (n459.ne rfl (n458.ne rfl (n457.ne rfl (n456.ne rfl (n436.ne rfl (n434.ne rfl (n433.ne rfl (n431.ne rfl (n430.ne rfl (n428.ne rfl (n425.ne rfl (n424.ne rfl (n405.ne rfl (n404.ne rfl (n402.ne rfl (n400.ne rfl (n399.ne rfl (n398.ne rfl (n379.ne rfl (n378.ne rfl (n376.ne rfl (n374.ne rfl (n373.ne rfl (n372.ne rfl (n371.ne rfl (n369.ne rfl (n368.ne rfl (n367.ne rfl (n366.ne rfl (n364.ne rfl (n363.ne rfl (n362.ne rfl (n361.ne rfl (n359.ne rfl (n358.ne rfl (n357.ne rfl (n356.ne rfl (n354.ne rfl (n353.ne rfl (n352.ne rfl (n351.ne rfl (n349.ne rfl (n348.ne rfl (n347.ne rfl (n343.ne rfl (n342.ne rfl (n341.ne rfl (n340.ne rfl (n339.ne rfl (n320.ne rfl (n318.ne rfl (n317.ne rfl (n315.ne rfl (n313.ne rfl e312))))))))))))))))))))))))))))))))))))))))))))))))))))))
  refine sv n460.ok rfl (wn _ rfl) rfl (o_mv e462) (fun an463 n463 => ?_)
  have e464 := n463.ne rfl (n460.ne rfl (n459.ne rfl (n458.ne rfl (n457.ne rfl (n456.ne rfl (n436.ne rfl (n434.ne rfl (n433.ne rfl (n431.ne rfl (n430.ne rfl e429))))))))))
  refine sv n463.ok rfl (wn _ rfl) rfl (o_mv e464) (fun an465 n465 => ?_)
  refine sv n465.ok rfl (wn _ rfl) rfl (o_bd (cells := #[.int .i64 1, .int .i64 900]) (vs := [(0, .int .i64 1), (1, .int .i64 900)]) (by simp [ev_const]) (by kernel_rfl)) (fun an466 n466 => ?_)
  have e467 := n466.ne rfl (n465.ne rfl (n463.ne rfl (n460.ne rfl (n459.ne rfl (n458.ne rfl (n457.ne rfl (n456.ne rfl (n436.ne rfl (n434.ne rfl (n433.ne rfl e432))))))))))
  refine sv n466.ok rfl (wn _ rfl) rfl (o_ldR e467 B443 Try.underlying30 rfl (by kernel_rfl)) (fun an468 n468 => ?_)
  refine sv n468.ok rfl (wn _ rfl) rfl (o_bd (cells := #[.string (bs (idOf (wi (((x.length : Nat) : Int)) 2))), .int .i64 1, .int .i64 900, .int .i64 0, .int .i64 0, .int .i64 0, .slice vaj ((ints (formV (orD (setD L1) (setD L2)))).length) vcj, .slice maj ((pairs (formM (orD (setD L1) (setD L2)))).length) mcj]) (vs := [(0, .string (bs (idOf (wi (((x.length : Nat) : Int)) 2)))), (1, .agg #[.int .i64 1, .int .i64 900]), (4, .agg #[.slice vaj ((ints (formV (orD (setD L1) (setD L2)))).length) vcj, .slice maj ((pairs (formM (orD (setD L1) (setD L2)))).length) mcj])]) (by simp [(n468.ne rfl (n466.ne rfl n465.at_)), (n468.ne rfl n466.at_), n468.at_, ev_const]) (by kernel_rfl)) (fun an469 n469 => ?_)
  have e470 := n469.ne rfl (n468.ne rfl (n466.ne rfl (n465.ne rfl n463.at_)))
  refine sc n469.ok rfl (wn _ rfl) rfl (o_f2 Try.func34 rfl rfl rfl e470 n469.at_) (sput_far R1 ra1 rc1 (idOf (wi (((x.length : Nat) : Int)) 2)) 1 0 (orD (setD L1) (setD L2)) vaj maj vcj mcj w437 (hr1.gr A445) (hm1.gr A445) (hkj.gr A452) _ _ hR1 hdp.2.2.1 hdp.2.2.2) ?_
  rintro _ w472 ⟨R8, ra8, rc8, rfl, hR8, hr8, hm8, g473⟩
  refine ⟨_, rfl, fun an471 n471 => ?_⟩
  have G474 := G439.trans g473
  have B475 := B440.gr g473
  have B476 := B441.gr g473
  have B477 := B442.gr g473
  have B478 := B443.gr g473
  have A479 := A444.trans g473
  have A480 := A445.trans g473
  have A481 := A446.trans g473
  have A482 := A447.trans g473
  have A483 := A448.trans g473
  have A484 := A449.trans g473
  have A485 := A450.trans g473
  have A486 := A451.trans g473
  have A487 := A452.trans g473
  have A488 := A453.trans g473
  have A489 := A455.trans g473
  have A491 := Gr.refl w472
  refine sv n471.ok rfl (wn _ rfl) rfl (o_mv n471.at_) (fun an492 n492 => ?_)
  refine sv n492.ok rfl (wn _ rfl) rfl (o_ex n492.at_ rfl) (fun an493 n493 => ?_)
  refine sv n493.ok rfl (wn _ rfl) rfl (o_ex (n493.ne rfl n492.at_) rfl) (fun an494 n494 => ?_)
  refine sv n494.ok rfl (wn _ rfl) rfl (o_as (n494.ne rfl n493.at_)) (fun an495 n495 => ?_)
  refine sv n495.ok rfl (wn _ rfl) rfl (o_as (n495.ne rfl n494.at_)) (fun an496 n496 => ?_)
  refine wpList_nil ?_
  refine th_n (hK461 _ _ ?_)
  refine wp_seq_k (fun K497 hK497 => ?_)
  refine wp_region_lit ?_
  have e498 := n496.ne rfl (n495.ne rfl (n494.ne rfl (n493.ne rfl (n492.ne rfl (n471.ne rfl (n469.ne rfl (n468.ne rfl (n466.ne rfl (n465.ne rfl (n463.ne rfl n460.at_))))))))))
  refine sv n496.ok rfl (wn _ rfl) rfl (o_mv e498) (fun an499 n499 => ?_)
  refine sv n499.ok rfl (wn _ rfl) rfl (o_eq (b := true) n499.at_ ev_const (by decide)) (fun an500 n500 => ?_)
  refine sv n500.ok rfl (wn _ rfl) rfl (o_mv n500.at_) (fun an501 n501 => ?_)
  have e502 := n501.ne rfl (n500.ne rfl (n499.ne rfl n496.at_))
  refine sv n501.ok rfl (wgT rfl (yl 2 true rfl n501.at_) rfl) rfl (o_mv e502) (fun an503 n503 => ?_)
  refine sv n503.ok rfl (wgT rfl (yl 2 true rfl (n503.ne rfl n501.at_)) rfl) rfl (o_eq (b := true) n503.at_ ev_const (by decide)) (fun an504 n504 => ?_)
  refine sv n504.ok rfl (wn _ rfl) rfl (o_pkT (n504.ne rfl (n503.ne rfl n501.at_)) n504.at_) (fun an505 n505 => ?_)
  refine sv n505.ok rfl (wn _ rfl) rfl (o_mv n505.at_) (fun an506 n506 => ?_)
  have e507 := n506.ne rfl (n505.ne rfl (n504.ne rfl (n503.ne rfl (n501.ne rfl (n500.ne rfl (n499.ne rfl (n496.ne rfl (n495.ne rfl (n494.ne rfl (n493.ne rfl (n492.ne rfl (n471.ne rfl (n469.ne rfl (n468.ne rfl (n466.ne rfl (n465.ne rfl (n463.ne rfl (n460.ne rfl n459.at_))))))))))))))))))
  refine sv n506.ok rfl (wgT rfl (yl 6 true rfl n506.at_) rfl) rfl (o_mv e507) (fun an508 n508 => ?_)
  have e509 := n508.ne rfl (n506.ne rfl (n505.ne rfl (n504.ne rfl (n503.ne rfl (n501.ne rfl (n500.ne rfl (n499.ne rfl (n496.ne rfl n495.at_))))))))
  refine sv n508.ok rfl (wgT rfl (yl 6 true rfl (n508.ne rfl n506.at_)) rfl) rfl (o_mv e509) (fun an510 n510 => ?_)
  refine sc n510.ok rfl (wgT rfl (yl 6 true rfl (n510.ne rfl (n508.ne rfl n506.at_))) rfl) rfl (o_f2 Try.func21 rfl rfl rfl (n510.ne rfl n508.at_) n510.at_) (same_eq R7 R8 ra7 ra8 rc7 rc8 (svIns (svKeep (layL (RT.map VerI.d)) (gonD (idOf (wi (((x.length : Nat) : Int)) 2)) (orD (setD L1) (setD L2)))) (farV (idOf (wi (((x.length : Nat) : Int)) 2)) 1 0 (orD (setD L1) (setD L2)))) ((okS_iff _).1 (by rw [← hdp.2.2.2]; exact putL_ok hX)) hR7 hR8 w472 (hr7.gr A489) (hm7.gr A489) (hr8.gr A491) (hm8.gr A491)) ?_
  rintro _ w512 ⟨rfl, g513⟩
  refine ⟨_, rfl, fun an511 n511 => ?_⟩
  have G514 := G474.trans g513
  have B515 := B475.gr g513
  have B516 := B476.gr g513
  have B517 := B477.gr g513
  have B518 := B478.gr g513
  have A519 := A479.trans g513
  have A520 := A480.trans g513
  have A521 := A481.trans g513
  have A522 := A482.trans g513
  have A523 := A483.trans g513
  have A524 := A484.trans g513
  have A525 := A485.trans g513
  have A526 := A486.trans g513
  have A527 := A487.trans g513
  have A528 := A488.trans g513
  have A529 := A489.trans g513
  have A530 := A491.trans g513
  have e531 := n511.ne rfl (n510.ne rfl (n508.ne rfl n506.at_))
  refine sv n511.ok rfl (wn _ rfl) rfl (o_pkT e531 n511.at_) (fun an532 n532 => ?_)
  refine sv n532.ok rfl (wn _ rfl) rfl (o_as n532.at_) (fun an533 n533 => ?_)
  refine wpList_nil ?_
  refine th_n (hK497 _ _ ?_)
  refine wp_ret ?_
  exact ret1 n533.ok rfl (n533.at_) ⟨rfl, G514⟩
end Go.Proofs.Ytoencnbpjjkjnaa
