/- The walk of ShelfJoins. -/
import Derived.Test.YtoencnbpjjkjnaaSj5
set_option linter.unusedVariables false
set_option linter.unusedSimpArgs false
namespace Go.Proofs.Ytoencnbpjjkjnaa
open Go.RowKit Rm Gx
theorem mapd_sub {K L : List VerI} (h : ∀ x ∈ K, x ∈ L) : ∀ x ∈ K.map VerI.d, x ∈ L.map VerI.d := fun x hx => by
  obtain ⟨y, hy, rfl⟩ := List.mem_map.1 hx
  exact List.mem_map_of_mem (h y hy)
theorem joined_sub {T Y1 Y2 : List VerD} {R1 R2 : List VerI} (hT : TR T) (h1 : ∀ x ∈ Y1, x ∈ T) (h2 : ∀ x ∈ Y2, x ∈ T) (e1 : R1.map VerI.d = layL Y1) (e2 : R2.map VerI.d = layL Y2) : ∀ x ∈ (R1 ++ R2).map VerI.d, x ∈ T := fun x hx => by
  rw [List.map_append, e1, e2] at hx
  rcases List.mem_append.1 hx with hx | hx
  · exact (lay_is hT h1).sub h1 x hx
  · exact (lay_is hT h2).sub h2 x hx
/-- two stores put together are the store of all -/
theorem joined {T Y1 Y2 : List VerD} {R1 R2 R : List VerI} (hT : TR T) (h1 : ∀ x ∈ Y1, x ∈ T) (h2 : ∀ x ∈ Y2, x ∈ T) (e1 : R1.map VerI.d = layL Y1) (e2 : R2.map VerI.d = layL Y2) (hall : ∀ x, x ∈ T → x ∈ Y1 ++ Y2) (e : R.map VerI.d = layL ((R1 ++ R2).map VerI.d)) : R.map VerI.d = layL T := by
  have hs := joined_sub hT h1 h2 e1 e2
  rw [e]
  have k := lay_is hT hs
  rw [List.map_append, e1, e2] at k ⊢
  have j := (IsMax.join hT h1 h2 (lay_is hT h1) (lay_is hT h2) k).congr (S' := T) fun x => ⟨fun hx => (List.mem_append.1 hx).elim (h1 x) (h2 x), hall x⟩
  exact j.uniq (lay_is hT (fun x hx => hx))
theorem lay_len {T Y : List VerD} {R : List VerI} (hT : TR T) (h : ∀ x ∈ Y, x ∈ T) (e : R.map VerI.d = layL Y) : R.length ≤ 60 := by
  have h1 := (lay_is hT h).ok.len
  have h2 := congrArg List.length e
  rw [List.length_map] at h2
  omega
theorem parts_all (L : List VerI) (k : Nat) (x : VerD) (hx : x ∈ L.map VerI.d) : x ∈ (L.take k).map VerI.d ++ (L.drop k).map VerI.d := by
  rw [← List.map_append, List.take_append_drop]
  exact hx
theorem parts_all2 (L : List VerI) (k : Nat) (x : VerD) (hx : x ∈ L.map VerI.d) : x ∈ (L.drop k).map VerI.d ++ (L.take k).map VerI.d := by
  have := parts_all L k x hx
  rcases List.mem_append.1 this with h | h
  · exact List.mem_append.2 (.inr h)
  · exact List.mem_append.2 (.inl h)
set_option maxHeartbeats 8000000 in
set_option maxRecDepth 100000 in
theorem shelfJoins_walk (aP aQ : Option Addr) (cP cQ : Nat) (LP LQ : List (List Int)) (hcP : LP.length ≤ cP) (hcQ : LQ.length ≤ cQ) (hnP : aP = none → cP = 0) (hnQ : aQ = none → cQ = 0) (hsQ : LQ.length ≤ 5864062014634) (w : World) (hP : RdLc w aP LP) (hQ : RdLc w aQ LQ) :
    Calls Try.prog 8 #[.slice aP LP.length cP, .slice aQ LQ.length cQ] w fun e w' => e = .returned (.bool true) ∧ Gr w w' := by
  refine enter (N := 109) Try.func8 rfl rfl rfl (fun a0 ok0 h0 => ?_)
  have e0_0 : a0.eval (.tmp 0) = .slice aP LP.length cP := h0 0 _ rfl
  have e0_1 : a0.eval (.tmp 1) = .slice aQ LQ.length cQ := h0 1 _ rfl
  clear h0
  have G0 := Gr.refl w
  obtain ⟨kP, hkP⟩ : ∃ k, min LP.length 10 = k := ⟨_, rfl⟩
  refine wp_seq_k (fun K1 hK1 => ?_)
  refine wp_region_lit ?_
  refine sv ok0 rfl (wn _ rfl) rfl (o_as ev_const) (fun an2 n2 => ?_)
  refine wpList_nil ?_
  refine th_n (hK1 _ _ ?_)
  refine wp_seq_k (fun K3 hK3 => ?_)
  refine wp_seq_k (fun K4 hK4 => ?_)
  refine wp_region_lit ?_
  refine sc n2.ok rfl (wn _ rfl) rfl (o_f0 Try.func22 rfl rfl rfl ) (begun_shelf w) ?_
  rintro _ w6 ⟨rfl, g7⟩
  refine ⟨_, rfl, fun an5 n5 => ?_⟩
  have G8 := G0.trans g7
  refine sv n5.ok rfl (wn _ rfl) rfl (o_not n5.at_ rfl) (fun an9 n9 => ?_)
  refine wpList_nil ?_
  refine th_n (hK4 _ _ ?_)
  refine wp_cond_false (n9.at_) ?_
  refine wp_skip ?_
  refine th_n (hK3 _ _ ?_)
  refine wp_seq_k (fun K10 hK10 => ?_)
  refine wp_region_lit ?_
  have e11 := n9.ne rfl (n5.ne rfl (n2.ne rfl e0_0))
  refine sv n9.ok rfl (wn _ rfl) rfl (o_mv e11) (fun an12 n12 => ?_)
  refine sv n12.ok rfl (wn _ rfl) rfl (o_mv (n12.ne rfl e11)) (fun an13 n13 => ?_)
  refine sv n13.ok rfl (wn _ rfl) rfl (o_len n13.at_ Try.underlying45) (fun an14 n14 => ?_)
  refine sv n14.ok rfl (wn _ rfl) rfl (o_minN n14.at_ ev_const hkP) (fun an15 n15 => ?_)
  have e16 := n15.ne rfl (n14.ne rfl (n13.ne rfl n12.at_))
  refine sv n15.ok rfl (wn _ rfl) rfl (o_cutT (k := kP) (s := 1) (m := (LP.take kP).length) e16 n15.at_ Try.underlying45 (by kernel_rfl) (by omega) (by rw [List.length_take]; omega)) (fun an17 n17 => ?_)
  have e18 := n17.ne rfl (n15.ne rfl (n14.ne rfl (n13.ne rfl (n12.ne rfl (n9.ne rfl (n5.ne rfl (n2.ne rfl e0_1)))))))
  refine sv n17.ok rfl (wn _ rfl) rfl (o_mv e18) (fun an19 n19 => ?_)
  obtain ⟨i20, i20a, i20b, i20c⟩ := info3_of (show (Try.prog.info? 45).map (fun i => (i.zero, i.size)) = some (some (.slice none 0 0), 1) by kernel_rfl)
  refine sals (cs := #[.slice aP ((LP.take kP).length) cP, .slice aQ LQ.length cQ]) n19.ok rfl (wn _ rfl) rfl (o_bs (vs := [(0, .slice aP ((LP.take kP).length) cP), (1, .slice aQ LQ.length cQ)]) (by simp [(n19.ne rfl n17.at_), n19.at_, ev_const]) Try.underlying112 i20a i20b (by rw [i20c]; rfl) (by rw [i20c]; rfl) (by rw [i20c]; kernel_rfl)) (fun an21 w23 b22 W24 n21 => ?_)
  have l25 : w.heap.size ≤ b22 := by rw [W24.eq]; exact G8.size
  have G26 := G8.trans W24.gr
  refine sc n21.ok rfl (wn _ rfl) rfl (o_f1 Try.func39 rfl rfl rfl n21.at_) (concatRows (LP.take kP) LQ aP aQ cP cQ b22 _ w23 (by rw [List.length_take]; omega) hcQ hnP hnQ (by rw [List.length_take]; omega) (RdLc.take (hP.gr G26)) (hQ.gr G26) W24.bk) ?_
  rintro _ w28 ⟨cv, rfl, hcv, g29⟩
  refine ⟨_, rfl, fun an27 n27 => ?_⟩
  have G30 := G26.trans g29
  have B31 := W24.bk.gr g29
  refine sc n27.ok rfl (wn _ rfl) rfl (o_f1 Try.func23 rfl rfl rfl n27.at_) (told_any cv (LP.take kP ++ LQ) w28 hcv) ?_
  rintro _ w33 ⟨RT, raT, rcT, vT, rfl, hT, hv, hlT, hrT, hmT, hcT, g34⟩
  have hTR := hT.tr (by rw [List.length_map]; omega)
  have hlM : (RT.map VerI.d).length ≤ 20 := by rw [List.length_map]; exact hlT
  have hMX := lay_is hTR (fun x hx => hx)
  refine ⟨_, rfl, fun an32 n32 => ?_⟩
  have G35 := G30.trans g34
  have B36 := B31.gr g34
  have A38 := Gr.refl w33
  refine sv n32.ok rfl (wn _ rfl) rfl (o_as n32.at_) (fun an39 n39 => ?_)
  refine wpList_nil ?_
  refine th_n (hK10 _ _ ?_)
  refine wp_seq_k (fun K40 hK40 => ?_)
  refine wp_region_lit ?_
  have e41 := n39.ne rfl (n32.ne rfl (n27.ne rfl (n21.ne rfl (n19.ne rfl (n17.ne rfl (n15.ne rfl (n14.ne rfl (n13.ne rfl (n12.ne rfl e11)))))))))
  refine sv n39.ok rfl (wn _ rfl) rfl (o_mv e41) (fun an42 n42 => ?_)
  refine sv n42.ok rfl (wn _ rfl) rfl (o_len n42.at_ Try.underlying45) (fun an43 n43 => ?_)
  refine sv n43.ok rfl (wn _ rfl) rfl (o_mv (n43.ne rfl (n42.ne rfl n39.at_))) (fun an44 n44 => ?_)
  refine sv n44.ok rfl (wn _ rfl) rfl (o_len n44.at_ Try.underlying22) (fun an45 n45 => ?_)
  obtain ⟨kc, hkc⟩ : ∃ k, min (min LP.length 10) RT.length = k := ⟨_, rfl⟩
  have hkc2 : kc ≤ RT.length := by omega
  refine sv n45.ok rfl (wn _ rfl) rfl (o_min3 (n45.ne rfl (n44.ne rfl n43.at_)) ev_const n45.at_ hkc) (fun an46 n46 => ?_)
  refine sv n46.ok rfl (wn _ rfl) rfl (o_as n46.at_) (fun an47 n47 => ?_)
  refine wpList_nil ?_
  refine th_n (hK40 _ _ ?_)
  refine wp_seq_k (fun K48 hK48 => ?_)
  refine wp_region_lit ?_
  have e49 := n47.ne rfl (n46.ne rfl (n45.ne rfl (n44.ne rfl (n43.ne rfl (n42.ne rfl n39.at_)))))
  refine sv n47.ok rfl (wn _ rfl) rfl (o_mv e49) (fun an50 n50 => ?_)
  refine sv n50.ok rfl (wn _ rfl) rfl (o_mv (n50.ne rfl n47.at_)) (fun an51 n51 => ?_)
  refine sv n51.ok rfl (wn _ rfl) rfl (o_cutT (k := kc) (s := 8) (m := (RT.take kc).length) (n51.ne rfl n50.at_) n51.at_ Try.underlying22 (by kernel_rfl) (by have := hcT.1; omega) (by rw [List.length_take]; omega)) (fun an52 n52 => ?_)
  refine sc n52.ok rfl (wn _ rfl) rfl (o_f1 Try.func25 rfl rfl rfl n52.at_) (laid_r (RT.take kc) raT rcT w33 (RdA.take (hrT.gr A38)) (means_sub (hmT.gr A38) (fun x hx => List.mem_of_mem_take hx)) (by rw [List.length_take]; omega) (RT.map VerI.d) (List.map VerI.d (RT.take kc)) hTR (mapd_sub (fun x hx => List.mem_of_mem_take hx)) rfl) ?_
  rintro _ w54 ⟨R1, ra1, rc1, rfl, hR1, hr1, hm1, hc1, g55⟩
  have hl1 : R1.length ≤ 60 := lay_len hTR (mapd_sub (fun x hx => List.mem_of_mem_take hx)) hR1
  refine ⟨_, rfl, fun an53 n53 => ?_⟩
  have G56 := G35.trans g55
  have B57 := B36.gr g55
  have A58 := A38.trans g55
  have A60 := Gr.refl w54
  refine sv n53.ok rfl (wn _ rfl) rfl (o_mv n53.at_) (fun an61 n61 => ?_)
  refine sv n61.ok rfl (wn _ rfl) rfl (o_ex n61.at_ rfl) (fun an62 n62 => ?_)
  refine sv n62.ok rfl (wn _ rfl) rfl (o_ex (n62.ne rfl n61.at_) rfl) (fun an63 n63 => ?_)
  refine sv n63.ok rfl (wn _ rfl) rfl (o_as (n63.ne rfl n62.at_)) (fun an64 n64 => ?_)
  refine sv n64.ok rfl (wn _ rfl) rfl (o_as (n64.ne rfl n63.at_)) (fun an65 n65 => ?_)
  refine wpList_nil ?_
  refine th_n (hK48 _ _ ?_)
  refine wp_seq_k (fun K66 hK66 => ?_)
  refine wp_region_lit ?_
  have e67 := n65.ne rfl (n64.ne rfl (n63.ne rfl (n62.ne rfl (n61.ne rfl (n53.ne rfl (n52.ne rfl (n51.ne rfl (n50.ne rfl e49))))))))
  refine sv n65.ok rfl (wn _ rfl) rfl (o_mv e67) (fun an68 n68 => ?_)
  have e69 := n68.ne rfl (n65.ne rfl (n64.ne rfl (n63.ne rfl (n62.ne rfl (n61.ne rfl (n53.ne rfl (n52.ne rfl (n51.ne rfl (n50.ne rfl n47.at_)))))))))
  refine sv n68.ok rfl (wn _ rfl) rfl (o_mv e69) (fun an70 n70 => ?_)
  refine sv n70.ok rfl (wn _ rfl) rfl (o_cutA (k := kc) (s := 8) (m := (RT.drop kc).length) (n70.ne rfl n68.at_) n70.at_ Try.underlying22 (by kernel_rfl) (by omega) hcT.1 hcT.2 List.length_drop) (fun an71 n71 => ?_)
  refine sc n71.ok rfl (wn _ rfl) rfl (o_f1 Try.func25 rfl rfl rfl n71.at_) (laid_r (RT.drop kc) (offA raT rcT kc 8) (rcT - kc) w54 (RdA.drop (k := kc) (hrT.gr A58) hcT.1) (means_sub (hmT.gr A58) (fun x hx => List.mem_of_mem_drop hx)) (by rw [List.length_drop]; omega) (RT.map VerI.d) (List.map VerI.d (RT.drop kc)) hTR (mapd_sub (fun x hx => List.mem_of_mem_drop hx)) rfl) ?_
  rintro _ w73 ⟨R2, ra2, rc2, rfl, hR2, hr2, hm2, hc2, g74⟩
  have hl2 : R2.length ≤ 60 := lay_len hTR (mapd_sub (fun x hx => List.mem_of_mem_drop hx)) hR2
  refine ⟨_, rfl, fun an72 n72 => ?_⟩
  have G75 := G56.trans g74
  have B76 := B57.gr g74
  have A77 := A58.trans g74
  have A78 := A60.trans g74
  have A80 := Gr.refl w73
  refine sv n72.ok rfl (wn _ rfl) rfl (o_mv n72.at_) (fun an81 n81 => ?_)
  refine sv n81.ok rfl (wn _ rfl) rfl (o_ex n81.at_ rfl) (fun an82 n82 => ?_)
  refine sv n82.ok rfl (wn _ rfl) rfl (o_ex (n82.ne rfl n81.at_) rfl) (fun an83 n83 => ?_)
  refine sv n83.ok rfl (wn _ rfl) rfl (o_as (n83.ne rfl n82.at_)) (fun an84 n84 => ?_)
  refine sv n84.ok rfl (wn _ rfl) rfl (o_as (n84.ne rfl n83.at_)) (fun an85 n85 => ?_)
  refine wpList_nil ?_
  refine th_n (hK66 _ _ ?_)
  refine wp_seq_k (fun K86 hK86 => ?_)
  refine wp_region_lit ?_
  have e87 := n85.ne rfl (n84.ne rfl (n83.ne rfl (n82.ne rfl (n81.ne rfl (n72.ne rfl (n71.ne rfl (n70.ne rfl (n68.ne rfl (n65.ne rfl n64.at_)))))))))
  refine sv n85.ok rfl (wn _ rfl) rfl (o_mv e87) (fun an88 n88 => ?_)
  refine sv n88.ok rfl (wn _ rfl) rfl (o_mv (n88.ne rfl (n85.ne rfl n84.at_))) (fun an89 n89 => ?_)
  obtain ⟨i90, i90a, i90b, i90c⟩ := info3_of (show (Try.prog.info? 22).map (fun i => (i.zero, i.size)) = some (some (.slice none 0 0), 1) by kernel_rfl)
  refine sals (cs := #[.slice ra1 R1.length rc1, .slice ra2 R2.length rc2]) n89.ok rfl (wn _ rfl) rfl (o_bs (vs := [(0, .slice ra1 R1.length rc1), (1, .slice ra2 R2.length rc2)]) (by simp [(n89.ne rfl n88.at_), n89.at_, ev_const]) Try.underlying100 i90a i90b (by rw [i90c]; rfl) (by rw [i90c]; rfl) (by rw [i90c]; kernel_rfl)) (fun an91 w93 b92 W94 n91 => ?_)
  have l95 : b22 < b92 := by rw [W94.eq]; exact B76.lt
  have l96 : w.heap.size ≤ b92 := by rw [W94.eq]; exact G75.size
  have l97 : w33.heap.size ≤ b92 := by rw [W94.eq]; exact A77.size
  have l98 : w54.heap.size ≤ b92 := by rw [W94.eq]; exact A78.size
  have l99 : w73.heap.size ≤ b92 := by rw [W94.eq]; exact A80.size
  have G100 := G75.trans W94.gr
  have B101 := B76.gr W94.gr
  have A102 := A77.trans W94.gr
  have A103 := A78.trans W94.gr
  have A104 := A80.trans W94.gr
  refine sc n91.ok rfl (wn _ rfl) rfl (o_f1 Try.func26 rfl rfl rfl n91.at_) (concatV2 R1 R2 ra1 ra2 rc1 rc2 b92 _ w93 (by omega) (by omega) hc1.1 hc2.1 hc1.2 hc2.2 (hr1.gr A103) (hr2.gr A104) W94.bk) ?_
  rintro _ w106 ⟨ca1, cc1, rfl, hC1, g107⟩
  refine ⟨_, rfl, fun an105 n105 => ?_⟩
  have G108 := G100.trans g107
  have B109 := B101.gr g107
  have B110 := W94.bk.gr g107
  have A111 := A102.trans g107
  have A112 := A103.trans g107
  have A113 := A104.trans g107
  refine sc n105.ok rfl (wn _ rfl) rfl (o_f1 Try.func25 rfl rfl rfl n105.at_) (laid_r (R1 ++ R2) ca1 cc1 w106 hC1 (fun x hx => (List.mem_append.1 hx).elim (fun h => (hm1.gr A112) x h) (fun h => (hm2.gr A113) x h)) (by rw [List.length_append]; omega) (RT.map VerI.d) (List.map VerI.d (R1 ++ R2)) hTR (joined_sub hTR (mapd_sub (fun x hx => List.mem_of_mem_take hx)) (mapd_sub (fun x hx => List.mem_of_mem_drop hx)) hR1 hR2) rfl) ?_
  rintro _ w115 ⟨R3, ra3, rc3, rfl, hR3, hr3, hm3, hc3, g116⟩
  have hE3 : R3.map VerI.d = layL (RT.map VerI.d) := joined hTR (mapd_sub (fun x hx => List.mem_of_mem_take hx)) (mapd_sub (fun x hx => List.mem_of_mem_drop hx)) hR1 hR2 (parts_all RT kc) hR3
  have hl3 : R3.length ≤ 60 := lay_len hTR (Y := (RT.map VerI.d)) (fun x hx => hx) hE3
  refine ⟨_, rfl, fun an114 n114 => ?_⟩
  have G117 := G108.trans g116
  have B118 := B109.gr g116
  have B119 := B110.gr g116
  have A120 := A111.trans g116
  have A121 := A112.trans g116
  have A122 := A113.trans g116
  have A124 := Gr.refl w115
  refine sv n114.ok rfl (wn _ rfl) rfl (o_mv n114.at_) (fun an125 n125 => ?_)
  refine sv n125.ok rfl (wn _ rfl) rfl (o_ex n125.at_ rfl) (fun an126 n126 => ?_)
  refine sv n126.ok rfl (wn _ rfl) rfl (o_ex (n126.ne rfl n125.at_) rfl) (fun an127 n127 => ?_)
  refine sv n127.ok rfl (wn _ rfl) rfl (o_as (n127.ne rfl n126.at_)) (fun an128 n128 => ?_)
  refine sv n128.ok rfl (wn _ rfl) rfl (o_as (n128.ne rfl n127.at_)) (fun an129 n129 => ?_)
  refine wpList_nil ?_
  refine th_n (hK86 _ _ ?_)
  refine wp_seq_k (fun K130 hK130 => ?_)
  refine wp_region_lit ?_
  have e131 := n129.ne rfl (n128.ne rfl (n127.ne rfl (n126.ne rfl (n125.ne rfl (n114.ne rfl (n105.ne rfl (n91.ne rfl (n89.ne rfl (n88.ne rfl (n85.ne rfl n84.at_))))))))))
  refine sv n129.ok rfl (wn _ rfl) rfl (o_mv e131) (fun an132 n132 => ?_)
  have e133 := n132.ne rfl (n129.ne rfl (n128.ne rfl (n127.ne rfl (n126.ne rfl (n125.ne rfl (n114.ne rfl (n105.ne rfl (n91.ne rfl (n89.ne rfl (n88.ne rfl e87))))))))))
  refine sv n132.ok rfl (wn _ rfl) rfl (o_mv e133) (fun an134 n134 => ?_)
  obtain ⟨i135, i135a, i135b, i135c⟩ := info3_of (show (Try.prog.info? 22).map (fun i => (i.zero, i.size)) = some (some (.slice none 0 0), 1) by kernel_rfl)
  refine sals (cs := #[.slice ra2 R2.length rc2, .slice ra1 R1.length rc1]) n134.ok rfl (wn _ rfl) rfl (o_bs (vs := [(0, .slice ra2 R2.length rc2), (1, .slice ra1 R1.length rc1)]) (by simp [(n134.ne rfl n132.at_), n134.at_, ev_const]) Try.underlying100 i135a i135b (by rw [i135c]; rfl) (by rw [i135c]; rfl) (by rw [i135c]; kernel_rfl)) (fun an136 w138 b137 W139 n136 => ?_)
  have l140 : b22 < b137 := by rw [W139.eq]; exact B118.lt
  have l141 : b92 < b137 := by rw [W139.eq]; exact B119.lt
  have l142 : w.heap.size ≤ b137 := by rw [W139.eq]; exact G117.size
  have l143 : w33.heap.size ≤ b137 := by rw [W139.eq]; exact A120.size
  have l144 : w54.heap.size ≤ b137 := by rw [W139.eq]; exact A121.size
  have l145 : w73.heap.size ≤ b137 := by rw [W139.eq]; exact A122.size
  have l146 : w115.heap.size ≤ b137 := by rw [W139.eq]; exact A124.size
  have G147 := G117.trans W139.gr
  have B148 := B118.gr W139.gr
  have B149 := B119.gr W139.gr
  have A150 := A120.trans W139.gr
  have A151 := A121.trans W139.gr
  have A152 := A122.trans W139.gr
  have A153 := A124.trans W139.gr
  refine sc n136.ok rfl (wn _ rfl) rfl (o_f1 Try.func26 rfl rfl rfl n136.at_) (concatV2 R2 R1 ra2 ra1 rc2 rc1 b137 _ w138 (by omega) (by omega) hc2.1 hc1.1 hc2.2 hc1.2 (hr2.gr A152) (hr1.gr A151) W139.bk) ?_
  rintro _ w155 ⟨ca2, cc2, rfl, hC2, g156⟩
  refine ⟨_, rfl, fun an154 n154 => ?_⟩
  have G157 := G147.trans g156
  have B158 := B148.gr g156
  have B159 := B149.gr g156
  have B160 := W139.bk.gr g156
  have A161 := A150.trans g156
  have A162 := A151.trans g156
  have A163 := A152.trans g156
  have A164 := A153.trans g156
  refine sc n154.ok rfl (wn _ rfl) rfl (o_f1 Try.func25 rfl rfl rfl n154.at_) (laid_r (R2 ++ R1) ca2 cc2 w155 hC2 (fun x hx => (List.mem_append.1 hx).elim (fun h => (hm2.gr A163) x h) (fun h => (hm1.gr A162) x h)) (by rw [List.length_append]; omega) (RT.map VerI.d) (List.map VerI.d (R2 ++ R1)) hTR (joined_sub hTR (mapd_sub (fun x hx => List.mem_of_mem_drop hx)) (mapd_sub (fun x hx => List.mem_of_mem_take hx)) hR2 hR1) rfl) ?_
  rintro _ w166 ⟨R4, ra4, rc4, rfl, hR4, hr4, hm4, hc4, g167⟩
  have hE4 : R4.map VerI.d = layL (RT.map VerI.d) := joined hTR (mapd_sub (fun x hx => List.mem_of_mem_drop hx)) (mapd_sub (fun x hx => List.mem_of_mem_take hx)) hR2 hR1 (parts_all2 RT kc) hR4
  have hl4 : R4.length ≤ 60 := lay_len hTR (Y := (RT.map VerI.d)) (fun x hx => hx) hE4
  refine ⟨_, rfl, fun an165 n165 => ?_⟩
  have G168 := G157.trans g167
  have B169 := B158.gr g167
  have B170 := B159.gr g167
  have B171 := B160.gr g167
  have A172 := A161.trans g167
  have A173 := A162.trans g167
  have A174 := A163.trans g167
  have A175 := A164.trans g167
  have A177 := Gr.refl w166
  refine sv n165.ok rfl (wn _ rfl) rfl (o_mv n165.at_) (fun an178 n178 => ?_)
  refine sv n178.ok rfl (wn _ rfl) rfl (o_ex n178.at_ rfl) (fun an179 n179 => ?_)
  refine sv n179.ok rfl (wn _ rfl) rfl (o_ex (n179.ne rfl n178.at_) rfl) (fun an180 n180 => ?_)
  refine sv n180.ok rfl (wn _ rfl) rfl (o_as (n180.ne rfl n179.at_)) (fun an181 n181 => ?_)
  refine sv n181.ok rfl (wn _ rfl) rfl (o_as (n181.ne rfl n180.at_)) (fun an182 n182 => ?_)
  refine wpList_nil ?_
  refine th_n (hK130 _ _ ?_)
  refine wp_seq_k (fun K183 hK183 => ?_)
  refine wp_region_lit ?_
  have e184 := n182.ne rfl (n181.ne rfl (n180.ne rfl (n179.ne rfl (n178.ne rfl (n165.ne rfl (n154.ne rfl (n136.ne rfl (n134.ne rfl (n132.ne rfl (n129.ne rfl (n128.ne rfl (n127.ne rfl (n126.ne rfl (n125.ne rfl (n114.ne rfl (n105.ne rfl (n91.ne rfl (n89.ne rfl (n88.ne rfl (n85.ne rfl (n84.ne rfl (n83.ne rfl (n82.ne rfl (n81.ne rfl (n72.ne rfl (n71.ne rfl (n70.ne rfl (n68.ne rfl e67))))))))))))))))))))))))))))
  refine sv n182.ok rfl (wn _ rfl) rfl (o_mv e184) (fun an185 n185 => ?_)
  refine sc n185.ok rfl (wn _ rfl) rfl (o_f1 Try.func25 rfl rfl rfl n185.at_) (laid_r RT raT rcT w166 (hrT.gr A172) (hmT.gr A172) (by omega) (RT.map VerI.d) (List.map VerI.d RT) hTR (fun x hx => hx) rfl) ?_
  rintro _ w187 ⟨R5, ra5, rc5, rfl, hR5, hr5, hm5, hc5, g188⟩
  have hE5 := hR5
  have hl5 : R5.length ≤ 60 := lay_len hTR (Y := (RT.map VerI.d)) (fun x hx => hx) hE5
  refine ⟨_, rfl, fun an186 n186 => ?_⟩
  have G189 := G168.trans g188
  have B190 := B169.gr g188
  have B191 := B170.gr g188
  have B192 := B171.gr g188
  have A193 := A172.trans g188
  have A194 := A173.trans g188
  have A195 := A174.trans g188
  have A196 := A175.trans g188
  have A197 := A177.trans g188
  have A199 := Gr.refl w187
  refine sv n186.ok rfl (wn _ rfl) rfl (o_mv n186.at_) (fun an200 n200 => ?_)
  refine sv n200.ok rfl (wn _ rfl) rfl (o_ex n200.at_ rfl) (fun an201 n201 => ?_)
  refine sv n201.ok rfl (wn _ rfl) rfl (o_ex (n201.ne rfl n200.at_) rfl) (fun an202 n202 => ?_)
  refine sv n202.ok rfl (wn _ rfl) rfl (o_as (n202.ne rfl n201.at_)) (fun an203 n203 => ?_)
  refine sv n203.ok rfl (wn _ rfl) rfl (o_as (n203.ne rfl n202.at_)) (fun an204 n204 => ?_)
  refine wpList_nil ?_
  refine th_n (hK183 _ _ ?_)
  refine wp_seq_k (fun K205 hK205 => ?_)
  refine wp_region_lit ?_
  have e206 := n204.ne rfl (n203.ne rfl (n202.ne rfl (n201.ne rfl (n200.ne rfl (n186.ne rfl (n185.ne rfl (n182.ne rfl (n181.ne rfl (n180.ne rfl (n179.ne rfl (n178.ne rfl (n165.ne rfl (n154.ne rfl (n136.ne rfl (n134.ne rfl (n132.ne rfl (n129.ne rfl n128.at_)))))))))))))))))
  refine sv n204.ok rfl (wn _ rfl) rfl (o_mv e206) (fun an207 n207 => ?_)
  refine sv n207.ok rfl (wn _ rfl) rfl (o_mv (n207.ne rfl e206)) (fun an208 n208 => ?_)
  obtain ⟨i209, i209a, i209b, i209c⟩ := info3_of (show (Try.prog.info? 22).map (fun i => (i.zero, i.size)) = some (some (.slice none 0 0), 1) by kernel_rfl)
  refine sals (cs := #[.slice ra3 R3.length rc3, .slice ra3 R3.length rc3]) n208.ok rfl (wn _ rfl) rfl (o_bs (vs := [(0, .slice ra3 R3.length rc3), (1, .slice ra3 R3.length rc3)]) (by simp [(n208.ne rfl n207.at_), n208.at_, ev_const]) Try.underlying100 i209a i209b (by rw [i209c]; rfl) (by rw [i209c]; rfl) (by rw [i209c]; kernel_rfl)) (fun an210 w212 b211 W213 n210 => ?_)
  have l214 : b22 < b211 := by rw [W213.eq]; exact B190.lt
  have l215 : b92 < b211 := by rw [W213.eq]; exact B191.lt
  have l216 : b137 < b211 := by rw [W213.eq]; exact B192.lt
  have l217 : w.heap.size ≤ b211 := by rw [W213.eq]; exact G189.size
  have l218 : w33.heap.size ≤ b211 := by rw [W213.eq]; exact A193.size
  have l219 : w54.heap.size ≤ b211 := by rw [W213.eq]; exact A194.size
  have l220 : w73.heap.size ≤ b211 := by rw [W213.eq]; exact A195.size
  have l221 : w115.heap.size ≤ b211 := by rw [W213.eq]; exact A196.size
  have l222 : w166.heap.size ≤ b211 := by rw [W213.eq]; exact A197.size
  have l223 : w187.heap.size ≤ b211 := by rw [W213.eq]; exact A199.size
  have G224 := G189.trans W213.gr
  have B225 := B190.gr W213.gr
  have B226 := B191.gr W213.gr
  have B227 := B192.gr W213.gr
  have A228 := A193.trans W213.gr
  have A229 := A194.trans W213.gr
  have A230 := A195.trans W213.gr
  have A231 := A196.trans W213.gr
  have A232 := A197.trans W213.gr
  have A233 := A199.trans W213.gr
  refine sc n210.ok rfl (wn _ rfl) rfl (o_f1 Try.func26 rfl rfl rfl n210.at_) (concatV2 R3 R3 ra3 ra3 rc3 rc3 b211 _ w212 (by omega) (by omega) hc3.1 hc3.1 hc3.2 hc3.2 (hr3.gr A231) (hr3.gr A231) W213.bk) ?_
  rintro _ w235 ⟨ca3, cc3, rfl, hC3, g236⟩
  refine ⟨_, rfl, fun an234 n234 => ?_⟩
  have G237 := G224.trans g236
  have B238 := B225.gr g236
  have B239 := B226.gr g236
  have B240 := B227.gr g236
  have B241 := W213.bk.gr g236
  have A242 := A228.trans g236
  have A243 := A229.trans g236
  have A244 := A230.trans g236
  have A245 := A231.trans g236
  have A246 := A232.trans g236
  have A247 := A233.trans g236
  refine sc n234.ok rfl (wn _ rfl) rfl (o_f1 Try.func25 rfl rfl rfl n234.at_) (laid_r (R3 ++ R3) ca3 cc3 w235 hC3 (fun x hx => (List.mem_append.1 hx).elim (fun h => (hm3.gr A245) x h) (fun h => (hm3.gr A245) x h)) (by rw [List.length_append]; omega) (RT.map VerI.d) (List.map VerI.d (R3 ++ R3)) hTR (joined_sub hTR (fun x hx => hx) (fun x hx => hx) hE3 hE3) rfl) ?_
  rintro _ w249 ⟨R6, ra6, rc6, rfl, hR6, hr6, hm6, hc6, g250⟩
  have hE6 : R6.map VerI.d = layL (RT.map VerI.d) := joined hTR (fun x hx => hx) (fun x hx => hx) hE3 hE3 (fun x hx => List.mem_append.2 (.inl hx)) hR6
  have hl6 : R6.length ≤ 60 := lay_len hTR (Y := (RT.map VerI.d)) (fun x hx => hx) hE6
  refine ⟨_, rfl, fun an248 n248 => ?_⟩
  have G251 := G237.trans g250
  have B252 := B238.gr g250
  have B253 := B239.gr g250
  have B254 := B240.gr g250
  have B255 := B241.gr g250
  have A256 := A242.trans g250
  have A257 := A243.trans g250
  have A258 := A244.trans g250
  have A259 := A245.trans g250
  have A260 := A246.trans g250
  have A261 := A247.trans g250
  have A263 := Gr.refl w249
  refine sv n248.ok rfl (wn _ rfl) rfl (o_mv n248.at_) (fun an264 n264 => ?_)
  refine sv n264.ok rfl (wn _ rfl) rfl (o_ex n264.at_ rfl) (fun an265 n265 => ?_)
  refine sv n265.ok rfl (wn _ rfl) rfl (o_ex (n265.ne rfl n264.at_) rfl) (fun an266 n266 => ?_)
  refine sv n266.ok rfl (wn _ rfl) rfl (o_as (n266.ne rfl n265.at_)) (fun an267 n267 => ?_)
  refine sv n267.ok rfl (wn _ rfl) rfl (o_as (n267.ne rfl n266.at_)) (fun an268 n268 => ?_)
  refine wpList_nil ?_
  refine th_n (hK205 _ _ ?_)
  refine wp_seq_k (fun K269 hK269 => ?_)
  refine wp_region_lit ?_
  have e270 := n268.ne rfl (n267.ne rfl (n266.ne rfl (n265.ne rfl (n264.ne rfl (n248.ne rfl (n234.ne rfl (n210.ne rfl (n208.ne rfl (n207.ne rfl (n204.ne rfl (n203.ne rfl (n202.ne rfl (n201.ne rfl (n200.ne rfl (n186.ne rfl (n185.ne rfl (n182.ne rfl (n181.ne rfl (n180.ne rfl (n179.ne rfl (n178.ne rfl (n165.ne rfl (n154.ne rfl (n136.ne rfl (n134.ne rfl (n132.ne rfl (n129.ne rfl (n128.ne rfl (n127.ne rfl (n126.ne rfl (n125.ne rfl (n114.ne rfl (n105.ne rfl (n91.ne rfl (n89.ne rfl (n88.ne rfl (n85.ne rfl (n84.ne rfl (n83.ne rfl (n82.ne rfl (n81.ne rfl (n72.ne rfl (n71.ne rfl (n70.ne rfl (n68.ne rfl n65.at_)))))))))))))))))))))))))))))))))))))))))))))
  refine sv n268.ok rfl (wn _ rfl) rfl (o_mv e270) (fun an271 n271 => ?_)
  refine sv n271.ok rfl (wn _ rfl) rfl (o_mv n271.at_) (fun an272 n272 => ?_)
  have e273 := n272.ne rfl (n271.ne rfl (n268.ne rfl (n267.ne rfl (n266.ne rfl (n265.ne rfl (n264.ne rfl (n248.ne rfl (n234.ne rfl (n210.ne rfl (n208.ne rfl (n207.ne rfl (n204.ne rfl (n203.ne rfl (n202.ne rfl (n201.ne rfl (n200.ne rfl (n186.ne rfl (n185.ne rfl (n182.ne rfl (n181.ne rfl (n180.ne rfl (n179.ne rfl (n178.ne rfl (n165.ne rfl (n154.ne rfl (n136.ne rfl (n134.ne rfl (n132.ne rfl (n129.ne rfl (n128.ne rfl (n127.ne rfl (n126.ne rfl (n125.ne rfl (n114.ne rfl (n105.ne rfl (n91.ne rfl (n89.ne rfl (n88.ne rfl n85.at_))))))))))))))))))))))))))))))))))))))
  refine sv n272.ok rfl (wgT rfl (yl 1 true rfl n272.at_) rfl) rfl (o_mv e273) (fun an274 n274 => ?_)
  refine sv n274.ok rfl (wn _ rfl) rfl (o_pkT (n274.ne rfl n272.at_) n274.at_) (fun an275 n275 => ?_)
  refine sv n275.ok rfl (wn _ rfl) rfl (o_mv n275.at_) (fun an276 n276 => ?_)
  have e277 := n276.ne rfl (n275.ne rfl (n274.ne rfl (n272.ne rfl (n271.ne rfl (n268.ne rfl (n267.ne rfl (n266.ne rfl (n265.ne rfl (n264.ne rfl (n248.ne rfl (n234.ne rfl (n210.ne rfl (n208.ne rfl (n207.ne rfl (n204.ne rfl (n203.ne rfl (n202.ne rfl (n201.ne rfl (n200.ne rfl (n186.ne rfl (n185.ne rfl (n182.ne rfl (n181.ne rfl (n180.ne rfl (n179.ne rfl (n178.ne rfl (n165.ne rfl (n154.ne rfl (n136.ne rfl (n134.ne rfl (n132.ne rfl n129.at_)))))))))))))))))))))))))))))))
  refine sv n276.ok rfl (wgT rfl (yl 4 true rfl n276.at_) rfl) rfl (o_mv e277) (fun an278 n278 => ?_)
  refine sv n278.ok rfl (wn _ rfl) rfl (o_pkT (n278.ne rfl n276.at_) n278.at_) (fun an279 n279 => ?_)
  refine sv n279.ok rfl (wn _ rfl) rfl (o_mv n279.at_) (fun an280 n280 => ?_)
  have e281 := n280.ne rfl (n279.ne rfl (n278.ne rfl (n276.ne rfl (n275.ne rfl (n274.ne rfl (n272.ne rfl (n271.ne rfl (n268.ne rfl (n267.ne rfl (n266.ne rfl (n265.ne rfl (n264.ne rfl (n248.ne rfl (n234.ne rfl (n210.ne rfl (n208.ne rfl (n207.ne rfl (n204.ne rfl (n203.ne rfl (n202.ne rfl (n201.ne rfl (n200.ne rfl (n186.ne rfl (n185.ne rfl n182.at_))))))))))))))))))))))))
  refine sv n280.ok rfl (wgT rfl (yl 7 true rfl n280.at_) rfl) rfl (o_mv e281) (fun an282 n282 => ?_)
  refine sv n282.ok rfl (wn _ rfl) rfl (o_pkT (n282.ne rfl n280.at_) n282.at_) (fun an283 n283 => ?_)
  refine sv n283.ok rfl (wn _ rfl) rfl (o_mv n283.at_) (fun an284 n284 => ?_)
  have e285 := n284.ne rfl (n283.ne rfl (n282.ne rfl (n280.ne rfl (n279.ne rfl (n278.ne rfl (n276.ne rfl (n275.ne rfl (n274.ne rfl (n272.ne rfl (n271.ne rfl (n268.ne rfl (n267.ne rfl (n266.ne rfl (n265.ne rfl (n264.ne rfl (n248.ne rfl (n234.ne rfl (n210.ne rfl (n208.ne rfl (n207.ne rfl n204.at_))))))))))))))))))))
  refine sv n284.ok rfl (wgT rfl (yl 10 true rfl n284.at_) rfl) rfl (o_mv e285) (fun an286 n286 => ?_)
  refine sv n286.ok rfl (wn _ rfl) rfl (o_pkT (n286.ne rfl n284.at_) n286.at_) (fun an287 n287 => ?_)
  refine sv n287.ok rfl (wn _ rfl) rfl (o_mv n287.at_) (fun an288 n288 => ?_)
  have e289 := n288.ne rfl (n287.ne rfl (n286.ne rfl (n284.ne rfl (n283.ne rfl (n282.ne rfl (n280.ne rfl (n279.ne rfl (n278.ne rfl (n276.ne rfl (n275.ne rfl (n274.ne rfl (n272.ne rfl (n271.ne rfl n268.at_)))))))))))))
  refine sv n288.ok rfl (wgT rfl (yl 13 true rfl n288.at_) rfl) rfl (o_mv e289) (fun an290 n290 => ?_)
  refine sv n290.ok rfl (wn _ rfl) rfl (o_pkT (n290.ne rfl n288.at_) n290.at_) (fun an291 n291 => ?_)
  refine sv n291.ok rfl (wn _ rfl) rfl (o_mv n291.at_) (fun an292 n292 => ?_)
  have e293 := n292.ne rfl (n291.ne rfl (n290.ne rfl (n288.ne rfl (n287.ne rfl (n286.ne rfl (n284.ne rfl (n283.ne rfl (n282.ne rfl (n280.ne rfl (n279.ne rfl (n278.ne rfl (n276.ne rfl (n275.ne rfl (n274.ne rfl (n272.ne rfl (n271.ne rfl (n268.ne rfl (n267.ne rfl (n266.ne rfl (n265.ne rfl (n264.ne rfl (n248.ne rfl (n234.ne rfl (n210.ne rfl (n208.ne rfl (n207.ne rfl e206))))))))))))))))))))))))))
  refine sv n292.ok rfl (wgT rfl (yl 16 true rfl n292.at_) rfl) rfl (o_mv e293) (fun an294 n294 => ?_)
  have e295 := n294.ne rfl (n292.ne rfl (n291.ne rfl (n290.ne rfl (n288.ne rfl (n287.ne rfl (n286.ne rfl (n284.ne rfl (n283.ne rfl (n282.ne rfl (n280.ne rfl (n279.ne rfl (n278.ne rfl (n276.ne rfl (n275.ne rfl (n274.ne rfl (n272.ne rfl (n271.ne rfl (n268.ne rfl (n267.ne rfl (n266.ne rfl (n265.ne rfl (n264.ne rfl (n248.ne rfl (n234.ne rfl (n210.ne rfl (n208.ne rfl (n207.ne rfl (n204.ne rfl n203.at_))))))))))))))))))))))))))))
  refine sv n294.ok rfl (wgT rfl (yl 16 true rfl (n294.ne rfl n292.at_)) rfl) rfl (o_mv e295) (fun an296 n296 => ?_)
  refine sc n296.ok rfl (wgT rfl (yl 16 true rfl (n296.ne rfl (n294.ne rfl n292.at_))) rfl) rfl (o_f2 Try.func21 rfl rfl rfl (n296.ne rfl n294.at_) n296.at_) (same_eq R3 R5 ra3 ra5 rc3 rc5 (layL (RT.map VerI.d)) hMX.ok hE3 hE5 w249 (hr3.gr A259) (hm3.gr A259) (hr5.gr A261) (hm5.gr A261)) ?_
  rintro _ w298 ⟨rfl, g299⟩
  refine ⟨_, rfl, fun an297 n297 => ?_⟩
  have G300 := G251.trans g299
  have B301 := B252.gr g299
  have B302 := B253.gr g299
  have B303 := B254.gr g299
  have B304 := B255.gr g299
  have A305 := A256.trans g299
  have A306 := A257.trans g299
  have A307 := A258.trans g299
  have A308 := A259.trans g299
  have A309 := A260.trans g299
  have A310 := A261.trans g299
  have A311 := A263.trans g299
  have e312 := n297.ne rfl (n296.ne rfl (n294.ne rfl n292.at_))
  refine sv n297.ok rfl (wn _ rfl) rfl (o_pkT e312 n297.at_) (fun an313 n313 => ?_)
  refine sv n313.ok rfl (wn _ rfl) rfl (o_mv n313.at_) (fun an314 n314 => ?_)
  have e315 := n314.ne rfl (n313.ne rfl (n297.ne rfl (n296.ne rfl (n294.ne rfl (n292.ne rfl (n291.ne rfl (n290.ne rfl (n288.ne rfl (n287.ne rfl (n286.ne rfl (n284.ne rfl (n283.ne rfl (n282.ne rfl (n280.ne rfl (n279.ne rfl (n278.ne rfl (n276.ne rfl (n275.ne rfl (n274.ne rfl (n272.ne rfl (n271.ne rfl (n268.ne rfl (n267.ne rfl (n266.ne rfl (n265.ne rfl (n264.ne rfl (n248.ne rfl (n234.ne rfl (n210.ne rfl (n208.ne rfl (n207.ne rfl (n204.ne rfl (n203.ne rfl (n202.ne rfl (n201.ne rfl (n200.ne rfl (n186.ne rfl (n185.ne rfl (n182.ne rfl n181.at_)))))))))))))))))))))))))))))))))))))))
  refine sv n314.ok rfl (wgT rfl (yl 21 true rfl n314.at_) rfl) rfl (o_mv e315) (fun an316 n316 => ?_)
  have e317 := n316.ne rfl (n314.ne rfl (n313.ne rfl (n297.ne rfl (n296.ne rfl e295))))
  refine sv n316.ok rfl (wgT rfl (yl 21 true rfl (n316.ne rfl n314.at_)) rfl) rfl (o_mv e317) (fun an318 n318 => ?_)
  refine sc n318.ok rfl (wgT rfl (yl 21 true rfl (n318.ne rfl (n316.ne rfl n314.at_))) rfl) rfl (o_f2 Try.func21 rfl rfl rfl (n318.ne rfl n316.at_) n318.at_) (same_eq R4 R5 ra4 ra5 rc4 rc5 (layL (RT.map VerI.d)) hMX.ok hE4 hE5 w298 (hr4.gr A309) (hm4.gr A309) (hr5.gr A310) (hm5.gr A310)) ?_
  rintro _ w320 ⟨rfl, g321⟩
  refine ⟨_, rfl, fun an319 n319 => ?_⟩
  have G322 := G300.trans g321
  have B323 := B301.gr g321
  have B324 := B302.gr g321
  have B325 := B303.gr g321
  have B326 := B304.gr g321
  have A327 := A305.trans g321
  have A328 := A306.trans g321
  have A329 := A307.trans g321
  have A330 := A308.trans g321
  have A331 := A309.trans g321
  have A332 := A310.trans g321
  have A333 := A311.trans g321
  have e334 := n319.ne rfl (n318.ne rfl (n316.ne rfl n314.at_))
  refine sv n319.ok rfl (wn _ rfl) rfl (o_pkT e334 n319.at_) (fun an335 n335 => ?_)
  refine sv n335.ok rfl (wn _ rfl) rfl (o_mv n335.at_) (fun an336 n336 => ?_)
  have e337 := n336.ne rfl (n335.ne rfl (n319.ne rfl (n318.ne rfl (n316.ne rfl (n314.ne rfl (n313.ne rfl (n297.ne rfl (n296.ne rfl (n294.ne rfl (n292.ne rfl (n291.ne rfl (n290.ne rfl (n288.ne rfl (n287.ne rfl (n286.ne rfl (n284.ne rfl (n283.ne rfl (n282.ne rfl (n280.ne rfl (n279.ne rfl (n278.ne rfl (n276.ne rfl (n275.ne rfl (n274.ne rfl (n272.ne rfl (n271.ne rfl (n268.ne rfl n267.at_)))))))))))))))))))))))))))
  refine sv n336.ok rfl (wgT rfl (yl 26 true rfl n336.at_) rfl) rfl (o_mv e337) (fun an338 n338 => ?_)
  have e339 := n338.ne rfl (n336.ne rfl (n335.ne rfl (n319.ne rfl (n318.ne rfl (n316.ne rfl (n314.ne rfl (n313.ne rfl (n297.ne rfl (n296.ne rfl (n294.ne rfl e293))))))))))
  refine sv n338.ok rfl (wgT rfl (yl 26 true rfl (n338.ne rfl n336.at_)) rfl) rfl (o_mv e339) (fun an340 n340 => ?_)
  refine sc n340.ok rfl (wgT rfl (yl 26 true rfl (n340.ne rfl (n338.ne rfl n336.at_))) rfl) rfl (o_f2 Try.func21 rfl rfl rfl (n340.ne rfl n338.at_) n340.at_) (same_eq R6 R3 ra6 ra3 rc6 rc3 (layL (RT.map VerI.d)) hMX.ok hE6 hE3 w320 (hr6.gr A333) (hm6.gr A333) (hr3.gr A330) (hm3.gr A330)) ?_
  rintro _ w342 ⟨rfl, g343⟩
  refine ⟨_, rfl, fun an341 n341 => ?_⟩
  have G344 := G322.trans g343
  have B345 := B323.gr g343
  have B346 := B324.gr g343
  have B347 := B325.gr g343
  have B348 := B326.gr g343
  have A349 := A327.trans g343
  have A350 := A328.trans g343
  have A351 := A329.trans g343
  have A352 := A330.trans g343
  have A353 := A331.trans g343
  have A354 := A332.trans g343
  have A355 := A333.trans g343
  have e356 := n341.ne rfl (n340.ne rfl (n338.ne rfl n336.at_))
  refine sv n341.ok rfl (wn _ rfl) rfl (o_pkT e356 n341.at_) (fun an357 n357 => ?_)
  refine sv n357.ok rfl (wn _ rfl) rfl (o_as n357.at_) (fun an358 n358 => ?_)
  refine wpList_nil ?_
  refine th_n (hK269 _ _ ?_)
  refine wp_ret ?_
  exact ret1 n358.ok rfl (n358.at_) ⟨rfl, G344⟩
end Go.Proofs.Ytoencnbpjjkjnaa
