/- The walk of PartSets. -/
import Derived.Test.YtbpkfkljeibjoaaGreatPx5
set_option linter.unusedVariables false
set_option linter.unusedSimpArgs false
namespace Go.Proofs.YtbpkfkljeibjoaaGreat
open Go.RowKit Rm Gx
theorem OwnsP.gr {base : Nat} {w w' : World} {K : List PtX} (h : OwnsP base w K) (g : Gr w w') : OwnsP base w' K := h.tk (tk_gr g)
theorem pjoin_half (K : List PtX) (L : List PtI) (va vb : Option Addr) (vc vd : Nat) (w : World) (hl : K.length ≤ 30) (hl2 : L.length ≤ 9223372036854775807) (hne : ¬ chkP L = 0) (hv : RdA encP 3 w va K) (hv2 : RdA encR 3 w vb L) (hm : MeansP w K) (hm2 : MeansI w L) :
    Calls Tryz.prog 6 #[.slice va K.length vc, .slice vb L.length vd] w fun e w' => e = .returned (.tuple #[.slice none 0 0, .int .i64 (chkP L)]) ∧ Gr w w' := by
  obtain ⟨K', h1, h2, h3⟩ := hm.is
  have hlen : K'.length = K.length := by simpa using congrArg List.length h1
  have e : chkP K' = 0 := by unfold chkP; rw [if_neg (by omega)]; exact chkPGo_zero.2 h3
  have h := pjoin_bad K' L va vb vc vd (by omega) hl2 (by rw [chkP2_r e]; exact hne) w (rd_map hv h1) hv2 h2 hm2
  rw [chkP2_r e, hlen] at h
  exact h
theorem okT_both {X Y : List PtX} {w : World} (hm : MeansP w X) (hm2 : MeansP w Y) : ∀ x ∈ X ++ Y, OkT x.T := fun x hx => (List.mem_append.1 hx).elim (fun q => (hm x q).fs.okT) (fun q => (hm2 x q).fs.okT)
theorem pj_few (X Y : List PtX) (va vb : Option Addr) (vc vd : Nat) (M : List PtM) (hM : fewM (X.map PtX.d ++ Y.map PtX.d) = M) (h30 : M.length ≤ 30) (hl : X.length ≤ 30) (hl2 : Y.length ≤ 30) (hc : X.length ≤ vc) (hc2 : Y.length ≤ vd) (hn : va = none → vc = 0) (hn2 : vb = none → vd = 0) (w : World) (hv : RdA encP 3 w va X) (hv2 : RdA encP 3 w vb Y) (hm : MeansP w X) (hm2 : MeansP w Y) :
    Calls Tryz.prog 6 #[.slice va X.length vc, .slice vb Y.length vd] w fun e w' => ∃ (F : List PtX) (a : Option Addr) (c : Nat), e = .returned (.tuple #[.slice a F.length c, .int .i64 0]) ∧ F.map PtX.d = M ∧ RdA encP 3 w' a F ∧ OwnsP w.heap.size w' F ∧ Gr w w' := by
  refine (pjoin_ok X Y va vb vc vd hl hl2 hc hc2 hn hn2 w hv hv2 hm hm2).mono ?_
  rintro e w' ⟨R, hR, hres, g⟩
  have hd : (fewP R).map PtX.d = M := by rw [fewM_d (okT_nar hR (okT_both hm hm2)), mapd_full hR, List.map_append, hM]
  have hlen : (fewP R).length = M.length := by rw [← hd, List.length_map]
  rcases hres with ⟨-, v, rfl, h2, h3⟩ | ⟨h1, -⟩
  · obtain ⟨a, c, rfl, -⟩ := ow_form h2
    exact ⟨fewP R, a, c, rfl, hd, RdA.own encP_ok h2 rfl, h3, g⟩
  · omega
theorem pj_many (X Y : List PtX) (va vb : Option Addr) (vc vd : Nat) (M : List PtM) (hM : fewM (X.map PtX.d ++ Y.map PtX.d) = M) (h30 : ¬ M.length ≤ 30) (hl : X.length ≤ 30) (hl2 : Y.length ≤ 30) (hc : X.length ≤ vc) (hc2 : Y.length ≤ vd) (hn : va = none → vc = 0) (hn2 : vb = none → vd = 0) (w : World) (hv : RdA encP 3 w va X) (hv2 : RdA encP 3 w vb Y) (hm : MeansP w X) (hm2 : MeansP w Y) :
    Calls Tryz.prog 6 #[.slice va X.length vc, .slice vb Y.length vd] w fun e w' => e = .returned (.tuple #[.slice none 0 0, .int .i64 2]) ∧ Gr w w' := by
  refine (pjoin_ok X Y va vb vc vd hl hl2 hc hc2 hn hn2 w hv hv2 hm hm2).mono ?_
  rintro e w' ⟨R, hR, hres, g⟩
  have hd : (fewP R).map PtX.d = M := by rw [fewM_d (okT_nar hR (okT_both hm hm2)), mapd_full hR, List.map_append, hM]
  have hlen : (fewP R).length = M.length := by rw [← hd, List.length_map]
  rcases hres with ⟨h1, -⟩ | ⟨-, h2⟩
  · omega
  · exact ⟨h2, g⟩
theorem pn_few (X : List PtX) (va : Option Addr) (vc : Nat) (fv : Value) (U : Nat → Nat) (M : List PtM) (hM : fewM ((X.map PtX.d).map (narM (ptF U))) = M) (hl : X.length ≤ 30) (w : World) (hv : RdA encP 3 w va X) (hm : MeansP w X) (hf : FS w fv U) :
    Calls Tryz.prog 7 #[.slice va X.length vc, fv] w fun e w' => ∃ (F : List PtX) (a : Option Addr) (c : Nat), e = .returned (.tuple #[.slice a F.length c, .int .i64 0]) ∧ F.map PtX.d = M ∧ RdA encP 3 w' a F ∧ OwnsP w.heap.size w' F ∧ Gr w w' := by
  refine (pnarrow_ok X va vc fv U hl w hv hm hf).mono ?_
  rintro e w' ⟨R, hR, v, rfl, h2, h3, g⟩
  have hd : (fewP R).map PtX.d = M := by rw [fewM_d (okT_nar hR (fun x hx => (hm x hx).fs.okT)), mapd_nar hR, hM]
  obtain ⟨a, c, rfl, -⟩ := ow_form h2
  exact ⟨fewP R, a, c, rfl, hd, RdA.own encP_ok h2 rfl, h3, g⟩
theorem rmean_c (L : List PtX) (va : Option Addr) (vc : Nat) (hl : L.length ≤ 1000) (w : World) (hv : RdA encP 3 w va L) (hm : MeansP w L) :
    Calls Tryz.prog 13 #[.slice va L.length vc] w fun e w' => ∃ (a : Option Addr) (c : Nat), e = .returned (.slice a (L.map PtX.d).length c) ∧ (L.map PtX.d).length ≤ c ∧ (a = none → c = 0) ∧ RdA encDoc 592 w' a (L.map PtX.d) ∧ Gr w w' := by
  refine (rmean_any L va vc hl w hv hm).mono ?_
  rintro e w' ⟨v, rfl, h, g⟩
  obtain ⟨a, c, rfl, hc⟩ := ow_form h
  exact ⟨a, c, by rw [List.length_map], by rw [List.length_map]; exact hc, ow_nil h, RdA.own encDoc_ok h (by rw [List.length_map]), g⟩
theorem rsay_m (F : List PtX) (M : List PtM) (va vb : Option Addr) (vc vd base : Nat) (hFM : F.map PtX.d = M) (hl : M.length ≤ 1000) (w : World) (hv : RdA encP 3 w va F) (hO : OwnsP base w F) (hM : RdA encDoc 592 w vb M) :
    Calls Tryz.prog 11 #[.slice va F.length vc, .slice vb M.length vd] w fun e w' => e = .returned (.bool true) ∧ Gr w w' := by
  subst hFM
  rw [List.length_map] at hl
  have h := rsay_any F va vb vc vd base hl w hv hO hM
  rw [List.length_map]
  exact h
theorem psets_lit (b bi : Nat) (fa : Option Addr) (fn fc : Nat) (t t' : TypeId) (w : World) (hb : Bk w b #[.slice fa fn fc, .slice (some ⟨bi, 0, none⟩) 1 1, .slice none 0 0] t) (hbi : Bk w bi #[.int .i64 1] t') (hev : FS w (.slice fa fn fc) fullT) :
    Calls Tryz.prog 6 #[.slice none 0 0, .slice (some ⟨b, 0, none⟩) 1 1] w fun e w' => ∃ (F : List PtX) (a : Option Addr) (c : Nat), e = .returned (.tuple #[.slice a F.length c, .int .i64 0]) ∧ F.length = 1 ∧ RdA encP 3 w' a F ∧ MeansP w' F ∧ Gr w w' := by
  have ok1 : OkV [1] [] := ⟨by simp, by simp, by simp, by simp, by simp⟩
  obtain ⟨q1, q2⟩ := form_self ok1
  have hm : MeanP w ⟨fa, fn, fc, some ⟨bi, 0, none⟩, 1, 1, none, 0, 0, fullT, memB [1] []⟩ := by
    refine ⟨hev, ?_, ?_⟩
    · show KnR w _ (ints (formV (memB [1] []))) (pairs (formM (memB [1] [])))
      rw [q1, q2]
      exact knR_vec1 hbi
    · show (formM (memB [1] [])).length ≤ 60
      rw [q2]; simp
  obtain ⟨x, hx⟩ : ∃ x : PtX, x = ⟨fa, fn, fc, some ⟨bi, 0, none⟩, 1, 1, none, 0, 0, fullT, memB [1] []⟩ := ⟨_, rfl⟩
  rw [← hx] at hm
  have hr : RdA encP 3 w (some ⟨b, 0, none⟩) [x] := fun _ => ⟨b, 0, rfl, hb.lt, fun i y hy j u hu => by
    match i, hy with
    | 0, hy =>
      simp at hy
      subst hy
      rw [hx] at hu
      have := bk_part hb (k := 0) (l := [.slice fa fn fc, .slice (some ⟨bi, 0, none⟩) 1 1, .slice none 0 0]) rfl j u hu
      simpa using this
    | i + 1, hy => simp at hy⟩
  have h := pjoin_ok [] [x] none (some ⟨b, 0, none⟩) 0 1 (by simp) (by simp) (by simp) (by simp) (fun _ => rfl) (fun q => by cases q) w (fun q => absurd rfl q) hr (fun y hy => by cases hy) (fun y hy => by rw [List.mem_singleton.1 hy]; exact hm)
  refine h.mono ?_
  rintro e w' ⟨R, hR, hres, g⟩
  obtain ⟨y, rfl, hy⟩ : ∃ y, R = [y] ∧ y.m = nar fullT x := by
    match R, hR with
    | [y], hR => exact ⟨y, rfl, by simpa using hR⟩
    | [], hR => simp at hR
    | a :: c :: r, hR => simp at hR
  have hyT : y.T = fun t => fullT t &&& fullT t := by have := congrArg Prod.fst hy; rw [hx] at this; exact this
  have hyD : y.D = memB [1] [] := by have := congrArg Prod.snd hy; rw [hx] at this; exact this
  have he : emptyP y = false := by
    unfold emptyP
    rw [hyT, hyD, q1, q2, ok1.count]
    have : (cntT fun t => fullT t &&& fullT t) = 512 := by decide +kernel
    rw [this]
    rfl
  have hf : fewP [y] = [y] := by
    unfold fewP
    simp only [List.foldl_cons, List.foldl_nil, stepP, he]
    rfl
  rw [hf] at hres
  rcases hres with ⟨-, v, rfl, h2, h3⟩ | ⟨h1, -⟩
  · obtain ⟨a, c, rfl, -⟩ := ow_form h2
    exact ⟨[y], a, c, rfl, rfl, RdA.own encP_ok h2 rfl, h3.mean, g⟩
  · simp at h1
set_option maxHeartbeats 8000000 in
set_option maxRecDepth 100000 in
theorem partSets_bad_any_bad (K : List PtI) (L : List PtI) (va vb : Option Addr) (vc vd : Nat) (fv : Value) (w : World) (hla : K.length ≤ 9223372036854775807) (hva : RdA encR 3 w va K) (hma : MeansI w K) (hA : ¬ chkP K = 0) (hlb : L.length ≤ 9223372036854775807) (hvb : RdA encR 3 w vb L) (hmb : MeansI w L) :
  Calls Tryz.prog 3 #[.slice va K.length vc, .slice vb L.length vd, fv] w fun e w' => e = .returned (.bool true) ∧ Gr w w' := by
 refine enter (N := 137) Tryz.func3 rfl rfl rfl (fun a0 ok0 h0 => ?_)
 have e0_0 : a0.eval (.tmp 0) = .slice va K.length vc := h0 0 _ rfl
 have e0_1 : a0.eval (.tmp 1) = .slice vb L.length vd := h0 1 _ rfl
 have e0_2 : a0.eval (.tmp 2) = fv := h0 2 _ rfl
 clear h0
 have G0 := Gr.refl w
 refine wp_seq_k (fun K1 hK1 => ?_)
 refine wp_region_lit ?_
 refine sv ok0 rfl (wn _ rfl) rfl (o_as ev_const) (fun an2 n2 => ?_)
 refine wpList_nil ?_
 refine th_n (hK1 _ _ ?_)
 refine wp_seq_k (fun K3 hK3 => ?_)
 refine wp_region_lit ?_
 refine sv n2.ok rfl (wn _ rfl) rfl (o_mv (n2.ne rfl e0_0)) (fun an4 n4 => ?_)
 refine sv n4.ok rfl (wn _ rfl) rfl (o_mv (n4.ne rfl (n2.ne rfl e0_1))) (fun an5 n5 => ?_)
 refine sc n5.ok rfl (wn _ rfl) rfl (o_f2 Tryz.func6 rfl rfl rfl (n5.ne rfl n4.at_) n5.at_) (by have h := pjoin_bad K L va vb vc vd hla hlb (by rw [chkP2_l hA]; exact hA) w (hva.gr G0) (hvb.gr G0) (hma.gr G0) (hmb.gr G0); rw [chkP2_l hA] at h; exact h) ?_
 rintro _ w7 ⟨rfl, g8⟩
 refine ⟨_, rfl, fun an6 n6 => ?_⟩
 have G9 := G0.trans g8
 refine sv n6.ok rfl (wn _ rfl) rfl (o_mv n6.at_) (fun an10 n10 => ?_)
 refine sv n10.ok rfl (wn _ rfl) rfl (o_ex n10.at_ rfl) (fun an11 n11 => ?_)
 refine sv n11.ok rfl (wn _ rfl) rfl (o_ex (n11.ne rfl n10.at_) rfl) (fun an12 n12 => ?_)
 refine sv n12.ok rfl (wn _ rfl) rfl (o_as (n12.ne rfl n11.at_)) (fun an13 n13 => ?_)
 refine sv n13.ok rfl (wn _ rfl) rfl (o_as (n13.ne rfl n12.at_)) (fun an14 n14 => ?_)
 refine wpList_nil ?_
 refine th_n (hK3 _ _ ?_)
 refine wp_seq_k (fun K15 hK15 => ?_)
 refine wp_region_lit ?_
 have e16 := n14.ne rfl (n13.ne rfl (n12.ne rfl (n11.ne rfl (n10.ne rfl (n6.ne rfl (n5.ne rfl (n4.ne rfl (n2.ne rfl e0_0))))))))
 refine sv n14.ok rfl (wn _ rfl) rfl (o_mv e16) (fun an17 n17 => ?_)
 have e18 := n17.ne rfl (n14.ne rfl (n13.ne rfl (n12.ne rfl (n11.ne rfl (n10.ne rfl (n6.ne rfl (n5.ne rfl (n4.ne rfl (n2.ne rfl e0_2)))))))))
 refine sv n17.ok rfl (wn _ rfl) rfl (o_mv e18) (fun an19 n19 => ?_)
 refine sc n19.ok rfl (wn _ rfl) rfl (o_f2 Tryz.func7 rfl rfl rfl (n19.ne rfl n17.at_) n19.at_) (pnarrow_bad K va vc fv hla hA w7 (hva.gr G9) (hma.gr G9)) ?_
 rintro _ w21 ⟨rfl, g22⟩
 refine ⟨_, rfl, fun an20 n20 => ?_⟩
 have G23 := G9.trans g22
 refine sv n20.ok rfl (wn _ rfl) rfl (o_mv n20.at_) (fun an24 n24 => ?_)
 refine sv n24.ok rfl (wn _ rfl) rfl (o_ex n24.at_ rfl) (fun an25 n25 => ?_)
 refine sv n25.ok rfl (wn _ rfl) rfl (o_ex (n25.ne rfl n24.at_) rfl) (fun an26 n26 => ?_)
 refine sv n26.ok rfl (wn _ rfl) rfl (o_as (n26.ne rfl n25.at_)) (fun an27 n27 => ?_)
 refine sv n27.ok rfl (wn _ rfl) rfl (o_as (n27.ne rfl n26.at_)) (fun an28 n28 => ?_)
 refine wpList_nil ?_
 refine th_n (hK15 _ _ ?_)
 refine wp_seq_k (fun K29 hK29 => ?_)
 refine wp_region_lit ?_
 have e30 := n28.ne rfl (n27.ne rfl (n26.ne rfl (n25.ne rfl (n24.ne rfl (n20.ne rfl (n19.ne rfl (n17.ne rfl e16)))))))
 refine sv n28.ok rfl (wn _ rfl) rfl (o_mv e30) (fun an31 n31 => ?_)
 refine sc n31.ok rfl (wn _ rfl) rfl (o_f1 Tryz.func8 rfl rfl rfl n31.at_) (rparts_any K va vc w21 hla (hva.gr G23) (hma.gr G23)) ?_
 rintro _ w33 ⟨rfl, g34⟩
 refine ⟨_, rfl, fun an32 n32 => ?_⟩
 have G35 := G23.trans g34
 refine sv n32.ok rfl (wn _ rfl) rfl (o_as n32.at_) (fun an36 n36 => ?_)
 refine wpList_nil ?_
 refine th_n (hK29 _ _ ?_)
 refine wp_seq_k (fun K37 hK37 => ?_)
 refine wp_region_lit ?_
 refine sc n36.ok rfl (wn _ rfl) rfl (o_f0 Tryz.func9 rfl rfl rfl ) (fevery w33) ?_
 rintro _ w39 ⟨ev, rfl, hev, g40⟩
 obtain ⟨fa, fn, fc, rfl⟩ := hev.form
 refine ⟨_, rfl, fun an38 n38 => ?_⟩
 have G41 := G35.trans g40
 have A43 := Gr.refl w39
 refine sv n38.ok rfl (wn _ rfl) rfl (o_as n38.at_) (fun an44 n44 => ?_)
 refine wpList_nil ?_
 refine th_n (hK37 _ _ ?_)
 refine wp_seq_k (fun K45 hK45 => ?_)
 refine wp_seq_k (fun K46 hK46 => ?_)
 refine wp_region_lit ?_
 refine sv n44.ok rfl (wn _ rfl) rfl (o_mv n44.at_) (fun an47 n47 => ?_)
 obtain ⟨i48, i48a, i48b, i48c⟩ := info3_of (show (Tryz.prog.info? 3).map (fun i => (i.zero, i.size)) = some (some (.int .i64 0), 1) by kernel_rfl)
 refine sals (cs := #[.int .i64 1]) n47.ok rfl (wn _ rfl) rfl (o_bs (vs := [(0, .int .i64 1)]) (by simp [ev_const]) Tryz.underlying30 i48a i48b (by rw [i48c]; rfl) (by rw [i48c]; rfl) (by rw [i48c]; kernel_rfl)) (fun an49 w51 b50 W52 n49 => ?_)
 have G55 := G41.trans W52.gr
 have A56 := A43.trans W52.gr
 refine sv n49.ok rfl (wn _ rfl) rfl (o_bd (cells := #[.slice (some ⟨b50, 0, none⟩) 1 1, .slice none 0 0]) (vs := [(0, .slice (some ⟨b50, 0, none⟩) 1 1)]) (by simp [n49.at_, ev_const]) (by kernel_rfl)) (fun an57 n57 => ?_)
 refine sv n57.ok rfl (wn _ rfl) rfl (o_bd (cells := #[.slice fa fn fc, .slice (some ⟨b50, 0, none⟩) 1 1, .slice none 0 0]) (vs := [(0, .slice fa fn fc), (1, .agg #[.slice (some ⟨b50, 0, none⟩) 1 1, .slice none 0 0])]) (by simp [(n57.ne rfl (n49.ne rfl n47.at_)), n57.at_, ev_const]) (by kernel_rfl)) (fun an58 n58 => ?_)
 obtain ⟨i59, i59a, i59b, i59c⟩ := info3_of (show (Tryz.prog.info? 35).map (fun i => (i.zero, i.size)) = some (some (.agg #[.slice none 0 0, .slice none 0 0, .slice none 0 0]), 3) by kernel_rfl)
 refine sals (cs := #[.slice fa fn fc, .slice (some ⟨b50, 0, none⟩) 1 1, .slice none 0 0]) n58.ok rfl (wn _ rfl) rfl (o_bs (vs := [(0, .agg #[.slice fa fn fc, .slice (some ⟨b50, 0, none⟩) 1 1, .slice none 0 0])]) (by simp [n58.at_, ev_const]) Tryz.underlying22 i59a i59b (by rw [i59c]; rfl) (by rw [i59c]; rfl) (by rw [i59c]; kernel_rfl)) (fun an60 w62 b61 W63 n60 => ?_)
 have G67 := G55.trans W63.gr
 have B68 := W52.bk.gr W63.gr
 have A69 := A56.trans W63.gr
 refine sc n60.ok rfl (wn _ rfl) rfl (o_f2 Tryz.func6 rfl rfl rfl ev_const n60.at_) (psets_lit b61 b50 fa fn fc _ _ w62 W63.bk B68 (FSn.le (hev.gr A69) (by decide))) ?_
 rintro _ w71 ⟨J1, ja, jc, rfl, hJ1, hjr, hjm, g72⟩
 refine ⟨_, rfl, fun an70 n70 => ?_⟩
 have G73 := G67.trans g72
 have A78 := Gr.refl w71
 refine sv n70.ok rfl (wn _ rfl) rfl (o_mv n70.at_) (fun an79 n79 => ?_)
 refine sv n79.ok rfl (wn _ rfl) rfl (o_ex n79.at_ rfl) (fun an80 n80 => ?_)
 refine sv n80.ok rfl (wn _ rfl) rfl (o_ex (n80.ne rfl n79.at_) rfl) (fun an81 n81 => ?_)
 refine sv n81.ok rfl (wn _ rfl) rfl (o_as (n81.ne rfl n80.at_)) (fun an82 n82 => ?_)
 refine sv n82.ok rfl (wn _ rfl) rfl (o_as (n82.ne rfl n81.at_)) (fun an83 n83 => ?_)
 refine wpList_nil ?_
 refine th_n (hK46 _ _ ?_)
 refine wp_seq_k (fun K84 hK84 => ?_)
 refine wp_region_lit ?_
 refine sv n83.ok rfl (wn _ rfl) rfl (o_mv n83.at_) (fun an85 n85 => ?_)
 refine sv n85.ok rfl (wn _ rfl) rfl (o_neq (b := false) n85.at_ ev_const (by decide)) (fun an86 n86 => ?_)
 refine sv n86.ok rfl (wn _ rfl) rfl (o_mv n86.at_) (fun an87 n87 => ?_)
 have e88 := n87.ne rfl (n86.ne rfl (n85.ne rfl (n83.ne rfl n82.at_)))
 refine sv n87.ok rfl (wgT rfl (yl 2 false rfl n87.at_) rfl) rfl (o_mv e88) (fun an89 n89 => ?_)
 refine sv n89.ok rfl (wgT rfl (yl 2 false rfl (n89.ne rfl n87.at_)) rfl) rfl (o_len n89.at_ Tryz.underlying22) (fun an90 n90 => ?_)
 refine sv n90.ok rfl (wgT rfl (yl 2 false rfl (n90.ne rfl (n89.ne rfl n87.at_))) rfl) rfl (o_neq (b := false) n90.at_ ev_const (by simp [show ((J1.length : Nat) : Int) = 1 from (show ((J1.length : Nat) : Int) = 1 by omega)])) (fun an91 n91 => ?_)
 have e92 := n91.ne rfl (n90.ne rfl (n89.ne rfl n87.at_))
 refine sv n91.ok rfl (wn _ rfl) rfl (o_pkF e92 n91.at_) (fun an93 n93 => ?_)
 refine sv n93.ok rfl (wn _ rfl) rfl (o_mv n93.at_) (fun an94 n94 => ?_)
 have e95 := n94.ne rfl (n93.ne rfl (n91.ne rfl (n90.ne rfl (n89.ne rfl e88))))
 refine sv n94.ok rfl (wgT rfl (yl 7 false rfl n94.at_) rfl) rfl (o_mv e95) (fun an96 n96 => ?_)
 have h97l : 0 < List.length J1 := by omega
 obtain ⟨bh97, fh97, h97a, h97b, h97c⟩ := (hjr.gr A78) (ne_nil_of_lt h97l)
 obtain ⟨xh97, h97x⟩ : ∃ x, (J1)[0]? = some x := ⟨_, List.getElem?_eq_getElem h97l⟩
 refine sv n96.ok rfl (wgT rfl (yl 7 false rfl (n96.ne rfl n94.at_)) rfl) rfl (o_iaV (i := 0) (s := 3) h97a n96.at_ ev_const Tryz.underlying22 (by kernel_rfl) h97l) (fun an98 n98 => ?_)
 refine sv n98.ok rfl (wgT rfl (yl 7 false rfl (n98.ne rfl (n96.ne rfl n94.at_))) rfl) rfl (o_fa (z := 1) n98.at_ Tryz.underlying35 rfl (by kernel_rfl) rfl rfl) (fun an99 n99 => ?_)
 have e100 := n99.ne rfl (n98.ne rfl (n96.ne rfl n94.at_))
 refine sv n99.ok rfl (wgT rfl (yl 7 false rfl e100) rfl) rfl (o_ld n99.at_ (Tryz.isAgg23 _) ((Below.cell (Gr.refl w71) h97b).trans (h97c _ _ h97x 0 _ rfl))) (fun an101 n101 => ?_)
 refine sc n101.ok rfl (wgT rfl (yl 7 false rfl (n101.ne rfl e100)) rfl) rfl (o_f1 Tryz.func10 rfl rfl rfl n101.at_) (rfilter_ok (by decide) ((hjm.gr A78) _ (List.mem_of_getElem? h97x)).fs) ?_
 rintro _ w103 ⟨rfl, g104⟩
 refine ⟨_, rfl, fun an102 n102 => ?_⟩
 have G105 := G73.trans g104
 refine sv n102.ok rfl (wgT rfl (yl 7 false rfl (n102.ne rfl (n101.ne rfl e100))) rfl) rfl (o_neq (b := false) n102.at_ ev_const (by decide)) (fun an110 n110 => ?_)
 have e111 := n110.ne rfl (n102.ne rfl (n101.ne rfl e100))
 refine sv n110.ok rfl (wn _ rfl) rfl (o_pkF e111 n110.at_) (fun an112 n112 => ?_)
 refine wpList_nil ?_
 refine th_n (hK84 _ _ ?_)
 refine wp_cond_false (n112.at_) ?_
 refine wp_skip ?_
 refine th_n (hK45 _ _ ?_)
 refine wp_seq_k (fun K113 hK113 => ?_)
 refine wp_seq_k (fun K114 hK114 => ?_)
 refine wp_region_lit ?_
 have e115 := n112.ne rfl (n110.ne rfl (n102.ne rfl (n101.ne rfl (n99.ne rfl (n98.ne rfl (n96.ne rfl (n94.ne rfl (n93.ne rfl (n91.ne rfl (n90.ne rfl (n89.ne rfl (n87.ne rfl (n86.ne rfl (n85.ne rfl (n83.ne rfl (n82.ne rfl (n81.ne rfl (n80.ne rfl (n79.ne rfl (n70.ne rfl (n60.ne rfl (n58.ne rfl (n57.ne rfl (n49.ne rfl (n47.ne rfl (n44.ne rfl (n38.ne rfl n36.at_)))))))))))))))))))))))))))
 refine sv n112.ok rfl (wn _ rfl) rfl (o_mv e115) (fun an116 n116 => ?_)
 refine sv n116.ok rfl (wn _ rfl) rfl (o_neq (b := true) n116.at_ ev_const (by simp [show ¬ (chkP K) = 0 from hA])) (fun an117 n117 => ?_)
 refine wpList_nil ?_
 refine th_n (hK114 _ _ ?_)
 refine wp_cond_true (n117.at_) ?_
 refine wp_seq_k (fun K118 hK118 => ?_)
 refine wp_region_lit ?_
 have e119 := n117.ne rfl (n116.ne rfl (n112.ne rfl (n110.ne rfl (n102.ne rfl (n101.ne rfl (n99.ne rfl (n98.ne rfl (n96.ne rfl (n94.ne rfl (n93.ne rfl (n91.ne rfl (n90.ne rfl (n89.ne rfl (n87.ne rfl (n86.ne rfl (n85.ne rfl (n83.ne rfl (n82.ne rfl (n81.ne rfl (n80.ne rfl (n79.ne rfl (n70.ne rfl (n60.ne rfl (n58.ne rfl (n57.ne rfl (n49.ne rfl (n47.ne rfl (n44.ne rfl (n38.ne rfl (n36.ne rfl (n32.ne rfl (n31.ne rfl (n28.ne rfl (n27.ne rfl (n26.ne rfl (n25.ne rfl (n24.ne rfl (n20.ne rfl (n19.ne rfl (n17.ne rfl n14.at_))))))))))))))))))))))))))))))))))))))))
 refine sv n117.ok rfl (wn _ rfl) rfl (o_mv e119) (fun an120 n120 => ?_)
 have e121 := n120.ne rfl (n117.ne rfl (n116.ne rfl e115))
 refine sv n120.ok rfl (wn _ rfl) rfl (o_mv e121) (fun an122 n122 => ?_)
 refine sv n122.ok rfl (wn _ rfl) rfl (o_eq (n122.ne rfl n120.at_) n122.at_ (decide_eq_true rfl)) (fun an123 n123 => ?_)
 refine sv n123.ok rfl (wn _ rfl) rfl (o_mv n123.at_) (fun an124 n124 => ?_)
 have e125 := n124.ne rfl (n123.ne rfl (n122.ne rfl (n120.ne rfl (n117.ne rfl (n116.ne rfl (n112.ne rfl (n110.ne rfl (n102.ne rfl (n101.ne rfl (n99.ne rfl (n98.ne rfl (n96.ne rfl (n94.ne rfl (n93.ne rfl (n91.ne rfl (n90.ne rfl (n89.ne rfl (n87.ne rfl (n86.ne rfl (n85.ne rfl (n83.ne rfl (n82.ne rfl (n81.ne rfl (n80.ne rfl (n79.ne rfl (n70.ne rfl (n60.ne rfl (n58.ne rfl (n57.ne rfl (n49.ne rfl (n47.ne rfl (n44.ne rfl (n38.ne rfl (n36.ne rfl (n32.ne rfl (n31.ne rfl n28.at_))))))))))))))))))))))))))))))))))))
 refine sv n124.ok rfl (wgT rfl (yl 3 true rfl n124.at_) rfl) rfl (o_mv e125) (fun an126 n126 => ?_)
 have e127 := n126.ne rfl (n124.ne rfl (n123.ne rfl (n122.ne rfl e121)))
 refine sv n126.ok rfl (wgT rfl (yl 3 true rfl (n126.ne rfl n124.at_)) rfl) rfl (o_mv e127) (fun an128 n128 => ?_)
 refine sv n128.ok rfl (wgT rfl (yl 3 true rfl (n128.ne rfl (n126.ne rfl n124.at_))) rfl) rfl (o_eq (n128.ne rfl n126.at_) n128.at_ (decide_eq_true rfl)) (fun an129 n129 => ?_)
 have e130 := n129.ne rfl (n128.ne rfl (n126.ne rfl n124.at_))
 refine sv n129.ok rfl (wn _ rfl) rfl (o_pkT e130 n129.at_) (fun an131 n131 => ?_)
 refine sv n131.ok rfl (wn _ rfl) rfl (o_mv n131.at_) (fun an132 n132 => ?_)
 have e133 := n132.ne rfl (n131.ne rfl (n129.ne rfl (n128.ne rfl (n126.ne rfl (n124.ne rfl (n123.ne rfl (n122.ne rfl (n120.ne rfl (n117.ne rfl (n116.ne rfl (n112.ne rfl (n110.ne rfl (n102.ne rfl (n101.ne rfl (n99.ne rfl (n98.ne rfl (n96.ne rfl (n94.ne rfl (n93.ne rfl (n91.ne rfl (n90.ne rfl (n89.ne rfl (n87.ne rfl (n86.ne rfl (n85.ne rfl (n83.ne rfl (n82.ne rfl (n81.ne rfl (n80.ne rfl (n79.ne rfl (n70.ne rfl (n60.ne rfl (n58.ne rfl (n57.ne rfl (n49.ne rfl (n47.ne rfl (n44.ne rfl (n38.ne rfl (n36.ne rfl (n32.ne rfl (n31.ne rfl (n28.ne rfl (n27.ne rfl (n26.ne rfl (n25.ne rfl (n24.ne rfl (n20.ne rfl (n19.ne rfl (n17.ne rfl (n14.ne rfl n13.at_))))))))))))))))))))))))))))))))))))))))))))))))))
 refine sv n132.ok rfl (wgT rfl (yl 8 true rfl n132.at_) rfl) rfl (o_mv e133) (fun an134 n134 => ?_)
 refine sv n134.ok rfl (wgT rfl (yl 8 true rfl (n134.ne rfl n132.at_)) rfl) rfl (o_len n134.at_ Tryz.underlying22) (fun an135 n135 => ?_)
 refine sv n135.ok rfl (wgT rfl (yl 8 true rfl (n135.ne rfl (n134.ne rfl n132.at_))) rfl) rfl (o_eq (b := true) n135.at_ ev_const (by decide)) (fun an136 n136 => ?_)
 have e137 := n136.ne rfl (n135.ne rfl (n134.ne rfl n132.at_))
 refine sv n136.ok rfl (wn _ rfl) rfl (o_pkT e137 n136.at_) (fun an138 n138 => ?_)
 refine sv n138.ok rfl (wn _ rfl) rfl (o_mv n138.at_) (fun an139 n139 => ?_)
 have e140 := n139.ne rfl (n138.ne rfl (n136.ne rfl (n135.ne rfl (n134.ne rfl (n132.ne rfl (n131.ne rfl (n129.ne rfl (n128.ne rfl (n126.ne rfl (n124.ne rfl (n123.ne rfl (n122.ne rfl (n120.ne rfl (n117.ne rfl (n116.ne rfl (n112.ne rfl (n110.ne rfl (n102.ne rfl (n101.ne rfl (n99.ne rfl (n98.ne rfl (n96.ne rfl (n94.ne rfl (n93.ne rfl (n91.ne rfl (n90.ne rfl (n89.ne rfl (n87.ne rfl (n86.ne rfl (n85.ne rfl (n83.ne rfl (n82.ne rfl (n81.ne rfl (n80.ne rfl (n79.ne rfl (n70.ne rfl (n60.ne rfl (n58.ne rfl (n57.ne rfl (n49.ne rfl (n47.ne rfl (n44.ne rfl (n38.ne rfl (n36.ne rfl (n32.ne rfl (n31.ne rfl (n28.ne rfl n27.at_)))))))))))))))))))))))))))))))))))))))))))))))
 refine sv n139.ok rfl (wgT rfl (yl 13 true rfl n139.at_) rfl) rfl (o_mv e140) (fun an141 n141 => ?_)
 refine sv n141.ok rfl (wgT rfl (yl 13 true rfl (n141.ne rfl n139.at_)) rfl) rfl (o_len n141.at_ Tryz.underlying22) (fun an142 n142 => ?_)
 refine sv n142.ok rfl (wgT rfl (yl 13 true rfl (n142.ne rfl (n141.ne rfl n139.at_))) rfl) rfl (o_eq (b := true) n142.at_ ev_const (by decide)) (fun an143 n143 => ?_)
 have e144 := n143.ne rfl (n142.ne rfl (n141.ne rfl n139.at_))
 refine sv n143.ok rfl (wn _ rfl) rfl (o_pkT e144 n143.at_) (fun an145 n145 => ?_)
 refine sv n145.ok rfl (wn _ rfl) rfl (o_as n145.at_) (fun an146 n146 => ?_)
 refine wpList_nil ?_
 refine th_n (hK118 _ _ ?_)
 refine wp_ret ?_
 refine th_r ?_
 exact ret1 n146.ok rfl (n146.at_) ⟨rfl, G105⟩
set_option maxHeartbeats 8000000 in
set_option maxRecDepth 100000 in
theorem partSets_ok_bad_bad (X : List PtX) (L : List PtI) (va vb : Option Addr) (vc vd : Nat) (fv : Value) (l : List BoxI) (w : World) (hla : X.length ≤ 30) (hva : RdA encP 3 w va X) (hma : MeansP w X) (hlb : L.length ≤ 9223372036854775807) (hvb : RdA encR 3 w vb L) (hmb : MeansI w L) (hB : ¬ chkP L = 0) (hf : RdF w fv l) (hF : ¬ chkF l = 0) :
  Calls Tryz.prog 3 #[.slice va X.length vc, .slice vb L.length vd, fv] w fun e w' => e = .returned (.bool true) ∧ Gr w w' := by
 refine enter (N := 137) Tryz.func3 rfl rfl rfl (fun a0 ok0 h0 => ?_)
 have e0_0 : a0.eval (.tmp 0) = .slice va X.length vc := h0 0 _ rfl
 have e0_1 : a0.eval (.tmp 1) = .slice vb L.length vd := h0 1 _ rfl
 have e0_2 : a0.eval (.tmp 2) = fv := h0 2 _ rfl
 clear h0
 have G0 := Gr.refl w
 refine wp_seq_k (fun K1 hK1 => ?_)
 refine wp_region_lit ?_
 refine sv ok0 rfl (wn _ rfl) rfl (o_as ev_const) (fun an2 n2 => ?_)
 refine wpList_nil ?_
 refine th_n (hK1 _ _ ?_)
 refine wp_seq_k (fun K3 hK3 => ?_)
 refine wp_region_lit ?_
 refine sv n2.ok rfl (wn _ rfl) rfl (o_mv (n2.ne rfl e0_0)) (fun an4 n4 => ?_)
 refine sv n4.ok rfl (wn _ rfl) rfl (o_mv (n4.ne rfl (n2.ne rfl e0_1))) (fun an5 n5 => ?_)
 refine sc n5.ok rfl (wn _ rfl) rfl (o_f2 Tryz.func6 rfl rfl rfl (n5.ne rfl n4.at_) n5.at_) (pjoin_half X L va vb vc vd w hla hlb hB (hva.gr G0) (hvb.gr G0) (hma.gr G0) (hmb.gr G0)) ?_
 rintro _ w7 ⟨rfl, g8⟩
 refine ⟨_, rfl, fun an6 n6 => ?_⟩
 have G9 := G0.trans g8
 refine sv n6.ok rfl (wn _ rfl) rfl (o_mv n6.at_) (fun an10 n10 => ?_)
 refine sv n10.ok rfl (wn _ rfl) rfl (o_ex n10.at_ rfl) (fun an11 n11 => ?_)
 refine sv n11.ok rfl (wn _ rfl) rfl (o_ex (n11.ne rfl n10.at_) rfl) (fun an12 n12 => ?_)
 refine sv n12.ok rfl (wn _ rfl) rfl (o_as (n12.ne rfl n11.at_)) (fun an13 n13 => ?_)
 refine sv n13.ok rfl (wn _ rfl) rfl (o_as (n13.ne rfl n12.at_)) (fun an14 n14 => ?_)
 refine wpList_nil ?_
 refine th_n (hK3 _ _ ?_)
 refine wp_seq_k (fun K15 hK15 => ?_)
 refine wp_region_lit ?_
 have e16 := n14.ne rfl (n13.ne rfl (n12.ne rfl (n11.ne rfl (n10.ne rfl (n6.ne rfl (n5.ne rfl (n4.ne rfl (n2.ne rfl e0_0))))))))
 refine sv n14.ok rfl (wn _ rfl) rfl (o_mv e16) (fun an17 n17 => ?_)
 have e18 := n17.ne rfl (n14.ne rfl (n13.ne rfl (n12.ne rfl (n11.ne rfl (n10.ne rfl (n6.ne rfl (n5.ne rfl (n4.ne rfl (n2.ne rfl e0_2)))))))))
 refine sv n17.ok rfl (wn _ rfl) rfl (o_mv e18) (fun an19 n19 => ?_)
 refine sc n19.ok rfl (wn _ rfl) rfl (o_f2 Tryz.func7 rfl rfl rfl (n19.ne rfl n17.at_) n19.at_) (pnarrow_badF X va vc fv l hla hF w7 (hva.gr G9) (hma.gr G9) (hf.gr G9)) ?_
 rintro _ w21 ⟨rfl, g22⟩
 refine ⟨_, rfl, fun an20 n20 => ?_⟩
 have G23 := G9.trans g22
 refine sv n20.ok rfl (wn _ rfl) rfl (o_mv n20.at_) (fun an24 n24 => ?_)
 refine sv n24.ok rfl (wn _ rfl) rfl (o_ex n24.at_ rfl) (fun an25 n25 => ?_)
 refine sv n25.ok rfl (wn _ rfl) rfl (o_ex (n25.ne rfl n24.at_) rfl) (fun an26 n26 => ?_)
 refine sv n26.ok rfl (wn _ rfl) rfl (o_as (n26.ne rfl n25.at_)) (fun an27 n27 => ?_)
 refine sv n27.ok rfl (wn _ rfl) rfl (o_as (n27.ne rfl n26.at_)) (fun an28 n28 => ?_)
 refine wpList_nil ?_
 refine th_n (hK15 _ _ ?_)
 refine wp_seq_k (fun K29 hK29 => ?_)
 refine wp_region_lit ?_
 have e30 := n28.ne rfl (n27.ne rfl (n26.ne rfl (n25.ne rfl (n24.ne rfl (n20.ne rfl (n19.ne rfl (n17.ne rfl e16)))))))
 refine sv n28.ok rfl (wn _ rfl) rfl (o_mv e30) (fun an31 n31 => ?_)
 refine sc n31.ok rfl (wn _ rfl) rfl (o_f1 Tryz.func8 rfl rfl rfl n31.at_) (rparts_ok X va vc w21 hla (hva.gr G23) (hma.gr G23)) ?_
 rintro _ w33 ⟨rfl, g34⟩
 refine ⟨_, rfl, fun an32 n32 => ?_⟩
 have G35 := G23.trans g34
 refine sv n32.ok rfl (wn _ rfl) rfl (o_as n32.at_) (fun an36 n36 => ?_)
 refine wpList_nil ?_
 refine th_n (hK29 _ _ ?_)
 refine wp_seq_k (fun K37 hK37 => ?_)
 refine wp_region_lit ?_
 refine sc n36.ok rfl (wn _ rfl) rfl (o_f0 Tryz.func9 rfl rfl rfl ) (fevery w33) ?_
 rintro _ w39 ⟨ev, rfl, hev, g40⟩
 obtain ⟨fa, fn, fc, rfl⟩ := hev.form
 refine ⟨_, rfl, fun an38 n38 => ?_⟩
 have G41 := G35.trans g40
 have A43 := Gr.refl w39
 refine sv n38.ok rfl (wn _ rfl) rfl (o_as n38.at_) (fun an44 n44 => ?_)
 refine wpList_nil ?_
 refine th_n (hK37 _ _ ?_)
 refine wp_seq_k (fun K45 hK45 => ?_)
 refine wp_seq_k (fun K46 hK46 => ?_)
 refine wp_region_lit ?_
 refine sv n44.ok rfl (wn _ rfl) rfl (o_mv n44.at_) (fun an47 n47 => ?_)
 obtain ⟨i48, i48a, i48b, i48c⟩ := info3_of (show (Tryz.prog.info? 3).map (fun i => (i.zero, i.size)) = some (some (.int .i64 0), 1) by kernel_rfl)
 refine sals (cs := #[.int .i64 1]) n47.ok rfl (wn _ rfl) rfl (o_bs (vs := [(0, .int .i64 1)]) (by simp [ev_const]) Tryz.underlying30 i48a i48b (by rw [i48c]; rfl) (by rw [i48c]; rfl) (by rw [i48c]; kernel_rfl)) (fun an49 w51 b50 W52 n49 => ?_)
 have G55 := G41.trans W52.gr
 have A56 := A43.trans W52.gr
 refine sv n49.ok rfl (wn _ rfl) rfl (o_bd (cells := #[.slice (some ⟨b50, 0, none⟩) 1 1, .slice none 0 0]) (vs := [(0, .slice (some ⟨b50, 0, none⟩) 1 1)]) (by simp [n49.at_, ev_const]) (by kernel_rfl)) (fun an57 n57 => ?_)
 refine sv n57.ok rfl (wn _ rfl) rfl (o_bd (cells := #[.slice fa fn fc, .slice (some ⟨b50, 0, none⟩) 1 1, .slice none 0 0]) (vs := [(0, .slice fa fn fc), (1, .agg #[.slice (some ⟨b50, 0, none⟩) 1 1, .slice none 0 0])]) (by simp [(n57.ne rfl (n49.ne rfl n47.at_)), n57.at_, ev_const]) (by kernel_rfl)) (fun an58 n58 => ?_)
 obtain ⟨i59, i59a, i59b, i59c⟩ := info3_of (show (Tryz.prog.info? 35).map (fun i => (i.zero, i.size)) = some (some (.agg #[.slice none 0 0, .slice none 0 0, .slice none 0 0]), 3) by kernel_rfl)
 refine sals (cs := #[.slice fa fn fc, .slice (some ⟨b50, 0, none⟩) 1 1, .slice none 0 0]) n58.ok rfl (wn _ rfl) rfl (o_bs (vs := [(0, .agg #[.slice fa fn fc, .slice (some ⟨b50, 0, none⟩) 1 1, .slice none 0 0])]) (by simp [n58.at_, ev_const]) Tryz.underlying22 i59a i59b (by rw [i59c]; rfl) (by rw [i59c]; rfl) (by rw [i59c]; kernel_rfl)) (fun an60 w62 b61 W63 n60 => ?_)
 have G67 := G55.trans W63.gr
 have B68 := W52.bk.gr W63.gr
 have A69 := A56.trans W63.gr
 refine sc n60.ok rfl (wn _ rfl) rfl (o_f2 Tryz.func6 rfl rfl rfl ev_const n60.at_) (psets_lit b61 b50 fa fn fc _ _ w62 W63.bk B68 (FSn.le (hev.gr A69) (by decide))) ?_
 rintro _ w71 ⟨J1, ja, jc, rfl, hJ1, hjr, hjm, g72⟩
 refine ⟨_, rfl, fun an70 n70 => ?_⟩
 have G73 := G67.trans g72
 have A78 := Gr.refl w71
 refine sv n70.ok rfl (wn _ rfl) rfl (o_mv n70.at_) (fun an79 n79 => ?_)
 refine sv n79.ok rfl (wn _ rfl) rfl (o_ex n79.at_ rfl) (fun an80 n80 => ?_)
 refine sv n80.ok rfl (wn _ rfl) rfl (o_ex (n80.ne rfl n79.at_) rfl) (fun an81 n81 => ?_)
 refine sv n81.ok rfl (wn _ rfl) rfl (o_as (n81.ne rfl n80.at_)) (fun an82 n82 => ?_)
 refine sv n82.ok rfl (wn _ rfl) rfl (o_as (n82.ne rfl n81.at_)) (fun an83 n83 => ?_)
 refine wpList_nil ?_
 refine th_n (hK46 _ _ ?_)
 refine wp_seq_k (fun K84 hK84 => ?_)
 refine wp_region_lit ?_
 refine sv n83.ok rfl (wn _ rfl) rfl (o_mv n83.at_) (fun an85 n85 => ?_)
 refine sv n85.ok rfl (wn _ rfl) rfl (o_neq (b := false) n85.at_ ev_const (by decide)) (fun an86 n86 => ?_)
 refine sv n86.ok rfl (wn _ rfl) rfl (o_mv n86.at_) (fun an87 n87 => ?_)
 have e88 := n87.ne rfl (n86.ne rfl (n85.ne rfl (n83.ne rfl n82.at_)))
 refine sv n87.ok rfl (wgT rfl (yl 2 false rfl n87.at_) rfl) rfl (o_mv e88) (fun an89 n89 => ?_)
 refine sv n89.ok rfl (wgT rfl (yl 2 false rfl (n89.ne rfl n87.at_)) rfl) rfl (o_len n89.at_ Tryz.underlying22) (fun an90 n90 => ?_)
 refine sv n90.ok rfl (wgT rfl (yl 2 false rfl (n90.ne rfl (n89.ne rfl n87.at_))) rfl) rfl (o_neq (b := false) n90.at_ ev_const (by simp [show ((J1.length : Nat) : Int) = 1 from (show ((J1.length : Nat) : Int) = 1 by omega)])) (fun an91 n91 => ?_)
 have e92 := n91.ne rfl (n90.ne rfl (n89.ne rfl n87.at_))
 refine sv n91.ok rfl (wn _ rfl) rfl (o_pkF e92 n91.at_) (fun an93 n93 => ?_)
 refine sv n93.ok rfl (wn _ rfl) rfl (o_mv n93.at_) (fun an94 n94 => ?_)
 have e95 := n94.ne rfl (n93.ne rfl (n91.ne rfl (n90.ne rfl (n89.ne rfl e88))))
 refine sv n94.ok rfl (wgT rfl (yl 7 false rfl n94.at_) rfl) rfl (o_mv e95) (fun an96 n96 => ?_)
 have h97l : 0 < List.length J1 := by omega
 obtain ⟨bh97, fh97, h97a, h97b, h97c⟩ := (hjr.gr A78) (ne_nil_of_lt h97l)
 obtain ⟨xh97, h97x⟩ : ∃ x, (J1)[0]? = some x := ⟨_, List.getElem?_eq_getElem h97l⟩
 refine sv n96.ok rfl (wgT rfl (yl 7 false rfl (n96.ne rfl n94.at_)) rfl) rfl (o_iaV (i := 0) (s := 3) h97a n96.at_ ev_const Tryz.underlying22 (by kernel_rfl) h97l) (fun an98 n98 => ?_)
 refine sv n98.ok rfl (wgT rfl (yl 7 false rfl (n98.ne rfl (n96.ne rfl n94.at_))) rfl) rfl (o_fa (z := 1) n98.at_ Tryz.underlying35 rfl (by kernel_rfl) rfl rfl) (fun an99 n99 => ?_)
 have e100 := n99.ne rfl (n98.ne rfl (n96.ne rfl n94.at_))
 refine sv n99.ok rfl (wgT rfl (yl 7 false rfl e100) rfl) rfl (o_ld n99.at_ (Tryz.isAgg23 _) ((Below.cell (Gr.refl w71) h97b).trans (h97c _ _ h97x 0 _ rfl))) (fun an101 n101 => ?_)
 refine sc n101.ok rfl (wgT rfl (yl 7 false rfl (n101.ne rfl e100)) rfl) rfl (o_f1 Tryz.func10 rfl rfl rfl n101.at_) (rfilter_ok (by decide) ((hjm.gr A78) _ (List.mem_of_getElem? h97x)).fs) ?_
 rintro _ w103 ⟨rfl, g104⟩
 refine ⟨_, rfl, fun an102 n102 => ?_⟩
 have G105 := G73.trans g104
 refine sv n102.ok rfl (wgT rfl (yl 7 false rfl (n102.ne rfl (n101.ne rfl e100))) rfl) rfl (o_neq (b := false) n102.at_ ev_const (by decide)) (fun an110 n110 => ?_)
 have e111 := n110.ne rfl (n102.ne rfl (n101.ne rfl e100))
 refine sv n110.ok rfl (wn _ rfl) rfl (o_pkF e111 n110.at_) (fun an112 n112 => ?_)
 refine wpList_nil ?_
 refine th_n (hK84 _ _ ?_)
 refine wp_cond_false (n112.at_) ?_
 refine wp_skip ?_
 refine th_n (hK45 _ _ ?_)
 refine wp_seq_k (fun K113 hK113 => ?_)
 refine wp_seq_k (fun K114 hK114 => ?_)
 refine wp_region_lit ?_
 have e115 := n112.ne rfl (n110.ne rfl (n102.ne rfl (n101.ne rfl (n99.ne rfl (n98.ne rfl (n96.ne rfl (n94.ne rfl (n93.ne rfl (n91.ne rfl (n90.ne rfl (n89.ne rfl (n87.ne rfl (n86.ne rfl (n85.ne rfl (n83.ne rfl (n82.ne rfl (n81.ne rfl (n80.ne rfl (n79.ne rfl (n70.ne rfl (n60.ne rfl (n58.ne rfl (n57.ne rfl (n49.ne rfl (n47.ne rfl (n44.ne rfl (n38.ne rfl n36.at_)))))))))))))))))))))))))))
 refine sv n112.ok rfl (wn _ rfl) rfl (o_mv e115) (fun an116 n116 => ?_)
 refine sv n116.ok rfl (wn _ rfl) rfl (o_neq (b := false) n116.at_ ev_const (by decide)) (fun an117 n117 => ?_)
 refine wpList_nil ?_
 refine th_n (hK114 _ _ ?_)
 refine wp_cond_false (n117.at_) ?_
 refine wp_skip ?_
 refine th_n (hK113 _ _ ?_)
 refine wp_seq_k (fun K118 hK118 => ?_)
 refine wp_seq_k (fun K119 hK119 => ?_)
 refine wp_region_lit ?_
 have e120 := n117.ne rfl (n116.ne rfl (n112.ne rfl (n110.ne rfl (n102.ne rfl (n101.ne rfl (n99.ne rfl (n98.ne rfl (n96.ne rfl (n94.ne rfl (n93.ne rfl (n91.ne rfl (n90.ne rfl (n89.ne rfl (n87.ne rfl (n86.ne rfl (n85.ne rfl (n83.ne rfl (n82.ne rfl (n81.ne rfl (n80.ne rfl (n79.ne rfl (n70.ne rfl (n60.ne rfl (n58.ne rfl (n57.ne rfl (n49.ne rfl (n47.ne rfl (n44.ne rfl (n38.ne rfl (n36.ne rfl (n32.ne rfl (n31.ne rfl (n28.ne rfl (n27.ne rfl (n26.ne rfl (n25.ne rfl (n24.ne rfl (n20.ne rfl (n19.ne rfl e18)))))))))))))))))))))))))))))))))))))))
 refine sv n117.ok rfl (wn _ rfl) rfl (o_mv e120) (fun an121 n121 => ?_)
 refine sc n121.ok rfl (wn _ rfl) rfl (o_f1 Tryz.func10 rfl rfl rfl n121.at_) (rfilter_any fv l w103 (hf.gr G105)) ?_
 rintro _ w123 ⟨rfl, g124⟩
 refine ⟨_, rfl, fun an122 n122 => ?_⟩
 have G125 := G105.trans g124
 refine sv n122.ok rfl (wn _ rfl) rfl (o_as n122.at_) (fun an130 n130 => ?_)
 refine wpList_nil ?_
 refine th_n (hK119 _ _ ?_)
 refine wp_seq_k (fun K131 hK131 => ?_)
 refine wp_region_lit ?_
 refine sv n130.ok rfl (wn _ rfl) rfl (o_mv n130.at_) (fun an132 n132 => ?_)
 refine sv n132.ok rfl (wn _ rfl) rfl (o_neq (b := true) n132.at_ ev_const (by simp [show ¬ (chkF l) = 0 from hF])) (fun an133 n133 => ?_)
 refine wpList_nil ?_
 refine th_n (hK131 _ _ ?_)
 refine wp_cond_true (n133.at_) ?_
 refine wp_seq_k (fun K134 hK134 => ?_)
 refine wp_region_lit ?_
 have e135 := n133.ne rfl (n132.ne rfl (n130.ne rfl (n122.ne rfl (n121.ne rfl (n117.ne rfl (n116.ne rfl (n112.ne rfl (n110.ne rfl (n102.ne rfl (n101.ne rfl (n99.ne rfl (n98.ne rfl (n96.ne rfl (n94.ne rfl (n93.ne rfl (n91.ne rfl (n90.ne rfl (n89.ne rfl (n87.ne rfl (n86.ne rfl (n85.ne rfl (n83.ne rfl (n82.ne rfl (n81.ne rfl (n80.ne rfl (n79.ne rfl (n70.ne rfl (n60.ne rfl (n58.ne rfl (n57.ne rfl (n49.ne rfl (n47.ne rfl (n44.ne rfl (n38.ne rfl (n36.ne rfl (n32.ne rfl (n31.ne rfl n28.at_)))))))))))))))))))))))))))))))))))))
 refine sv n133.ok rfl (wn _ rfl) rfl (o_mv e135) (fun an136 n136 => ?_)
 have e137 := n136.ne rfl (n133.ne rfl (n132.ne rfl n130.at_))
 refine sv n136.ok rfl (wn _ rfl) rfl (o_mv e137) (fun an138 n138 => ?_)
 refine sv n138.ok rfl (wn _ rfl) rfl (o_neq (b := false) (n138.ne rfl n136.at_) n138.at_ (by simp [show (chkF l) = (chkF l) from rfl])) (fun an139 n139 => ?_)
 refine sv n139.ok rfl (wn _ rfl) rfl (o_mv n139.at_) (fun an140 n140 => ?_)
 have e141 := n140.ne rfl (n139.ne rfl (n138.ne rfl (n136.ne rfl (n133.ne rfl (n132.ne rfl (n130.ne rfl (n122.ne rfl (n121.ne rfl (n117.ne rfl (n116.ne rfl (n112.ne rfl (n110.ne rfl (n102.ne rfl (n101.ne rfl (n99.ne rfl (n98.ne rfl (n96.ne rfl (n94.ne rfl (n93.ne rfl (n91.ne rfl (n90.ne rfl (n89.ne rfl (n87.ne rfl (n86.ne rfl (n85.ne rfl (n83.ne rfl (n82.ne rfl (n81.ne rfl (n80.ne rfl (n79.ne rfl (n70.ne rfl (n60.ne rfl (n58.ne rfl (n57.ne rfl (n49.ne rfl (n47.ne rfl (n44.ne rfl (n38.ne rfl (n36.ne rfl (n32.ne rfl (n31.ne rfl (n28.ne rfl n27.at_))))))))))))))))))))))))))))))))))))))))))
 refine sv n140.ok rfl (wgT rfl (yl 3 false rfl n140.at_) rfl) rfl (o_mv e141) (fun an142 n142 => ?_)
 refine sv n142.ok rfl (wgT rfl (yl 3 false rfl (n142.ne rfl n140.at_)) rfl) rfl (o_len n142.at_ Tryz.underlying22) (fun an143 n143 => ?_)
 refine sv n143.ok rfl (wgT rfl (yl 3 false rfl (n143.ne rfl (n142.ne rfl n140.at_))) rfl) rfl (o_neq (b := false) n143.at_ ev_const (by decide)) (fun an144 n144 => ?_)
 have e145 := n144.ne rfl (n143.ne rfl (n142.ne rfl n140.at_))
 refine sv n144.ok rfl (wn _ rfl) rfl (o_pkF e145 n144.at_) (fun an146 n146 => ?_)
 refine wpList_nil ?_
 refine th_n (hK134 _ _ ?_)
 refine wp_cond_false (n146.at_) ?_
 refine wp_skip ?_
 refine th_n (hK118 _ _ ?_)
 refine wp_seq_k (fun K147 hK147 => ?_)
 refine wp_seq_k (fun K148 hK148 => ?_)
 refine wp_region_lit ?_
 have e149 := n146.ne rfl (n144.ne rfl (n143.ne rfl (n142.ne rfl (n140.ne rfl (n139.ne rfl (n138.ne rfl (n136.ne rfl (n133.ne rfl (n132.ne rfl (n130.ne rfl (n122.ne rfl (n121.ne rfl (n117.ne rfl (n116.ne rfl (n112.ne rfl (n110.ne rfl (n102.ne rfl (n101.ne rfl (n99.ne rfl (n98.ne rfl (n96.ne rfl (n94.ne rfl (n93.ne rfl (n91.ne rfl (n90.ne rfl (n89.ne rfl (n87.ne rfl (n86.ne rfl (n85.ne rfl (n83.ne rfl (n82.ne rfl (n81.ne rfl (n80.ne rfl (n79.ne rfl (n70.ne rfl (n60.ne rfl (n58.ne rfl (n57.ne rfl (n49.ne rfl (n47.ne rfl (n44.ne rfl (n38.ne rfl (n36.ne rfl (n32.ne rfl (n31.ne rfl (n28.ne rfl (n27.ne rfl (n26.ne rfl (n25.ne rfl (n24.ne rfl (n20.ne rfl (n19.ne rfl (n17.ne rfl (n14.ne rfl (n13.ne rfl (n12.ne rfl (n11.ne rfl (n10.ne rfl (n6.ne rfl (n5.ne rfl (n4.ne rfl (n2.ne rfl e0_1))))))))))))))))))))))))))))))))))))))))))))))))))))))))))))))
 refine sv n146.ok rfl (wn _ rfl) rfl (o_mv e149) (fun an150 n150 => ?_)
 refine sc n150.ok rfl (wn _ rfl) rfl (o_f1 Tryz.func8 rfl rfl rfl n150.at_) (rparts_any L vb vd w123 hlb (hvb.gr G125) (hmb.gr G125)) ?_
 rintro _ w152 ⟨rfl, g153⟩
 refine ⟨_, rfl, fun an151 n151 => ?_⟩
 have G154 := G125.trans g153
 refine sv n151.ok rfl (wn _ rfl) rfl (o_as n151.at_) (fun an159 n159 => ?_)
 refine wpList_nil ?_
 refine th_n (hK148 _ _ ?_)
 refine wp_seq_k (fun K160 hK160 => ?_)
 refine wp_region_lit ?_
 refine sv n159.ok rfl (wn _ rfl) rfl (o_mv n159.at_) (fun an161 n161 => ?_)
 refine sv n161.ok rfl (wn _ rfl) rfl (o_neq (b := true) n161.at_ ev_const (by simp [show ¬ (chkP L) = 0 from hB])) (fun an162 n162 => ?_)
 refine wpList_nil ?_
 refine th_n (hK160 _ _ ?_)
 refine wp_cond_true (n162.at_) ?_
 refine wp_seq_k (fun K163 hK163 => ?_)
 refine wp_region_lit ?_
 have e164 := n162.ne rfl (n161.ne rfl (n159.ne rfl (n151.ne rfl (n150.ne rfl (n146.ne rfl (n144.ne rfl (n143.ne rfl (n142.ne rfl (n140.ne rfl (n139.ne rfl (n138.ne rfl (n136.ne rfl (n133.ne rfl (n132.ne rfl (n130.ne rfl (n122.ne rfl (n121.ne rfl (n117.ne rfl (n116.ne rfl (n112.ne rfl (n110.ne rfl (n102.ne rfl (n101.ne rfl (n99.ne rfl (n98.ne rfl (n96.ne rfl (n94.ne rfl (n93.ne rfl (n91.ne rfl (n90.ne rfl (n89.ne rfl (n87.ne rfl (n86.ne rfl (n85.ne rfl (n83.ne rfl (n82.ne rfl (n81.ne rfl (n80.ne rfl (n79.ne rfl (n70.ne rfl (n60.ne rfl (n58.ne rfl (n57.ne rfl (n49.ne rfl (n47.ne rfl (n44.ne rfl (n38.ne rfl (n36.ne rfl (n32.ne rfl (n31.ne rfl (n28.ne rfl (n27.ne rfl (n26.ne rfl (n25.ne rfl (n24.ne rfl (n20.ne rfl (n19.ne rfl (n17.ne rfl n14.at_))))))))))))))))))))))))))))))))))))))))))))))))))))))))))
 refine sv n162.ok rfl (wn _ rfl) rfl (o_mv e164) (fun an165 n165 => ?_)
 have e166 := n165.ne rfl (n162.ne rfl (n161.ne rfl n159.at_))
 refine sv n165.ok rfl (wn _ rfl) rfl (o_mv e166) (fun an167 n167 => ?_)
 refine sv n167.ok rfl (wn _ rfl) rfl (o_eq (n167.ne rfl n165.at_) n167.at_ (decide_eq_true rfl)) (fun an168 n168 => ?_)
 refine sv n168.ok rfl (wn _ rfl) rfl (o_mv n168.at_) (fun an169 n169 => ?_)
 have e170 := n169.ne rfl (n168.ne rfl (n167.ne rfl (n165.ne rfl (n162.ne rfl (n161.ne rfl (n159.ne rfl (n151.ne rfl (n150.ne rfl (n146.ne rfl (n144.ne rfl (n143.ne rfl (n142.ne rfl (n140.ne rfl (n139.ne rfl (n138.ne rfl (n136.ne rfl (n133.ne rfl (n132.ne rfl (n130.ne rfl (n122.ne rfl (n121.ne rfl (n117.ne rfl (n116.ne rfl (n112.ne rfl (n110.ne rfl (n102.ne rfl (n101.ne rfl (n99.ne rfl (n98.ne rfl (n96.ne rfl (n94.ne rfl (n93.ne rfl (n91.ne rfl (n90.ne rfl (n89.ne rfl (n87.ne rfl (n86.ne rfl (n85.ne rfl (n83.ne rfl (n82.ne rfl (n81.ne rfl (n80.ne rfl (n79.ne rfl (n70.ne rfl (n60.ne rfl (n58.ne rfl (n57.ne rfl (n49.ne rfl (n47.ne rfl (n44.ne rfl (n38.ne rfl (n36.ne rfl (n32.ne rfl (n31.ne rfl (n28.ne rfl (n27.ne rfl (n26.ne rfl (n25.ne rfl (n24.ne rfl (n20.ne rfl (n19.ne rfl (n17.ne rfl (n14.ne rfl n13.at_)))))))))))))))))))))))))))))))))))))))))))))))))))))))))))))))
 refine sv n169.ok rfl (wgT rfl (yl 3 true rfl n169.at_) rfl) rfl (o_mv e170) (fun an171 n171 => ?_)
 refine sv n171.ok rfl (wgT rfl (yl 3 true rfl (n171.ne rfl n169.at_)) rfl) rfl (o_len n171.at_ Tryz.underlying22) (fun an172 n172 => ?_)
 refine sv n172.ok rfl (wgT rfl (yl 3 true rfl (n172.ne rfl (n171.ne rfl n169.at_))) rfl) rfl (o_eq (b := true) n172.at_ ev_const (by decide)) (fun an173 n173 => ?_)
 have e174 := n173.ne rfl (n172.ne rfl (n171.ne rfl n169.at_))
 refine sv n173.ok rfl (wn _ rfl) rfl (o_pkT e174 n173.at_) (fun an175 n175 => ?_)
 refine sv n175.ok rfl (wn _ rfl) rfl (o_as n175.at_) (fun an176 n176 => ?_)
 refine wpList_nil ?_
 refine th_n (hK163 _ _ ?_)
 refine wp_ret ?_
 refine th_r ?_
 exact ret1 n176.ok rfl (n176.at_) ⟨rfl, G154⟩
set_option maxHeartbeats 8000000 in
set_option maxRecDepth 100000 in
theorem partSets_ok_ok_bad (X : List PtX) (L : List PtI) (va vb : Option Addr) (vc vd : Nat) (fv : Value) (U : Nat → Nat) (N : List PtM) (hN : fewM ((X.map PtX.d).map (narM (ptF U))) = N) (w : World) (hla : X.length ≤ 30) (hva : RdA encP 3 w va X) (hma : MeansP w X) (hlb : L.length ≤ 9223372036854775807) (hvb : RdA encR 3 w vb L) (hmb : MeansI w L) (hB : ¬ chkP L = 0) (hf : FS w fv U) :
  Calls Tryz.prog 3 #[.slice va X.length vc, .slice vb L.length vd, fv] w fun e w' => e = .returned (.bool true) ∧ Gr w w' := by
 refine enter (N := 137) Tryz.func3 rfl rfl rfl (fun a0 ok0 h0 => ?_)
 have e0_0 : a0.eval (.tmp 0) = .slice va X.length vc := h0 0 _ rfl
 have e0_1 : a0.eval (.tmp 1) = .slice vb L.length vd := h0 1 _ rfl
 have e0_2 : a0.eval (.tmp 2) = fv := h0 2 _ rfl
 clear h0
 have G0 := Gr.refl w
 refine wp_seq_k (fun K1 hK1 => ?_)
 refine wp_region_lit ?_
 refine sv ok0 rfl (wn _ rfl) rfl (o_as ev_const) (fun an2 n2 => ?_)
 refine wpList_nil ?_
 refine th_n (hK1 _ _ ?_)
 refine wp_seq_k (fun K3 hK3 => ?_)
 refine wp_region_lit ?_
 refine sv n2.ok rfl (wn _ rfl) rfl (o_mv (n2.ne rfl e0_0)) (fun an4 n4 => ?_)
 refine sv n4.ok rfl (wn _ rfl) rfl (o_mv (n4.ne rfl (n2.ne rfl e0_1))) (fun an5 n5 => ?_)
 refine sc n5.ok rfl (wn _ rfl) rfl (o_f2 Tryz.func6 rfl rfl rfl (n5.ne rfl n4.at_) n5.at_) (pjoin_half X L va vb vc vd w hla hlb hB (hva.gr G0) (hvb.gr G0) (hma.gr G0) (hmb.gr G0)) ?_
 rintro _ w7 ⟨rfl, g8⟩
 refine ⟨_, rfl, fun an6 n6 => ?_⟩
 have G9 := G0.trans g8
 refine sv n6.ok rfl (wn _ rfl) rfl (o_mv n6.at_) (fun an10 n10 => ?_)
 refine sv n10.ok rfl (wn _ rfl) rfl (o_ex n10.at_ rfl) (fun an11 n11 => ?_)
 refine sv n11.ok rfl (wn _ rfl) rfl (o_ex (n11.ne rfl n10.at_) rfl) (fun an12 n12 => ?_)
 refine sv n12.ok rfl (wn _ rfl) rfl (o_as (n12.ne rfl n11.at_)) (fun an13 n13 => ?_)
 refine sv n13.ok rfl (wn _ rfl) rfl (o_as (n13.ne rfl n12.at_)) (fun an14 n14 => ?_)
 refine wpList_nil ?_
 refine th_n (hK3 _ _ ?_)
 refine wp_seq_k (fun K15 hK15 => ?_)
 refine wp_region_lit ?_
 have e16 := n14.ne rfl (n13.ne rfl (n12.ne rfl (n11.ne rfl (n10.ne rfl (n6.ne rfl (n5.ne rfl (n4.ne rfl (n2.ne rfl e0_0))))))))
 refine sv n14.ok rfl (wn _ rfl) rfl (o_mv e16) (fun an17 n17 => ?_)
 have e18 := n17.ne rfl (n14.ne rfl (n13.ne rfl (n12.ne rfl (n11.ne rfl (n10.ne rfl (n6.ne rfl (n5.ne rfl (n4.ne rfl (n2.ne rfl e0_2)))))))))
 refine sv n17.ok rfl (wn _ rfl) rfl (o_mv e18) (fun an19 n19 => ?_)
 refine sc n19.ok rfl (wn _ rfl) rfl (o_f2 Tryz.func7 rfl rfl rfl (n19.ne rfl n17.at_) n19.at_) (pn_few X va vc fv U N hN hla w7 (hva.gr G9) (hma.gr G9) (hf.gr G9)) ?_
 rintro _ w21 ⟨E, na, nc, rfl, hEN, hEr, hEo, g22⟩
 refine ⟨_, rfl, fun an20 n20 => ?_⟩
 have G23 := G9.trans g22
 have A25 := Gr.refl w21
 refine sv n20.ok rfl (wn _ rfl) rfl (o_mv n20.at_) (fun an26 n26 => ?_)
 refine sv n26.ok rfl (wn _ rfl) rfl (o_ex n26.at_ rfl) (fun an27 n27 => ?_)
 refine sv n27.ok rfl (wn _ rfl) rfl (o_ex (n27.ne rfl n26.at_) rfl) (fun an28 n28 => ?_)
 refine sv n28.ok rfl (wn _ rfl) rfl (o_as (n28.ne rfl n27.at_)) (fun an29 n29 => ?_)
 refine sv n29.ok rfl (wn _ rfl) rfl (o_as (n29.ne rfl n28.at_)) (fun an30 n30 => ?_)
 refine wpList_nil ?_
 refine th_n (hK15 _ _ ?_)
 refine wp_seq_k (fun K31 hK31 => ?_)
 refine wp_region_lit ?_
 have e32 := n30.ne rfl (n29.ne rfl (n28.ne rfl (n27.ne rfl (n26.ne rfl (n20.ne rfl (n19.ne rfl (n17.ne rfl e16)))))))
 refine sv n30.ok rfl (wn _ rfl) rfl (o_mv e32) (fun an33 n33 => ?_)
 refine sc n33.ok rfl (wn _ rfl) rfl (o_f1 Tryz.func8 rfl rfl rfl n33.at_) (rparts_ok X va vc w21 hla (hva.gr G23) (hma.gr G23)) ?_
 rintro _ w35 ⟨rfl, g36⟩
 refine ⟨_, rfl, fun an34 n34 => ?_⟩
 have G37 := G23.trans g36
 have A38 := A25.trans g36
 refine sv n34.ok rfl (wn _ rfl) rfl (o_as n34.at_) (fun an39 n39 => ?_)
 refine wpList_nil ?_
 refine th_n (hK31 _ _ ?_)
 refine wp_seq_k (fun K40 hK40 => ?_)
 refine wp_region_lit ?_
 refine sc n39.ok rfl (wn _ rfl) rfl (o_f0 Tryz.func9 rfl rfl rfl ) (fevery w35) ?_
 rintro _ w42 ⟨ev, rfl, hev, g43⟩
 obtain ⟨fa, fn, fc, rfl⟩ := hev.form
 refine ⟨_, rfl, fun an41 n41 => ?_⟩
 have G44 := G37.trans g43
 have A45 := A38.trans g43
 have A47 := Gr.refl w42
 refine sv n41.ok rfl (wn _ rfl) rfl (o_as n41.at_) (fun an48 n48 => ?_)
 refine wpList_nil ?_
 refine th_n (hK40 _ _ ?_)
 refine wp_seq_k (fun K49 hK49 => ?_)
 refine wp_seq_k (fun K50 hK50 => ?_)
 refine wp_region_lit ?_
 refine sv n48.ok rfl (wn _ rfl) rfl (o_mv n48.at_) (fun an51 n51 => ?_)
 obtain ⟨i52, i52a, i52b, i52c⟩ := info3_of (show (Tryz.prog.info? 3).map (fun i => (i.zero, i.size)) = some (some (.int .i64 0), 1) by kernel_rfl)
 refine sals (cs := #[.int .i64 1]) n51.ok rfl (wn _ rfl) rfl (o_bs (vs := [(0, .int .i64 1)]) (by simp [ev_const]) Tryz.underlying30 i52a i52b (by rw [i52c]; rfl) (by rw [i52c]; rfl) (by rw [i52c]; kernel_rfl)) (fun an53 w55 b54 W56 n53 => ?_)
 have G60 := G44.trans W56.gr
 have A61 := A45.trans W56.gr
 have A62 := A47.trans W56.gr
 refine sv n53.ok rfl (wn _ rfl) rfl (o_bd (cells := #[.slice (some ⟨b54, 0, none⟩) 1 1, .slice none 0 0]) (vs := [(0, .slice (some ⟨b54, 0, none⟩) 1 1)]) (by simp [n53.at_, ev_const]) (by kernel_rfl)) (fun an63 n63 => ?_)
 refine sv n63.ok rfl (wn _ rfl) rfl (o_bd (cells := #[.slice fa fn fc, .slice (some ⟨b54, 0, none⟩) 1 1, .slice none 0 0]) (vs := [(0, .slice fa fn fc), (1, .agg #[.slice (some ⟨b54, 0, none⟩) 1 1, .slice none 0 0])]) (by simp [(n63.ne rfl (n53.ne rfl n51.at_)), n63.at_, ev_const]) (by kernel_rfl)) (fun an64 n64 => ?_)
 obtain ⟨i65, i65a, i65b, i65c⟩ := info3_of (show (Tryz.prog.info? 35).map (fun i => (i.zero, i.size)) = some (some (.agg #[.slice none 0 0, .slice none 0 0, .slice none 0 0]), 3) by kernel_rfl)
 refine sals (cs := #[.slice fa fn fc, .slice (some ⟨b54, 0, none⟩) 1 1, .slice none 0 0]) n64.ok rfl (wn _ rfl) rfl (o_bs (vs := [(0, .agg #[.slice fa fn fc, .slice (some ⟨b54, 0, none⟩) 1 1, .slice none 0 0])]) (by simp [n64.at_, ev_const]) Tryz.underlying22 i65a i65b (by rw [i65c]; rfl) (by rw [i65c]; rfl) (by rw [i65c]; kernel_rfl)) (fun an66 w68 b67 W69 n66 => ?_)
 have G74 := G60.trans W69.gr
 have B75 := W56.bk.gr W69.gr
 have A76 := A61.trans W69.gr
 have A77 := A62.trans W69.gr
 refine sc n66.ok rfl (wn _ rfl) rfl (o_f2 Tryz.func6 rfl rfl rfl ev_const n66.at_) (psets_lit b67 b54 fa fn fc _ _ w68 W69.bk B75 (FSn.le (hev.gr A77) (by decide))) ?_
 rintro _ w79 ⟨J1, ja, jc, rfl, hJ1, hjr, hjm, g80⟩
 refine ⟨_, rfl, fun an78 n78 => ?_⟩
 have G81 := G74.trans g80
 have A84 := A76.trans g80
 have A87 := Gr.refl w79
 refine sv n78.ok rfl (wn _ rfl) rfl (o_mv n78.at_) (fun an88 n88 => ?_)
 refine sv n88.ok rfl (wn _ rfl) rfl (o_ex n88.at_ rfl) (fun an89 n89 => ?_)
 refine sv n89.ok rfl (wn _ rfl) rfl (o_ex (n89.ne rfl n88.at_) rfl) (fun an90 n90 => ?_)
 refine sv n90.ok rfl (wn _ rfl) rfl (o_as (n90.ne rfl n89.at_)) (fun an91 n91 => ?_)
 refine sv n91.ok rfl (wn _ rfl) rfl (o_as (n91.ne rfl n90.at_)) (fun an92 n92 => ?_)
 refine wpList_nil ?_
 refine th_n (hK50 _ _ ?_)
 refine wp_seq_k (fun K93 hK93 => ?_)
 refine wp_region_lit ?_
 refine sv n92.ok rfl (wn _ rfl) rfl (o_mv n92.at_) (fun an94 n94 => ?_)
 refine sv n94.ok rfl (wn _ rfl) rfl (o_neq (b := false) n94.at_ ev_const (by decide)) (fun an95 n95 => ?_)
 refine sv n95.ok rfl (wn _ rfl) rfl (o_mv n95.at_) (fun an96 n96 => ?_)
 have e97 := n96.ne rfl (n95.ne rfl (n94.ne rfl (n92.ne rfl n91.at_)))
 refine sv n96.ok rfl (wgT rfl (yl 2 false rfl n96.at_) rfl) rfl (o_mv e97) (fun an98 n98 => ?_)
 refine sv n98.ok rfl (wgT rfl (yl 2 false rfl (n98.ne rfl n96.at_)) rfl) rfl (o_len n98.at_ Tryz.underlying22) (fun an99 n99 => ?_)
 refine sv n99.ok rfl (wgT rfl (yl 2 false rfl (n99.ne rfl (n98.ne rfl n96.at_))) rfl) rfl (o_neq (b := false) n99.at_ ev_const (by simp [show ((J1.length : Nat) : Int) = 1 from (show ((J1.length : Nat) : Int) = 1 by omega)])) (fun an100 n100 => ?_)
 have e101 := n100.ne rfl (n99.ne rfl (n98.ne rfl n96.at_))
 refine sv n100.ok rfl (wn _ rfl) rfl (o_pkF e101 n100.at_) (fun an102 n102 => ?_)
 refine sv n102.ok rfl (wn _ rfl) rfl (o_mv n102.at_) (fun an103 n103 => ?_)
 have e104 := n103.ne rfl (n102.ne rfl (n100.ne rfl (n99.ne rfl (n98.ne rfl e97))))
 refine sv n103.ok rfl (wgT rfl (yl 7 false rfl n103.at_) rfl) rfl (o_mv e104) (fun an105 n105 => ?_)
 have h106l : 0 < List.length J1 := by omega
 obtain ⟨bh106, fh106, h106a, h106b, h106c⟩ := (hjr.gr A87) (ne_nil_of_lt h106l)
 obtain ⟨xh106, h106x⟩ : ∃ x, (J1)[0]? = some x := ⟨_, List.getElem?_eq_getElem h106l⟩
 refine sv n105.ok rfl (wgT rfl (yl 7 false rfl (n105.ne rfl n103.at_)) rfl) rfl (o_iaV (i := 0) (s := 3) h106a n105.at_ ev_const Tryz.underlying22 (by kernel_rfl) h106l) (fun an107 n107 => ?_)
 refine sv n107.ok rfl (wgT rfl (yl 7 false rfl (n107.ne rfl (n105.ne rfl n103.at_))) rfl) rfl (o_fa (z := 1) n107.at_ Tryz.underlying35 rfl (by kernel_rfl) rfl rfl) (fun an108 n108 => ?_)
 have e109 := n108.ne rfl (n107.ne rfl (n105.ne rfl n103.at_))
 refine sv n108.ok rfl (wgT rfl (yl 7 false rfl e109) rfl) rfl (o_ld n108.at_ (Tryz.isAgg23 _) ((Below.cell (Gr.refl w79) h106b).trans (h106c _ _ h106x 0 _ rfl))) (fun an110 n110 => ?_)
 refine sc n110.ok rfl (wgT rfl (yl 7 false rfl (n110.ne rfl e109)) rfl) rfl (o_f1 Tryz.func10 rfl rfl rfl n110.at_) (rfilter_ok (by decide) ((hjm.gr A87) _ (List.mem_of_getElem? h106x)).fs) ?_
 rintro _ w112 ⟨rfl, g113⟩
 refine ⟨_, rfl, fun an111 n111 => ?_⟩
 have G114 := G81.trans g113
 have A117 := A84.trans g113
 refine sv n111.ok rfl (wgT rfl (yl 7 false rfl (n111.ne rfl (n110.ne rfl e109))) rfl) rfl (o_neq (b := false) n111.at_ ev_const (by decide)) (fun an120 n120 => ?_)
 have e121 := n120.ne rfl (n111.ne rfl (n110.ne rfl e109))
 refine sv n120.ok rfl (wn _ rfl) rfl (o_pkF e121 n120.at_) (fun an122 n122 => ?_)
 refine wpList_nil ?_
 refine th_n (hK93 _ _ ?_)
 refine wp_cond_false (n122.at_) ?_
 refine wp_skip ?_
 refine th_n (hK49 _ _ ?_)
 refine wp_seq_k (fun K123 hK123 => ?_)
 refine wp_seq_k (fun K124 hK124 => ?_)
 refine wp_region_lit ?_
 have e125 := n122.ne rfl (n120.ne rfl (n111.ne rfl (n110.ne rfl (n108.ne rfl (n107.ne rfl (n105.ne rfl (n103.ne rfl (n102.ne rfl (n100.ne rfl (n99.ne rfl (n98.ne rfl (n96.ne rfl (n95.ne rfl (n94.ne rfl (n92.ne rfl (n91.ne rfl (n90.ne rfl (n89.ne rfl (n88.ne rfl (n78.ne rfl (n66.ne rfl (n64.ne rfl (n63.ne rfl (n53.ne rfl (n51.ne rfl (n48.ne rfl (n41.ne rfl n39.at_)))))))))))))))))))))))))))
 refine sv n122.ok rfl (wn _ rfl) rfl (o_mv e125) (fun an126 n126 => ?_)
 refine sv n126.ok rfl (wn _ rfl) rfl (o_neq (b := false) n126.at_ ev_const (by decide)) (fun an127 n127 => ?_)
 refine wpList_nil ?_
 refine th_n (hK124 _ _ ?_)
 refine wp_cond_false (n127.at_) ?_
 refine wp_skip ?_
 refine th_n (hK123 _ _ ?_)
 refine wp_seq_k (fun K128 hK128 => ?_)
 refine wp_seq_k (fun K129 hK129 => ?_)
 refine wp_region_lit ?_
 have e130 := n127.ne rfl (n126.ne rfl (n122.ne rfl (n120.ne rfl (n111.ne rfl (n110.ne rfl (n108.ne rfl (n107.ne rfl (n105.ne rfl (n103.ne rfl (n102.ne rfl (n100.ne rfl (n99.ne rfl (n98.ne rfl (n96.ne rfl (n95.ne rfl (n94.ne rfl (n92.ne rfl (n91.ne rfl (n90.ne rfl (n89.ne rfl (n88.ne rfl (n78.ne rfl (n66.ne rfl (n64.ne rfl (n63.ne rfl (n53.ne rfl (n51.ne rfl (n48.ne rfl (n41.ne rfl (n39.ne rfl (n34.ne rfl (n33.ne rfl (n30.ne rfl (n29.ne rfl (n28.ne rfl (n27.ne rfl (n26.ne rfl (n20.ne rfl (n19.ne rfl e18)))))))))))))))))))))))))))))))))))))))
 refine sv n127.ok rfl (wn _ rfl) rfl (o_mv e130) (fun an131 n131 => ?_)
 refine sc n131.ok rfl (wn _ rfl) rfl (o_f1 Tryz.func10 rfl rfl rfl n131.at_) (rfilter_ok (by decide) (hf.gr G114)) ?_
 rintro _ w133 ⟨rfl, g134⟩
 refine ⟨_, rfl, fun an132 n132 => ?_⟩
 have G135 := G114.trans g134
 have A138 := A117.trans g134
 refine sv n132.ok rfl (wn _ rfl) rfl (o_as n132.at_) (fun an141 n141 => ?_)
 refine wpList_nil ?_
 refine th_n (hK129 _ _ ?_)
 refine wp_seq_k (fun K142 hK142 => ?_)
 refine wp_region_lit ?_
 refine sv n141.ok rfl (wn _ rfl) rfl (o_mv n141.at_) (fun an143 n143 => ?_)
 refine sv n143.ok rfl (wn _ rfl) rfl (o_neq (b := false) n143.at_ ev_const (by decide)) (fun an144 n144 => ?_)
 refine wpList_nil ?_
 refine th_n (hK142 _ _ ?_)
 refine wp_cond_false (n144.at_) ?_
 refine wp_seq_k (fun K145 hK145 => ?_)
 refine wp_region_lit ?_
 have e146 := n144.ne rfl (n143.ne rfl (n141.ne rfl (n132.ne rfl (n131.ne rfl (n127.ne rfl (n126.ne rfl (n122.ne rfl (n120.ne rfl (n111.ne rfl (n110.ne rfl (n108.ne rfl (n107.ne rfl (n105.ne rfl (n103.ne rfl (n102.ne rfl (n100.ne rfl (n99.ne rfl (n98.ne rfl (n96.ne rfl (n95.ne rfl (n94.ne rfl (n92.ne rfl (n91.ne rfl (n90.ne rfl (n89.ne rfl (n88.ne rfl (n78.ne rfl (n66.ne rfl (n64.ne rfl (n63.ne rfl (n53.ne rfl (n51.ne rfl (n48.ne rfl (n41.ne rfl (n39.ne rfl (n34.ne rfl (n33.ne rfl n30.at_)))))))))))))))))))))))))))))))))))))
 refine sv n144.ok rfl (wn _ rfl) rfl (o_mv e146) (fun an147 n147 => ?_)
 refine sv n147.ok rfl (wn _ rfl) rfl (o_neq (b := false) n147.at_ ev_const (by decide)) (fun an148 n148 => ?_)
 refine sv n148.ok rfl (wn _ rfl) rfl (o_mv n148.at_) (fun an149 n149 => ?_)
 have e150 := n149.ne rfl (n148.ne rfl (n147.ne rfl (n144.ne rfl (n143.ne rfl (n141.ne rfl (n132.ne rfl (n131.ne rfl (n127.ne rfl (n126.ne rfl (n122.ne rfl (n120.ne rfl (n111.ne rfl (n110.ne rfl (n108.ne rfl (n107.ne rfl (n105.ne rfl (n103.ne rfl (n102.ne rfl (n100.ne rfl (n99.ne rfl (n98.ne rfl (n96.ne rfl (n95.ne rfl (n94.ne rfl (n92.ne rfl (n91.ne rfl (n90.ne rfl (n89.ne rfl (n88.ne rfl (n78.ne rfl (n66.ne rfl (n64.ne rfl (n63.ne rfl (n53.ne rfl (n51.ne rfl (n48.ne rfl (n41.ne rfl (n39.ne rfl (n34.ne rfl (n33.ne rfl (n30.ne rfl n29.at_)))))))))))))))))))))))))))))))))))))))))
 refine sv n149.ok rfl (wgT rfl (yl 2 false rfl n149.at_) rfl) rfl (o_mv e150) (fun an151 n151 => ?_)
 have e152 := n151.ne rfl (n149.ne rfl (n148.ne rfl (n147.ne rfl (n144.ne rfl (n143.ne rfl (n141.ne rfl (n132.ne rfl (n131.ne rfl (n127.ne rfl (n126.ne rfl (n122.ne rfl (n120.ne rfl (n111.ne rfl (n110.ne rfl (n108.ne rfl (n107.ne rfl (n105.ne rfl (n103.ne rfl (n102.ne rfl (n100.ne rfl (n99.ne rfl (n98.ne rfl (n96.ne rfl (n95.ne rfl (n94.ne rfl (n92.ne rfl (n91.ne rfl (n90.ne rfl (n89.ne rfl (n88.ne rfl (n78.ne rfl (n66.ne rfl (n64.ne rfl (n63.ne rfl (n53.ne rfl (n51.ne rfl (n48.ne rfl (n41.ne rfl (n39.ne rfl (n34.ne rfl (n33.ne rfl e32)))))))))))))))))))))))))))))))))))))))))
 refine sv n151.ok rfl (wgT rfl (yl 2 false rfl (n151.ne rfl n149.at_)) rfl) rfl (o_mv e152) (fun an153 n153 => ?_)
 refine sc n153.ok rfl (wgT rfl (yl 2 false rfl (n153.ne rfl (n151.ne rfl n149.at_))) rfl) rfl (o_f1 Tryz.func13 rfl rfl rfl n153.at_) (rmean_c X va vc (by omega) w133 (hva.gr G135) (hma.gr G135)) ?_
 rintro _ w155 ⟨maa1, mca1, rfl, hmca1, hmna1, hmra1, g156⟩
 refine ⟨_, rfl, fun an154 n154 => ?_⟩
 have G157 := G135.trans g156
 have A160 := A138.trans g156
 have A164 := Gr.refl w155
 have e165 := n154.ne rfl (n153.ne rfl (n151.ne rfl n149.at_))
 have e166 := n154.ne rfl (n153.ne rfl (n151.ne rfl (n149.ne rfl (n148.ne rfl (n147.ne rfl (n144.ne rfl (n143.ne rfl (n141.ne rfl (n132.ne rfl (n131.ne rfl e130))))))))))
 refine sv n154.ok rfl (wgT rfl (yl 2 false rfl e165) rfl) rfl (o_mv e166) (fun an167 n167 => ?_)
 refine sc n167.ok rfl (wgT rfl (yl 2 false rfl (n167.ne rfl e165)) rfl) rfl (o_f1 Tryz.func14 rfl rfl rfl n167.at_) (of_fs (by decide) (hf.gr G157)) ?_
 rintro _ w169 ⟨rfl, g170⟩
 refine ⟨_, rfl, fun an168 n168 => ?_⟩
 have G171 := G157.trans g170
 have A174 := A160.trans g170
 have A177 := A164.trans g170
 refine sc n168.ok rfl (wgT rfl (yl 2 false rfl (n168.ne rfl (n167.ne rfl e165))) rfl) rfl (o_f2 Tryz.func12 rfl rfl rfl (n168.ne rfl (n167.ne rfl n154.at_)) n168.at_) (by have h := rnarrowed_any (X.map PtX.d) (ptF U) maa1 mca1 (by rw [List.length_map]; omega) (d_okX X) w169 (hmra1.gr A177); rw [hN] at h; exact h) ?_
 rintro _ w179 ⟨ua, uc, rfl, hu, g180⟩
 have hur := RdA.own encDoc_ok hu rfl
 have hNl : N.length ≤ 30 := by rw [← hN]; refine Nat.le_trans (fewM_len _) ?_; rw [List.length_map, List.length_map]; exact hla
 refine ⟨_, rfl, fun an178 n178 => ?_⟩
 have G181 := G171.trans g180
 have A184 := A174.trans g180
 have A189 := Gr.refl w179
 have e190 := n178.ne rfl (n168.ne rfl (n167.ne rfl e165))
 have e191 := n178.ne rfl (n168.ne rfl (n167.ne rfl (n154.ne rfl (n153.ne rfl n151.at_))))
 refine sc n178.ok rfl (wgT rfl (yl 2 false rfl e190) rfl) rfl (o_f2 Tryz.func11 rfl rfl rfl e191 n178.at_) (rsay_m E N na ua nc uc _ hEN (by omega) w179 (hEr.gr A184) (hEo.gr A184) (hur.gr A189)) ?_
 rintro _ w193 ⟨rfl, g194⟩
 refine ⟨_, rfl, fun an192 n192 => ?_⟩
 have G195 := G181.trans g194
 refine sv n192.ok rfl (wgT rfl (yl 2 false rfl (n192.ne rfl e190)) rfl) rfl (o_not n192.at_ rfl) (fun an203 n203 => ?_)
 refine sv n203.ok rfl (wn _ rfl) rfl (o_pkF (n203.ne rfl (n192.ne rfl e190)) n203.at_) (fun an204 n204 => ?_)
 refine wpList_nil ?_
 refine th_n (hK145 _ _ ?_)
 refine wp_cond_false (n204.at_) ?_
 refine wp_skip ?_
 refine th_n (hK128 _ _ ?_)
 refine wp_seq_k (fun K205 hK205 => ?_)
 refine wp_seq_k (fun K206 hK206 => ?_)
 refine wp_region_lit ?_
 have e207 := n204.ne rfl (n203.ne rfl (n192.ne rfl (n178.ne rfl (n168.ne rfl (n167.ne rfl (n154.ne rfl (n153.ne rfl (n151.ne rfl (n149.ne rfl (n148.ne rfl (n147.ne rfl (n144.ne rfl (n143.ne rfl (n141.ne rfl (n132.ne rfl (n131.ne rfl (n127.ne rfl (n126.ne rfl (n122.ne rfl (n120.ne rfl (n111.ne rfl (n110.ne rfl (n108.ne rfl (n107.ne rfl (n105.ne rfl (n103.ne rfl (n102.ne rfl (n100.ne rfl (n99.ne rfl (n98.ne rfl (n96.ne rfl (n95.ne rfl (n94.ne rfl (n92.ne rfl (n91.ne rfl (n90.ne rfl (n89.ne rfl (n88.ne rfl (n78.ne rfl (n66.ne rfl (n64.ne rfl (n63.ne rfl (n53.ne rfl (n51.ne rfl (n48.ne rfl (n41.ne rfl (n39.ne rfl (n34.ne rfl (n33.ne rfl (n30.ne rfl (n29.ne rfl (n28.ne rfl (n27.ne rfl (n26.ne rfl (n20.ne rfl (n19.ne rfl (n17.ne rfl (n14.ne rfl (n13.ne rfl (n12.ne rfl (n11.ne rfl (n10.ne rfl (n6.ne rfl (n5.ne rfl (n4.ne rfl (n2.ne rfl e0_1))))))))))))))))))))))))))))))))))))))))))))))))))))))))))))))))))
 refine sv n204.ok rfl (wn _ rfl) rfl (o_mv e207) (fun an208 n208 => ?_)
 refine sc n208.ok rfl (wn _ rfl) rfl (o_f1 Tryz.func8 rfl rfl rfl n208.at_) (rparts_any L vb vd w193 hlb (hvb.gr G195) (hmb.gr G195)) ?_
 rintro _ w210 ⟨rfl, g211⟩
 refine ⟨_, rfl, fun an209 n209 => ?_⟩
 have G212 := G195.trans g211
 refine sv n209.ok rfl (wn _ rfl) rfl (o_as n209.at_) (fun an220 n220 => ?_)
 refine wpList_nil ?_
 refine th_n (hK206 _ _ ?_)
 refine wp_seq_k (fun K221 hK221 => ?_)
 refine wp_region_lit ?_
 refine sv n220.ok rfl (wn _ rfl) rfl (o_mv n220.at_) (fun an222 n222 => ?_)
 refine sv n222.ok rfl (wn _ rfl) rfl (o_neq (b := true) n222.at_ ev_const (by simp [show ¬ (chkP L) = 0 from hB])) (fun an223 n223 => ?_)
 refine wpList_nil ?_
 refine th_n (hK221 _ _ ?_)
 refine wp_cond_true (n223.at_) ?_
 refine wp_seq_k (fun K224 hK224 => ?_)
 refine wp_region_lit ?_
 have e225 := n223.ne rfl (n222.ne rfl (n220.ne rfl (n209.ne rfl (n208.ne rfl (n204.ne rfl (n203.ne rfl (n192.ne rfl (n178.ne rfl (n168.ne rfl (n167.ne rfl (n154.ne rfl (n153.ne rfl (n151.ne rfl (n149.ne rfl (n148.ne rfl (n147.ne rfl (n144.ne rfl (n143.ne rfl (n141.ne rfl (n132.ne rfl (n131.ne rfl (n127.ne rfl (n126.ne rfl (n122.ne rfl (n120.ne rfl (n111.ne rfl (n110.ne rfl (n108.ne rfl (n107.ne rfl (n105.ne rfl (n103.ne rfl (n102.ne rfl (n100.ne rfl (n99.ne rfl (n98.ne rfl (n96.ne rfl (n95.ne rfl (n94.ne rfl (n92.ne rfl (n91.ne rfl (n90.ne rfl (n89.ne rfl (n88.ne rfl (n78.ne rfl (n66.ne rfl (n64.ne rfl (n63.ne rfl (n53.ne rfl (n51.ne rfl (n48.ne rfl (n41.ne rfl (n39.ne rfl (n34.ne rfl (n33.ne rfl (n30.ne rfl (n29.ne rfl (n28.ne rfl (n27.ne rfl (n26.ne rfl (n20.ne rfl (n19.ne rfl (n17.ne rfl n14.at_))))))))))))))))))))))))))))))))))))))))))))))))))))))))))))))
 refine sv n223.ok rfl (wn _ rfl) rfl (o_mv e225) (fun an226 n226 => ?_)
 have e227 := n226.ne rfl (n223.ne rfl (n222.ne rfl n220.at_))
 refine sv n226.ok rfl (wn _ rfl) rfl (o_mv e227) (fun an228 n228 => ?_)
 refine sv n228.ok rfl (wn _ rfl) rfl (o_eq (n228.ne rfl n226.at_) n228.at_ (decide_eq_true rfl)) (fun an229 n229 => ?_)
 refine sv n229.ok rfl (wn _ rfl) rfl (o_mv n229.at_) (fun an230 n230 => ?_)
 have e231 := n230.ne rfl (n229.ne rfl (n228.ne rfl (n226.ne rfl (n223.ne rfl (n222.ne rfl (n220.ne rfl (n209.ne rfl (n208.ne rfl (n204.ne rfl (n203.ne rfl (n192.ne rfl (n178.ne rfl (n168.ne rfl (n167.ne rfl (n154.ne rfl (n153.ne rfl (n151.ne rfl (n149.ne rfl (n148.ne rfl (n147.ne rfl (n144.ne rfl (n143.ne rfl (n141.ne rfl (n132.ne rfl (n131.ne rfl (n127.ne rfl (n126.ne rfl (n122.ne rfl (n120.ne rfl (n111.ne rfl (n110.ne rfl (n108.ne rfl (n107.ne rfl (n105.ne rfl (n103.ne rfl (n102.ne rfl (n100.ne rfl (n99.ne rfl (n98.ne rfl (n96.ne rfl (n95.ne rfl (n94.ne rfl (n92.ne rfl (n91.ne rfl (n90.ne rfl (n89.ne rfl (n88.ne rfl (n78.ne rfl (n66.ne rfl (n64.ne rfl (n63.ne rfl (n53.ne rfl (n51.ne rfl (n48.ne rfl (n41.ne rfl (n39.ne rfl (n34.ne rfl (n33.ne rfl (n30.ne rfl (n29.ne rfl (n28.ne rfl (n27.ne rfl (n26.ne rfl (n20.ne rfl (n19.ne rfl (n17.ne rfl (n14.ne rfl n13.at_)))))))))))))))))))))))))))))))))))))))))))))))))))))))))))))))))))
 refine sv n230.ok rfl (wgT rfl (yl 3 true rfl n230.at_) rfl) rfl (o_mv e231) (fun an232 n232 => ?_)
 refine sv n232.ok rfl (wgT rfl (yl 3 true rfl (n232.ne rfl n230.at_)) rfl) rfl (o_len n232.at_ Tryz.underlying22) (fun an233 n233 => ?_)
 refine sv n233.ok rfl (wgT rfl (yl 3 true rfl (n233.ne rfl (n232.ne rfl n230.at_))) rfl) rfl (o_eq (b := true) n233.at_ ev_const (by decide)) (fun an234 n234 => ?_)
 have e235 := n234.ne rfl (n233.ne rfl (n232.ne rfl n230.at_))
 refine sv n234.ok rfl (wn _ rfl) rfl (o_pkT e235 n234.at_) (fun an236 n236 => ?_)
 refine sv n236.ok rfl (wn _ rfl) rfl (o_as n236.at_) (fun an237 n237 => ?_)
 refine wpList_nil ?_
 refine th_n (hK224 _ _ ?_)
 refine wp_ret ?_
 refine th_r ?_
 exact ret1 n237.ok rfl (n237.at_) ⟨rfl, G212⟩
set_option maxHeartbeats 8000000 in
set_option maxRecDepth 100000 in
theorem partSets_ok_bad_few (X : List PtX) (Y : List PtX) (va vb : Option Addr) (vc vd : Nat) (fv : Value) (l : List BoxI) (M : List PtM) (hM : fewM (X.map PtX.d ++ Y.map PtX.d) = M) (h30 :  M.length ≤ 30) (hca : X.length ≤ vc) (hcb : Y.length ≤ vd) (hna : va = none → vc = 0) (hnb : vb = none → vd = 0) (w : World) (hla : X.length ≤ 30) (hva : RdA encP 3 w va X) (hma : MeansP w X) (hlb : Y.length ≤ 30) (hvb : RdA encP 3 w vb Y) (hmb : MeansP w Y) (hf : RdF w fv l) (hF : ¬ chkF l = 0) :
  Calls Tryz.prog 3 #[.slice va X.length vc, .slice vb Y.length vd, fv] w fun e w' => e = .returned (.bool true) ∧ Gr w w' := by
 refine enter (N := 137) Tryz.func3 rfl rfl rfl (fun a0 ok0 h0 => ?_)
 have e0_0 : a0.eval (.tmp 0) = .slice va X.length vc := h0 0 _ rfl
 have e0_1 : a0.eval (.tmp 1) = .slice vb Y.length vd := h0 1 _ rfl
 have e0_2 : a0.eval (.tmp 2) = fv := h0 2 _ rfl
 clear h0
 have G0 := Gr.refl w
 refine wp_seq_k (fun K1 hK1 => ?_)
 refine wp_region_lit ?_
 refine sv ok0 rfl (wn _ rfl) rfl (o_as ev_const) (fun an2 n2 => ?_)
 refine wpList_nil ?_
 refine th_n (hK1 _ _ ?_)
 refine wp_seq_k (fun K3 hK3 => ?_)
 refine wp_region_lit ?_
 refine sv n2.ok rfl (wn _ rfl) rfl (o_mv (n2.ne rfl e0_0)) (fun an4 n4 => ?_)
 refine sv n4.ok rfl (wn _ rfl) rfl (o_mv (n4.ne rfl (n2.ne rfl e0_1))) (fun an5 n5 => ?_)
 refine sc n5.ok rfl (wn _ rfl) rfl (o_f2 Tryz.func6 rfl rfl rfl (n5.ne rfl n4.at_) n5.at_) (pj_few X Y va vb vc vd M hM h30 hla hlb hca hcb hna hnb w (hva.gr G0) (hvb.gr G0) (hma.gr G0) (hmb.gr G0)) ?_
 rintro _ w7 ⟨F, ga, gc, rfl, hFM, hFr, hFo, g8⟩
 refine ⟨_, rfl, fun an6 n6 => ?_⟩
 have G9 := G0.trans g8
 have A11 := Gr.refl w7
 refine sv n6.ok rfl (wn _ rfl) rfl (o_mv n6.at_) (fun an12 n12 => ?_)
 refine sv n12.ok rfl (wn _ rfl) rfl (o_ex n12.at_ rfl) (fun an13 n13 => ?_)
 refine sv n13.ok rfl (wn _ rfl) rfl (o_ex (n13.ne rfl n12.at_) rfl) (fun an14 n14 => ?_)
 refine sv n14.ok rfl (wn _ rfl) rfl (o_as (n14.ne rfl n13.at_)) (fun an15 n15 => ?_)
 refine sv n15.ok rfl (wn _ rfl) rfl (o_as (n15.ne rfl n14.at_)) (fun an16 n16 => ?_)
 refine wpList_nil ?_
 refine th_n (hK3 _ _ ?_)
 refine wp_seq_k (fun K17 hK17 => ?_)
 refine wp_region_lit ?_
 have e18 := n16.ne rfl (n15.ne rfl (n14.ne rfl (n13.ne rfl (n12.ne rfl (n6.ne rfl (n5.ne rfl (n4.ne rfl (n2.ne rfl e0_0))))))))
 refine sv n16.ok rfl (wn _ rfl) rfl (o_mv e18) (fun an19 n19 => ?_)
 have e20 := n19.ne rfl (n16.ne rfl (n15.ne rfl (n14.ne rfl (n13.ne rfl (n12.ne rfl (n6.ne rfl (n5.ne rfl (n4.ne rfl (n2.ne rfl e0_2)))))))))
 refine sv n19.ok rfl (wn _ rfl) rfl (o_mv e20) (fun an21 n21 => ?_)
 refine sc n21.ok rfl (wn _ rfl) rfl (o_f2 Tryz.func7 rfl rfl rfl (n21.ne rfl n19.at_) n21.at_) (pnarrow_badF X va vc fv l hla hF w7 (hva.gr G9) (hma.gr G9) (hf.gr G9)) ?_
 rintro _ w23 ⟨rfl, g24⟩
 refine ⟨_, rfl, fun an22 n22 => ?_⟩
 have G25 := G9.trans g24
 have A26 := A11.trans g24
 refine sv n22.ok rfl (wn _ rfl) rfl (o_mv n22.at_) (fun an27 n27 => ?_)
 refine sv n27.ok rfl (wn _ rfl) rfl (o_ex n27.at_ rfl) (fun an28 n28 => ?_)
 refine sv n28.ok rfl (wn _ rfl) rfl (o_ex (n28.ne rfl n27.at_) rfl) (fun an29 n29 => ?_)
 refine sv n29.ok rfl (wn _ rfl) rfl (o_as (n29.ne rfl n28.at_)) (fun an30 n30 => ?_)
 refine sv n30.ok rfl (wn _ rfl) rfl (o_as (n30.ne rfl n29.at_)) (fun an31 n31 => ?_)
 refine wpList_nil ?_
 refine th_n (hK17 _ _ ?_)
 refine wp_seq_k (fun K32 hK32 => ?_)
 refine wp_region_lit ?_
 have e33 := n31.ne rfl (n30.ne rfl (n29.ne rfl (n28.ne rfl (n27.ne rfl (n22.ne rfl (n21.ne rfl (n19.ne rfl e18)))))))
 refine sv n31.ok rfl (wn _ rfl) rfl (o_mv e33) (fun an34 n34 => ?_)
 refine sc n34.ok rfl (wn _ rfl) rfl (o_f1 Tryz.func8 rfl rfl rfl n34.at_) (rparts_ok X va vc w23 hla (hva.gr G25) (hma.gr G25)) ?_
 rintro _ w36 ⟨rfl, g37⟩
 refine ⟨_, rfl, fun an35 n35 => ?_⟩
 have G38 := G25.trans g37
 have A39 := A26.trans g37
 refine sv n35.ok rfl (wn _ rfl) rfl (o_as n35.at_) (fun an40 n40 => ?_)
 refine wpList_nil ?_
 refine th_n (hK32 _ _ ?_)
 refine wp_seq_k (fun K41 hK41 => ?_)
 refine wp_region_lit ?_
 refine sc n40.ok rfl (wn _ rfl) rfl (o_f0 Tryz.func9 rfl rfl rfl ) (fevery w36) ?_
 rintro _ w43 ⟨ev, rfl, hev, g44⟩
 obtain ⟨fa, fn, fc, rfl⟩ := hev.form
 refine ⟨_, rfl, fun an42 n42 => ?_⟩
 have G45 := G38.trans g44
 have A46 := A39.trans g44
 have A48 := Gr.refl w43
 refine sv n42.ok rfl (wn _ rfl) rfl (o_as n42.at_) (fun an49 n49 => ?_)
 refine wpList_nil ?_
 refine th_n (hK41 _ _ ?_)
 refine wp_seq_k (fun K50 hK50 => ?_)
 refine wp_seq_k (fun K51 hK51 => ?_)
 refine wp_region_lit ?_
 refine sv n49.ok rfl (wn _ rfl) rfl (o_mv n49.at_) (fun an52 n52 => ?_)
 obtain ⟨i53, i53a, i53b, i53c⟩ := info3_of (show (Tryz.prog.info? 3).map (fun i => (i.zero, i.size)) = some (some (.int .i64 0), 1) by kernel_rfl)
 refine sals (cs := #[.int .i64 1]) n52.ok rfl (wn _ rfl) rfl (o_bs (vs := [(0, .int .i64 1)]) (by simp [ev_const]) Tryz.underlying30 i53a i53b (by rw [i53c]; rfl) (by rw [i53c]; rfl) (by rw [i53c]; kernel_rfl)) (fun an54 w56 b55 W57 n54 => ?_)
 have G61 := G45.trans W57.gr
 have A62 := A46.trans W57.gr
 have A63 := A48.trans W57.gr
 refine sv n54.ok rfl (wn _ rfl) rfl (o_bd (cells := #[.slice (some ⟨b55, 0, none⟩) 1 1, .slice none 0 0]) (vs := [(0, .slice (some ⟨b55, 0, none⟩) 1 1)]) (by simp [n54.at_, ev_const]) (by kernel_rfl)) (fun an64 n64 => ?_)
 refine sv n64.ok rfl (wn _ rfl) rfl (o_bd (cells := #[.slice fa fn fc, .slice (some ⟨b55, 0, none⟩) 1 1, .slice none 0 0]) (vs := [(0, .slice fa fn fc), (1, .agg #[.slice (some ⟨b55, 0, none⟩) 1 1, .slice none 0 0])]) (by simp [(n64.ne rfl (n54.ne rfl n52.at_)), n64.at_, ev_const]) (by kernel_rfl)) (fun an65 n65 => ?_)
 obtain ⟨i66, i66a, i66b, i66c⟩ := info3_of (show (Tryz.prog.info? 35).map (fun i => (i.zero, i.size)) = some (some (.agg #[.slice none 0 0, .slice none 0 0, .slice none 0 0]), 3) by kernel_rfl)
 refine sals (cs := #[.slice fa fn fc, .slice (some ⟨b55, 0, none⟩) 1 1, .slice none 0 0]) n65.ok rfl (wn _ rfl) rfl (o_bs (vs := [(0, .agg #[.slice fa fn fc, .slice (some ⟨b55, 0, none⟩) 1 1, .slice none 0 0])]) (by simp [n65.at_, ev_const]) Tryz.underlying22 i66a i66b (by rw [i66c]; rfl) (by rw [i66c]; rfl) (by rw [i66c]; kernel_rfl)) (fun an67 w69 b68 W70 n67 => ?_)
 have G75 := G61.trans W70.gr
 have B76 := W57.bk.gr W70.gr
 have A77 := A62.trans W70.gr
 have A78 := A63.trans W70.gr
 refine sc n67.ok rfl (wn _ rfl) rfl (o_f2 Tryz.func6 rfl rfl rfl ev_const n67.at_) (psets_lit b68 b55 fa fn fc _ _ w69 W70.bk B76 (FSn.le (hev.gr A78) (by decide))) ?_
 rintro _ w80 ⟨J1, ja, jc, rfl, hJ1, hjr, hjm, g81⟩
 refine ⟨_, rfl, fun an79 n79 => ?_⟩
 have G82 := G75.trans g81
 have A85 := A77.trans g81
 have A88 := Gr.refl w80
 refine sv n79.ok rfl (wn _ rfl) rfl (o_mv n79.at_) (fun an89 n89 => ?_)
 refine sv n89.ok rfl (wn _ rfl) rfl (o_ex n89.at_ rfl) (fun an90 n90 => ?_)
 refine sv n90.ok rfl (wn _ rfl) rfl (o_ex (n90.ne rfl n89.at_) rfl) (fun an91 n91 => ?_)
 refine sv n91.ok rfl (wn _ rfl) rfl (o_as (n91.ne rfl n90.at_)) (fun an92 n92 => ?_)
 refine sv n92.ok rfl (wn _ rfl) rfl (o_as (n92.ne rfl n91.at_)) (fun an93 n93 => ?_)
 refine wpList_nil ?_
 refine th_n (hK51 _ _ ?_)
 refine wp_seq_k (fun K94 hK94 => ?_)
 refine wp_region_lit ?_
 refine sv n93.ok rfl (wn _ rfl) rfl (o_mv n93.at_) (fun an95 n95 => ?_)
 refine sv n95.ok rfl (wn _ rfl) rfl (o_neq (b := false) n95.at_ ev_const (by decide)) (fun an96 n96 => ?_)
 refine sv n96.ok rfl (wn _ rfl) rfl (o_mv n96.at_) (fun an97 n97 => ?_)
 have e98 := n97.ne rfl (n96.ne rfl (n95.ne rfl (n93.ne rfl n92.at_)))
 refine sv n97.ok rfl (wgT rfl (yl 2 false rfl n97.at_) rfl) rfl (o_mv e98) (fun an99 n99 => ?_)
 refine sv n99.ok rfl (wgT rfl (yl 2 false rfl (n99.ne rfl n97.at_)) rfl) rfl (o_len n99.at_ Tryz.underlying22) (fun an100 n100 => ?_)
 refine sv n100.ok rfl (wgT rfl (yl 2 false rfl (n100.ne rfl (n99.ne rfl n97.at_))) rfl) rfl (o_neq (b := false) n100.at_ ev_const (by simp [show ((J1.length : Nat) : Int) = 1 from (show ((J1.length : Nat) : Int) = 1 by omega)])) (fun an101 n101 => ?_)
 have e102 := n101.ne rfl (n100.ne rfl (n99.ne rfl n97.at_))
 refine sv n101.ok rfl (wn _ rfl) rfl (o_pkF e102 n101.at_) (fun an103 n103 => ?_)
 refine sv n103.ok rfl (wn _ rfl) rfl (o_mv n103.at_) (fun an104 n104 => ?_)
 have e105 := n104.ne rfl (n103.ne rfl (n101.ne rfl (n100.ne rfl (n99.ne rfl e98))))
 refine sv n104.ok rfl (wgT rfl (yl 7 false rfl n104.at_) rfl) rfl (o_mv e105) (fun an106 n106 => ?_)
 have h107l : 0 < List.length J1 := by omega
 obtain ⟨bh107, fh107, h107a, h107b, h107c⟩ := (hjr.gr A88) (ne_nil_of_lt h107l)
 obtain ⟨xh107, h107x⟩ : ∃ x, (J1)[0]? = some x := ⟨_, List.getElem?_eq_getElem h107l⟩
 refine sv n106.ok rfl (wgT rfl (yl 7 false rfl (n106.ne rfl n104.at_)) rfl) rfl (o_iaV (i := 0) (s := 3) h107a n106.at_ ev_const Tryz.underlying22 (by kernel_rfl) h107l) (fun an108 n108 => ?_)
 refine sv n108.ok rfl (wgT rfl (yl 7 false rfl (n108.ne rfl (n106.ne rfl n104.at_))) rfl) rfl (o_fa (z := 1) n108.at_ Tryz.underlying35 rfl (by kernel_rfl) rfl rfl) (fun an109 n109 => ?_)
 have e110 := n109.ne rfl (n108.ne rfl (n106.ne rfl n104.at_))
 refine sv n109.ok rfl (wgT rfl (yl 7 false rfl e110) rfl) rfl (o_ld n109.at_ (Tryz.isAgg23 _) ((Below.cell (Gr.refl w80) h107b).trans (h107c _ _ h107x 0 _ rfl))) (fun an111 n111 => ?_)
 refine sc n111.ok rfl (wgT rfl (yl 7 false rfl (n111.ne rfl e110)) rfl) rfl (o_f1 Tryz.func10 rfl rfl rfl n111.at_) (rfilter_ok (by decide) ((hjm.gr A88) _ (List.mem_of_getElem? h107x)).fs) ?_
 rintro _ w113 ⟨rfl, g114⟩
 refine ⟨_, rfl, fun an112 n112 => ?_⟩
 have G115 := G82.trans g114
 have A118 := A85.trans g114
 refine sv n112.ok rfl (wgT rfl (yl 7 false rfl (n112.ne rfl (n111.ne rfl e110))) rfl) rfl (o_neq (b := false) n112.at_ ev_const (by decide)) (fun an121 n121 => ?_)
 have e122 := n121.ne rfl (n112.ne rfl (n111.ne rfl e110))
 refine sv n121.ok rfl (wn _ rfl) rfl (o_pkF e122 n121.at_) (fun an123 n123 => ?_)
 refine wpList_nil ?_
 refine th_n (hK94 _ _ ?_)
 refine wp_cond_false (n123.at_) ?_
 refine wp_skip ?_
 refine th_n (hK50 _ _ ?_)
 refine wp_seq_k (fun K124 hK124 => ?_)
 refine wp_seq_k (fun K125 hK125 => ?_)
 refine wp_region_lit ?_
 have e126 := n123.ne rfl (n121.ne rfl (n112.ne rfl (n111.ne rfl (n109.ne rfl (n108.ne rfl (n106.ne rfl (n104.ne rfl (n103.ne rfl (n101.ne rfl (n100.ne rfl (n99.ne rfl (n97.ne rfl (n96.ne rfl (n95.ne rfl (n93.ne rfl (n92.ne rfl (n91.ne rfl (n90.ne rfl (n89.ne rfl (n79.ne rfl (n67.ne rfl (n65.ne rfl (n64.ne rfl (n54.ne rfl (n52.ne rfl (n49.ne rfl (n42.ne rfl n40.at_)))))))))))))))))))))))))))
 refine sv n123.ok rfl (wn _ rfl) rfl (o_mv e126) (fun an127 n127 => ?_)
 refine sv n127.ok rfl (wn _ rfl) rfl (o_neq (b := false) n127.at_ ev_const (by decide)) (fun an128 n128 => ?_)
 refine wpList_nil ?_
 refine th_n (hK125 _ _ ?_)
 refine wp_cond_false (n128.at_) ?_
 refine wp_skip ?_
 refine th_n (hK124 _ _ ?_)
 refine wp_seq_k (fun K129 hK129 => ?_)
 refine wp_seq_k (fun K130 hK130 => ?_)
 refine wp_region_lit ?_
 have e131 := n128.ne rfl (n127.ne rfl (n123.ne rfl (n121.ne rfl (n112.ne rfl (n111.ne rfl (n109.ne rfl (n108.ne rfl (n106.ne rfl (n104.ne rfl (n103.ne rfl (n101.ne rfl (n100.ne rfl (n99.ne rfl (n97.ne rfl (n96.ne rfl (n95.ne rfl (n93.ne rfl (n92.ne rfl (n91.ne rfl (n90.ne rfl (n89.ne rfl (n79.ne rfl (n67.ne rfl (n65.ne rfl (n64.ne rfl (n54.ne rfl (n52.ne rfl (n49.ne rfl (n42.ne rfl (n40.ne rfl (n35.ne rfl (n34.ne rfl (n31.ne rfl (n30.ne rfl (n29.ne rfl (n28.ne rfl (n27.ne rfl (n22.ne rfl (n21.ne rfl e20)))))))))))))))))))))))))))))))))))))))
 refine sv n128.ok rfl (wn _ rfl) rfl (o_mv e131) (fun an132 n132 => ?_)
 refine sc n132.ok rfl (wn _ rfl) rfl (o_f1 Tryz.func10 rfl rfl rfl n132.at_) (rfilter_any fv l w113 (hf.gr G115)) ?_
 rintro _ w134 ⟨rfl, g135⟩
 refine ⟨_, rfl, fun an133 n133 => ?_⟩
 have G136 := G115.trans g135
 have A139 := A118.trans g135
 refine sv n133.ok rfl (wn _ rfl) rfl (o_as n133.at_) (fun an142 n142 => ?_)
 refine wpList_nil ?_
 refine th_n (hK130 _ _ ?_)
 refine wp_seq_k (fun K143 hK143 => ?_)
 refine wp_region_lit ?_
 refine sv n142.ok rfl (wn _ rfl) rfl (o_mv n142.at_) (fun an144 n144 => ?_)
 refine sv n144.ok rfl (wn _ rfl) rfl (o_neq (b := true) n144.at_ ev_const (by simp [show ¬ (chkF l) = 0 from hF])) (fun an145 n145 => ?_)
 refine wpList_nil ?_
 refine th_n (hK143 _ _ ?_)
 refine wp_cond_true (n145.at_) ?_
 refine wp_seq_k (fun K146 hK146 => ?_)
 refine wp_region_lit ?_
 have e147 := n145.ne rfl (n144.ne rfl (n142.ne rfl (n133.ne rfl (n132.ne rfl (n128.ne rfl (n127.ne rfl (n123.ne rfl (n121.ne rfl (n112.ne rfl (n111.ne rfl (n109.ne rfl (n108.ne rfl (n106.ne rfl (n104.ne rfl (n103.ne rfl (n101.ne rfl (n100.ne rfl (n99.ne rfl (n97.ne rfl (n96.ne rfl (n95.ne rfl (n93.ne rfl (n92.ne rfl (n91.ne rfl (n90.ne rfl (n89.ne rfl (n79.ne rfl (n67.ne rfl (n65.ne rfl (n64.ne rfl (n54.ne rfl (n52.ne rfl (n49.ne rfl (n42.ne rfl (n40.ne rfl (n35.ne rfl (n34.ne rfl n31.at_)))))))))))))))))))))))))))))))))))))
 refine sv n145.ok rfl (wn _ rfl) rfl (o_mv e147) (fun an148 n148 => ?_)
 have e149 := n148.ne rfl (n145.ne rfl (n144.ne rfl n142.at_))
 refine sv n148.ok rfl (wn _ rfl) rfl (o_mv e149) (fun an150 n150 => ?_)
 refine sv n150.ok rfl (wn _ rfl) rfl (o_neq (b := false) (n150.ne rfl n148.at_) n150.at_ (by simp [show (chkF l) = (chkF l) from rfl])) (fun an151 n151 => ?_)
 refine sv n151.ok rfl (wn _ rfl) rfl (o_mv n151.at_) (fun an152 n152 => ?_)
 have e153 := n152.ne rfl (n151.ne rfl (n150.ne rfl (n148.ne rfl (n145.ne rfl (n144.ne rfl (n142.ne rfl (n133.ne rfl (n132.ne rfl (n128.ne rfl (n127.ne rfl (n123.ne rfl (n121.ne rfl (n112.ne rfl (n111.ne rfl (n109.ne rfl (n108.ne rfl (n106.ne rfl (n104.ne rfl (n103.ne rfl (n101.ne rfl (n100.ne rfl (n99.ne rfl (n97.ne rfl (n96.ne rfl (n95.ne rfl (n93.ne rfl (n92.ne rfl (n91.ne rfl (n90.ne rfl (n89.ne rfl (n79.ne rfl (n67.ne rfl (n65.ne rfl (n64.ne rfl (n54.ne rfl (n52.ne rfl (n49.ne rfl (n42.ne rfl (n40.ne rfl (n35.ne rfl (n34.ne rfl (n31.ne rfl n30.at_))))))))))))))))))))))))))))))))))))))))))
 refine sv n152.ok rfl (wgT rfl (yl 3 false rfl n152.at_) rfl) rfl (o_mv e153) (fun an154 n154 => ?_)
 refine sv n154.ok rfl (wgT rfl (yl 3 false rfl (n154.ne rfl n152.at_)) rfl) rfl (o_len n154.at_ Tryz.underlying22) (fun an155 n155 => ?_)
 refine sv n155.ok rfl (wgT rfl (yl 3 false rfl (n155.ne rfl (n154.ne rfl n152.at_))) rfl) rfl (o_neq (b := false) n155.at_ ev_const (by decide)) (fun an156 n156 => ?_)
 have e157 := n156.ne rfl (n155.ne rfl (n154.ne rfl n152.at_))
 refine sv n156.ok rfl (wn _ rfl) rfl (o_pkF e157 n156.at_) (fun an158 n158 => ?_)
 refine wpList_nil ?_
 refine th_n (hK146 _ _ ?_)
 refine wp_cond_false (n158.at_) ?_
 refine wp_skip ?_
 refine th_n (hK129 _ _ ?_)
 refine wp_seq_k (fun K159 hK159 => ?_)
 refine wp_seq_k (fun K160 hK160 => ?_)
 refine wp_region_lit ?_
 have e161 := n158.ne rfl (n156.ne rfl (n155.ne rfl (n154.ne rfl (n152.ne rfl (n151.ne rfl (n150.ne rfl (n148.ne rfl (n145.ne rfl (n144.ne rfl (n142.ne rfl (n133.ne rfl (n132.ne rfl (n128.ne rfl (n127.ne rfl (n123.ne rfl (n121.ne rfl (n112.ne rfl (n111.ne rfl (n109.ne rfl (n108.ne rfl (n106.ne rfl (n104.ne rfl (n103.ne rfl (n101.ne rfl (n100.ne rfl (n99.ne rfl (n97.ne rfl (n96.ne rfl (n95.ne rfl (n93.ne rfl (n92.ne rfl (n91.ne rfl (n90.ne rfl (n89.ne rfl (n79.ne rfl (n67.ne rfl (n65.ne rfl (n64.ne rfl (n54.ne rfl (n52.ne rfl (n49.ne rfl (n42.ne rfl (n40.ne rfl (n35.ne rfl (n34.ne rfl (n31.ne rfl (n30.ne rfl (n29.ne rfl (n28.ne rfl (n27.ne rfl (n22.ne rfl (n21.ne rfl (n19.ne rfl (n16.ne rfl (n15.ne rfl (n14.ne rfl (n13.ne rfl (n12.ne rfl (n6.ne rfl (n5.ne rfl (n4.ne rfl (n2.ne rfl e0_1))))))))))))))))))))))))))))))))))))))))))))))))))))))))))))))
 refine sv n158.ok rfl (wn _ rfl) rfl (o_mv e161) (fun an162 n162 => ?_)
 refine sc n162.ok rfl (wn _ rfl) rfl (o_f1 Tryz.func8 rfl rfl rfl n162.at_) (rparts_ok Y vb vd w134 hlb (hvb.gr G136) (hmb.gr G136)) ?_
 rintro _ w164 ⟨rfl, g165⟩
 refine ⟨_, rfl, fun an163 n163 => ?_⟩
 have G166 := G136.trans g165
 have A169 := A139.trans g165
 refine sv n163.ok rfl (wn _ rfl) rfl (o_as n163.at_) (fun an172 n172 => ?_)
 refine wpList_nil ?_
 refine th_n (hK160 _ _ ?_)
 refine wp_seq_k (fun K173 hK173 => ?_)
 refine wp_region_lit ?_
 refine sv n172.ok rfl (wn _ rfl) rfl (o_mv n172.at_) (fun an174 n174 => ?_)
 refine sv n174.ok rfl (wn _ rfl) rfl (o_neq (b := false) n174.at_ ev_const (by decide)) (fun an175 n175 => ?_)
 refine wpList_nil ?_
 refine th_n (hK173 _ _ ?_)
 refine wp_cond_false (n175.at_) ?_
 refine wp_skip ?_
 refine th_n (hK159 _ _ ?_)
 refine wp_seq_k (fun K176 hK176 => ?_)
 refine wp_region_lit ?_
 have e177 := n175.ne rfl (n174.ne rfl (n172.ne rfl (n163.ne rfl (n162.ne rfl (n158.ne rfl (n156.ne rfl (n155.ne rfl (n154.ne rfl (n152.ne rfl (n151.ne rfl (n150.ne rfl (n148.ne rfl (n145.ne rfl (n144.ne rfl (n142.ne rfl (n133.ne rfl (n132.ne rfl (n128.ne rfl (n127.ne rfl (n123.ne rfl (n121.ne rfl (n112.ne rfl (n111.ne rfl (n109.ne rfl (n108.ne rfl (n106.ne rfl (n104.ne rfl (n103.ne rfl (n101.ne rfl (n100.ne rfl (n99.ne rfl (n97.ne rfl (n96.ne rfl (n95.ne rfl (n93.ne rfl (n92.ne rfl (n91.ne rfl (n90.ne rfl (n89.ne rfl (n79.ne rfl (n67.ne rfl (n65.ne rfl (n64.ne rfl (n54.ne rfl (n52.ne rfl (n49.ne rfl (n42.ne rfl (n40.ne rfl (n35.ne rfl (n34.ne rfl e33))))))))))))))))))))))))))))))))))))))))))))))))))
 refine sv n175.ok rfl (wn _ rfl) rfl (o_mv e177) (fun an178 n178 => ?_)
 refine sc n178.ok rfl (wn _ rfl) rfl (o_f1 Tryz.func13 rfl rfl rfl n178.at_) (rmean_c X va vc (by omega) w164 (hva.gr G166) (hma.gr G166)) ?_
 rintro _ w180 ⟨maa1, mca1, rfl, hmca1, hmna1, hmra1, g181⟩
 refine ⟨_, rfl, fun an179 n179 => ?_⟩
 have G182 := G166.trans g181
 have A185 := A169.trans g181
 have A189 := Gr.refl w180
 have e190 := n179.ne rfl (n178.ne rfl (n175.ne rfl (n174.ne rfl (n172.ne rfl (n163.ne rfl (n162.ne rfl e161))))))
 refine sv n179.ok rfl (wn _ rfl) rfl (o_mv e190) (fun an191 n191 => ?_)
 refine sc n191.ok rfl (wn _ rfl) rfl (o_f1 Tryz.func13 rfl rfl rfl n191.at_) (rmean_c Y vb vd (by omega) w180 (hvb.gr G182) (hmb.gr G182)) ?_
 rintro _ w193 ⟨mab2, mcb2, rfl, hmcb2, hmnb2, hmrb2, g194⟩
 refine ⟨_, rfl, fun an192 n192 => ?_⟩
 have G195 := G182.trans g194
 have A198 := A185.trans g194
 have A201 := A189.trans g194
 have A203 := Gr.refl w193
 obtain ⟨i204, i204a, i204b, i204c⟩ := info3_of (show (Tryz.prog.info? 38).map (fun i => (i.zero, i.size)) = some (some (.slice none 0 0), 1) by kernel_rfl)
 refine sals (cs := #[.slice maa1 ((X.map PtX.d).length) mca1, .slice mab2 ((Y.map PtX.d).length) mcb2]) n192.ok rfl (wn _ rfl) rfl (o_bs (vs := [(0, .slice maa1 ((X.map PtX.d).length) mca1), (1, .slice mab2 ((Y.map PtX.d).length) mcb2)]) (by simp [(n192.ne rfl (n191.ne rfl n179.at_)), n192.at_, ev_const]) Tryz.underlying106 i204a i204b (by rw [i204c]; rfl) (by rw [i204c]; rfl) (by rw [i204c]; kernel_rfl)) (fun an205 w207 b206 W208 n205 => ?_)
 have G217 := G195.trans W208.gr
 have A220 := A198.trans W208.gr
 have A223 := A201.trans W208.gr
 have A224 := A203.trans W208.gr
 refine sc n205.ok rfl (wn _ rfl) rfl (o_f1 Tryz.func16 rfl rfl rfl n205.at_) (concatM2 (X.map PtX.d) (Y.map PtX.d) maa1 mab2 mca1 mcb2 b206 _ w207 (by rw [List.length_map]; exact hla) (by rw [List.length_map]; exact hlb) hmca1 hmcb2 hmna1 hmnb2 (hmra1.gr A223) (hmrb2.gr A224) W208.bk) ?_
 rintro _ w226 ⟨ca, cc, rfl, hcr, g227⟩
 refine ⟨_, rfl, fun an225 n225 => ?_⟩
 have G228 := G217.trans g227
 have A232 := A220.trans g227
 have A238 := Gr.refl w226
 refine sc n225.ok rfl (wn _ rfl) rfl (o_f1 Tryz.func15 rfl rfl rfl n225.at_) (by have h := rfew_any (X.map PtX.d ++ Y.map PtX.d) ca cc (by rw [List.length_append, List.length_map, List.length_map]; omega) (fun x hx => (List.mem_append.1 hx).elim (d_okX X x) (d_okX Y x)) w226 (hcr.gr A238); rw [hM] at h; exact h) ?_
 rintro _ w240 ⟨wa, wc, rfl, hw, g241⟩
 have hwr := RdA.own encDoc_ok hw rfl
 refine ⟨_, rfl, fun an239 n239 => ?_⟩
 have G242 := G228.trans g241
 have A246 := A232.trans g241
 have A253 := Gr.refl w240
 refine sv n239.ok rfl (wn _ rfl) rfl (o_as n239.at_) (fun an254 n254 => ?_)
 refine wpList_nil ?_
 refine th_n (hK176 _ _ ?_)
 refine wp_seq_k (fun K255 hK255 => ?_)
 refine wp_seq_k (fun K256 hK256 => ?_)
 refine wp_region_lit ?_
 refine sv n254.ok rfl (wn _ rfl) rfl (o_mv n254.at_) (fun an257 n257 => ?_)
 refine sv n257.ok rfl (wn _ rfl) rfl (o_len n257.at_ Tryz.underlying38) (fun an258 n258 => ?_)
 refine sv n258.ok rfl (wn _ rfl) rfl (o_gtr n258.at_ ev_const (decide_eq_false (show ¬ ((M.length : Nat) : Int) > 30 by omega))) (fun an259 n259 => ?_)
 refine wpList_nil ?_
 refine th_n (hK256 _ _ ?_)
 refine wp_cond_false (n259.at_) ?_
 refine wp_skip ?_
 refine th_n (hK255 _ _ ?_)
 refine wp_seq_k (fun K260 hK260 => ?_)
 refine wp_region_lit ?_
 have e261 := n259.ne rfl (n258.ne rfl (n257.ne rfl (n254.ne rfl (n239.ne rfl (n225.ne rfl (n205.ne rfl (n192.ne rfl (n191.ne rfl (n179.ne rfl (n178.ne rfl (n175.ne rfl (n174.ne rfl (n172.ne rfl (n163.ne rfl (n162.ne rfl (n158.ne rfl (n156.ne rfl (n155.ne rfl (n154.ne rfl (n152.ne rfl (n151.ne rfl (n150.ne rfl (n148.ne rfl (n145.ne rfl (n144.ne rfl (n142.ne rfl (n133.ne rfl (n132.ne rfl (n128.ne rfl (n127.ne rfl (n123.ne rfl (n121.ne rfl (n112.ne rfl (n111.ne rfl (n109.ne rfl (n108.ne rfl (n106.ne rfl (n104.ne rfl (n103.ne rfl (n101.ne rfl (n100.ne rfl (n99.ne rfl (n97.ne rfl (n96.ne rfl (n95.ne rfl (n93.ne rfl (n92.ne rfl (n91.ne rfl (n90.ne rfl (n89.ne rfl (n79.ne rfl (n67.ne rfl (n65.ne rfl (n64.ne rfl (n54.ne rfl (n52.ne rfl (n49.ne rfl (n42.ne rfl (n40.ne rfl (n35.ne rfl (n34.ne rfl (n31.ne rfl (n30.ne rfl (n29.ne rfl (n28.ne rfl (n27.ne rfl (n22.ne rfl (n21.ne rfl (n19.ne rfl n16.at_)))))))))))))))))))))))))))))))))))))))))))))))))))))))))))))))))))))
 refine sv n259.ok rfl (wn _ rfl) rfl (o_mv e261) (fun an262 n262 => ?_)
 refine sv n262.ok rfl (wn _ rfl) rfl (o_eq (b := true) n262.at_ ev_const (by decide)) (fun an263 n263 => ?_)
 refine sv n263.ok rfl (wn _ rfl) rfl (o_mv n263.at_) (fun an264 n264 => ?_)
 have e265 := n264.ne rfl (n263.ne rfl (n262.ne rfl (n259.ne rfl (n258.ne rfl (n257.ne rfl (n254.ne rfl (n239.ne rfl (n225.ne rfl (n205.ne rfl (n192.ne rfl (n191.ne rfl (n179.ne rfl (n178.ne rfl (n175.ne rfl (n174.ne rfl (n172.ne rfl (n163.ne rfl (n162.ne rfl (n158.ne rfl (n156.ne rfl (n155.ne rfl (n154.ne rfl (n152.ne rfl (n151.ne rfl (n150.ne rfl (n148.ne rfl (n145.ne rfl (n144.ne rfl (n142.ne rfl (n133.ne rfl (n132.ne rfl (n128.ne rfl (n127.ne rfl (n123.ne rfl (n121.ne rfl (n112.ne rfl (n111.ne rfl (n109.ne rfl (n108.ne rfl (n106.ne rfl (n104.ne rfl (n103.ne rfl (n101.ne rfl (n100.ne rfl (n99.ne rfl (n97.ne rfl (n96.ne rfl (n95.ne rfl (n93.ne rfl (n92.ne rfl (n91.ne rfl (n90.ne rfl (n89.ne rfl (n79.ne rfl (n67.ne rfl (n65.ne rfl (n64.ne rfl (n54.ne rfl (n52.ne rfl (n49.ne rfl (n42.ne rfl (n40.ne rfl (n35.ne rfl (n34.ne rfl (n31.ne rfl (n30.ne rfl (n29.ne rfl (n28.ne rfl (n27.ne rfl (n22.ne rfl (n21.ne rfl (n19.ne rfl (n16.ne rfl n15.at_)))))))))))))))))))))))))))))))))))))))))))))))))))))))))))))))))))))))))
 refine sv n264.ok rfl (wgT rfl (yl 2 true rfl n264.at_) rfl) rfl (o_mv e265) (fun an266 n266 => ?_)
 have e267 := n266.ne rfl (n264.ne rfl (n263.ne rfl (n262.ne rfl (n259.ne rfl (n258.ne rfl (n257.ne rfl n254.at_))))))
 refine sv n266.ok rfl (wgT rfl (yl 2 true rfl (n266.ne rfl n264.at_)) rfl) rfl (o_mv e267) (fun an268 n268 => ?_)
 refine sc n268.ok rfl (wgT rfl (yl 2 true rfl (n268.ne rfl (n266.ne rfl n264.at_))) rfl) rfl (o_f2 Tryz.func11 rfl rfl rfl (n268.ne rfl n266.at_) n268.at_) (rsay_m F M ga wa gc wc _ hFM (by omega) w240 (hFr.gr A246) (hFo.gr A246) (hwr.gr A253)) ?_
 rintro _ w270 ⟨rfl, g271⟩
 refine ⟨_, rfl, fun an269 n269 => ?_⟩
 have G272 := G242.trans g271
 have e283 := n269.ne rfl (n268.ne rfl (n266.ne rfl n264.at_))
 refine sv n269.ok rfl (wn _ rfl) rfl (o_pkT e283 n269.at_) (fun an284 n284 => ?_)
 refine sv n284.ok rfl (wn _ rfl) rfl (o_as n284.at_) (fun an285 n285 => ?_)
 refine wpList_nil ?_
 refine th_n (hK260 _ _ ?_)
 refine wp_ret ?_
 exact ret1 n285.ok rfl (n285.at_) ⟨rfl, G272⟩
set_option maxHeartbeats 8000000 in
set_option maxRecDepth 100000 in
theorem partSets_ok_bad_many (X : List PtX) (Y : List PtX) (va vb : Option Addr) (vc vd : Nat) (fv : Value) (l : List BoxI) (M : List PtM) (hM : fewM (X.map PtX.d ++ Y.map PtX.d) = M) (h30 : ¬ M.length ≤ 30) (hca : X.length ≤ vc) (hcb : Y.length ≤ vd) (hna : va = none → vc = 0) (hnb : vb = none → vd = 0) (w : World) (hla : X.length ≤ 30) (hva : RdA encP 3 w va X) (hma : MeansP w X) (hlb : Y.length ≤ 30) (hvb : RdA encP 3 w vb Y) (hmb : MeansP w Y) (hf : RdF w fv l) (hF : ¬ chkF l = 0) :
  Calls Tryz.prog 3 #[.slice va X.length vc, .slice vb Y.length vd, fv] w fun e w' => e = .returned (.bool true) ∧ Gr w w' := by
 refine enter (N := 137) Tryz.func3 rfl rfl rfl (fun a0 ok0 h0 => ?_)
 have e0_0 : a0.eval (.tmp 0) = .slice va X.length vc := h0 0 _ rfl
 have e0_1 : a0.eval (.tmp 1) = .slice vb Y.length vd := h0 1 _ rfl
 have e0_2 : a0.eval (.tmp 2) = fv := h0 2 _ rfl
 clear h0
 have G0 := Gr.refl w
 refine wp_seq_k (fun K1 hK1 => ?_)
 refine wp_region_lit ?_
 refine sv ok0 rfl (wn _ rfl) rfl (o_as ev_const) (fun an2 n2 => ?_)
 refine wpList_nil ?_
 refine th_n (hK1 _ _ ?_)
 refine wp_seq_k (fun K3 hK3 => ?_)
 refine wp_region_lit ?_
 refine sv n2.ok rfl (wn _ rfl) rfl (o_mv (n2.ne rfl e0_0)) (fun an4 n4 => ?_)
 refine sv n4.ok rfl (wn _ rfl) rfl (o_mv (n4.ne rfl (n2.ne rfl e0_1))) (fun an5 n5 => ?_)
 refine sc n5.ok rfl (wn _ rfl) rfl (o_f2 Tryz.func6 rfl rfl rfl (n5.ne rfl n4.at_) n5.at_) (pj_many X Y va vb vc vd M hM h30 hla hlb hca hcb hna hnb w (hva.gr G0) (hvb.gr G0) (hma.gr G0) (hmb.gr G0)) ?_
 rintro _ w7 ⟨rfl, g8⟩
 refine ⟨_, rfl, fun an6 n6 => ?_⟩
 have G9 := G0.trans g8
 refine sv n6.ok rfl (wn _ rfl) rfl (o_mv n6.at_) (fun an10 n10 => ?_)
 refine sv n10.ok rfl (wn _ rfl) rfl (o_ex n10.at_ rfl) (fun an11 n11 => ?_)
 refine sv n11.ok rfl (wn _ rfl) rfl (o_ex (n11.ne rfl n10.at_) rfl) (fun an12 n12 => ?_)
 refine sv n12.ok rfl (wn _ rfl) rfl (o_as (n12.ne rfl n11.at_)) (fun an13 n13 => ?_)
 refine sv n13.ok rfl (wn _ rfl) rfl (o_as (n13.ne rfl n12.at_)) (fun an14 n14 => ?_)
 refine wpList_nil ?_
 refine th_n (hK3 _ _ ?_)
 refine wp_seq_k (fun K15 hK15 => ?_)
 refine wp_region_lit ?_
 have e16 := n14.ne rfl (n13.ne rfl (n12.ne rfl (n11.ne rfl (n10.ne rfl (n6.ne rfl (n5.ne rfl (n4.ne rfl (n2.ne rfl e0_0))))))))
 refine sv n14.ok rfl (wn _ rfl) rfl (o_mv e16) (fun an17 n17 => ?_)
 have e18 := n17.ne rfl (n14.ne rfl (n13.ne rfl (n12.ne rfl (n11.ne rfl (n10.ne rfl (n6.ne rfl (n5.ne rfl (n4.ne rfl (n2.ne rfl e0_2)))))))))
 refine sv n17.ok rfl (wn _ rfl) rfl (o_mv e18) (fun an19 n19 => ?_)
 refine sc n19.ok rfl (wn _ rfl) rfl (o_f2 Tryz.func7 rfl rfl rfl (n19.ne rfl n17.at_) n19.at_) (pnarrow_badF X va vc fv l hla hF w7 (hva.gr G9) (hma.gr G9) (hf.gr G9)) ?_
 rintro _ w21 ⟨rfl, g22⟩
 refine ⟨_, rfl, fun an20 n20 => ?_⟩
 have G23 := G9.trans g22
 refine sv n20.ok rfl (wn _ rfl) rfl (o_mv n20.at_) (fun an24 n24 => ?_)
 refine sv n24.ok rfl (wn _ rfl) rfl (o_ex n24.at_ rfl) (fun an25 n25 => ?_)
 refine sv n25.ok rfl (wn _ rfl) rfl (o_ex (n25.ne rfl n24.at_) rfl) (fun an26 n26 => ?_)
 refine sv n26.ok rfl (wn _ rfl) rfl (o_as (n26.ne rfl n25.at_)) (fun an27 n27 => ?_)
 refine sv n27.ok rfl (wn _ rfl) rfl (o_as (n27.ne rfl n26.at_)) (fun an28 n28 => ?_)
 refine wpList_nil ?_
 refine th_n (hK15 _ _ ?_)
 refine wp_seq_k (fun K29 hK29 => ?_)
 refine wp_region_lit ?_
 have e30 := n28.ne rfl (n27.ne rfl (n26.ne rfl (n25.ne rfl (n24.ne rfl (n20.ne rfl (n19.ne rfl (n17.ne rfl e16)))))))
 refine sv n28.ok rfl (wn _ rfl) rfl (o_mv e30) (fun an31 n31 => ?_)
 refine sc n31.ok rfl (wn _ rfl) rfl (o_f1 Tryz.func8 rfl rfl rfl n31.at_) (rparts_ok X va vc w21 hla (hva.gr G23) (hma.gr G23)) ?_
 rintro _ w33 ⟨rfl, g34⟩
 refine ⟨_, rfl, fun an32 n32 => ?_⟩
 have G35 := G23.trans g34
 refine sv n32.ok rfl (wn _ rfl) rfl (o_as n32.at_) (fun an36 n36 => ?_)
 refine wpList_nil ?_
 refine th_n (hK29 _ _ ?_)
 refine wp_seq_k (fun K37 hK37 => ?_)
 refine wp_region_lit ?_
 refine sc n36.ok rfl (wn _ rfl) rfl (o_f0 Tryz.func9 rfl rfl rfl ) (fevery w33) ?_
 rintro _ w39 ⟨ev, rfl, hev, g40⟩
 obtain ⟨fa, fn, fc, rfl⟩ := hev.form
 refine ⟨_, rfl, fun an38 n38 => ?_⟩
 have G41 := G35.trans g40
 have A43 := Gr.refl w39
 refine sv n38.ok rfl (wn _ rfl) rfl (o_as n38.at_) (fun an44 n44 => ?_)
 refine wpList_nil ?_
 refine th_n (hK37 _ _ ?_)
 refine wp_seq_k (fun K45 hK45 => ?_)
 refine wp_seq_k (fun K46 hK46 => ?_)
 refine wp_region_lit ?_
 refine sv n44.ok rfl (wn _ rfl) rfl (o_mv n44.at_) (fun an47 n47 => ?_)
 obtain ⟨i48, i48a, i48b, i48c⟩ := info3_of (show (Tryz.prog.info? 3).map (fun i => (i.zero, i.size)) = some (some (.int .i64 0), 1) by kernel_rfl)
 refine sals (cs := #[.int .i64 1]) n47.ok rfl (wn _ rfl) rfl (o_bs (vs := [(0, .int .i64 1)]) (by simp [ev_const]) Tryz.underlying30 i48a i48b (by rw [i48c]; rfl) (by rw [i48c]; rfl) (by rw [i48c]; kernel_rfl)) (fun an49 w51 b50 W52 n49 => ?_)
 have G55 := G41.trans W52.gr
 have A56 := A43.trans W52.gr
 refine sv n49.ok rfl (wn _ rfl) rfl (o_bd (cells := #[.slice (some ⟨b50, 0, none⟩) 1 1, .slice none 0 0]) (vs := [(0, .slice (some ⟨b50, 0, none⟩) 1 1)]) (by simp [n49.at_, ev_const]) (by kernel_rfl)) (fun an57 n57 => ?_)
 refine sv n57.ok rfl (wn _ rfl) rfl (o_bd (cells := #[.slice fa fn fc, .slice (some ⟨b50, 0, none⟩) 1 1, .slice none 0 0]) (vs := [(0, .slice fa fn fc), (1, .agg #[.slice (some ⟨b50, 0, none⟩) 1 1, .slice none 0 0])]) (by simp [(n57.ne rfl (n49.ne rfl n47.at_)), n57.at_, ev_const]) (by kernel_rfl)) (fun an58 n58 => ?_)
 obtain ⟨i59, i59a, i59b, i59c⟩ := info3_of (show (Tryz.prog.info? 35).map (fun i => (i.zero, i.size)) = some (some (.agg #[.slice none 0 0, .slice none 0 0, .slice none 0 0]), 3) by kernel_rfl)
 refine sals (cs := #[.slice fa fn fc, .slice (some ⟨b50, 0, none⟩) 1 1, .slice none 0 0]) n58.ok rfl (wn _ rfl) rfl (o_bs (vs := [(0, .agg #[.slice fa fn fc, .slice (some ⟨b50, 0, none⟩) 1 1, .slice none 0 0])]) (by simp [n58.at_, ev_const]) Tryz.underlying22 i59a i59b (by rw [i59c]; rfl) (by rw [i59c]; rfl) (by rw [i59c]; kernel_rfl)) (fun an60 w62 b61 W63 n60 => ?_)
 have G67 := G55.trans W63.gr
 have B68 := W52.bk.gr W63.gr
 have A69 := A56.trans W63.gr
 refine sc n60.ok rfl (wn _ rfl) rfl (o_f2 Tryz.func6 rfl rfl rfl ev_const n60.at_) (psets_lit b61 b50 fa fn fc _ _ w62 W63.bk B68 (FSn.le (hev.gr A69) (by decide))) ?_
 rintro _ w71 ⟨J1, ja, jc, rfl, hJ1, hjr, hjm, g72⟩
 refine ⟨_, rfl, fun an70 n70 => ?_⟩
 have G73 := G67.trans g72
 have A78 := Gr.refl w71
 refine sv n70.ok rfl (wn _ rfl) rfl (o_mv n70.at_) (fun an79 n79 => ?_)
 refine sv n79.ok rfl (wn _ rfl) rfl (o_ex n79.at_ rfl) (fun an80 n80 => ?_)
 refine sv n80.ok rfl (wn _ rfl) rfl (o_ex (n80.ne rfl n79.at_) rfl) (fun an81 n81 => ?_)
 refine sv n81.ok rfl (wn _ rfl) rfl (o_as (n81.ne rfl n80.at_)) (fun an82 n82 => ?_)
 refine sv n82.ok rfl (wn _ rfl) rfl (o_as (n82.ne rfl n81.at_)) (fun an83 n83 => ?_)
 refine wpList_nil ?_
 refine th_n (hK46 _ _ ?_)
 refine wp_seq_k (fun K84 hK84 => ?_)
 refine wp_region_lit ?_
 refine sv n83.ok rfl (wn _ rfl) rfl (o_mv n83.at_) (fun an85 n85 => ?_)
 refine sv n85.ok rfl (wn _ rfl) rfl (o_neq (b := false) n85.at_ ev_const (by decide)) (fun an86 n86 => ?_)
 refine sv n86.ok rfl (wn _ rfl) rfl (o_mv n86.at_) (fun an87 n87 => ?_)
 have e88 := n87.ne rfl (n86.ne rfl (n85.ne rfl (n83.ne rfl n82.at_)))
 refine sv n87.ok rfl (wgT rfl (yl 2 false rfl n87.at_) rfl) rfl (o_mv e88) (fun an89 n89 => ?_)
 refine sv n89.ok rfl (wgT rfl (yl 2 false rfl (n89.ne rfl n87.at_)) rfl) rfl (o_len n89.at_ Tryz.underlying22) (fun an90 n90 => ?_)
 refine sv n90.ok rfl (wgT rfl (yl 2 false rfl (n90.ne rfl (n89.ne rfl n87.at_))) rfl) rfl (o_neq (b := false) n90.at_ ev_const (by simp [show ((J1.length : Nat) : Int) = 1 from (show ((J1.length : Nat) : Int) = 1 by omega)])) (fun an91 n91 => ?_)
 have e92 := n91.ne rfl (n90.ne rfl (n89.ne rfl n87.at_))
 refine sv n91.ok rfl (wn _ rfl) rfl (o_pkF e92 n91.at_) (fun an93 n93 => ?_)
 refine sv n93.ok rfl (wn _ rfl) rfl (o_mv n93.at_) (fun an94 n94 => ?_)
 have e95 := n94.ne rfl (n93.ne rfl (n91.ne rfl (n90.ne rfl (n89.ne rfl e88))))
 refine sv n94.ok rfl (wgT rfl (yl 7 false rfl n94.at_) rfl) rfl (o_mv e95) (fun an96 n96 => ?_)
 have h97l : 0 < List.length J1 := by omega
 obtain ⟨bh97, fh97, h97a, h97b, h97c⟩ := (hjr.gr A78) (ne_nil_of_lt h97l)
 obtain ⟨xh97, h97x⟩ : ∃ x, (J1)[0]? = some x := ⟨_, List.getElem?_eq_getElem h97l⟩
 refine sv n96.ok rfl (wgT rfl (yl 7 false rfl (n96.ne rfl n94.at_)) rfl) rfl (o_iaV (i := 0) (s := 3) h97a n96.at_ ev_const Tryz.underlying22 (by kernel_rfl) h97l) (fun an98 n98 => ?_)
 refine sv n98.ok rfl (wgT rfl (yl 7 false rfl (n98.ne rfl (n96.ne rfl n94.at_))) rfl) rfl (o_fa (z := 1) n98.at_ Tryz.underlying35 rfl (by kernel_rfl) rfl rfl) (fun an99 n99 => ?_)
 have e100 := n99.ne rfl (n98.ne rfl (n96.ne rfl n94.at_))
 refine sv n99.ok rfl (wgT rfl (yl 7 false rfl e100) rfl) rfl (o_ld n99.at_ (Tryz.isAgg23 _) ((Below.cell (Gr.refl w71) h97b).trans (h97c _ _ h97x 0 _ rfl))) (fun an101 n101 => ?_)
 refine sc n101.ok rfl (wgT rfl (yl 7 false rfl (n101.ne rfl e100)) rfl) rfl (o_f1 Tryz.func10 rfl rfl rfl n101.at_) (rfilter_ok (by decide) ((hjm.gr A78) _ (List.mem_of_getElem? h97x)).fs) ?_
 rintro _ w103 ⟨rfl, g104⟩
 refine ⟨_, rfl, fun an102 n102 => ?_⟩
 have G105 := G73.trans g104
 refine sv n102.ok rfl (wgT rfl (yl 7 false rfl (n102.ne rfl (n101.ne rfl e100))) rfl) rfl (o_neq (b := false) n102.at_ ev_const (by decide)) (fun an110 n110 => ?_)
 have e111 := n110.ne rfl (n102.ne rfl (n101.ne rfl e100))
 refine sv n110.ok rfl (wn _ rfl) rfl (o_pkF e111 n110.at_) (fun an112 n112 => ?_)
 refine wpList_nil ?_
 refine th_n (hK84 _ _ ?_)
 refine wp_cond_false (n112.at_) ?_
 refine wp_skip ?_
 refine th_n (hK45 _ _ ?_)
 refine wp_seq_k (fun K113 hK113 => ?_)
 refine wp_seq_k (fun K114 hK114 => ?_)
 refine wp_region_lit ?_
 have e115 := n112.ne rfl (n110.ne rfl (n102.ne rfl (n101.ne rfl (n99.ne rfl (n98.ne rfl (n96.ne rfl (n94.ne rfl (n93.ne rfl (n91.ne rfl (n90.ne rfl (n89.ne rfl (n87.ne rfl (n86.ne rfl (n85.ne rfl (n83.ne rfl (n82.ne rfl (n81.ne rfl (n80.ne rfl (n79.ne rfl (n70.ne rfl (n60.ne rfl (n58.ne rfl (n57.ne rfl (n49.ne rfl (n47.ne rfl (n44.ne rfl (n38.ne rfl n36.at_)))))))))))))))))))))))))))
 refine sv n112.ok rfl (wn _ rfl) rfl (o_mv e115) (fun an116 n116 => ?_)
 refine sv n116.ok rfl (wn _ rfl) rfl (o_neq (b := false) n116.at_ ev_const (by decide)) (fun an117 n117 => ?_)
 refine wpList_nil ?_
 refine th_n (hK114 _ _ ?_)
 refine wp_cond_false (n117.at_) ?_
 refine wp_skip ?_
 refine th_n (hK113 _ _ ?_)
 refine wp_seq_k (fun K118 hK118 => ?_)
 refine wp_seq_k (fun K119 hK119 => ?_)
 refine wp_region_lit ?_
 have e120 := n117.ne rfl (n116.ne rfl (n112.ne rfl (n110.ne rfl (n102.ne rfl (n101.ne rfl (n99.ne rfl (n98.ne rfl (n96.ne rfl (n94.ne rfl (n93.ne rfl (n91.ne rfl (n90.ne rfl (n89.ne rfl (n87.ne rfl (n86.ne rfl (n85.ne rfl (n83.ne rfl (n82.ne rfl (n81.ne rfl (n80.ne rfl (n79.ne rfl (n70.ne rfl (n60.ne rfl (n58.ne rfl (n57.ne rfl (n49.ne rfl (n47.ne rfl (n44.ne rfl (n38.ne rfl (n36.ne rfl (n32.ne rfl (n31.ne rfl (n28.ne rfl (n27.ne rfl (n26.ne rfl (n25.ne rfl (n24.ne rfl (n20.ne rfl (n19.ne rfl e18)))))))))))))))))))))))))))))))))))))))
 refine sv n117.ok rfl (wn _ rfl) rfl (o_mv e120) (fun an121 n121 => ?_)
 refine sc n121.ok rfl (wn _ rfl) rfl (o_f1 Tryz.func10 rfl rfl rfl n121.at_) (rfilter_any fv l w103 (hf.gr G105)) ?_
 rintro _ w123 ⟨rfl, g124⟩
 refine ⟨_, rfl, fun an122 n122 => ?_⟩
 have G125 := G105.trans g124
 refine sv n122.ok rfl (wn _ rfl) rfl (o_as n122.at_) (fun an130 n130 => ?_)
 refine wpList_nil ?_
 refine th_n (hK119 _ _ ?_)
 refine wp_seq_k (fun K131 hK131 => ?_)
 refine wp_region_lit ?_
 refine sv n130.ok rfl (wn _ rfl) rfl (o_mv n130.at_) (fun an132 n132 => ?_)
 refine sv n132.ok rfl (wn _ rfl) rfl (o_neq (b := true) n132.at_ ev_const (by simp [show ¬ (chkF l) = 0 from hF])) (fun an133 n133 => ?_)
 refine wpList_nil ?_
 refine th_n (hK131 _ _ ?_)
 refine wp_cond_true (n133.at_) ?_
 refine wp_seq_k (fun K134 hK134 => ?_)
 refine wp_region_lit ?_
 have e135 := n133.ne rfl (n132.ne rfl (n130.ne rfl (n122.ne rfl (n121.ne rfl (n117.ne rfl (n116.ne rfl (n112.ne rfl (n110.ne rfl (n102.ne rfl (n101.ne rfl (n99.ne rfl (n98.ne rfl (n96.ne rfl (n94.ne rfl (n93.ne rfl (n91.ne rfl (n90.ne rfl (n89.ne rfl (n87.ne rfl (n86.ne rfl (n85.ne rfl (n83.ne rfl (n82.ne rfl (n81.ne rfl (n80.ne rfl (n79.ne rfl (n70.ne rfl (n60.ne rfl (n58.ne rfl (n57.ne rfl (n49.ne rfl (n47.ne rfl (n44.ne rfl (n38.ne rfl (n36.ne rfl (n32.ne rfl (n31.ne rfl n28.at_)))))))))))))))))))))))))))))))))))))
 refine sv n133.ok rfl (wn _ rfl) rfl (o_mv e135) (fun an136 n136 => ?_)
 have e137 := n136.ne rfl (n133.ne rfl (n132.ne rfl n130.at_))
 refine sv n136.ok rfl (wn _ rfl) rfl (o_mv e137) (fun an138 n138 => ?_)
 refine sv n138.ok rfl (wn _ rfl) rfl (o_neq (b := false) (n138.ne rfl n136.at_) n138.at_ (by simp [show (chkF l) = (chkF l) from rfl])) (fun an139 n139 => ?_)
 refine sv n139.ok rfl (wn _ rfl) rfl (o_mv n139.at_) (fun an140 n140 => ?_)
 have e141 := n140.ne rfl (n139.ne rfl (n138.ne rfl (n136.ne rfl (n133.ne rfl (n132.ne rfl (n130.ne rfl (n122.ne rfl (n121.ne rfl (n117.ne rfl (n116.ne rfl (n112.ne rfl (n110.ne rfl (n102.ne rfl (n101.ne rfl (n99.ne rfl (n98.ne rfl (n96.ne rfl (n94.ne rfl (n93.ne rfl (n91.ne rfl (n90.ne rfl (n89.ne rfl (n87.ne rfl (n86.ne rfl (n85.ne rfl (n83.ne rfl (n82.ne rfl (n81.ne rfl (n80.ne rfl (n79.ne rfl (n70.ne rfl (n60.ne rfl (n58.ne rfl (n57.ne rfl (n49.ne rfl (n47.ne rfl (n44.ne rfl (n38.ne rfl (n36.ne rfl (n32.ne rfl (n31.ne rfl (n28.ne rfl n27.at_))))))))))))))))))))))))))))))))))))))))))
 refine sv n140.ok rfl (wgT rfl (yl 3 false rfl n140.at_) rfl) rfl (o_mv e141) (fun an142 n142 => ?_)
 refine sv n142.ok rfl (wgT rfl (yl 3 false rfl (n142.ne rfl n140.at_)) rfl) rfl (o_len n142.at_ Tryz.underlying22) (fun an143 n143 => ?_)
 refine sv n143.ok rfl (wgT rfl (yl 3 false rfl (n143.ne rfl (n142.ne rfl n140.at_))) rfl) rfl (o_neq (b := false) n143.at_ ev_const (by decide)) (fun an144 n144 => ?_)
 have e145 := n144.ne rfl (n143.ne rfl (n142.ne rfl n140.at_))
 refine sv n144.ok rfl (wn _ rfl) rfl (o_pkF e145 n144.at_) (fun an146 n146 => ?_)
 refine wpList_nil ?_
 refine th_n (hK134 _ _ ?_)
 refine wp_cond_false (n146.at_) ?_
 refine wp_skip ?_
 refine th_n (hK118 _ _ ?_)
 refine wp_seq_k (fun K147 hK147 => ?_)
 refine wp_seq_k (fun K148 hK148 => ?_)
 refine wp_region_lit ?_
 have e149 := n146.ne rfl (n144.ne rfl (n143.ne rfl (n142.ne rfl (n140.ne rfl (n139.ne rfl (n138.ne rfl (n136.ne rfl (n133.ne rfl (n132.ne rfl (n130.ne rfl (n122.ne rfl (n121.ne rfl (n117.ne rfl (n116.ne rfl (n112.ne rfl (n110.ne rfl (n102.ne rfl (n101.ne rfl (n99.ne rfl (n98.ne rfl (n96.ne rfl (n94.ne rfl (n93.ne rfl (n91.ne rfl (n90.ne rfl (n89.ne rfl (n87.ne rfl (n86.ne rfl (n85.ne rfl (n83.ne rfl (n82.ne rfl (n81.ne rfl (n80.ne rfl (n79.ne rfl (n70.ne rfl (n60.ne rfl (n58.ne rfl (n57.ne rfl (n49.ne rfl (n47.ne rfl (n44.ne rfl (n38.ne rfl (n36.ne rfl (n32.ne rfl (n31.ne rfl (n28.ne rfl (n27.ne rfl (n26.ne rfl (n25.ne rfl (n24.ne rfl (n20.ne rfl (n19.ne rfl (n17.ne rfl (n14.ne rfl (n13.ne rfl (n12.ne rfl (n11.ne rfl (n10.ne rfl (n6.ne rfl (n5.ne rfl (n4.ne rfl (n2.ne rfl e0_1))))))))))))))))))))))))))))))))))))))))))))))))))))))))))))))
 refine sv n146.ok rfl (wn _ rfl) rfl (o_mv e149) (fun an150 n150 => ?_)
 refine sc n150.ok rfl (wn _ rfl) rfl (o_f1 Tryz.func8 rfl rfl rfl n150.at_) (rparts_ok Y vb vd w123 hlb (hvb.gr G125) (hmb.gr G125)) ?_
 rintro _ w152 ⟨rfl, g153⟩
 refine ⟨_, rfl, fun an151 n151 => ?_⟩
 have G154 := G125.trans g153
 refine sv n151.ok rfl (wn _ rfl) rfl (o_as n151.at_) (fun an159 n159 => ?_)
 refine wpList_nil ?_
 refine th_n (hK148 _ _ ?_)
 refine wp_seq_k (fun K160 hK160 => ?_)
 refine wp_region_lit ?_
 refine sv n159.ok rfl (wn _ rfl) rfl (o_mv n159.at_) (fun an161 n161 => ?_)
 refine sv n161.ok rfl (wn _ rfl) rfl (o_neq (b := false) n161.at_ ev_const (by decide)) (fun an162 n162 => ?_)
 refine wpList_nil ?_
 refine th_n (hK160 _ _ ?_)
 refine wp_cond_false (n162.at_) ?_
 refine wp_skip ?_
 refine th_n (hK147 _ _ ?_)
 refine wp_seq_k (fun K163 hK163 => ?_)
 refine wp_region_lit ?_
 have e164 := n162.ne rfl (n161.ne rfl (n159.ne rfl (n151.ne rfl (n150.ne rfl (n146.ne rfl (n144.ne rfl (n143.ne rfl (n142.ne rfl (n140.ne rfl (n139.ne rfl (n138.ne rfl (n136.ne rfl (n133.ne rfl (n132.ne rfl (n130.ne rfl (n122.ne rfl (n121.ne rfl (n117.ne rfl (n116.ne rfl (n112.ne rfl (n110.ne rfl (n102.ne rfl (n101.ne rfl (n99.ne rfl (n98.ne rfl (n96.ne rfl (n94.ne rfl (n93.ne rfl (n91.ne rfl (n90.ne rfl (n89.ne rfl (n87.ne rfl (n86.ne rfl (n85.ne rfl (n83.ne rfl (n82.ne rfl (n81.ne rfl (n80.ne rfl (n79.ne rfl (n70.ne rfl (n60.ne rfl (n58.ne rfl (n57.ne rfl (n49.ne rfl (n47.ne rfl (n44.ne rfl (n38.ne rfl (n36.ne rfl (n32.ne rfl (n31.ne rfl e30))))))))))))))))))))))))))))))))))))))))))))))))))
 refine sv n162.ok rfl (wn _ rfl) rfl (o_mv e164) (fun an165 n165 => ?_)
 refine sc n165.ok rfl (wn _ rfl) rfl (o_f1 Tryz.func13 rfl rfl rfl n165.at_) (rmean_c X va vc (by omega) w152 (hva.gr G154) (hma.gr G154)) ?_
 rintro _ w167 ⟨maa1, mca1, rfl, hmca1, hmna1, hmra1, g168⟩
 refine ⟨_, rfl, fun an166 n166 => ?_⟩
 have G169 := G154.trans g168
 have A175 := Gr.refl w167
 have e176 := n166.ne rfl (n165.ne rfl (n162.ne rfl (n161.ne rfl (n159.ne rfl (n151.ne rfl (n150.ne rfl e149))))))
 refine sv n166.ok rfl (wn _ rfl) rfl (o_mv e176) (fun an177 n177 => ?_)
 refine sc n177.ok rfl (wn _ rfl) rfl (o_f1 Tryz.func13 rfl rfl rfl n177.at_) (rmean_c Y vb vd (by omega) w167 (hvb.gr G169) (hmb.gr G169)) ?_
 rintro _ w179 ⟨mab2, mcb2, rfl, hmcb2, hmnb2, hmrb2, g180⟩
 refine ⟨_, rfl, fun an178 n178 => ?_⟩
 have G181 := G169.trans g180
 have A186 := A175.trans g180
 have A188 := Gr.refl w179
 obtain ⟨i189, i189a, i189b, i189c⟩ := info3_of (show (Tryz.prog.info? 38).map (fun i => (i.zero, i.size)) = some (some (.slice none 0 0), 1) by kernel_rfl)
 refine sals (cs := #[.slice maa1 ((X.map PtX.d).length) mca1, .slice mab2 ((Y.map PtX.d).length) mcb2]) n178.ok rfl (wn _ rfl) rfl (o_bs (vs := [(0, .slice maa1 ((X.map PtX.d).length) mca1), (1, .slice mab2 ((Y.map PtX.d).length) mcb2)]) (by simp [(n178.ne rfl (n177.ne rfl n166.at_)), n178.at_, ev_const]) Tryz.underlying106 i189a i189b (by rw [i189c]; rfl) (by rw [i189c]; rfl) (by rw [i189c]; kernel_rfl)) (fun an190 w192 b191 W193 n190 => ?_)
 have G201 := G181.trans W193.gr
 have A206 := A186.trans W193.gr
 have A207 := A188.trans W193.gr
 refine sc n190.ok rfl (wn _ rfl) rfl (o_f1 Tryz.func16 rfl rfl rfl n190.at_) (concatM2 (X.map PtX.d) (Y.map PtX.d) maa1 mab2 mca1 mcb2 b191 _ w192 (by rw [List.length_map]; exact hla) (by rw [List.length_map]; exact hlb) hmca1 hmcb2 hmna1 hmnb2 (hmra1.gr A206) (hmrb2.gr A207) W193.bk) ?_
 rintro _ w209 ⟨ca, cc, rfl, hcr, g210⟩
 refine ⟨_, rfl, fun an208 n208 => ?_⟩
 have G211 := G201.trans g210
 have A220 := Gr.refl w209
 refine sc n208.ok rfl (wn _ rfl) rfl (o_f1 Tryz.func15 rfl rfl rfl n208.at_) (by have h := rfew_any (X.map PtX.d ++ Y.map PtX.d) ca cc (by rw [List.length_append, List.length_map, List.length_map]; omega) (fun x hx => (List.mem_append.1 hx).elim (d_okX X x) (d_okX Y x)) w209 (hcr.gr A220); rw [hM] at h; exact h) ?_
 rintro _ w222 ⟨wa, wc, rfl, hw, g223⟩
 have hwr := RdA.own encDoc_ok hw rfl
 refine ⟨_, rfl, fun an221 n221 => ?_⟩
 have G224 := G211.trans g223
 refine sv n221.ok rfl (wn _ rfl) rfl (o_as n221.at_) (fun an235 n235 => ?_)
 refine wpList_nil ?_
 refine th_n (hK163 _ _ ?_)
 refine wp_seq_k (fun K236 hK236 => ?_)
 refine wp_seq_k (fun K237 hK237 => ?_)
 refine wp_region_lit ?_
 refine sv n235.ok rfl (wn _ rfl) rfl (o_mv n235.at_) (fun an238 n238 => ?_)
 refine sv n238.ok rfl (wn _ rfl) rfl (o_len n238.at_ Tryz.underlying38) (fun an239 n239 => ?_)
 refine sv n239.ok rfl (wn _ rfl) rfl (o_gtr n239.at_ ev_const (decide_eq_true (show ((M.length : Nat) : Int) > 30 by omega))) (fun an240 n240 => ?_)
 refine wpList_nil ?_
 refine th_n (hK237 _ _ ?_)
 refine wp_cond_true (n240.at_) ?_
 refine wp_seq_k (fun K241 hK241 => ?_)
 refine wp_region_lit ?_
 have e242 := n240.ne rfl (n239.ne rfl (n238.ne rfl (n235.ne rfl (n221.ne rfl (n208.ne rfl (n190.ne rfl (n178.ne rfl (n177.ne rfl (n166.ne rfl (n165.ne rfl (n162.ne rfl (n161.ne rfl (n159.ne rfl (n151.ne rfl (n150.ne rfl (n146.ne rfl (n144.ne rfl (n143.ne rfl (n142.ne rfl (n140.ne rfl (n139.ne rfl (n138.ne rfl (n136.ne rfl (n133.ne rfl (n132.ne rfl (n130.ne rfl (n122.ne rfl (n121.ne rfl (n117.ne rfl (n116.ne rfl (n112.ne rfl (n110.ne rfl (n102.ne rfl (n101.ne rfl (n99.ne rfl (n98.ne rfl (n96.ne rfl (n94.ne rfl (n93.ne rfl (n91.ne rfl (n90.ne rfl (n89.ne rfl (n87.ne rfl (n86.ne rfl (n85.ne rfl (n83.ne rfl (n82.ne rfl (n81.ne rfl (n80.ne rfl (n79.ne rfl (n70.ne rfl (n60.ne rfl (n58.ne rfl (n57.ne rfl (n49.ne rfl (n47.ne rfl (n44.ne rfl (n38.ne rfl (n36.ne rfl (n32.ne rfl (n31.ne rfl (n28.ne rfl (n27.ne rfl (n26.ne rfl (n25.ne rfl (n24.ne rfl (n20.ne rfl (n19.ne rfl (n17.ne rfl n14.at_)))))))))))))))))))))))))))))))))))))))))))))))))))))))))))))))))))))
 refine sv n240.ok rfl (wn _ rfl) rfl (o_mv e242) (fun an243 n243 => ?_)
 refine sv n243.ok rfl (wn _ rfl) rfl (o_eq (b := true) n243.at_ ev_const (by decide)) (fun an244 n244 => ?_)
 refine sv n244.ok rfl (wn _ rfl) rfl (o_mv n244.at_) (fun an245 n245 => ?_)
 have e246 := n245.ne rfl (n244.ne rfl (n243.ne rfl (n240.ne rfl (n239.ne rfl (n238.ne rfl (n235.ne rfl (n221.ne rfl (n208.ne rfl (n190.ne rfl (n178.ne rfl (n177.ne rfl (n166.ne rfl (n165.ne rfl (n162.ne rfl (n161.ne rfl (n159.ne rfl (n151.ne rfl (n150.ne rfl (n146.ne rfl (n144.ne rfl (n143.ne rfl (n142.ne rfl (n140.ne rfl (n139.ne rfl (n138.ne rfl (n136.ne rfl (n133.ne rfl (n132.ne rfl (n130.ne rfl (n122.ne rfl (n121.ne rfl (n117.ne rfl (n116.ne rfl (n112.ne rfl (n110.ne rfl (n102.ne rfl (n101.ne rfl (n99.ne rfl (n98.ne rfl (n96.ne rfl (n94.ne rfl (n93.ne rfl (n91.ne rfl (n90.ne rfl (n89.ne rfl (n87.ne rfl (n86.ne rfl (n85.ne rfl (n83.ne rfl (n82.ne rfl (n81.ne rfl (n80.ne rfl (n79.ne rfl (n70.ne rfl (n60.ne rfl (n58.ne rfl (n57.ne rfl (n49.ne rfl (n47.ne rfl (n44.ne rfl (n38.ne rfl (n36.ne rfl (n32.ne rfl (n31.ne rfl (n28.ne rfl (n27.ne rfl (n26.ne rfl (n25.ne rfl (n24.ne rfl (n20.ne rfl (n19.ne rfl (n17.ne rfl (n14.ne rfl n13.at_)))))))))))))))))))))))))))))))))))))))))))))))))))))))))))))))))))))))))
 refine sv n245.ok rfl (wgT rfl (yl 2 true rfl n245.at_) rfl) rfl (o_mv e246) (fun an247 n247 => ?_)
 refine sv n247.ok rfl (wgT rfl (yl 2 true rfl (n247.ne rfl n245.at_)) rfl) rfl (o_len n247.at_ Tryz.underlying22) (fun an248 n248 => ?_)
 refine sv n248.ok rfl (wgT rfl (yl 2 true rfl (n248.ne rfl (n247.ne rfl n245.at_))) rfl) rfl (o_eq (b := true) n248.at_ ev_const (by decide)) (fun an249 n249 => ?_)
 have e250 := n249.ne rfl (n248.ne rfl (n247.ne rfl n245.at_))
 refine sv n249.ok rfl (wn _ rfl) rfl (o_pkT e250 n249.at_) (fun an251 n251 => ?_)
 refine sv n251.ok rfl (wn _ rfl) rfl (o_as n251.at_) (fun an252 n252 => ?_)
 refine wpList_nil ?_
 refine th_n (hK241 _ _ ?_)
 refine wp_ret ?_
 refine th_r ?_
 exact ret1 n252.ok rfl (n252.at_) ⟨rfl, G224⟩
set_option maxHeartbeats 8000000 in
set_option maxRecDepth 100000 in
theorem partSets_ok_ok_few (X : List PtX) (Y : List PtX) (va vb : Option Addr) (vc vd : Nat) (fv : Value) (U : Nat → Nat) (N : List PtM) (hN : fewM ((X.map PtX.d).map (narM (ptF U))) = N) (M : List PtM) (hM : fewM (X.map PtX.d ++ Y.map PtX.d) = M) (h30 :  M.length ≤ 30) (hca : X.length ≤ vc) (hcb : Y.length ≤ vd) (hna : va = none → vc = 0) (hnb : vb = none → vd = 0) (w : World) (hla : X.length ≤ 30) (hva : RdA encP 3 w va X) (hma : MeansP w X) (hlb : Y.length ≤ 30) (hvb : RdA encP 3 w vb Y) (hmb : MeansP w Y) (hf : FS w fv U) :
  Calls Tryz.prog 3 #[.slice va X.length vc, .slice vb Y.length vd, fv] w fun e w' => e = .returned (.bool true) ∧ Gr w w' := by
 refine enter (N := 137) Tryz.func3 rfl rfl rfl (fun a0 ok0 h0 => ?_)
 have e0_0 : a0.eval (.tmp 0) = .slice va X.length vc := h0 0 _ rfl
 have e0_1 : a0.eval (.tmp 1) = .slice vb Y.length vd := h0 1 _ rfl
 have e0_2 : a0.eval (.tmp 2) = fv := h0 2 _ rfl
 clear h0
 have G0 := Gr.refl w
 refine wp_seq_k (fun K1 hK1 => ?_)
 refine wp_region_lit ?_
 refine sv ok0 rfl (wn _ rfl) rfl (o_as ev_const) (fun an2 n2 => ?_)
 refine wpList_nil ?_
 refine th_n (hK1 _ _ ?_)
 refine wp_seq_k (fun K3 hK3 => ?_)
 refine wp_region_lit ?_
 refine sv n2.ok rfl (wn _ rfl) rfl (o_mv (n2.ne rfl e0_0)) (fun an4 n4 => ?_)
 refine sv n4.ok rfl (wn _ rfl) rfl (o_mv (n4.ne rfl (n2.ne rfl e0_1))) (fun an5 n5 => ?_)
 refine sc n5.ok rfl (wn _ rfl) rfl (o_f2 Tryz.func6 rfl rfl rfl (n5.ne rfl n4.at_) n5.at_) (pj_few X Y va vb vc vd M hM h30 hla hlb hca hcb hna hnb w (hva.gr G0) (hvb.gr G0) (hma.gr G0) (hmb.gr G0)) ?_
 rintro _ w7 ⟨F, ga, gc, rfl, hFM, hFr, hFo, g8⟩
 refine ⟨_, rfl, fun an6 n6 => ?_⟩
 have G9 := G0.trans g8
 have A11 := Gr.refl w7
 refine sv n6.ok rfl (wn _ rfl) rfl (o_mv n6.at_) (fun an12 n12 => ?_)
 refine sv n12.ok rfl (wn _ rfl) rfl (o_ex n12.at_ rfl) (fun an13 n13 => ?_)
 refine sv n13.ok rfl (wn _ rfl) rfl (o_ex (n13.ne rfl n12.at_) rfl) (fun an14 n14 => ?_)
 refine sv n14.ok rfl (wn _ rfl) rfl (o_as (n14.ne rfl n13.at_)) (fun an15 n15 => ?_)
 refine sv n15.ok rfl (wn _ rfl) rfl (o_as (n15.ne rfl n14.at_)) (fun an16 n16 => ?_)
 refine wpList_nil ?_
 refine th_n (hK3 _ _ ?_)
 refine wp_seq_k (fun K17 hK17 => ?_)
 refine wp_region_lit ?_
 have e18 := n16.ne rfl (n15.ne rfl (n14.ne rfl (n13.ne rfl (n12.ne rfl (n6.ne rfl (n5.ne rfl (n4.ne rfl (n2.ne rfl e0_0))))))))
 refine sv n16.ok rfl (wn _ rfl) rfl (o_mv e18) (fun an19 n19 => ?_)
 have e20 := n19.ne rfl (n16.ne rfl (n15.ne rfl (n14.ne rfl (n13.ne rfl (n12.ne rfl (n6.ne rfl (n5.ne rfl (n4.ne rfl (n2.ne rfl e0_2)))))))))
 refine sv n19.ok rfl (wn _ rfl) rfl (o_mv e20) (fun an21 n21 => ?_)
 refine sc n21.ok rfl (wn _ rfl) rfl (o_f2 Tryz.func7 rfl rfl rfl (n21.ne rfl n19.at_) n21.at_) (pn_few X va vc fv U N hN hla w7 (hva.gr G9) (hma.gr G9) (hf.gr G9)) ?_
 rintro _ w23 ⟨E, na, nc, rfl, hEN, hEr, hEo, g24⟩
 refine ⟨_, rfl, fun an22 n22 => ?_⟩
 have G25 := G9.trans g24
 have A26 := A11.trans g24
 have A28 := Gr.refl w23
 refine sv n22.ok rfl (wn _ rfl) rfl (o_mv n22.at_) (fun an29 n29 => ?_)
 refine sv n29.ok rfl (wn _ rfl) rfl (o_ex n29.at_ rfl) (fun an30 n30 => ?_)
 refine sv n30.ok rfl (wn _ rfl) rfl (o_ex (n30.ne rfl n29.at_) rfl) (fun an31 n31 => ?_)
 refine sv n31.ok rfl (wn _ rfl) rfl (o_as (n31.ne rfl n30.at_)) (fun an32 n32 => ?_)
 refine sv n32.ok rfl (wn _ rfl) rfl (o_as (n32.ne rfl n31.at_)) (fun an33 n33 => ?_)
 refine wpList_nil ?_
 refine th_n (hK17 _ _ ?_)
 refine wp_seq_k (fun K34 hK34 => ?_)
 refine wp_region_lit ?_
 have e35 := n33.ne rfl (n32.ne rfl (n31.ne rfl (n30.ne rfl (n29.ne rfl (n22.ne rfl (n21.ne rfl (n19.ne rfl e18)))))))
 refine sv n33.ok rfl (wn _ rfl) rfl (o_mv e35) (fun an36 n36 => ?_)
 refine sc n36.ok rfl (wn _ rfl) rfl (o_f1 Tryz.func8 rfl rfl rfl n36.at_) (rparts_ok X va vc w23 hla (hva.gr G25) (hma.gr G25)) ?_
 rintro _ w38 ⟨rfl, g39⟩
 refine ⟨_, rfl, fun an37 n37 => ?_⟩
 have G40 := G25.trans g39
 have A41 := A26.trans g39
 have A42 := A28.trans g39
 refine sv n37.ok rfl (wn _ rfl) rfl (o_as n37.at_) (fun an43 n43 => ?_)
 refine wpList_nil ?_
 refine th_n (hK34 _ _ ?_)
 refine wp_seq_k (fun K44 hK44 => ?_)
 refine wp_region_lit ?_
 refine sc n43.ok rfl (wn _ rfl) rfl (o_f0 Tryz.func9 rfl rfl rfl ) (fevery w38) ?_
 rintro _ w46 ⟨ev, rfl, hev, g47⟩
 obtain ⟨fa, fn, fc, rfl⟩ := hev.form
 refine ⟨_, rfl, fun an45 n45 => ?_⟩
 have G48 := G40.trans g47
 have A49 := A41.trans g47
 have A50 := A42.trans g47
 have A52 := Gr.refl w46
 refine sv n45.ok rfl (wn _ rfl) rfl (o_as n45.at_) (fun an53 n53 => ?_)
 refine wpList_nil ?_
 refine th_n (hK44 _ _ ?_)
 refine wp_seq_k (fun K54 hK54 => ?_)
 refine wp_seq_k (fun K55 hK55 => ?_)
 refine wp_region_lit ?_
 refine sv n53.ok rfl (wn _ rfl) rfl (o_mv n53.at_) (fun an56 n56 => ?_)
 obtain ⟨i57, i57a, i57b, i57c⟩ := info3_of (show (Tryz.prog.info? 3).map (fun i => (i.zero, i.size)) = some (some (.int .i64 0), 1) by kernel_rfl)
 refine sals (cs := #[.int .i64 1]) n56.ok rfl (wn _ rfl) rfl (o_bs (vs := [(0, .int .i64 1)]) (by simp [ev_const]) Tryz.underlying30 i57a i57b (by rw [i57c]; rfl) (by rw [i57c]; rfl) (by rw [i57c]; kernel_rfl)) (fun an58 w60 b59 W61 n58 => ?_)
 have G66 := G48.trans W61.gr
 have A67 := A49.trans W61.gr
 have A68 := A50.trans W61.gr
 have A69 := A52.trans W61.gr
 refine sv n58.ok rfl (wn _ rfl) rfl (o_bd (cells := #[.slice (some ⟨b59, 0, none⟩) 1 1, .slice none 0 0]) (vs := [(0, .slice (some ⟨b59, 0, none⟩) 1 1)]) (by simp [n58.at_, ev_const]) (by kernel_rfl)) (fun an70 n70 => ?_)
 refine sv n70.ok rfl (wn _ rfl) rfl (o_bd (cells := #[.slice fa fn fc, .slice (some ⟨b59, 0, none⟩) 1 1, .slice none 0 0]) (vs := [(0, .slice fa fn fc), (1, .agg #[.slice (some ⟨b59, 0, none⟩) 1 1, .slice none 0 0])]) (by simp [(n70.ne rfl (n58.ne rfl n56.at_)), n70.at_, ev_const]) (by kernel_rfl)) (fun an71 n71 => ?_)
 obtain ⟨i72, i72a, i72b, i72c⟩ := info3_of (show (Tryz.prog.info? 35).map (fun i => (i.zero, i.size)) = some (some (.agg #[.slice none 0 0, .slice none 0 0, .slice none 0 0]), 3) by kernel_rfl)
 refine sals (cs := #[.slice fa fn fc, .slice (some ⟨b59, 0, none⟩) 1 1, .slice none 0 0]) n71.ok rfl (wn _ rfl) rfl (o_bs (vs := [(0, .agg #[.slice fa fn fc, .slice (some ⟨b59, 0, none⟩) 1 1, .slice none 0 0])]) (by simp [n71.at_, ev_const]) Tryz.underlying22 i72a i72b (by rw [i72c]; rfl) (by rw [i72c]; rfl) (by rw [i72c]; kernel_rfl)) (fun an73 w75 b74 W76 n73 => ?_)
 have G82 := G66.trans W76.gr
 have B83 := W61.bk.gr W76.gr
 have A84 := A67.trans W76.gr
 have A85 := A68.trans W76.gr
 have A86 := A69.trans W76.gr
 refine sc n73.ok rfl (wn _ rfl) rfl (o_f2 Tryz.func6 rfl rfl rfl ev_const n73.at_) (psets_lit b74 b59 fa fn fc _ _ w75 W76.bk B83 (FSn.le (hev.gr A86) (by decide))) ?_
 rintro _ w88 ⟨J1, ja, jc, rfl, hJ1, hjr, hjm, g89⟩
 refine ⟨_, rfl, fun an87 n87 => ?_⟩
 have G90 := G82.trans g89
 have A93 := A84.trans g89
 have A94 := A85.trans g89
 have A97 := Gr.refl w88
 refine sv n87.ok rfl (wn _ rfl) rfl (o_mv n87.at_) (fun an98 n98 => ?_)
 refine sv n98.ok rfl (wn _ rfl) rfl (o_ex n98.at_ rfl) (fun an99 n99 => ?_)
 refine sv n99.ok rfl (wn _ rfl) rfl (o_ex (n99.ne rfl n98.at_) rfl) (fun an100 n100 => ?_)
 refine sv n100.ok rfl (wn _ rfl) rfl (o_as (n100.ne rfl n99.at_)) (fun an101 n101 => ?_)
 refine sv n101.ok rfl (wn _ rfl) rfl (o_as (n101.ne rfl n100.at_)) (fun an102 n102 => ?_)
 refine wpList_nil ?_
 refine th_n (hK55 _ _ ?_)
 refine wp_seq_k (fun K103 hK103 => ?_)
 refine wp_region_lit ?_
 refine sv n102.ok rfl (wn _ rfl) rfl (o_mv n102.at_) (fun an104 n104 => ?_)
 refine sv n104.ok rfl (wn _ rfl) rfl (o_neq (b := false) n104.at_ ev_const (by decide)) (fun an105 n105 => ?_)
 refine sv n105.ok rfl (wn _ rfl) rfl (o_mv n105.at_) (fun an106 n106 => ?_)
 have e107 := n106.ne rfl (n105.ne rfl (n104.ne rfl (n102.ne rfl n101.at_)))
 refine sv n106.ok rfl (wgT rfl (yl 2 false rfl n106.at_) rfl) rfl (o_mv e107) (fun an108 n108 => ?_)
 refine sv n108.ok rfl (wgT rfl (yl 2 false rfl (n108.ne rfl n106.at_)) rfl) rfl (o_len n108.at_ Tryz.underlying22) (fun an109 n109 => ?_)
 refine sv n109.ok rfl (wgT rfl (yl 2 false rfl (n109.ne rfl (n108.ne rfl n106.at_))) rfl) rfl (o_neq (b := false) n109.at_ ev_const (by simp [show ((J1.length : Nat) : Int) = 1 from (show ((J1.length : Nat) : Int) = 1 by omega)])) (fun an110 n110 => ?_)
 have e111 := n110.ne rfl (n109.ne rfl (n108.ne rfl n106.at_))
 refine sv n110.ok rfl (wn _ rfl) rfl (o_pkF e111 n110.at_) (fun an112 n112 => ?_)
 refine sv n112.ok rfl (wn _ rfl) rfl (o_mv n112.at_) (fun an113 n113 => ?_)
 have e114 := n113.ne rfl (n112.ne rfl (n110.ne rfl (n109.ne rfl (n108.ne rfl e107))))
 refine sv n113.ok rfl (wgT rfl (yl 7 false rfl n113.at_) rfl) rfl (o_mv e114) (fun an115 n115 => ?_)
 have h116l : 0 < List.length J1 := by omega
 obtain ⟨bh116, fh116, h116a, h116b, h116c⟩ := (hjr.gr A97) (ne_nil_of_lt h116l)
 obtain ⟨xh116, h116x⟩ : ∃ x, (J1)[0]? = some x := ⟨_, List.getElem?_eq_getElem h116l⟩
 refine sv n115.ok rfl (wgT rfl (yl 7 false rfl (n115.ne rfl n113.at_)) rfl) rfl (o_iaV (i := 0) (s := 3) h116a n115.at_ ev_const Tryz.underlying22 (by kernel_rfl) h116l) (fun an117 n117 => ?_)
 refine sv n117.ok rfl (wgT rfl (yl 7 false rfl (n117.ne rfl (n115.ne rfl n113.at_))) rfl) rfl (o_fa (z := 1) n117.at_ Tryz.underlying35 rfl (by kernel_rfl) rfl rfl) (fun an118 n118 => ?_)
 have e119 := n118.ne rfl (n117.ne rfl (n115.ne rfl n113.at_))
 refine sv n118.ok rfl (wgT rfl (yl 7 false rfl e119) rfl) rfl (o_ld n118.at_ (Tryz.isAgg23 _) ((Below.cell (Gr.refl w88) h116b).trans (h116c _ _ h116x 0 _ rfl))) (fun an120 n120 => ?_)
 refine sc n120.ok rfl (wgT rfl (yl 7 false rfl (n120.ne rfl e119)) rfl) rfl (o_f1 Tryz.func10 rfl rfl rfl n120.at_) (rfilter_ok (by decide) ((hjm.gr A97) _ (List.mem_of_getElem? h116x)).fs) ?_
 rintro _ w122 ⟨rfl, g123⟩
 refine ⟨_, rfl, fun an121 n121 => ?_⟩
 have G124 := G90.trans g123
 have A127 := A93.trans g123
 have A128 := A94.trans g123
 refine sv n121.ok rfl (wgT rfl (yl 7 false rfl (n121.ne rfl (n120.ne rfl e119))) rfl) rfl (o_neq (b := false) n121.at_ ev_const (by decide)) (fun an131 n131 => ?_)
 have e132 := n131.ne rfl (n121.ne rfl (n120.ne rfl e119))
 refine sv n131.ok rfl (wn _ rfl) rfl (o_pkF e132 n131.at_) (fun an133 n133 => ?_)
 refine wpList_nil ?_
 refine th_n (hK103 _ _ ?_)
 refine wp_cond_false (n133.at_) ?_
 refine wp_skip ?_
 refine th_n (hK54 _ _ ?_)
 refine wp_seq_k (fun K134 hK134 => ?_)
 refine wp_seq_k (fun K135 hK135 => ?_)
 refine wp_region_lit ?_
 have e136 := n133.ne rfl (n131.ne rfl (n121.ne rfl (n120.ne rfl (n118.ne rfl (n117.ne rfl (n115.ne rfl (n113.ne rfl (n112.ne rfl (n110.ne rfl (n109.ne rfl (n108.ne rfl (n106.ne rfl (n105.ne rfl (n104.ne rfl (n102.ne rfl (n101.ne rfl (n100.ne rfl (n99.ne rfl (n98.ne rfl (n87.ne rfl (n73.ne rfl (n71.ne rfl (n70.ne rfl (n58.ne rfl (n56.ne rfl (n53.ne rfl (n45.ne rfl n43.at_)))))))))))))))))))))))))))
 refine sv n133.ok rfl (wn _ rfl) rfl (o_mv e136) (fun an137 n137 => ?_)
 refine sv n137.ok rfl (wn _ rfl) rfl (o_neq (b := false) n137.at_ ev_const (by decide)) (fun an138 n138 => ?_)
 refine wpList_nil ?_
 refine th_n (hK135 _ _ ?_)
 refine wp_cond_false (n138.at_) ?_
 refine wp_skip ?_
 refine th_n (hK134 _ _ ?_)
 refine wp_seq_k (fun K139 hK139 => ?_)
 refine wp_seq_k (fun K140 hK140 => ?_)
 refine wp_region_lit ?_
 have e141 := n138.ne rfl (n137.ne rfl (n133.ne rfl (n131.ne rfl (n121.ne rfl (n120.ne rfl (n118.ne rfl (n117.ne rfl (n115.ne rfl (n113.ne rfl (n112.ne rfl (n110.ne rfl (n109.ne rfl (n108.ne rfl (n106.ne rfl (n105.ne rfl (n104.ne rfl (n102.ne rfl (n101.ne rfl (n100.ne rfl (n99.ne rfl (n98.ne rfl (n87.ne rfl (n73.ne rfl (n71.ne rfl (n70.ne rfl (n58.ne rfl (n56.ne rfl (n53.ne rfl (n45.ne rfl (n43.ne rfl (n37.ne rfl (n36.ne rfl (n33.ne rfl (n32.ne rfl (n31.ne rfl (n30.ne rfl (n29.ne rfl (n22.ne rfl (n21.ne rfl e20)))))))))))))))))))))))))))))))))))))))
 refine sv n138.ok rfl (wn _ rfl) rfl (o_mv e141) (fun an142 n142 => ?_)
 refine sc n142.ok rfl (wn _ rfl) rfl (o_f1 Tryz.func10 rfl rfl rfl n142.at_) (rfilter_ok (by decide) (hf.gr G124)) ?_
 rintro _ w144 ⟨rfl, g145⟩
 refine ⟨_, rfl, fun an143 n143 => ?_⟩
 have G146 := G124.trans g145
 have A149 := A127.trans g145
 have A150 := A128.trans g145
 refine sv n143.ok rfl (wn _ rfl) rfl (o_as n143.at_) (fun an153 n153 => ?_)
 refine wpList_nil ?_
 refine th_n (hK140 _ _ ?_)
 refine wp_seq_k (fun K154 hK154 => ?_)
 refine wp_region_lit ?_
 refine sv n153.ok rfl (wn _ rfl) rfl (o_mv n153.at_) (fun an155 n155 => ?_)
 refine sv n155.ok rfl (wn _ rfl) rfl (o_neq (b := false) n155.at_ ev_const (by decide)) (fun an156 n156 => ?_)
 refine wpList_nil ?_
 refine th_n (hK154 _ _ ?_)
 refine wp_cond_false (n156.at_) ?_
 refine wp_seq_k (fun K157 hK157 => ?_)
 refine wp_region_lit ?_
 have e158 := n156.ne rfl (n155.ne rfl (n153.ne rfl (n143.ne rfl (n142.ne rfl (n138.ne rfl (n137.ne rfl (n133.ne rfl (n131.ne rfl (n121.ne rfl (n120.ne rfl (n118.ne rfl (n117.ne rfl (n115.ne rfl (n113.ne rfl (n112.ne rfl (n110.ne rfl (n109.ne rfl (n108.ne rfl (n106.ne rfl (n105.ne rfl (n104.ne rfl (n102.ne rfl (n101.ne rfl (n100.ne rfl (n99.ne rfl (n98.ne rfl (n87.ne rfl (n73.ne rfl (n71.ne rfl (n70.ne rfl (n58.ne rfl (n56.ne rfl (n53.ne rfl (n45.ne rfl (n43.ne rfl (n37.ne rfl (n36.ne rfl n33.at_)))))))))))))))))))))))))))))))))))))
 refine sv n156.ok rfl (wn _ rfl) rfl (o_mv e158) (fun an159 n159 => ?_)
 refine sv n159.ok rfl (wn _ rfl) rfl (o_neq (b := false) n159.at_ ev_const (by decide)) (fun an160 n160 => ?_)
 refine sv n160.ok rfl (wn _ rfl) rfl (o_mv n160.at_) (fun an161 n161 => ?_)
 have e162 := n161.ne rfl (n160.ne rfl (n159.ne rfl (n156.ne rfl (n155.ne rfl (n153.ne rfl (n143.ne rfl (n142.ne rfl (n138.ne rfl (n137.ne rfl (n133.ne rfl (n131.ne rfl (n121.ne rfl (n120.ne rfl (n118.ne rfl (n117.ne rfl (n115.ne rfl (n113.ne rfl (n112.ne rfl (n110.ne rfl (n109.ne rfl (n108.ne rfl (n106.ne rfl (n105.ne rfl (n104.ne rfl (n102.ne rfl (n101.ne rfl (n100.ne rfl (n99.ne rfl (n98.ne rfl (n87.ne rfl (n73.ne rfl (n71.ne rfl (n70.ne rfl (n58.ne rfl (n56.ne rfl (n53.ne rfl (n45.ne rfl (n43.ne rfl (n37.ne rfl (n36.ne rfl (n33.ne rfl n32.at_)))))))))))))))))))))))))))))))))))))))))
 refine sv n161.ok rfl (wgT rfl (yl 2 false rfl n161.at_) rfl) rfl (o_mv e162) (fun an163 n163 => ?_)
 have e164 := n163.ne rfl (n161.ne rfl (n160.ne rfl (n159.ne rfl (n156.ne rfl (n155.ne rfl (n153.ne rfl (n143.ne rfl (n142.ne rfl (n138.ne rfl (n137.ne rfl (n133.ne rfl (n131.ne rfl (n121.ne rfl (n120.ne rfl (n118.ne rfl (n117.ne rfl (n115.ne rfl (n113.ne rfl (n112.ne rfl (n110.ne rfl (n109.ne rfl (n108.ne rfl (n106.ne rfl (n105.ne rfl (n104.ne rfl (n102.ne rfl (n101.ne rfl (n100.ne rfl (n99.ne rfl (n98.ne rfl (n87.ne rfl (n73.ne rfl (n71.ne rfl (n70.ne rfl (n58.ne rfl (n56.ne rfl (n53.ne rfl (n45.ne rfl (n43.ne rfl (n37.ne rfl (n36.ne rfl e35)))))))))))))))))))))))))))))))))))))))))
 refine sv n163.ok rfl (wgT rfl (yl 2 false rfl (n163.ne rfl n161.at_)) rfl) rfl (o_mv e164) (fun an165 n165 => ?_)
 refine sc n165.ok rfl (wgT rfl (yl 2 false rfl (n165.ne rfl (n163.ne rfl n161.at_))) rfl) rfl (o_f1 Tryz.func13 rfl rfl rfl n165.at_) (rmean_c X va vc (by omega) w144 (hva.gr G146) (hma.gr G146)) ?_
 rintro _ w167 ⟨maa1, mca1, rfl, hmca1, hmna1, hmra1, g168⟩
 refine ⟨_, rfl, fun an166 n166 => ?_⟩
 have G169 := G146.trans g168
 have A172 := A149.trans g168
 have A173 := A150.trans g168
 have A177 := Gr.refl w167
 have e178 := n166.ne rfl (n165.ne rfl (n163.ne rfl n161.at_))
 have e179 := n166.ne rfl (n165.ne rfl (n163.ne rfl (n161.ne rfl (n160.ne rfl (n159.ne rfl (n156.ne rfl (n155.ne rfl (n153.ne rfl (n143.ne rfl (n142.ne rfl e141))))))))))
 refine sv n166.ok rfl (wgT rfl (yl 2 false rfl e178) rfl) rfl (o_mv e179) (fun an180 n180 => ?_)
 refine sc n180.ok rfl (wgT rfl (yl 2 false rfl (n180.ne rfl e178)) rfl) rfl (o_f1 Tryz.func14 rfl rfl rfl n180.at_) (of_fs (by decide) (hf.gr G169)) ?_
 rintro _ w182 ⟨rfl, g183⟩
 refine ⟨_, rfl, fun an181 n181 => ?_⟩
 have G184 := G169.trans g183
 have A187 := A172.trans g183
 have A188 := A173.trans g183
 have A191 := A177.trans g183
 refine sc n181.ok rfl (wgT rfl (yl 2 false rfl (n181.ne rfl (n180.ne rfl e178))) rfl) rfl (o_f2 Tryz.func12 rfl rfl rfl (n181.ne rfl (n180.ne rfl n166.at_)) n181.at_) (by have h := rnarrowed_any (X.map PtX.d) (ptF U) maa1 mca1 (by rw [List.length_map]; omega) (d_okX X) w182 (hmra1.gr A191); rw [hN] at h; exact h) ?_
 rintro _ w193 ⟨ua, uc, rfl, hu, g194⟩
 have hur := RdA.own encDoc_ok hu rfl
 have hNl : N.length ≤ 30 := by rw [← hN]; refine Nat.le_trans (fewM_len _) ?_; rw [List.length_map, List.length_map]; exact hla
 refine ⟨_, rfl, fun an192 n192 => ?_⟩
 have G195 := G184.trans g194
 have A198 := A187.trans g194
 have A199 := A188.trans g194
 have A204 := Gr.refl w193
 have e205 := n192.ne rfl (n181.ne rfl (n180.ne rfl e178))
 have e206 := n192.ne rfl (n181.ne rfl (n180.ne rfl (n166.ne rfl (n165.ne rfl n163.at_))))
 refine sc n192.ok rfl (wgT rfl (yl 2 false rfl e205) rfl) rfl (o_f2 Tryz.func11 rfl rfl rfl e206 n192.at_) (rsay_m E N na ua nc uc _ hEN (by omega) w193 (hEr.gr A199) (hEo.gr A199) (hur.gr A204)) ?_
 rintro _ w208 ⟨rfl, g209⟩
 refine ⟨_, rfl, fun an207 n207 => ?_⟩
 have G210 := G195.trans g209
 have A213 := A198.trans g209
 refine sv n207.ok rfl (wgT rfl (yl 2 false rfl (n207.ne rfl e205)) rfl) rfl (o_not n207.at_ rfl) (fun an219 n219 => ?_)
 refine sv n219.ok rfl (wn _ rfl) rfl (o_pkF (n219.ne rfl (n207.ne rfl e205)) n219.at_) (fun an220 n220 => ?_)
 refine wpList_nil ?_
 refine th_n (hK157 _ _ ?_)
 refine wp_cond_false (n220.at_) ?_
 refine wp_skip ?_
 refine th_n (hK139 _ _ ?_)
 refine wp_seq_k (fun K221 hK221 => ?_)
 refine wp_seq_k (fun K222 hK222 => ?_)
 refine wp_region_lit ?_
 have e223 := n220.ne rfl (n219.ne rfl (n207.ne rfl (n192.ne rfl (n181.ne rfl (n180.ne rfl (n166.ne rfl (n165.ne rfl (n163.ne rfl (n161.ne rfl (n160.ne rfl (n159.ne rfl (n156.ne rfl (n155.ne rfl (n153.ne rfl (n143.ne rfl (n142.ne rfl (n138.ne rfl (n137.ne rfl (n133.ne rfl (n131.ne rfl (n121.ne rfl (n120.ne rfl (n118.ne rfl (n117.ne rfl (n115.ne rfl (n113.ne rfl (n112.ne rfl (n110.ne rfl (n109.ne rfl (n108.ne rfl (n106.ne rfl (n105.ne rfl (n104.ne rfl (n102.ne rfl (n101.ne rfl (n100.ne rfl (n99.ne rfl (n98.ne rfl (n87.ne rfl (n73.ne rfl (n71.ne rfl (n70.ne rfl (n58.ne rfl (n56.ne rfl (n53.ne rfl (n45.ne rfl (n43.ne rfl (n37.ne rfl (n36.ne rfl (n33.ne rfl (n32.ne rfl (n31.ne rfl (n30.ne rfl (n29.ne rfl (n22.ne rfl (n21.ne rfl (n19.ne rfl (n16.ne rfl (n15.ne rfl (n14.ne rfl (n13.ne rfl (n12.ne rfl (n6.ne rfl (n5.ne rfl (n4.ne rfl (n2.ne rfl e0_1))))))))))))))))))))))))))))))))))))))))))))))))))))))))))))))))))
 refine sv n220.ok rfl (wn _ rfl) rfl (o_mv e223) (fun an224 n224 => ?_)
 refine sc n224.ok rfl (wn _ rfl) rfl (o_f1 Tryz.func8 rfl rfl rfl n224.at_) (rparts_ok Y vb vd w208 hlb (hvb.gr G210) (hmb.gr G210)) ?_
 rintro _ w226 ⟨rfl, g227⟩
 refine ⟨_, rfl, fun an225 n225 => ?_⟩
 have G228 := G210.trans g227
 have A231 := A213.trans g227
 refine sv n225.ok rfl (wn _ rfl) rfl (o_as n225.at_) (fun an237 n237 => ?_)
 refine wpList_nil ?_
 refine th_n (hK222 _ _ ?_)
 refine wp_seq_k (fun K238 hK238 => ?_)
 refine wp_region_lit ?_
 refine sv n237.ok rfl (wn _ rfl) rfl (o_mv n237.at_) (fun an239 n239 => ?_)
 refine sv n239.ok rfl (wn _ rfl) rfl (o_neq (b := false) n239.at_ ev_const (by decide)) (fun an240 n240 => ?_)
 refine wpList_nil ?_
 refine th_n (hK238 _ _ ?_)
 refine wp_cond_false (n240.at_) ?_
 refine wp_skip ?_
 refine th_n (hK221 _ _ ?_)
 refine wp_seq_k (fun K241 hK241 => ?_)
 refine wp_region_lit ?_
 have e242 := n240.ne rfl (n239.ne rfl (n237.ne rfl (n225.ne rfl (n224.ne rfl (n220.ne rfl (n219.ne rfl (n207.ne rfl (n192.ne rfl (n181.ne rfl (n180.ne rfl (n166.ne rfl (n165.ne rfl e164))))))))))))
 refine sv n240.ok rfl (wn _ rfl) rfl (o_mv e242) (fun an243 n243 => ?_)
 refine sc n243.ok rfl (wn _ rfl) rfl (o_f1 Tryz.func13 rfl rfl rfl n243.at_) (rmean_c X va vc (by omega) w226 (hva.gr G228) (hma.gr G228)) ?_
 rintro _ w245 ⟨maa2, mca2, rfl, hmca2, hmna2, hmra2, g246⟩
 refine ⟨_, rfl, fun an244 n244 => ?_⟩
 have G247 := G228.trans g246
 have A250 := A231.trans g246
 have A257 := Gr.refl w245
 have e258 := n244.ne rfl (n243.ne rfl (n240.ne rfl (n239.ne rfl (n237.ne rfl (n225.ne rfl (n224.ne rfl e223))))))
 refine sv n244.ok rfl (wn _ rfl) rfl (o_mv e258) (fun an259 n259 => ?_)
 refine sc n259.ok rfl (wn _ rfl) rfl (o_f1 Tryz.func13 rfl rfl rfl n259.at_) (rmean_c Y vb vd (by omega) w245 (hvb.gr G247) (hmb.gr G247)) ?_
 rintro _ w261 ⟨mab3, mcb3, rfl, hmcb3, hmnb3, hmrb3, g262⟩
 refine ⟨_, rfl, fun an260 n260 => ?_⟩
 have G263 := G247.trans g262
 have A266 := A250.trans g262
 have A272 := A257.trans g262
 have A274 := Gr.refl w261
 obtain ⟨i275, i275a, i275b, i275c⟩ := info3_of (show (Tryz.prog.info? 38).map (fun i => (i.zero, i.size)) = some (some (.slice none 0 0), 1) by kernel_rfl)
 refine sals (cs := #[.slice maa2 ((X.map PtX.d).length) mca2, .slice mab3 ((Y.map PtX.d).length) mcb3]) n260.ok rfl (wn _ rfl) rfl (o_bs (vs := [(0, .slice maa2 ((X.map PtX.d).length) mca2), (1, .slice mab3 ((Y.map PtX.d).length) mcb3)]) (by simp [(n260.ne rfl (n259.ne rfl n244.at_)), n260.at_, ev_const]) Tryz.underlying106 i275a i275b (by rw [i275c]; rfl) (by rw [i275c]; rfl) (by rw [i275c]; kernel_rfl)) (fun an276 w278 b277 W279 n276 => ?_)
 have G291 := G263.trans W279.gr
 have A294 := A266.trans W279.gr
 have A300 := A272.trans W279.gr
 have A301 := A274.trans W279.gr
 refine sc n276.ok rfl (wn _ rfl) rfl (o_f1 Tryz.func16 rfl rfl rfl n276.at_) (concatM2 (X.map PtX.d) (Y.map PtX.d) maa2 mab3 mca2 mcb3 b277 _ w278 (by rw [List.length_map]; exact hla) (by rw [List.length_map]; exact hlb) hmca2 hmcb3 hmna2 hmnb3 (hmra2.gr A300) (hmrb3.gr A301) W279.bk) ?_
 rintro _ w303 ⟨ca, cc, rfl, hcr, g304⟩
 refine ⟨_, rfl, fun an302 n302 => ?_⟩
 have G305 := G291.trans g304
 have A309 := A294.trans g304
 have A318 := Gr.refl w303
 refine sc n302.ok rfl (wn _ rfl) rfl (o_f1 Tryz.func15 rfl rfl rfl n302.at_) (by have h := rfew_any (X.map PtX.d ++ Y.map PtX.d) ca cc (by rw [List.length_append, List.length_map, List.length_map]; omega) (fun x hx => (List.mem_append.1 hx).elim (d_okX X x) (d_okX Y x)) w303 (hcr.gr A318); rw [hM] at h; exact h) ?_
 rintro _ w320 ⟨wa, wc, rfl, hw, g321⟩
 have hwr := RdA.own encDoc_ok hw rfl
 refine ⟨_, rfl, fun an319 n319 => ?_⟩
 have G322 := G305.trans g321
 have A326 := A309.trans g321
 have A336 := Gr.refl w320
 refine sv n319.ok rfl (wn _ rfl) rfl (o_as n319.at_) (fun an337 n337 => ?_)
 refine wpList_nil ?_
 refine th_n (hK241 _ _ ?_)
 refine wp_seq_k (fun K338 hK338 => ?_)
 refine wp_seq_k (fun K339 hK339 => ?_)
 refine wp_region_lit ?_
 refine sv n337.ok rfl (wn _ rfl) rfl (o_mv n337.at_) (fun an340 n340 => ?_)
 refine sv n340.ok rfl (wn _ rfl) rfl (o_len n340.at_ Tryz.underlying38) (fun an341 n341 => ?_)
 refine sv n341.ok rfl (wn _ rfl) rfl (o_gtr n341.at_ ev_const (decide_eq_false (show ¬ ((M.length : Nat) : Int) > 30 by omega))) (fun an342 n342 => ?_)
 refine wpList_nil ?_
 refine th_n (hK339 _ _ ?_)
 refine wp_cond_false (n342.at_) ?_
 refine wp_skip ?_
 refine th_n (hK338 _ _ ?_)
 refine wp_seq_k (fun K343 hK343 => ?_)
 refine wp_region_lit ?_
 have e344 := n342.ne rfl (n341.ne rfl (n340.ne rfl (n337.ne rfl (n319.ne rfl (n302.ne rfl (n276.ne rfl (n260.ne rfl (n259.ne rfl (n244.ne rfl (n243.ne rfl (n240.ne rfl (n239.ne rfl (n237.ne rfl (n225.ne rfl (n224.ne rfl (n220.ne rfl (n219.ne rfl (n207.ne rfl (n192.ne rfl (n181.ne rfl (n180.ne rfl (n166.ne rfl (n165.ne rfl (n163.ne rfl (n161.ne rfl (n160.ne rfl (n159.ne rfl (n156.ne rfl (n155.ne rfl (n153.ne rfl (n143.ne rfl (n142.ne rfl (n138.ne rfl (n137.ne rfl (n133.ne rfl (n131.ne rfl (n121.ne rfl (n120.ne rfl (n118.ne rfl (n117.ne rfl (n115.ne rfl (n113.ne rfl (n112.ne rfl (n110.ne rfl (n109.ne rfl (n108.ne rfl (n106.ne rfl (n105.ne rfl (n104.ne rfl (n102.ne rfl (n101.ne rfl (n100.ne rfl (n99.ne rfl (n98.ne rfl (n87.ne rfl (n73.ne rfl (n71.ne rfl (n70.ne rfl (n58.ne rfl (n56.ne rfl (n53.ne rfl (n45.ne rfl (n43.ne rfl (n37.ne rfl (n36.ne rfl (n33.ne rfl (n32.ne rfl (n31.ne rfl (n30.ne rfl (n29.ne rfl (n22.ne rfl (n21.ne rfl (n19.ne rfl n16.at_)))))))))))))))))))))))))))))))))))))))))))))))))))))))))))))))))))))))))
 refine sv n342.ok rfl (wn _ rfl) rfl (o_mv e344) (fun an345 n345 => ?_)
 refine sv n345.ok rfl (wn _ rfl) rfl (o_eq (b := true) n345.at_ ev_const (by decide)) (fun an346 n346 => ?_)
 refine sv n346.ok rfl (wn _ rfl) rfl (o_mv n346.at_) (fun an347 n347 => ?_)
 have e348 := n347.ne rfl (n346.ne rfl (n345.ne rfl (n342.ne rfl (n341.ne rfl (n340.ne rfl (n337.ne rfl (n319.ne rfl (n302.ne rfl (n276.ne rfl (n260.ne rfl (n259.ne rfl (n244.ne rfl (n243.ne rfl (n240.ne rfl (n239.ne rfl (n237.ne rfl (n225.ne rfl (n224.ne rfl (n220.ne rfl (n219.ne rfl (n207.ne rfl (n192.ne rfl (n181.ne rfl (n180.ne rfl (n166.ne rfl (n165.ne rfl (n163.ne rfl (n161.ne rfl (n160.ne rfl (n159.ne rfl (n156.ne rfl (n155.ne rfl (n153.ne rfl (n143.ne rfl (n142.ne rfl (n138.ne rfl (n137.ne rfl (n133.ne rfl (n131.ne rfl (n121.ne rfl (n120.ne rfl (n118.ne rfl (n117.ne rfl (n115.ne rfl (n113.ne rfl (n112.ne rfl (n110.ne rfl (n109.ne rfl (n108.ne rfl (n106.ne rfl (n105.ne rfl (n104.ne rfl (n102.ne rfl (n101.ne rfl (n100.ne rfl (n99.ne rfl (n98.ne rfl (n87.ne rfl (n73.ne rfl (n71.ne rfl (n70.ne rfl (n58.ne rfl (n56.ne rfl (n53.ne rfl (n45.ne rfl (n43.ne rfl (n37.ne rfl (n36.ne rfl (n33.ne rfl (n32.ne rfl (n31.ne rfl (n30.ne rfl (n29.ne rfl (n22.ne rfl (n21.ne rfl (n19.ne rfl (n16.ne rfl n15.at_)))))))))))))))))))))))))))))))))))))))))))))))))))))))))))))))))))))))))))))
 refine sv n347.ok rfl (wgT rfl (yl 2 true rfl n347.at_) rfl) rfl (o_mv e348) (fun an349 n349 => ?_)
 have e350 := n349.ne rfl (n347.ne rfl (n346.ne rfl (n345.ne rfl (n342.ne rfl (n341.ne rfl (n340.ne rfl n337.at_))))))
 refine sv n349.ok rfl (wgT rfl (yl 2 true rfl (n349.ne rfl n347.at_)) rfl) rfl (o_mv e350) (fun an351 n351 => ?_)
 refine sc n351.ok rfl (wgT rfl (yl 2 true rfl (n351.ne rfl (n349.ne rfl n347.at_))) rfl) rfl (o_f2 Tryz.func11 rfl rfl rfl (n351.ne rfl n349.at_) n351.at_) (rsay_m F M ga wa gc wc _ hFM (by omega) w320 (hFr.gr A326) (hFo.gr A326) (hwr.gr A336)) ?_
 rintro _ w353 ⟨rfl, g354⟩
 refine ⟨_, rfl, fun an352 n352 => ?_⟩
 have G355 := G322.trans g354
 have e369 := n352.ne rfl (n351.ne rfl (n349.ne rfl n347.at_))
 refine sv n352.ok rfl (wn _ rfl) rfl (o_pkT e369 n352.at_) (fun an370 n370 => ?_)
 refine sv n370.ok rfl (wn _ rfl) rfl (o_as n370.at_) (fun an371 n371 => ?_)
 refine wpList_nil ?_
 refine th_n (hK343 _ _ ?_)
 refine wp_ret ?_
 exact ret1 n371.ok rfl (n371.at_) ⟨rfl, G355⟩
set_option maxHeartbeats 8000000 in
set_option maxRecDepth 100000 in
theorem partSets_ok_ok_many (X : List PtX) (Y : List PtX) (va vb : Option Addr) (vc vd : Nat) (fv : Value) (U : Nat → Nat) (N : List PtM) (hN : fewM ((X.map PtX.d).map (narM (ptF U))) = N) (M : List PtM) (hM : fewM (X.map PtX.d ++ Y.map PtX.d) = M) (h30 : ¬ M.length ≤ 30) (hca : X.length ≤ vc) (hcb : Y.length ≤ vd) (hna : va = none → vc = 0) (hnb : vb = none → vd = 0) (w : World) (hla : X.length ≤ 30) (hva : RdA encP 3 w va X) (hma : MeansP w X) (hlb : Y.length ≤ 30) (hvb : RdA encP 3 w vb Y) (hmb : MeansP w Y) (hf : FS w fv U) :
  Calls Tryz.prog 3 #[.slice va X.length vc, .slice vb Y.length vd, fv] w fun e w' => e = .returned (.bool true) ∧ Gr w w' := by
 refine enter (N := 137) Tryz.func3 rfl rfl rfl (fun a0 ok0 h0 => ?_)
 have e0_0 : a0.eval (.tmp 0) = .slice va X.length vc := h0 0 _ rfl
 have e0_1 : a0.eval (.tmp 1) = .slice vb Y.length vd := h0 1 _ rfl
 have e0_2 : a0.eval (.tmp 2) = fv := h0 2 _ rfl
 clear h0
 have G0 := Gr.refl w
 refine wp_seq_k (fun K1 hK1 => ?_)
 refine wp_region_lit ?_
 refine sv ok0 rfl (wn _ rfl) rfl (o_as ev_const) (fun an2 n2 => ?_)
 refine wpList_nil ?_
 refine th_n (hK1 _ _ ?_)
 refine wp_seq_k (fun K3 hK3 => ?_)
 refine wp_region_lit ?_
 refine sv n2.ok rfl (wn _ rfl) rfl (o_mv (n2.ne rfl e0_0)) (fun an4 n4 => ?_)
 refine sv n4.ok rfl (wn _ rfl) rfl (o_mv (n4.ne rfl (n2.ne rfl e0_1))) (fun an5 n5 => ?_)
 refine sc n5.ok rfl (wn _ rfl) rfl (o_f2 Tryz.func6 rfl rfl rfl (n5.ne rfl n4.at_) n5.at_) (pj_many X Y va vb vc vd M hM h30 hla hlb hca hcb hna hnb w (hva.gr G0) (hvb.gr G0) (hma.gr G0) (hmb.gr G0)) ?_
 rintro _ w7 ⟨rfl, g8⟩
 refine ⟨_, rfl, fun an6 n6 => ?_⟩
 have G9 := G0.trans g8
 refine sv n6.ok rfl (wn _ rfl) rfl (o_mv n6.at_) (fun an10 n10 => ?_)
 refine sv n10.ok rfl (wn _ rfl) rfl (o_ex n10.at_ rfl) (fun an11 n11 => ?_)
 refine sv n11.ok rfl (wn _ rfl) rfl (o_ex (n11.ne rfl n10.at_) rfl) (fun an12 n12 => ?_)
 refine sv n12.ok rfl (wn _ rfl) rfl (o_as (n12.ne rfl n11.at_)) (fun an13 n13 => ?_)
 refine sv n13.ok rfl (wn _ rfl) rfl (o_as (n13.ne rfl n12.at_)) (fun an14 n14 => ?_)
 refine wpList_nil ?_
 refine th_n (hK3 _ _ ?_)
 refine wp_seq_k (fun K15 hK15 => ?_)
 refine wp_region_lit ?_
 have e16 := n14.ne rfl (n13.ne rfl (n12.ne rfl (n11.ne rfl (n10.ne rfl (n6.ne rfl (n5.ne rfl (n4.ne rfl (n2.ne rfl e0_0))))))))
 refine sv n14.ok rfl (wn _ rfl) rfl (o_mv e16) (fun an17 n17 => ?_)
 have e18 := n17.ne rfl (n14.ne rfl (n13.ne rfl (n12.ne rfl (n11.ne rfl (n10.ne rfl (n6.ne rfl (n5.ne rfl (n4.ne rfl (n2.ne rfl e0_2)))))))))
 refine sv n17.ok rfl (wn _ rfl) rfl (o_mv e18) (fun an19 n19 => ?_)
 refine sc n19.ok rfl (wn _ rfl) rfl (o_f2 Tryz.func7 rfl rfl rfl (n19.ne rfl n17.at_) n19.at_) (pn_few X va vc fv U N hN hla w7 (hva.gr G9) (hma.gr G9) (hf.gr G9)) ?_
 rintro _ w21 ⟨E, na, nc, rfl, hEN, hEr, hEo, g22⟩
 refine ⟨_, rfl, fun an20 n20 => ?_⟩
 have G23 := G9.trans g22
 have A25 := Gr.refl w21
 refine sv n20.ok rfl (wn _ rfl) rfl (o_mv n20.at_) (fun an26 n26 => ?_)
 refine sv n26.ok rfl (wn _ rfl) rfl (o_ex n26.at_ rfl) (fun an27 n27 => ?_)
 refine sv n27.ok rfl (wn _ rfl) rfl (o_ex (n27.ne rfl n26.at_) rfl) (fun an28 n28 => ?_)
 refine sv n28.ok rfl (wn _ rfl) rfl (o_as (n28.ne rfl n27.at_)) (fun an29 n29 => ?_)
 refine sv n29.ok rfl (wn _ rfl) rfl (o_as (n29.ne rfl n28.at_)) (fun an30 n30 => ?_)
 refine wpList_nil ?_
 refine th_n (hK15 _ _ ?_)
 refine wp_seq_k (fun K31 hK31 => ?_)
 refine wp_region_lit ?_
 have e32 := n30.ne rfl (n29.ne rfl (n28.ne rfl (n27.ne rfl (n26.ne rfl (n20.ne rfl (n19.ne rfl (n17.ne rfl e16)))))))
 refine sv n30.ok rfl (wn _ rfl) rfl (o_mv e32) (fun an33 n33 => ?_)
 refine sc n33.ok rfl (wn _ rfl) rfl (o_f1 Tryz.func8 rfl rfl rfl n33.at_) (rparts_ok X va vc w21 hla (hva.gr G23) (hma.gr G23)) ?_
 rintro _ w35 ⟨rfl, g36⟩
 refine ⟨_, rfl, fun an34 n34 => ?_⟩
 have G37 := G23.trans g36
 have A38 := A25.trans g36
 refine sv n34.ok rfl (wn _ rfl) rfl (o_as n34.at_) (fun an39 n39 => ?_)
 refine wpList_nil ?_
 refine th_n (hK31 _ _ ?_)
 refine wp_seq_k (fun K40 hK40 => ?_)
 refine wp_region_lit ?_
 refine sc n39.ok rfl (wn _ rfl) rfl (o_f0 Tryz.func9 rfl rfl rfl ) (fevery w35) ?_
 rintro _ w42 ⟨ev, rfl, hev, g43⟩
 obtain ⟨fa, fn, fc, rfl⟩ := hev.form
 refine ⟨_, rfl, fun an41 n41 => ?_⟩
 have G44 := G37.trans g43
 have A45 := A38.trans g43
 have A47 := Gr.refl w42
 refine sv n41.ok rfl (wn _ rfl) rfl (o_as n41.at_) (fun an48 n48 => ?_)
 refine wpList_nil ?_
 refine th_n (hK40 _ _ ?_)
 refine wp_seq_k (fun K49 hK49 => ?_)
 refine wp_seq_k (fun K50 hK50 => ?_)
 refine wp_region_lit ?_
 refine sv n48.ok rfl (wn _ rfl) rfl (o_mv n48.at_) (fun an51 n51 => ?_)
 obtain ⟨i52, i52a, i52b, i52c⟩ := info3_of (show (Tryz.prog.info? 3).map (fun i => (i.zero, i.size)) = some (some (.int .i64 0), 1) by kernel_rfl)
 refine sals (cs := #[.int .i64 1]) n51.ok rfl (wn _ rfl) rfl (o_bs (vs := [(0, .int .i64 1)]) (by simp [ev_const]) Tryz.underlying30 i52a i52b (by rw [i52c]; rfl) (by rw [i52c]; rfl) (by rw [i52c]; kernel_rfl)) (fun an53 w55 b54 W56 n53 => ?_)
 have G60 := G44.trans W56.gr
 have A61 := A45.trans W56.gr
 have A62 := A47.trans W56.gr
 refine sv n53.ok rfl (wn _ rfl) rfl (o_bd (cells := #[.slice (some ⟨b54, 0, none⟩) 1 1, .slice none 0 0]) (vs := [(0, .slice (some ⟨b54, 0, none⟩) 1 1)]) (by simp [n53.at_, ev_const]) (by kernel_rfl)) (fun an63 n63 => ?_)
 refine sv n63.ok rfl (wn _ rfl) rfl (o_bd (cells := #[.slice fa fn fc, .slice (some ⟨b54, 0, none⟩) 1 1, .slice none 0 0]) (vs := [(0, .slice fa fn fc), (1, .agg #[.slice (some ⟨b54, 0, none⟩) 1 1, .slice none 0 0])]) (by simp [(n63.ne rfl (n53.ne rfl n51.at_)), n63.at_, ev_const]) (by kernel_rfl)) (fun an64 n64 => ?_)
 obtain ⟨i65, i65a, i65b, i65c⟩ := info3_of (show (Tryz.prog.info? 35).map (fun i => (i.zero, i.size)) = some (some (.agg #[.slice none 0 0, .slice none 0 0, .slice none 0 0]), 3) by kernel_rfl)
 refine sals (cs := #[.slice fa fn fc, .slice (some ⟨b54, 0, none⟩) 1 1, .slice none 0 0]) n64.ok rfl (wn _ rfl) rfl (o_bs (vs := [(0, .agg #[.slice fa fn fc, .slice (some ⟨b54, 0, none⟩) 1 1, .slice none 0 0])]) (by simp [n64.at_, ev_const]) Tryz.underlying22 i65a i65b (by rw [i65c]; rfl) (by rw [i65c]; rfl) (by rw [i65c]; kernel_rfl)) (fun an66 w68 b67 W69 n66 => ?_)
 have G74 := G60.trans W69.gr
 have B75 := W56.bk.gr W69.gr
 have A76 := A61.trans W69.gr
 have A77 := A62.trans W69.gr
 refine sc n66.ok rfl (wn _ rfl) rfl (o_f2 Tryz.func6 rfl rfl rfl ev_const n66.at_) (psets_lit b67 b54 fa fn fc _ _ w68 W69.bk B75 (FSn.le (hev.gr A77) (by decide))) ?_
 rintro _ w79 ⟨J1, ja, jc, rfl, hJ1, hjr, hjm, g80⟩
 refine ⟨_, rfl, fun an78 n78 => ?_⟩
 have G81 := G74.trans g80
 have A84 := A76.trans g80
 have A87 := Gr.refl w79
 refine sv n78.ok rfl (wn _ rfl) rfl (o_mv n78.at_) (fun an88 n88 => ?_)
 refine sv n88.ok rfl (wn _ rfl) rfl (o_ex n88.at_ rfl) (fun an89 n89 => ?_)
 refine sv n89.ok rfl (wn _ rfl) rfl (o_ex (n89.ne rfl n88.at_) rfl) (fun an90 n90 => ?_)
 refine sv n90.ok rfl (wn _ rfl) rfl (o_as (n90.ne rfl n89.at_)) (fun an91 n91 => ?_)
 refine sv n91.ok rfl (wn _ rfl) rfl (o_as (n91.ne rfl n90.at_)) (fun an92 n92 => ?_)
 refine wpList_nil ?_
 refine th_n (hK50 _ _ ?_)
 refine wp_seq_k (fun K93 hK93 => ?_)
 refine wp_region_lit ?_
 refine sv n92.ok rfl (wn _ rfl) rfl (o_mv n92.at_) (fun an94 n94 => ?_)
 refine sv n94.ok rfl (wn _ rfl) rfl (o_neq (b := false) n94.at_ ev_const (by decide)) (fun an95 n95 => ?_)
 refine sv n95.ok rfl (wn _ rfl) rfl (o_mv n95.at_) (fun an96 n96 => ?_)
 have e97 := n96.ne rfl (n95.ne rfl (n94.ne rfl (n92.ne rfl n91.at_)))
 refine sv n96.ok rfl (wgT rfl (yl 2 false rfl n96.at_) rfl) rfl (o_mv e97) (fun an98 n98 => ?_)
 refine sv n98.ok rfl (wgT rfl (yl 2 false rfl (n98.ne rfl n96.at_)) rfl) rfl (o_len n98.at_ Tryz.underlying22) (fun an99 n99 => ?_)
 refine sv n99.ok rfl (wgT rfl (yl 2 false rfl (n99.ne rfl (n98.ne rfl n96.at_))) rfl) rfl (o_neq (b := false) n99.at_ ev_const (by simp [show ((J1.length : Nat) : Int) = 1 from (show ((J1.length : Nat) : Int) = 1 by omega)])) (fun an100 n100 => ?_)
 have e101 := n100.ne rfl (n99.ne rfl (n98.ne rfl n96.at_))
 refine sv n100.ok rfl (wn _ rfl) rfl (o_pkF e101 n100.at_) (fun an102 n102 => ?_)
 refine sv n102.ok rfl (wn _ rfl) rfl (o_mv n102.at_) (fun an103 n103 => ?_)
 have e104 := n103.ne rfl (n102.ne rfl (n100.ne rfl (n99.ne rfl (n98.ne rfl e97))))
 refine sv n103.ok rfl (wgT rfl (yl 7 false rfl n103.at_) rfl) rfl (o_mv e104) (fun an105 n105 => ?_)
 have h106l : 0 < List.length J1 := by omega
 obtain ⟨bh106, fh106, h106a, h106b, h106c⟩ := (hjr.gr A87) (ne_nil_of_lt h106l)
 obtain ⟨xh106, h106x⟩ : ∃ x, (J1)[0]? = some x := ⟨_, List.getElem?_eq_getElem h106l⟩
 refine sv n105.ok rfl (wgT rfl (yl 7 false rfl (n105.ne rfl n103.at_)) rfl) rfl (o_iaV (i := 0) (s := 3) h106a n105.at_ ev_const Tryz.underlying22 (by kernel_rfl) h106l) (fun an107 n107 => ?_)
 refine sv n107.ok rfl (wgT rfl (yl 7 false rfl (n107.ne rfl (n105.ne rfl n103.at_))) rfl) rfl (o_fa (z := 1) n107.at_ Tryz.underlying35 rfl (by kernel_rfl) rfl rfl) (fun an108 n108 => ?_)
 have e109 := n108.ne rfl (n107.ne rfl (n105.ne rfl n103.at_))
 refine sv n108.ok rfl (wgT rfl (yl 7 false rfl e109) rfl) rfl (o_ld n108.at_ (Tryz.isAgg23 _) ((Below.cell (Gr.refl w79) h106b).trans (h106c _ _ h106x 0 _ rfl))) (fun an110 n110 => ?_)
 refine sc n110.ok rfl (wgT rfl (yl 7 false rfl (n110.ne rfl e109)) rfl) rfl (o_f1 Tryz.func10 rfl rfl rfl n110.at_) (rfilter_ok (by decide) ((hjm.gr A87) _ (List.mem_of_getElem? h106x)).fs) ?_
 rintro _ w112 ⟨rfl, g113⟩
 refine ⟨_, rfl, fun an111 n111 => ?_⟩
 have G114 := G81.trans g113
 have A117 := A84.trans g113
 refine sv n111.ok rfl (wgT rfl (yl 7 false rfl (n111.ne rfl (n110.ne rfl e109))) rfl) rfl (o_neq (b := false) n111.at_ ev_const (by decide)) (fun an120 n120 => ?_)
 have e121 := n120.ne rfl (n111.ne rfl (n110.ne rfl e109))
 refine sv n120.ok rfl (wn _ rfl) rfl (o_pkF e121 n120.at_) (fun an122 n122 => ?_)
 refine wpList_nil ?_
 refine th_n (hK93 _ _ ?_)
 refine wp_cond_false (n122.at_) ?_
 refine wp_skip ?_
 refine th_n (hK49 _ _ ?_)
 refine wp_seq_k (fun K123 hK123 => ?_)
 refine wp_seq_k (fun K124 hK124 => ?_)
 refine wp_region_lit ?_
 have e125 := n122.ne rfl (n120.ne rfl (n111.ne rfl (n110.ne rfl (n108.ne rfl (n107.ne rfl (n105.ne rfl (n103.ne rfl (n102.ne rfl (n100.ne rfl (n99.ne rfl (n98.ne rfl (n96.ne rfl (n95.ne rfl (n94.ne rfl (n92.ne rfl (n91.ne rfl (n90.ne rfl (n89.ne rfl (n88.ne rfl (n78.ne rfl (n66.ne rfl (n64.ne rfl (n63.ne rfl (n53.ne rfl (n51.ne rfl (n48.ne rfl (n41.ne rfl n39.at_)))))))))))))))))))))))))))
 refine sv n122.ok rfl (wn _ rfl) rfl (o_mv e125) (fun an126 n126 => ?_)
 refine sv n126.ok rfl (wn _ rfl) rfl (o_neq (b := false) n126.at_ ev_const (by decide)) (fun an127 n127 => ?_)
 refine wpList_nil ?_
 refine th_n (hK124 _ _ ?_)
 refine wp_cond_false (n127.at_) ?_
 refine wp_skip ?_
 refine th_n (hK123 _ _ ?_)
 refine wp_seq_k (fun K128 hK128 => ?_)
 refine wp_seq_k (fun K129 hK129 => ?_)
 refine wp_region_lit ?_
 have e130 := n127.ne rfl (n126.ne rfl (n122.ne rfl (n120.ne rfl (n111.ne rfl (n110.ne rfl (n108.ne rfl (n107.ne rfl (n105.ne rfl (n103.ne rfl (n102.ne rfl (n100.ne rfl (n99.ne rfl (n98.ne rfl (n96.ne rfl (n95.ne rfl (n94.ne rfl (n92.ne rfl (n91.ne rfl (n90.ne rfl (n89.ne rfl (n88.ne rfl (n78.ne rfl (n66.ne rfl (n64.ne rfl (n63.ne rfl (n53.ne rfl (n51.ne rfl (n48.ne rfl (n41.ne rfl (n39.ne rfl (n34.ne rfl (n33.ne rfl (n30.ne rfl (n29.ne rfl (n28.ne rfl (n27.ne rfl (n26.ne rfl (n20.ne rfl (n19.ne rfl e18)))))))))))))))))))))))))))))))))))))))
 refine sv n127.ok rfl (wn _ rfl) rfl (o_mv e130) (fun an131 n131 => ?_)
 refine sc n131.ok rfl (wn _ rfl) rfl (o_f1 Tryz.func10 rfl rfl rfl n131.at_) (rfilter_ok (by decide) (hf.gr G114)) ?_
 rintro _ w133 ⟨rfl, g134⟩
 refine ⟨_, rfl, fun an132 n132 => ?_⟩
 have G135 := G114.trans g134
 have A138 := A117.trans g134
 refine sv n132.ok rfl (wn _ rfl) rfl (o_as n132.at_) (fun an141 n141 => ?_)
 refine wpList_nil ?_
 refine th_n (hK129 _ _ ?_)
 refine wp_seq_k (fun K142 hK142 => ?_)
 refine wp_region_lit ?_
 refine sv n141.ok rfl (wn _ rfl) rfl (o_mv n141.at_) (fun an143 n143 => ?_)
 refine sv n143.ok rfl (wn _ rfl) rfl (o_neq (b := false) n143.at_ ev_const (by decide)) (fun an144 n144 => ?_)
 refine wpList_nil ?_
 refine th_n (hK142 _ _ ?_)
 refine wp_cond_false (n144.at_) ?_
 refine wp_seq_k (fun K145 hK145 => ?_)
 refine wp_region_lit ?_
 have e146 := n144.ne rfl (n143.ne rfl (n141.ne rfl (n132.ne rfl (n131.ne rfl (n127.ne rfl (n126.ne rfl (n122.ne rfl (n120.ne rfl (n111.ne rfl (n110.ne rfl (n108.ne rfl (n107.ne rfl (n105.ne rfl (n103.ne rfl (n102.ne rfl (n100.ne rfl (n99.ne rfl (n98.ne rfl (n96.ne rfl (n95.ne rfl (n94.ne rfl (n92.ne rfl (n91.ne rfl (n90.ne rfl (n89.ne rfl (n88.ne rfl (n78.ne rfl (n66.ne rfl (n64.ne rfl (n63.ne rfl (n53.ne rfl (n51.ne rfl (n48.ne rfl (n41.ne rfl (n39.ne rfl (n34.ne rfl (n33.ne rfl n30.at_)))))))))))))))))))))))))))))))))))))
 refine sv n144.ok rfl (wn _ rfl) rfl (o_mv e146) (fun an147 n147 => ?_)
 refine sv n147.ok rfl (wn _ rfl) rfl (o_neq (b := false) n147.at_ ev_const (by decide)) (fun an148 n148 => ?_)
 refine sv n148.ok rfl (wn _ rfl) rfl (o_mv n148.at_) (fun an149 n149 => ?_)
 have e150 := n149.ne rfl (n148.ne rfl (n147.ne rfl (n144.ne rfl (n143.ne rfl (n141.ne rfl (n132.ne rfl (n131.ne rfl (n127.ne rfl (n126.ne rfl (n122.ne rfl (n120.ne rfl (n111.ne rfl (n110.ne rfl (n108.ne rfl (n107.ne rfl (n105.ne rfl (n103.ne rfl (n102.ne rfl (n100.ne rfl (n99.ne rfl (n98.ne rfl (n96.ne rfl (n95.ne rfl (n94.ne rfl (n92.ne rfl (n91.ne rfl (n90.ne rfl (n89.ne rfl (n88.ne rfl (n78.ne rfl (n66.ne rfl (n64.ne rfl (n63.ne rfl (n53.ne rfl (n51.ne rfl (n48.ne rfl (n41.ne rfl (n39.ne rfl (n34.ne rfl (n33.ne rfl (n30.ne rfl n29.at_)))))))))))))))))))))))))))))))))))))))))
 refine sv n149.ok rfl (wgT rfl (yl 2 false rfl n149.at_) rfl) rfl (o_mv e150) (fun an151 n151 => ?_)
 have e152 := n151.ne rfl (n149.ne rfl (n148.ne rfl (n147.ne rfl (n144.ne rfl (n143.ne rfl (n141.ne rfl (n132.ne rfl (n131.ne rfl (n127.ne rfl (n126.ne rfl (n122.ne rfl (n120.ne rfl (n111.ne rfl (n110.ne rfl (n108.ne rfl (n107.ne rfl (n105.ne rfl (n103.ne rfl (n102.ne rfl (n100.ne rfl (n99.ne rfl (n98.ne rfl (n96.ne rfl (n95.ne rfl (n94.ne rfl (n92.ne rfl (n91.ne rfl (n90.ne rfl (n89.ne rfl (n88.ne rfl (n78.ne rfl (n66.ne rfl (n64.ne rfl (n63.ne rfl (n53.ne rfl (n51.ne rfl (n48.ne rfl (n41.ne rfl (n39.ne rfl (n34.ne rfl (n33.ne rfl e32)))))))))))))))))))))))))))))))))))))))))
 refine sv n151.ok rfl (wgT rfl (yl 2 false rfl (n151.ne rfl n149.at_)) rfl) rfl (o_mv e152) (fun an153 n153 => ?_)
 refine sc n153.ok rfl (wgT rfl (yl 2 false rfl (n153.ne rfl (n151.ne rfl n149.at_))) rfl) rfl (o_f1 Tryz.func13 rfl rfl rfl n153.at_) (rmean_c X va vc (by omega) w133 (hva.gr G135) (hma.gr G135)) ?_
 rintro _ w155 ⟨maa1, mca1, rfl, hmca1, hmna1, hmra1, g156⟩
 refine ⟨_, rfl, fun an154 n154 => ?_⟩
 have G157 := G135.trans g156
 have A160 := A138.trans g156
 have A164 := Gr.refl w155
 have e165 := n154.ne rfl (n153.ne rfl (n151.ne rfl n149.at_))
 have e166 := n154.ne rfl (n153.ne rfl (n151.ne rfl (n149.ne rfl (n148.ne rfl (n147.ne rfl (n144.ne rfl (n143.ne rfl (n141.ne rfl (n132.ne rfl (n131.ne rfl e130))))))))))
 refine sv n154.ok rfl (wgT rfl (yl 2 false rfl e165) rfl) rfl (o_mv e166) (fun an167 n167 => ?_)
 refine sc n167.ok rfl (wgT rfl (yl 2 false rfl (n167.ne rfl e165)) rfl) rfl (o_f1 Tryz.func14 rfl rfl rfl n167.at_) (of_fs (by decide) (hf.gr G157)) ?_
 rintro _ w169 ⟨rfl, g170⟩
 refine ⟨_, rfl, fun an168 n168 => ?_⟩
 have G171 := G157.trans g170
 have A174 := A160.trans g170
 have A177 := A164.trans g170
 refine sc n168.ok rfl (wgT rfl (yl 2 false rfl (n168.ne rfl (n167.ne rfl e165))) rfl) rfl (o_f2 Tryz.func12 rfl rfl rfl (n168.ne rfl (n167.ne rfl n154.at_)) n168.at_) (by have h := rnarrowed_any (X.map PtX.d) (ptF U) maa1 mca1 (by rw [List.length_map]; omega) (d_okX X) w169 (hmra1.gr A177); rw [hN] at h; exact h) ?_
 rintro _ w179 ⟨ua, uc, rfl, hu, g180⟩
 have hur := RdA.own encDoc_ok hu rfl
 have hNl : N.length ≤ 30 := by rw [← hN]; refine Nat.le_trans (fewM_len _) ?_; rw [List.length_map, List.length_map]; exact hla
 refine ⟨_, rfl, fun an178 n178 => ?_⟩
 have G181 := G171.trans g180
 have A184 := A174.trans g180
 have A189 := Gr.refl w179
 have e190 := n178.ne rfl (n168.ne rfl (n167.ne rfl e165))
 have e191 := n178.ne rfl (n168.ne rfl (n167.ne rfl (n154.ne rfl (n153.ne rfl n151.at_))))
 refine sc n178.ok rfl (wgT rfl (yl 2 false rfl e190) rfl) rfl (o_f2 Tryz.func11 rfl rfl rfl e191 n178.at_) (rsay_m E N na ua nc uc _ hEN (by omega) w179 (hEr.gr A184) (hEo.gr A184) (hur.gr A189)) ?_
 rintro _ w193 ⟨rfl, g194⟩
 refine ⟨_, rfl, fun an192 n192 => ?_⟩
 have G195 := G181.trans g194
 refine sv n192.ok rfl (wgT rfl (yl 2 false rfl (n192.ne rfl e190)) rfl) rfl (o_not n192.at_ rfl) (fun an203 n203 => ?_)
 refine sv n203.ok rfl (wn _ rfl) rfl (o_pkF (n203.ne rfl (n192.ne rfl e190)) n203.at_) (fun an204 n204 => ?_)
 refine wpList_nil ?_
 refine th_n (hK145 _ _ ?_)
 refine wp_cond_false (n204.at_) ?_
 refine wp_skip ?_
 refine th_n (hK128 _ _ ?_)
 refine wp_seq_k (fun K205 hK205 => ?_)
 refine wp_seq_k (fun K206 hK206 => ?_)
 refine wp_region_lit ?_
 have e207 := n204.ne rfl (n203.ne rfl (n192.ne rfl (n178.ne rfl (n168.ne rfl (n167.ne rfl (n154.ne rfl (n153.ne rfl (n151.ne rfl (n149.ne rfl (n148.ne rfl (n147.ne rfl (n144.ne rfl (n143.ne rfl (n141.ne rfl (n132.ne rfl (n131.ne rfl (n127.ne rfl (n126.ne rfl (n122.ne rfl (n120.ne rfl (n111.ne rfl (n110.ne rfl (n108.ne rfl (n107.ne rfl (n105.ne rfl (n103.ne rfl (n102.ne rfl (n100.ne rfl (n99.ne rfl (n98.ne rfl (n96.ne rfl (n95.ne rfl (n94.ne rfl (n92.ne rfl (n91.ne rfl (n90.ne rfl (n89.ne rfl (n88.ne rfl (n78.ne rfl (n66.ne rfl (n64.ne rfl (n63.ne rfl (n53.ne rfl (n51.ne rfl (n48.ne rfl (n41.ne rfl (n39.ne rfl (n34.ne rfl (n33.ne rfl (n30.ne rfl (n29.ne rfl (n28.ne rfl (n27.ne rfl (n26.ne rfl (n20.ne rfl (n19.ne rfl (n17.ne rfl (n14.ne rfl (n13.ne rfl (n12.ne rfl (n11.ne rfl (n10.ne rfl (n6.ne rfl (n5.ne rfl (n4.ne rfl (n2.ne rfl e0_1))))))))))))))))))))))))))))))))))))))))))))))))))))))))))))))))))
 refine sv n204.ok rfl (wn _ rfl) rfl (o_mv e207) (fun an208 n208 => ?_)
 refine sc n208.ok rfl (wn _ rfl) rfl (o_f1 Tryz.func8 rfl rfl rfl n208.at_) (rparts_ok Y vb vd w193 hlb (hvb.gr G195) (hmb.gr G195)) ?_
 rintro _ w210 ⟨rfl, g211⟩
 refine ⟨_, rfl, fun an209 n209 => ?_⟩
 have G212 := G195.trans g211
 refine sv n209.ok rfl (wn _ rfl) rfl (o_as n209.at_) (fun an220 n220 => ?_)
 refine wpList_nil ?_
 refine th_n (hK206 _ _ ?_)
 refine wp_seq_k (fun K221 hK221 => ?_)
 refine wp_region_lit ?_
 refine sv n220.ok rfl (wn _ rfl) rfl (o_mv n220.at_) (fun an222 n222 => ?_)
 refine sv n222.ok rfl (wn _ rfl) rfl (o_neq (b := false) n222.at_ ev_const (by decide)) (fun an223 n223 => ?_)
 refine wpList_nil ?_
 refine th_n (hK221 _ _ ?_)
 refine wp_cond_false (n223.at_) ?_
 refine wp_skip ?_
 refine th_n (hK205 _ _ ?_)
 refine wp_seq_k (fun K224 hK224 => ?_)
 refine wp_region_lit ?_
 have e225 := n223.ne rfl (n222.ne rfl (n220.ne rfl (n209.ne rfl (n208.ne rfl (n204.ne rfl (n203.ne rfl (n192.ne rfl (n178.ne rfl (n168.ne rfl (n167.ne rfl (n154.ne rfl (n153.ne rfl e152))))))))))))
 refine sv n223.ok rfl (wn _ rfl) rfl (o_mv e225) (fun an226 n226 => ?_)
 refine sc n226.ok rfl (wn _ rfl) rfl (o_f1 Tryz.func13 rfl rfl rfl n226.at_) (rmean_c X va vc (by omega) w210 (hva.gr G212) (hma.gr G212)) ?_
 rintro _ w228 ⟨maa2, mca2, rfl, hmca2, hmna2, hmra2, g229⟩
 refine ⟨_, rfl, fun an227 n227 => ?_⟩
 have G230 := G212.trans g229
 have A239 := Gr.refl w228
 have e240 := n227.ne rfl (n226.ne rfl (n223.ne rfl (n222.ne rfl (n220.ne rfl (n209.ne rfl (n208.ne rfl e207))))))
 refine sv n227.ok rfl (wn _ rfl) rfl (o_mv e240) (fun an241 n241 => ?_)
 refine sc n241.ok rfl (wn _ rfl) rfl (o_f1 Tryz.func13 rfl rfl rfl n241.at_) (rmean_c Y vb vd (by omega) w228 (hvb.gr G230) (hmb.gr G230)) ?_
 rintro _ w243 ⟨mab3, mcb3, rfl, hmcb3, hmnb3, hmrb3, g244⟩
 refine ⟨_, rfl, fun an242 n242 => ?_⟩
 have G245 := G230.trans g244
 have A253 := A239.trans g244
 have A255 := Gr.refl w243
 obtain ⟨i256, i256a, i256b, i256c⟩ := info3_of (show (Tryz.prog.info? 38).map (fun i => (i.zero, i.size)) = some (some (.slice none 0 0), 1) by kernel_rfl)
 refine sals (cs := #[.slice maa2 ((X.map PtX.d).length) mca2, .slice mab3 ((Y.map PtX.d).length) mcb3]) n242.ok rfl (wn _ rfl) rfl (o_bs (vs := [(0, .slice maa2 ((X.map PtX.d).length) mca2), (1, .slice mab3 ((Y.map PtX.d).length) mcb3)]) (by simp [(n242.ne rfl (n241.ne rfl n227.at_)), n242.at_, ev_const]) Tryz.underlying106 i256a i256b (by rw [i256c]; rfl) (by rw [i256c]; rfl) (by rw [i256c]; kernel_rfl)) (fun an257 w259 b258 W260 n257 => ?_)
 have G271 := G245.trans W260.gr
 have A279 := A253.trans W260.gr
 have A280 := A255.trans W260.gr
 refine sc n257.ok rfl (wn _ rfl) rfl (o_f1 Tryz.func16 rfl rfl rfl n257.at_) (concatM2 (X.map PtX.d) (Y.map PtX.d) maa2 mab3 mca2 mcb3 b258 _ w259 (by rw [List.length_map]; exact hla) (by rw [List.length_map]; exact hlb) hmca2 hmcb3 hmna2 hmnb3 (hmra2.gr A279) (hmrb3.gr A280) W260.bk) ?_
 rintro _ w282 ⟨ca, cc, rfl, hcr, g283⟩
 refine ⟨_, rfl, fun an281 n281 => ?_⟩
 have G284 := G271.trans g283
 have A296 := Gr.refl w282
 refine sc n281.ok rfl (wn _ rfl) rfl (o_f1 Tryz.func15 rfl rfl rfl n281.at_) (by have h := rfew_any (X.map PtX.d ++ Y.map PtX.d) ca cc (by rw [List.length_append, List.length_map, List.length_map]; omega) (fun x hx => (List.mem_append.1 hx).elim (d_okX X x) (d_okX Y x)) w282 (hcr.gr A296); rw [hM] at h; exact h) ?_
 rintro _ w298 ⟨wa, wc, rfl, hw, g299⟩
 have hwr := RdA.own encDoc_ok hw rfl
 refine ⟨_, rfl, fun an297 n297 => ?_⟩
 have G300 := G284.trans g299
 refine sv n297.ok rfl (wn _ rfl) rfl (o_as n297.at_) (fun an314 n314 => ?_)
 refine wpList_nil ?_
 refine th_n (hK224 _ _ ?_)
 refine wp_seq_k (fun K315 hK315 => ?_)
 refine wp_seq_k (fun K316 hK316 => ?_)
 refine wp_region_lit ?_
 refine sv n314.ok rfl (wn _ rfl) rfl (o_mv n314.at_) (fun an317 n317 => ?_)
 refine sv n317.ok rfl (wn _ rfl) rfl (o_len n317.at_ Tryz.underlying38) (fun an318 n318 => ?_)
 refine sv n318.ok rfl (wn _ rfl) rfl (o_gtr n318.at_ ev_const (decide_eq_true (show ((M.length : Nat) : Int) > 30 by omega))) (fun an319 n319 => ?_)
 refine wpList_nil ?_
 refine th_n (hK316 _ _ ?_)
 refine wp_cond_true (n319.at_) ?_
 refine wp_seq_k (fun K320 hK320 => ?_)
 refine wp_region_lit ?_
 have e321 := n319.ne rfl (n318.ne rfl (n317.ne rfl (n314.ne rfl (n297.ne rfl (n281.ne rfl (n257.ne rfl (n242.ne rfl (n241.ne rfl (n227.ne rfl (n226.ne rfl (n223.ne rfl (n222.ne rfl (n220.ne rfl (n209.ne rfl (n208.ne rfl (n204.ne rfl (n203.ne rfl (n192.ne rfl (n178.ne rfl (n168.ne rfl (n167.ne rfl (n154.ne rfl (n153.ne rfl (n151.ne rfl (n149.ne rfl (n148.ne rfl (n147.ne rfl (n144.ne rfl (n143.ne rfl (n141.ne rfl (n132.ne rfl (n131.ne rfl (n127.ne rfl (n126.ne rfl (n122.ne rfl (n120.ne rfl (n111.ne rfl (n110.ne rfl (n108.ne rfl (n107.ne rfl (n105.ne rfl (n103.ne rfl (n102.ne rfl (n100.ne rfl (n99.ne rfl (n98.ne rfl (n96.ne rfl (n95.ne rfl (n94.ne rfl (n92.ne rfl (n91.ne rfl (n90.ne rfl (n89.ne rfl (n88.ne rfl (n78.ne rfl (n66.ne rfl (n64.ne rfl (n63.ne rfl (n53.ne rfl (n51.ne rfl (n48.ne rfl (n41.ne rfl (n39.ne rfl (n34.ne rfl (n33.ne rfl (n30.ne rfl (n29.ne rfl (n28.ne rfl (n27.ne rfl (n26.ne rfl (n20.ne rfl (n19.ne rfl (n17.ne rfl n14.at_)))))))))))))))))))))))))))))))))))))))))))))))))))))))))))))))))))))))))
 refine sv n319.ok rfl (wn _ rfl) rfl (o_mv e321) (fun an322 n322 => ?_)
 refine sv n322.ok rfl (wn _ rfl) rfl (o_eq (b := true) n322.at_ ev_const (by decide)) (fun an323 n323 => ?_)
 refine sv n323.ok rfl (wn _ rfl) rfl (o_mv n323.at_) (fun an324 n324 => ?_)
 have e325 := n324.ne rfl (n323.ne rfl (n322.ne rfl (n319.ne rfl (n318.ne rfl (n317.ne rfl (n314.ne rfl (n297.ne rfl (n281.ne rfl (n257.ne rfl (n242.ne rfl (n241.ne rfl (n227.ne rfl (n226.ne rfl (n223.ne rfl (n222.ne rfl (n220.ne rfl (n209.ne rfl (n208.ne rfl (n204.ne rfl (n203.ne rfl (n192.ne rfl (n178.ne rfl (n168.ne rfl (n167.ne rfl (n154.ne rfl (n153.ne rfl (n151.ne rfl (n149.ne rfl (n148.ne rfl (n147.ne rfl (n144.ne rfl (n143.ne rfl (n141.ne rfl (n132.ne rfl (n131.ne rfl (n127.ne rfl (n126.ne rfl (n122.ne rfl (n120.ne rfl (n111.ne rfl (n110.ne rfl (n108.ne rfl (n107.ne rfl (n105.ne rfl (n103.ne rfl (n102.ne rfl (n100.ne rfl (n99.ne rfl (n98.ne rfl (n96.ne rfl (n95.ne rfl (n94.ne rfl (n92.ne rfl (n91.ne rfl (n90.ne rfl (n89.ne rfl (n88.ne rfl (n78.ne rfl (n66.ne rfl (n64.ne rfl (n63.ne rfl (n53.ne rfl (n51.ne rfl (n48.ne rfl (n41.ne rfl (n39.ne rfl (n34.ne rfl (n33.ne rfl (n30.ne rfl (n29.ne rfl (n28.ne rfl (n27.ne rfl (n26.ne rfl (n20.ne rfl (n19.ne rfl (n17.ne rfl (n14.ne rfl n13.at_)))))))))))))))))))))))))))))))))))))))))))))))))))))))))))))))))))))))))))))
 refine sv n324.ok rfl (wgT rfl (yl 2 true rfl n324.at_) rfl) rfl (o_mv e325) (fun an326 n326 => ?_)
 refine sv n326.ok rfl (wgT rfl (yl 2 true rfl (n326.ne rfl n324.at_)) rfl) rfl (o_len n326.at_ Tryz.underlying22) (fun an327 n327 => ?_)
 refine sv n327.ok rfl (wgT rfl (yl 2 true rfl (n327.ne rfl (n326.ne rfl n324.at_))) rfl) rfl (o_eq (b := true) n327.at_ ev_const (by decide)) (fun an328 n328 => ?_)
 have e329 := n328.ne rfl (n327.ne rfl (n326.ne rfl n324.at_))
 refine sv n328.ok rfl (wn _ rfl) rfl (o_pkT e329 n328.at_) (fun an330 n330 => ?_)
 refine sv n330.ok rfl (wn _ rfl) rfl (o_as n330.at_) (fun an331 n331 => ?_)
 refine wpList_nil ?_
 refine th_n (hK320 _ _ ?_)
 refine wp_ret ?_
 refine th_r ?_
 exact ret1 n331.ok rfl (n331.at_) ⟨rfl, G300⟩
theorem partSets_walk (K L : List PtI) (va vb : Option Addr) (vc vd : Nat) (fv : Value) (l : List BoxI) (w : World) (hla : K.length ≤ 9223372036854775807) (hlb : L.length ≤ 9223372036854775807) (hca : K.length ≤ vc) (hcb : L.length ≤ vd) (hna : va = none → vc = 0) (hnb : vb = none → vd = 0) (hva : RdA encR 3 w va K) (hma : MeansI w K) (hvb : RdA encR 3 w vb L) (hmb : MeansI w L) (hf : RdF w fv l) :
    Calls Tryz.prog 3 #[.slice va K.length vc, .slice vb L.length vd, fv] w fun e w' => e = .returned (.bool true) ∧ Gr w w' := by
  by_cases hA : chkP K = 0
  · obtain ⟨X, e1, h1, h2, h3⟩ := parts_x hva hma hA
    rw [← e1]
    by_cases hB : chkP L = 0
    · obtain ⟨Y, e2, k1, k2, k3⟩ := parts_x hvb hmb hB
      rw [← e2]
      obtain ⟨M, hM⟩ : ∃ M, fewM (X.map PtX.d ++ Y.map PtX.d) = M := ⟨_, rfl⟩
      by_cases hF : chkF l = 0
      · obtain ⟨U, hU, -⟩ := fs_of hf (by simpa using hF)
        obtain ⟨N, hN⟩ : ∃ N, fewM ((X.map PtX.d).map (narM (ptF U))) = N := ⟨_, rfl⟩
        by_cases h30 : M.length ≤ 30
        · exact partSets_ok_ok_few X Y va vb vc vd fv U N hN M hM h30 (by omega) (by omega) hna hnb w h1 h2 h3 k1 k2 k3 hU
        · exact partSets_ok_ok_many X Y va vb vc vd fv U N hN M hM h30 (by omega) (by omega) hna hnb w h1 h2 h3 k1 k2 k3 hU
      · by_cases h30 : M.length ≤ 30
        · exact partSets_ok_bad_few X Y va vb vc vd fv l M hM h30 (by omega) (by omega) hna hnb w h1 h2 h3 k1 k2 k3 hf hF
        · exact partSets_ok_bad_many X Y va vb vc vd fv l M hM h30 (by omega) (by omega) hna hnb w h1 h2 h3 k1 k2 k3 hf hF
    · by_cases hF : chkF l = 0
      · obtain ⟨U, hU, -⟩ := fs_of hf (by simpa using hF)
        obtain ⟨N, hN⟩ : ∃ N, fewM ((X.map PtX.d).map (narM (ptF U))) = N := ⟨_, rfl⟩
        exact partSets_ok_ok_bad X L va vb vc vd fv U N hN w h1 h2 h3 hlb hvb hmb hB hU
      · exact partSets_ok_bad_bad X L va vb vc vd fv l w h1 h2 h3 hlb hvb hmb hB hf hF
  · exact partSets_bad_any_bad K L va vb vc vd fv w hla hva hma hA hlb hvb hmb
end Go.Proofs.YtbpkfkljeibjoaaGreat
