/- The walk of PartSays. -/
import Derived.Test.YthcehgmpajejeaaSy4
set_option linter.unusedVariables false
set_option linter.unusedSimpArgs false
namespace Go.Proofs.Ythcehgmpajejeaa
open Go.RowKit Rm Gx
set_option maxHeartbeats 8000000 in
set_option maxRecDepth 100000 in
theorem partSays_bad_any_any (K : List PtI) (L : List PtI) (va vb : Option Addr) (vc vd : Nat) (t n a c : Int) (w : World) (hla : K.length ≤ 9223372036854775807) (hva : RdA encR 3 w va K) (hma : MeansI w K) (hlb : L.length ≤ 9223372036854775807) (hvb : RdA encR 3 w vb L) (hmb : MeansI w L) (hA : ¬ chkP K = 0) :
    Calls Try.prog 3 #[.slice va K.length vc, .slice vb L.length vd, .agg #[.int .i64 (t), .int .i64 (n)], .agg #[.int .i64 (a), .int .i64 (c)]] w fun e w' => e = .returned (.bool true) ∧ Gr w w' := by
  refine enter (N := 110) Try.func3 rfl rfl rfl (fun a0 ok0 h0 => ?_)
  have e0_0 : a0.eval (.tmp 0) = .slice va K.length vc := h0 0 _ rfl
  have e0_1 : a0.eval (.tmp 1) = .slice vb L.length vd := h0 1 _ rfl
  have e0_2 : a0.eval (.tmp 2) = .agg #[.int .i64 (t), .int .i64 (n)] := h0 2 _ rfl
  have e0_3 : a0.eval (.tmp 3) = .agg #[.int .i64 (a), .int .i64 (c)] := h0 3 _ rfl
  clear h0
  have G0 := Gr.refl w
  refine wp_seq_k (fun K1 hK1 => ?_)
  refine wp_region_lit ?_
  refine sal (cs := #[.int .i64 (t), .int .i64 (n)]) ok0 rfl (wn _ rfl) rfl (o_box e0_2) (fun an2 w4 b3 W5 n2 => ?_)
  have l6 : w.heap.size ≤ b3 := by rw [W5.eq]; exact G0.size
  have G7 := G0.trans W5.gr
  refine sal (cs := #[.int .i64 (a), .int .i64 (c)]) n2.ok rfl (wn _ rfl) rfl (o_box (n2.ne rfl e0_3)) (fun an8 w10 b9 W11 n8 => ?_)
  have l12 : b3 < b9 := by rw [W11.eq]; exact W5.bk.lt
  have l13 : w.heap.size ≤ b9 := by rw [W11.eq]; exact G7.size
  have G14 := G7.trans W11.gr
  have B15 := W5.bk.gr W11.gr
  refine sv n8.ok rfl (wn _ rfl) rfl (o_as ev_const) (fun an16 n16 => ?_)
  refine wpList_nil ?_
  refine th_n (hK1 _ _ ?_)
  refine wp_seq_k (fun K17 hK17 => ?_)
  refine wp_region_lit ?_
  have e18 := n16.ne rfl (n8.ne rfl (n2.ne rfl e0_0))
  refine sv n16.ok rfl (wn _ rfl) rfl (o_mv e18) (fun an19 n19 => ?_)
  have e20 := n19.ne rfl (n16.ne rfl (n8.ne rfl n2.at_))
  refine sv n19.ok rfl (wn _ rfl) rfl (o_ldR e20 B15 Try.underlying24 rfl (by kernel_rfl)) (fun an21 n21 => ?_)
  have e22 := n21.ne rfl (n19.ne rfl (n16.ne rfl n8.at_))
  refine sv n21.ok rfl (wn _ rfl) rfl (o_ldR e22 W11.bk Try.underlying26 rfl (by kernel_rfl)) (fun an23 n23 => ?_)
  refine sc n23.ok rfl (wn _ rfl) rfl (o_f3 Try.func4 rfl rfl rfl (n23.ne rfl (n21.ne rfl n19.at_)) (n23.ne rfl n21.at_) n23.at_) (phas_bad K va vc t n a c hA w10 hla (hva.gr G14) (hma.gr G14)) ?_
  rintro _ w25 ⟨rfl, g26⟩
  refine ⟨_, rfl, fun an24 n24 => ?_⟩
  have G27 := G14.trans g26
  have B28 := B15.gr g26
  have B29 := W11.bk.gr g26
  refine sv n24.ok rfl (wn _ rfl) rfl (o_mv n24.at_) (fun an30 n30 => ?_)
  refine sv n30.ok rfl (wn _ rfl) rfl (o_ex n30.at_ rfl) (fun an31 n31 => ?_)
  refine sv n31.ok rfl (wn _ rfl) rfl (o_ex (n31.ne rfl n30.at_) rfl) (fun an32 n32 => ?_)
  refine sv n32.ok rfl (wn _ rfl) rfl (o_as (n32.ne rfl n31.at_)) (fun an33 n33 => ?_)
  refine sv n33.ok rfl (wn _ rfl) rfl (o_as (n33.ne rfl n32.at_)) (fun an34 n34 => ?_)
  refine wpList_nil ?_
  refine th_n (hK17 _ _ ?_)
  refine wp_seq_k (fun K35 hK35 => ?_)
  refine wp_region_lit ?_
  have e36 := n34.ne rfl (n33.ne rfl (n32.ne rfl (n31.ne rfl (n30.ne rfl (n24.ne rfl (n23.ne rfl (n21.ne rfl (n19.ne rfl e18))))))))
  refine sv n34.ok rfl (wn _ rfl) rfl (o_mv e36) (fun an37 n37 => ?_)
  have e38 := n37.ne rfl (n34.ne rfl (n33.ne rfl (n32.ne rfl (n31.ne rfl (n30.ne rfl (n24.ne rfl (n23.ne rfl (n21.ne rfl (n19.ne rfl (n16.ne rfl (n8.ne rfl (n2.ne rfl e0_1))))))))))))
  refine sv n37.ok rfl (wn _ rfl) rfl (o_mv e38) (fun an39 n39 => ?_)
  refine sc n39.ok rfl (wn _ rfl) rfl (o_f2 Try.func5 rfl rfl rfl (n39.ne rfl n37.at_) n39.at_) (by have h := pwithin_bad K L va vb vc vd hla hlb (by rw [chkP2_l hA]; exact hA) w25 (hva.gr G27) (hvb.gr G27) (hma.gr G27) (hmb.gr G27); rw [chkP2_l hA] at h; exact h) ?_
  rintro _ w41 ⟨rfl, g42⟩
  refine ⟨_, rfl, fun an40 n40 => ?_⟩
  have G43 := G27.trans g42
  have B44 := B28.gr g42
  have B45 := B29.gr g42
  refine sv n40.ok rfl (wn _ rfl) rfl (o_mv n40.at_) (fun an46 n46 => ?_)
  refine sv n46.ok rfl (wn _ rfl) rfl (o_ex n46.at_ rfl) (fun an47 n47 => ?_)
  refine sv n47.ok rfl (wn _ rfl) rfl (o_ex (n47.ne rfl n46.at_) rfl) (fun an48 n48 => ?_)
  refine sv n48.ok rfl (wn _ rfl) rfl (o_as (n48.ne rfl n47.at_)) (fun an49 n49 => ?_)
  refine sv n49.ok rfl (wn _ rfl) rfl (o_as (n49.ne rfl n48.at_)) (fun an50 n50 => ?_)
  refine wpList_nil ?_
  refine th_n (hK35 _ _ ?_)
  refine wp_seq_k (fun K51 hK51 => ?_)
  refine wp_region_lit ?_
  have e52 := n50.ne rfl (n49.ne rfl (n48.ne rfl (n47.ne rfl (n46.ne rfl (n40.ne rfl (n39.ne rfl (n37.ne rfl e36)))))))
  refine sv n50.ok rfl (wn _ rfl) rfl (o_mv e52) (fun an53 n53 => ?_)
  refine sc n53.ok rfl (wn _ rfl) rfl (o_f1 Try.func6 rfl rfl rfl n53.at_) (rparts_any K va vc w41 hla (hva.gr G43) (hma.gr G43)) ?_
  rintro _ w55 ⟨rfl, g56⟩
  refine ⟨_, rfl, fun an54 n54 => ?_⟩
  have G57 := G43.trans g56
  have B58 := B44.gr g56
  have B59 := B45.gr g56
  refine sv n54.ok rfl (wn _ rfl) rfl (o_mv (n54.ne rfl (n53.ne rfl e52))) (fun an60 n60 => ?_)
  refine sc n60.ok rfl (wn _ rfl) rfl (o_f1 Try.func6 rfl rfl rfl n60.at_) (rparts_any K va vc w55 hla (hva.gr G57) (hma.gr G57)) ?_
  rintro _ w62 ⟨rfl, g63⟩
  refine ⟨_, rfl, fun an61 n61 => ?_⟩
  have G64 := G57.trans g63
  have B65 := B58.gr g63
  have B66 := B59.gr g63
  refine sv n61.ok rfl (wn _ rfl) rfl (o_as (n61.ne rfl (n60.ne rfl n54.at_))) (fun an67 n67 => ?_)
  refine sv n67.ok rfl (wn _ rfl) rfl (o_as (n67.ne rfl n61.at_)) (fun an68 n68 => ?_)
  refine wpList_nil ?_
  refine th_n (hK51 _ _ ?_)
  refine wp_seq_k (fun K69 hK69 => ?_)
  refine wp_seq_k (fun K70 hK70 => ?_)
  refine wp_region_lit ?_
  have e71 := n68.ne rfl (n67.ne rfl (n61.ne rfl (n60.ne rfl (n54.ne rfl (n53.ne rfl e52)))))
  refine sv n68.ok rfl (wn _ rfl) rfl (o_mv e71) (fun an72 n72 => ?_)
  refine sc n72.ok rfl (wn _ rfl) rfl (o_f1 Try.func7 rfl rfl rfl n72.at_) (pcheck_any K va vc w62 hla (hva.gr G64) (hma.gr G64)) ?_
  rintro _ w74 ⟨rfl, g75⟩
  refine ⟨_, rfl, fun an73 n73 => ?_⟩
  have G76 := G64.trans g75
  have B77 := B65.gr g75
  have B78 := B66.gr g75
  have e79 := n73.ne rfl (n72.ne rfl (n68.ne rfl n67.at_))
  refine sv n73.ok rfl (wn _ rfl) rfl (o_mv e79) (fun an80 n80 => ?_)
  refine sv n80.ok rfl (wn _ rfl) rfl (o_neq (b := false) (n80.ne rfl n73.at_) n80.at_ (by simp [show (chkP K) = (chkP K) from rfl])) (fun an81 n81 => ?_)
  refine sv n81.ok rfl (wn _ rfl) rfl (o_mv n81.at_) (fun an82 n82 => ?_)
  obtain ⟨i83, i83a, i83b, i83c⟩ := info3_of (show (Try.prog.info? 3).map (fun i => (i.zero, i.size)) = some (some (.int .i64 0), 1) by kernel_rfl)
  refine sals (cs := #[.int .i64 0]) n82.ok rfl (wgT rfl (yl 4 false rfl n82.at_) rfl) rfl (o_bs (vs := [(0, .int .i64 0)]) (by simp [ev_const]) Try.underlying32 i83a i83b (by rw [i83c]; rfl) (by rw [i83c]; rfl) (by rw [i83c]; kernel_rfl)) (fun an84 w86 b85 W87 n84 => ?_)
  have l88 : b3 < b85 := by rw [W87.eq]; exact B77.lt
  have l89 : b9 < b85 := by rw [W87.eq]; exact B78.lt
  have l90 : w.heap.size ≤ b85 := by rw [W87.eq]; exact G76.size
  have G91 := G76.trans W87.gr
  have B92 := B77.gr W87.gr
  have B93 := B78.gr W87.gr
  refine sv n84.ok rfl (wgT rfl (yl 4 false rfl (n84.ne rfl n82.at_)) rfl) rfl (o_bd (cells := #[.slice (some ⟨b85, 0, none⟩) 1 1, .slice none 0 0]) (vs := [(0, .slice (some ⟨b85, 0, none⟩) 1 1)]) (by simp [n84.at_, ev_const]) (by kernel_rfl)) (fun an94 n94 => ?_)
  refine sv n94.ok rfl (wgT rfl (yl 4 false rfl (n94.ne rfl (n84.ne rfl n82.at_))) rfl) rfl (o_bd (cells := #[.slice none 0 0, .slice (some ⟨b85, 0, none⟩) 1 1, .slice none 0 0]) (vs := [(1, .agg #[.slice (some ⟨b85, 0, none⟩) 1 1, .slice none 0 0])]) (by simp [n94.at_, ev_const]) (by kernel_rfl)) (fun an95 n95 => ?_)
  have e96 := n95.ne rfl (n94.ne rfl (n84.ne rfl n82.at_))
  obtain ⟨i97, i97a, i97b, i97c⟩ := info3_of (show (Try.prog.info? 38).map (fun i => (i.zero, i.size)) = some (some (.agg #[.slice none 0 0, .slice none 0 0, .slice none 0 0]), 3) by kernel_rfl)
  refine sals (cs := #[.slice none 0 0, .slice (some ⟨b85, 0, none⟩) 1 1, .slice none 0 0]) n95.ok rfl (wgT rfl (yl 4 false rfl e96) rfl) rfl (o_bs (vs := [(0, .agg #[.slice none 0 0, .slice (some ⟨b85, 0, none⟩) 1 1, .slice none 0 0])]) (by simp [n95.at_, ev_const]) Try.underlying22 i97a i97b (by rw [i97c]; rfl) (by rw [i97c]; rfl) (by rw [i97c]; kernel_rfl)) (fun an98 w100 b99 W101 n98 => ?_)
  have l102 : b3 < b99 := by rw [W101.eq]; exact B92.lt
  have l103 : b9 < b99 := by rw [W101.eq]; exact B93.lt
  have l104 : b85 < b99 := by rw [W101.eq]; exact W87.bk.lt
  have l105 : w.heap.size ≤ b99 := by rw [W101.eq]; exact G91.size
  have G106 := G91.trans W101.gr
  have B107 := B92.gr W101.gr
  have B108 := B93.gr W101.gr
  have B109 := W87.bk.gr W101.gr
  refine sc n98.ok rfl (wgT rfl (yl 4 false rfl (n98.ne rfl e96)) rfl) rfl (o_f1 Try.func7 rfl rfl rfl n98.at_) (pcheck_lit _ _ _ _ w100 W101.bk B109) ?_
  rintro _ w111 ⟨rfl, g112⟩
  refine ⟨_, rfl, fun an110 n110 => ?_⟩
  have G113 := G106.trans g112
  have B114 := B107.gr g112
  have B115 := B108.gr g112
  have B116 := B109.gr g112
  have B117 := W101.bk.gr g112
  refine sv n110.ok rfl (wgT rfl (yl 4 false rfl (n110.ne rfl (n98.ne rfl e96))) rfl) rfl (o_neq (b := false) n110.at_ ev_const (by decide)) (fun an118 n118 => ?_)
  have e119 := n118.ne rfl (n110.ne rfl (n98.ne rfl e96))
  refine sv n118.ok rfl (wn _ rfl) rfl (o_pkF e119 n118.at_) (fun an120 n120 => ?_)
  refine wpList_nil ?_
  refine th_n (hK70 _ _ ?_)
  refine wp_cond_false (n120.at_) ?_
  refine wp_skip ?_
  refine th_n (hK69 _ _ ?_)
  refine wp_seq_k (fun K121 hK121 => ?_)
  refine wp_seq_k (fun K122 hK122 => ?_)
  refine wp_region_lit ?_
  have e123 := n120.ne rfl (n118.ne rfl (n110.ne rfl (n98.ne rfl (n95.ne rfl (n94.ne rfl (n84.ne rfl (n82.ne rfl (n81.ne rfl (n80.ne rfl (n73.ne rfl (n72.ne rfl n68.at_)))))))))))
  refine sv n120.ok rfl (wn _ rfl) rfl (o_mv e123) (fun an124 n124 => ?_)
  refine sv n124.ok rfl (wn _ rfl) rfl (o_eq n124.at_ ev_const (decide_eq_false hA)) (fun an125 n125 => ?_)
  refine wpList_nil ?_
  refine th_n (hK122 _ _ ?_)
  refine wp_cond_false (n125.at_) ?_
  refine wp_skip ?_
  refine th_n (hK121 _ _ ?_)
  refine wp_seq_k (fun K126 hK126 => ?_)
  refine wp_seq_k (fun K127 hK127 => ?_)
  refine wp_region_lit ?_
  have e128 := n125.ne rfl (n124.ne rfl (n120.ne rfl (n118.ne rfl (n110.ne rfl (n98.ne rfl (n95.ne rfl (n94.ne rfl (n84.ne rfl (n82.ne rfl (n81.ne rfl (n80.ne rfl e79)))))))))))
  refine sv n125.ok rfl (wn _ rfl) rfl (o_mv e128) (fun an129 n129 => ?_)
  refine sv n129.ok rfl (wn _ rfl) rfl (o_neq (b := true) n129.at_ ev_const (by simp [show ¬ (chkP K) = 0 from hA])) (fun an130 n130 => ?_)
  refine wpList_nil ?_
  refine th_n (hK127 _ _ ?_)
  refine wp_cond_true (n130.at_) ?_
  refine wp_seq_k (fun K131 hK131 => ?_)
  refine wp_region_lit ?_
  have e132 := n130.ne rfl (n129.ne rfl (n125.ne rfl (n124.ne rfl (n120.ne rfl (n118.ne rfl (n110.ne rfl (n98.ne rfl (n95.ne rfl (n94.ne rfl (n84.ne rfl (n82.ne rfl (n81.ne rfl (n80.ne rfl (n73.ne rfl (n72.ne rfl (n68.ne rfl (n67.ne rfl (n61.ne rfl (n60.ne rfl (n54.ne rfl (n53.ne rfl (n50.ne rfl (n49.ne rfl (n48.ne rfl (n47.ne rfl (n46.ne rfl (n40.ne rfl (n39.ne rfl (n37.ne rfl n34.at_)))))))))))))))))))))))))))))
  refine sv n130.ok rfl (wn _ rfl) rfl (o_mv e132) (fun an133 n133 => ?_)
  have e134 := n133.ne rfl (n130.ne rfl (n129.ne rfl e128))
  refine sv n133.ok rfl (wn _ rfl) rfl (o_mv e134) (fun an135 n135 => ?_)
  refine sv n135.ok rfl (wn _ rfl) rfl (o_eq (n135.ne rfl n133.at_) n135.at_ (decide_eq_true rfl)) (fun an136 n136 => ?_)
  refine sv n136.ok rfl (wn _ rfl) rfl (o_mv n136.at_) (fun an137 n137 => ?_)
  have e138 := n137.ne rfl (n136.ne rfl (n135.ne rfl (n133.ne rfl (n130.ne rfl (n129.ne rfl (n125.ne rfl (n124.ne rfl (n120.ne rfl (n118.ne rfl (n110.ne rfl (n98.ne rfl (n95.ne rfl (n94.ne rfl (n84.ne rfl (n82.ne rfl (n81.ne rfl (n80.ne rfl (n73.ne rfl (n72.ne rfl (n68.ne rfl (n67.ne rfl (n61.ne rfl (n60.ne rfl (n54.ne rfl (n53.ne rfl n50.at_)))))))))))))))))))))))))
  refine sv n137.ok rfl (wgT rfl (yl 3 true rfl n137.at_) rfl) rfl (o_mv e138) (fun an139 n139 => ?_)
  have e140 := n139.ne rfl (n137.ne rfl (n136.ne rfl (n135.ne rfl e134)))
  refine sv n139.ok rfl (wgT rfl (yl 3 true rfl (n139.ne rfl n137.at_)) rfl) rfl (o_mv e140) (fun an141 n141 => ?_)
  refine sv n141.ok rfl (wgT rfl (yl 3 true rfl (n141.ne rfl (n139.ne rfl n137.at_))) rfl) rfl (o_eq (n141.ne rfl n139.at_) n141.at_ (decide_eq_true rfl)) (fun an142 n142 => ?_)
  have e143 := n142.ne rfl (n141.ne rfl (n139.ne rfl n137.at_))
  refine sv n142.ok rfl (wn _ rfl) rfl (o_pkT e143 n142.at_) (fun an144 n144 => ?_)
  refine sv n144.ok rfl (wn _ rfl) rfl (o_mv n144.at_) (fun an145 n145 => ?_)
  have e146 := n145.ne rfl (n144.ne rfl (n142.ne rfl (n141.ne rfl (n139.ne rfl (n137.ne rfl (n136.ne rfl (n135.ne rfl (n133.ne rfl (n130.ne rfl (n129.ne rfl (n125.ne rfl (n124.ne rfl (n120.ne rfl (n118.ne rfl (n110.ne rfl (n98.ne rfl (n95.ne rfl (n94.ne rfl (n84.ne rfl (n82.ne rfl (n81.ne rfl (n80.ne rfl (n73.ne rfl (n72.ne rfl (n68.ne rfl (n67.ne rfl (n61.ne rfl (n60.ne rfl (n54.ne rfl (n53.ne rfl (n50.ne rfl (n49.ne rfl (n48.ne rfl (n47.ne rfl (n46.ne rfl (n40.ne rfl (n39.ne rfl (n37.ne rfl (n34.ne rfl n33.at_)))))))))))))))))))))))))))))))))))))))
  refine sv n145.ok rfl (wgT rfl (yl 8 true rfl n145.at_) rfl) rfl (o_mv e146) (fun an147 n147 => ?_)
  refine sv n147.ok rfl (wgT rfl (yl 8 true rfl (n147.ne rfl n145.at_)) rfl) rfl (o_not n147.at_ rfl) (fun an148 n148 => ?_)
  refine sv n148.ok rfl (wn _ rfl) rfl (o_pkT (n148.ne rfl (n147.ne rfl n145.at_)) n148.at_) (fun an149 n149 => ?_)
  refine sv n149.ok rfl (wn _ rfl) rfl (o_mv n149.at_) (fun an150 n150 => ?_)
  have e151 := n150.ne rfl (n149.ne rfl (n148.ne rfl (n147.ne rfl (n145.ne rfl (n144.ne rfl (n142.ne rfl (n141.ne rfl (n139.ne rfl (n137.ne rfl (n136.ne rfl (n135.ne rfl (n133.ne rfl (n130.ne rfl (n129.ne rfl (n125.ne rfl (n124.ne rfl (n120.ne rfl (n118.ne rfl (n110.ne rfl (n98.ne rfl (n95.ne rfl (n94.ne rfl (n84.ne rfl (n82.ne rfl (n81.ne rfl (n80.ne rfl (n73.ne rfl (n72.ne rfl (n68.ne rfl (n67.ne rfl (n61.ne rfl (n60.ne rfl (n54.ne rfl (n53.ne rfl (n50.ne rfl n49.at_)))))))))))))))))))))))))))))))))))
  refine sv n150.ok rfl (wgT rfl (yl 12 true rfl n150.at_) rfl) rfl (o_mv e151) (fun an152 n152 => ?_)
  refine sv n152.ok rfl (wgT rfl (yl 12 true rfl (n152.ne rfl n150.at_)) rfl) rfl (o_not n152.at_ rfl) (fun an153 n153 => ?_)
  refine sv n153.ok rfl (wn _ rfl) rfl (o_pkT (n153.ne rfl (n152.ne rfl n150.at_)) n153.at_) (fun an154 n154 => ?_)
  refine sv n154.ok rfl (wn _ rfl) rfl (o_as n154.at_) (fun an155 n155 => ?_)
  refine wpList_nil ?_
  refine th_n (hK131 _ _ ?_)
  refine wp_ret ?_
  refine th_r ?_
  exact ret1 n155.ok rfl (n155.at_) ⟨rfl, G113⟩
set_option maxHeartbeats 8000000 in
set_option maxRecDepth 100000 in
theorem partSays_ok_bad_o1 (X : List PtX) (L : List PtI) (va vb : Option Addr) (vc vd : Nat) (t n a c : Int) (hp : (pointB t n && dotB (a, c)) = false) (hP : pointB t n = false) (w : World) (hla : X.length ≤ 30) (hva : RdA encP 3 w va X) (hma : MeansP w X) (hlb : L.length ≤ 9223372036854775807) (hvb : RdA encR 3 w vb L) (hmb : MeansI w L) (hB : ¬ chkP L = 0) :
    Calls Try.prog 3 #[.slice va X.length vc, .slice vb L.length vd, .agg #[.int .i64 (t), .int .i64 (n)], .agg #[.int .i64 (a), .int .i64 (c)]] w fun e w' => e = .returned (.bool true) ∧ Gr w w' := by
  refine enter (N := 110) Try.func3 rfl rfl rfl (fun a0 ok0 h0 => ?_)
  have e0_0 : a0.eval (.tmp 0) = .slice va X.length vc := h0 0 _ rfl
  have e0_1 : a0.eval (.tmp 1) = .slice vb L.length vd := h0 1 _ rfl
  have e0_2 : a0.eval (.tmp 2) = .agg #[.int .i64 (t), .int .i64 (n)] := h0 2 _ rfl
  have e0_3 : a0.eval (.tmp 3) = .agg #[.int .i64 (a), .int .i64 (c)] := h0 3 _ rfl
  clear h0
  have G0 := Gr.refl w
  refine wp_seq_k (fun K1 hK1 => ?_)
  refine wp_region_lit ?_
  refine sal (cs := #[.int .i64 (t), .int .i64 (n)]) ok0 rfl (wn _ rfl) rfl (o_box e0_2) (fun an2 w4 b3 W5 n2 => ?_)
  have l6 : w.heap.size ≤ b3 := by rw [W5.eq]; exact G0.size
  have G7 := G0.trans W5.gr
  refine sal (cs := #[.int .i64 (a), .int .i64 (c)]) n2.ok rfl (wn _ rfl) rfl (o_box (n2.ne rfl e0_3)) (fun an8 w10 b9 W11 n8 => ?_)
  have l12 : b3 < b9 := by rw [W11.eq]; exact W5.bk.lt
  have l13 : w.heap.size ≤ b9 := by rw [W11.eq]; exact G7.size
  have G14 := G7.trans W11.gr
  have B15 := W5.bk.gr W11.gr
  refine sv n8.ok rfl (wn _ rfl) rfl (o_as ev_const) (fun an16 n16 => ?_)
  refine wpList_nil ?_
  refine th_n (hK1 _ _ ?_)
  refine wp_seq_k (fun K17 hK17 => ?_)
  refine wp_region_lit ?_
  have e18 := n16.ne rfl (n8.ne rfl (n2.ne rfl e0_0))
  refine sv n16.ok rfl (wn _ rfl) rfl (o_mv e18) (fun an19 n19 => ?_)
  have e20 := n19.ne rfl (n16.ne rfl (n8.ne rfl n2.at_))
  refine sv n19.ok rfl (wn _ rfl) rfl (o_ldR e20 B15 Try.underlying24 rfl (by kernel_rfl)) (fun an21 n21 => ?_)
  have e22 := n21.ne rfl (n19.ne rfl (n16.ne rfl n8.at_))
  refine sv n21.ok rfl (wn _ rfl) rfl (o_ldR e22 W11.bk Try.underlying26 rfl (by kernel_rfl)) (fun an23 n23 => ?_)
  refine sc n23.ok rfl (wn _ rfl) rfl (o_f3 Try.func4 rfl rfl rfl (n23.ne rfl (n21.ne rfl n19.at_)) (n23.ne rfl n21.at_) n23.at_) (by have h := phas X va vc t n a c w10 hla (hva.gr G14) (hma.gr G14); rw [(hasV_o (K := X) hp).1, (hasV_o (K := X) hp).2] at h; exact h) ?_
  rintro _ w25 ⟨rfl, g26⟩
  refine ⟨_, rfl, fun an24 n24 => ?_⟩
  have G27 := G14.trans g26
  have B28 := B15.gr g26
  have B29 := W11.bk.gr g26
  refine sv n24.ok rfl (wn _ rfl) rfl (o_mv n24.at_) (fun an30 n30 => ?_)
  refine sv n30.ok rfl (wn _ rfl) rfl (o_ex n30.at_ rfl) (fun an31 n31 => ?_)
  refine sv n31.ok rfl (wn _ rfl) rfl (o_ex (n31.ne rfl n30.at_) rfl) (fun an32 n32 => ?_)
  refine sv n32.ok rfl (wn _ rfl) rfl (o_as (n32.ne rfl n31.at_)) (fun an33 n33 => ?_)
  refine sv n33.ok rfl (wn _ rfl) rfl (o_as (n33.ne rfl n32.at_)) (fun an34 n34 => ?_)
  refine wpList_nil ?_
  refine th_n (hK17 _ _ ?_)
  refine wp_seq_k (fun K35 hK35 => ?_)
  refine wp_region_lit ?_
  have e36 := n34.ne rfl (n33.ne rfl (n32.ne rfl (n31.ne rfl (n30.ne rfl (n24.ne rfl (n23.ne rfl (n21.ne rfl (n19.ne rfl e18))))))))
  refine sv n34.ok rfl (wn _ rfl) rfl (o_mv e36) (fun an37 n37 => ?_)
  have e38 := n37.ne rfl (n34.ne rfl (n33.ne rfl (n32.ne rfl (n31.ne rfl (n30.ne rfl (n24.ne rfl (n23.ne rfl (n21.ne rfl (n19.ne rfl (n16.ne rfl (n8.ne rfl (n2.ne rfl e0_1))))))))))))
  refine sv n37.ok rfl (wn _ rfl) rfl (o_mv e38) (fun an39 n39 => ?_)
  refine sc n39.ok rfl (wn _ rfl) rfl (o_f2 Try.func5 rfl rfl rfl (n39.ne rfl n37.at_) n39.at_) (pwithin_half X L va vb vc vd w25 hla hlb hB (hva.gr G27) (hvb.gr G27) (hma.gr G27) (hmb.gr G27)) ?_
  rintro _ w41 ⟨rfl, g42⟩
  refine ⟨_, rfl, fun an40 n40 => ?_⟩
  have G43 := G27.trans g42
  have B44 := B28.gr g42
  have B45 := B29.gr g42
  refine sv n40.ok rfl (wn _ rfl) rfl (o_mv n40.at_) (fun an46 n46 => ?_)
  refine sv n46.ok rfl (wn _ rfl) rfl (o_ex n46.at_ rfl) (fun an47 n47 => ?_)
  refine sv n47.ok rfl (wn _ rfl) rfl (o_ex (n47.ne rfl n46.at_) rfl) (fun an48 n48 => ?_)
  refine sv n48.ok rfl (wn _ rfl) rfl (o_as (n48.ne rfl n47.at_)) (fun an49 n49 => ?_)
  refine sv n49.ok rfl (wn _ rfl) rfl (o_as (n49.ne rfl n48.at_)) (fun an50 n50 => ?_)
  refine wpList_nil ?_
  refine th_n (hK35 _ _ ?_)
  refine wp_seq_k (fun K51 hK51 => ?_)
  refine wp_region_lit ?_
  have e52 := n50.ne rfl (n49.ne rfl (n48.ne rfl (n47.ne rfl (n46.ne rfl (n40.ne rfl (n39.ne rfl (n37.ne rfl e36)))))))
  refine sv n50.ok rfl (wn _ rfl) rfl (o_mv e52) (fun an53 n53 => ?_)
  refine sc n53.ok rfl (wn _ rfl) rfl (o_f1 Try.func6 rfl rfl rfl n53.at_) (rparts_ok X va vc w41 hla (hva.gr G43) (hma.gr G43)) ?_
  rintro _ w55 ⟨rfl, g56⟩
  refine ⟨_, rfl, fun an54 n54 => ?_⟩
  have G57 := G43.trans g56
  have B58 := B44.gr g56
  have B59 := B45.gr g56
  refine sv n54.ok rfl (wn _ rfl) rfl (o_mv (n54.ne rfl (n53.ne rfl e52))) (fun an60 n60 => ?_)
  refine sc n60.ok rfl (wn _ rfl) rfl (o_f1 Try.func6 rfl rfl rfl n60.at_) (rparts_ok X va vc w55 hla (hva.gr G57) (hma.gr G57)) ?_
  rintro _ w62 ⟨rfl, g63⟩
  refine ⟨_, rfl, fun an61 n61 => ?_⟩
  have G64 := G57.trans g63
  have B65 := B58.gr g63
  have B66 := B59.gr g63
  refine sv n61.ok rfl (wn _ rfl) rfl (o_as (n61.ne rfl (n60.ne rfl n54.at_))) (fun an67 n67 => ?_)
  refine sv n67.ok rfl (wn _ rfl) rfl (o_as (n67.ne rfl n61.at_)) (fun an68 n68 => ?_)
  refine wpList_nil ?_
  refine th_n (hK51 _ _ ?_)
  refine wp_seq_k (fun K69 hK69 => ?_)
  refine wp_seq_k (fun K70 hK70 => ?_)
  refine wp_region_lit ?_
  have e71 := n68.ne rfl (n67.ne rfl (n61.ne rfl (n60.ne rfl (n54.ne rfl (n53.ne rfl e52)))))
  refine sv n68.ok rfl (wn _ rfl) rfl (o_mv e71) (fun an72 n72 => ?_)
  refine sc n72.ok rfl (wn _ rfl) rfl (o_f1 Try.func7 rfl rfl rfl n72.at_) (pcheck_ok X va vc w62 hla (hva.gr G64) (hma.gr G64)) ?_
  rintro _ w74 ⟨rfl, g75⟩
  refine ⟨_, rfl, fun an73 n73 => ?_⟩
  have G76 := G64.trans g75
  have B77 := B65.gr g75
  have B78 := B66.gr g75
  have e79 := n73.ne rfl (n72.ne rfl (n68.ne rfl n67.at_))
  refine sv n73.ok rfl (wn _ rfl) rfl (o_mv e79) (fun an80 n80 => ?_)
  refine sv n80.ok rfl (wn _ rfl) rfl (o_neq (b := false) (n80.ne rfl n73.at_) n80.at_ (by decide)) (fun an81 n81 => ?_)
  refine sv n81.ok rfl (wn _ rfl) rfl (o_mv n81.at_) (fun an82 n82 => ?_)
  obtain ⟨i83, i83a, i83b, i83c⟩ := info3_of (show (Try.prog.info? 3).map (fun i => (i.zero, i.size)) = some (some (.int .i64 0), 1) by kernel_rfl)
  refine sals (cs := #[.int .i64 0]) n82.ok rfl (wgT rfl (yl 4 false rfl n82.at_) rfl) rfl (o_bs (vs := [(0, .int .i64 0)]) (by simp [ev_const]) Try.underlying32 i83a i83b (by rw [i83c]; rfl) (by rw [i83c]; rfl) (by rw [i83c]; kernel_rfl)) (fun an84 w86 b85 W87 n84 => ?_)
  have l88 : b3 < b85 := by rw [W87.eq]; exact B77.lt
  have l89 : b9 < b85 := by rw [W87.eq]; exact B78.lt
  have l90 : w.heap.size ≤ b85 := by rw [W87.eq]; exact G76.size
  have G91 := G76.trans W87.gr
  have B92 := B77.gr W87.gr
  have B93 := B78.gr W87.gr
  refine sv n84.ok rfl (wgT rfl (yl 4 false rfl (n84.ne rfl n82.at_)) rfl) rfl (o_bd (cells := #[.slice (some ⟨b85, 0, none⟩) 1 1, .slice none 0 0]) (vs := [(0, .slice (some ⟨b85, 0, none⟩) 1 1)]) (by simp [n84.at_, ev_const]) (by kernel_rfl)) (fun an94 n94 => ?_)
  refine sv n94.ok rfl (wgT rfl (yl 4 false rfl (n94.ne rfl (n84.ne rfl n82.at_))) rfl) rfl (o_bd (cells := #[.slice none 0 0, .slice (some ⟨b85, 0, none⟩) 1 1, .slice none 0 0]) (vs := [(1, .agg #[.slice (some ⟨b85, 0, none⟩) 1 1, .slice none 0 0])]) (by simp [n94.at_, ev_const]) (by kernel_rfl)) (fun an95 n95 => ?_)
  have e96 := n95.ne rfl (n94.ne rfl (n84.ne rfl n82.at_))
  obtain ⟨i97, i97a, i97b, i97c⟩ := info3_of (show (Try.prog.info? 38).map (fun i => (i.zero, i.size)) = some (some (.agg #[.slice none 0 0, .slice none 0 0, .slice none 0 0]), 3) by kernel_rfl)
  refine sals (cs := #[.slice none 0 0, .slice (some ⟨b85, 0, none⟩) 1 1, .slice none 0 0]) n95.ok rfl (wgT rfl (yl 4 false rfl e96) rfl) rfl (o_bs (vs := [(0, .agg #[.slice none 0 0, .slice (some ⟨b85, 0, none⟩) 1 1, .slice none 0 0])]) (by simp [n95.at_, ev_const]) Try.underlying22 i97a i97b (by rw [i97c]; rfl) (by rw [i97c]; rfl) (by rw [i97c]; kernel_rfl)) (fun an98 w100 b99 W101 n98 => ?_)
  have l102 : b3 < b99 := by rw [W101.eq]; exact B92.lt
  have l103 : b9 < b99 := by rw [W101.eq]; exact B93.lt
  have l104 : b85 < b99 := by rw [W101.eq]; exact W87.bk.lt
  have l105 : w.heap.size ≤ b99 := by rw [W101.eq]; exact G91.size
  have G106 := G91.trans W101.gr
  have B107 := B92.gr W101.gr
  have B108 := B93.gr W101.gr
  have B109 := W87.bk.gr W101.gr
  refine sc n98.ok rfl (wgT rfl (yl 4 false rfl (n98.ne rfl e96)) rfl) rfl (o_f1 Try.func7 rfl rfl rfl n98.at_) (pcheck_lit _ _ _ _ w100 W101.bk B109) ?_
  rintro _ w111 ⟨rfl, g112⟩
  refine ⟨_, rfl, fun an110 n110 => ?_⟩
  have G113 := G106.trans g112
  have B114 := B107.gr g112
  have B115 := B108.gr g112
  have B116 := B109.gr g112
  have B117 := W101.bk.gr g112
  refine sv n110.ok rfl (wgT rfl (yl 4 false rfl (n110.ne rfl (n98.ne rfl e96))) rfl) rfl (o_neq (b := false) n110.at_ ev_const (by decide)) (fun an118 n118 => ?_)
  have e119 := n118.ne rfl (n110.ne rfl (n98.ne rfl e96))
  refine sv n118.ok rfl (wn _ rfl) rfl (o_pkF e119 n118.at_) (fun an120 n120 => ?_)
  refine wpList_nil ?_
  refine th_n (hK70 _ _ ?_)
  refine wp_cond_false (n120.at_) ?_
  refine wp_skip ?_
  refine th_n (hK69 _ _ ?_)
  refine wp_seq_k (fun K121 hK121 => ?_)
  refine wp_seq_k (fun K122 hK122 => ?_)
  refine wp_region_lit ?_
  have e123 := n120.ne rfl (n118.ne rfl (n110.ne rfl (n98.ne rfl (n95.ne rfl (n94.ne rfl (n84.ne rfl (n82.ne rfl (n81.ne rfl (n80.ne rfl (n73.ne rfl (n72.ne rfl n68.at_)))))))))))
  refine sv n120.ok rfl (wn _ rfl) rfl (o_mv e123) (fun an124 n124 => ?_)
  refine sv n124.ok rfl (wn _ rfl) rfl (o_eq (b := true) n124.at_ ev_const (by decide)) (fun an125 n125 => ?_)
  refine wpList_nil ?_
  refine th_n (hK122 _ _ ?_)
  refine wp_cond_true (n125.at_) ?_
  refine wp_region_lit ?_
  have e126 := n125.ne rfl (n124.ne rfl (n120.ne rfl (n118.ne rfl (n110.ne rfl (n98.ne rfl (n95.ne rfl (n94.ne rfl (n84.ne rfl (n82.ne rfl (n81.ne rfl (n80.ne rfl (n73.ne rfl (n72.ne rfl (n68.ne rfl (n67.ne rfl (n61.ne rfl (n60.ne rfl (n54.ne rfl (n53.ne rfl (n50.ne rfl (n49.ne rfl (n48.ne rfl (n47.ne rfl (n46.ne rfl (n40.ne rfl (n39.ne rfl e38))))))))))))))))))))))))))
  refine sv n125.ok rfl (wn _ rfl) rfl (o_mv e126) (fun an127 n127 => ?_)
  refine sc n127.ok rfl (wn _ rfl) rfl (o_f1 Try.func6 rfl rfl rfl n127.at_) (rparts_any L vb vd w111 hlb (hvb.gr G113) (hmb.gr G113)) ?_
  rintro _ w129 ⟨rfl, g130⟩
  refine ⟨_, rfl, fun an128 n128 => ?_⟩
  have G131 := G113.trans g130
  have B132 := B114.gr g130
  have B133 := B115.gr g130
  have B134 := B116.gr g130
  have B135 := B117.gr g130
  refine sv n128.ok rfl (wn _ rfl) rfl (o_as n128.at_) (fun an136 n136 => ?_)
  refine wpList_nil ?_
  refine th_n (hK121 _ _ ?_)
  refine wp_seq_k (fun K137 hK137 => ?_)
  refine wp_seq_k (fun K138 hK138 => ?_)
  refine wp_region_lit ?_
  have e139 := n136.ne rfl (n128.ne rfl (n127.ne rfl (n125.ne rfl (n124.ne rfl (n120.ne rfl (n118.ne rfl (n110.ne rfl (n98.ne rfl (n95.ne rfl (n94.ne rfl (n84.ne rfl (n82.ne rfl (n81.ne rfl (n80.ne rfl e79))))))))))))))
  refine sv n136.ok rfl (wn _ rfl) rfl (o_mv e139) (fun an140 n140 => ?_)
  refine sv n140.ok rfl (wn _ rfl) rfl (o_neq (b := false) n140.at_ ev_const (by decide)) (fun an141 n141 => ?_)
  refine wpList_nil ?_
  refine th_n (hK138 _ _ ?_)
  refine wp_cond_false (n141.at_) ?_
  refine wp_skip ?_
  refine th_n (hK137 _ _ ?_)
  refine wp_seq_k (fun K142 hK142 => ?_)
  refine wp_seq_k (fun K143 hK143 => ?_)
  refine wp_region_lit ?_
  have e144 := n141.ne rfl (n140.ne rfl (n136.ne rfl (n128.ne rfl (n127.ne rfl (n125.ne rfl (n124.ne rfl (n120.ne rfl (n118.ne rfl (n110.ne rfl (n98.ne rfl (n95.ne rfl (n94.ne rfl (n84.ne rfl (n82.ne rfl (n81.ne rfl (n80.ne rfl (n73.ne rfl (n72.ne rfl (n68.ne rfl (n67.ne rfl (n61.ne rfl (n60.ne rfl (n54.ne rfl (n53.ne rfl (n50.ne rfl (n49.ne rfl (n48.ne rfl (n47.ne rfl (n46.ne rfl (n40.ne rfl (n39.ne rfl (n37.ne rfl (n34.ne rfl (n33.ne rfl (n32.ne rfl (n31.ne rfl (n30.ne rfl (n24.ne rfl (n23.ne rfl (n21.ne rfl e20))))))))))))))))))))))))))))))))))))))))
  refine sv n141.ok rfl (wn _ rfl) rfl (o_ldR e144 B132 Try.underlying24 rfl (by kernel_rfl)) (fun an145 n145 => ?_)
  refine sc n145.ok rfl (wn _ rfl) rfl (o_f1 Try.func8 rfl rfl rfl n145.at_) (by have h := rpoint_any t n w129; rw [hP] at h; exact h) ?_
  rintro _ w147 ⟨rfl, g148⟩
  refine ⟨_, rfl, fun an146 n146 => ?_⟩
  have G149 := G131.trans g148
  have B150 := B132.gr g148
  have B151 := B133.gr g148
  have B152 := B134.gr g148
  have B153 := B135.gr g148
  refine sv n146.ok rfl (wn _ rfl) rfl (o_not n146.at_ rfl) (fun an154 n154 => ?_)
  refine sv n154.ok rfl (wn _ rfl) rfl (o_mv n154.at_) (fun an155 n155 => ?_)
  refine sn n155.ok rfl (wgF rfl (yl 3 true rfl n155.at_) rfl) rfl (fun an156 n156 => ?_)
  refine sn n156.ok rfl (wgF rfl (yl 3 true rfl (n156.ne rfl n155.at_)) rfl) rfl (fun an157 n157 => ?_)
  refine sn n157.ok rfl (wgF rfl (yl 3 true rfl (n157.ne rfl (n156.ne rfl n155.at_))) rfl) rfl (fun an158 n158 => ?_)
  have e159 := n158.ne rfl (n157.ne rfl (n156.ne rfl n155.at_))
  refine sv n158.ok rfl (wn _ rfl) rfl (o_pkT e159 ev_const) (fun an160 n160 => ?_)
  refine wpList_nil ?_
  refine th_n (hK143 _ _ ?_)
  refine wp_cond_true (n160.at_) ?_
  refine wp_seq_k (fun K161 hK161 => ?_)
  refine wp_region_lit ?_
  have e162 := n160.ne rfl (n158.ne rfl (n157.ne rfl (n156.ne rfl (n155.ne rfl (n154.ne rfl (n146.ne rfl (n145.ne rfl (n141.ne rfl (n140.ne rfl (n136.ne rfl (n128.ne rfl (n127.ne rfl (n125.ne rfl (n124.ne rfl (n120.ne rfl (n118.ne rfl (n110.ne rfl (n98.ne rfl (n95.ne rfl (n94.ne rfl (n84.ne rfl (n82.ne rfl (n81.ne rfl (n80.ne rfl (n73.ne rfl (n72.ne rfl (n68.ne rfl (n67.ne rfl (n61.ne rfl (n60.ne rfl (n54.ne rfl (n53.ne rfl (n50.ne rfl (n49.ne rfl (n48.ne rfl (n47.ne rfl (n46.ne rfl (n40.ne rfl (n39.ne rfl (n37.ne rfl n34.at_))))))))))))))))))))))))))))))))))))))))
  refine sv n160.ok rfl (wn _ rfl) rfl (o_mv e162) (fun an163 n163 => ?_)
  refine sv n163.ok rfl (wn _ rfl) rfl (o_neq (b := false) n163.at_ ev_const (by decide)) (fun an164 n164 => ?_)
  refine sv n164.ok rfl (wn _ rfl) rfl (o_mv n164.at_) (fun an165 n165 => ?_)
  have e166 := n165.ne rfl (n164.ne rfl (n163.ne rfl (n160.ne rfl (n158.ne rfl (n157.ne rfl (n156.ne rfl (n155.ne rfl (n154.ne rfl (n146.ne rfl (n145.ne rfl (n141.ne rfl (n140.ne rfl (n136.ne rfl (n128.ne rfl (n127.ne rfl (n125.ne rfl (n124.ne rfl (n120.ne rfl (n118.ne rfl (n110.ne rfl (n98.ne rfl (n95.ne rfl (n94.ne rfl (n84.ne rfl (n82.ne rfl (n81.ne rfl (n80.ne rfl (n73.ne rfl (n72.ne rfl (n68.ne rfl (n67.ne rfl (n61.ne rfl (n60.ne rfl (n54.ne rfl (n53.ne rfl (n50.ne rfl (n49.ne rfl (n48.ne rfl (n47.ne rfl (n46.ne rfl (n40.ne rfl (n39.ne rfl (n37.ne rfl (n34.ne rfl n33.at_))))))))))))))))))))))))))))))))))))))))))))
  refine sv n165.ok rfl (wgT rfl (yl 2 false rfl n165.at_) rfl) rfl (o_mv e166) (fun an167 n167 => ?_)
  refine sv n167.ok rfl (wn _ rfl) rfl (o_pkF (n167.ne rfl n165.at_) n167.at_) (fun an168 n168 => ?_)
  refine wpList_nil ?_
  refine th_n (hK161 _ _ ?_)
  refine wp_cond_false (n168.at_) ?_
  refine wp_skip ?_
  refine th_n (hK142 _ _ ?_)
  refine wp_seq_k (fun K169 hK169 => ?_)
  refine wp_seq_k (fun K170 hK170 => ?_)
  refine wp_region_lit ?_
  have e171 := n168.ne rfl (n167.ne rfl (n165.ne rfl (n164.ne rfl (n163.ne rfl (n160.ne rfl (n158.ne rfl (n157.ne rfl (n156.ne rfl (n155.ne rfl (n154.ne rfl (n146.ne rfl (n145.ne rfl (n141.ne rfl (n140.ne rfl n136.at_))))))))))))))
  refine sv n168.ok rfl (wn _ rfl) rfl (o_mv e171) (fun an172 n172 => ?_)
  refine sv n172.ok rfl (wn _ rfl) rfl (o_neq (b := true) n172.at_ ev_const (by simp [show ¬ (chkP L) = 0 from hB])) (fun an173 n173 => ?_)
  refine wpList_nil ?_
  refine th_n (hK170 _ _ ?_)
  refine wp_cond_true (n173.at_) ?_
  refine wp_seq_k (fun K174 hK174 => ?_)
  refine wp_region_lit ?_
  have e175 := n173.ne rfl (n172.ne rfl (n168.ne rfl (n167.ne rfl (n165.ne rfl (n164.ne rfl (n163.ne rfl (n160.ne rfl (n158.ne rfl (n157.ne rfl (n156.ne rfl (n155.ne rfl (n154.ne rfl (n146.ne rfl (n145.ne rfl (n141.ne rfl (n140.ne rfl (n136.ne rfl (n128.ne rfl (n127.ne rfl (n125.ne rfl (n124.ne rfl (n120.ne rfl (n118.ne rfl (n110.ne rfl (n98.ne rfl (n95.ne rfl (n94.ne rfl (n84.ne rfl (n82.ne rfl (n81.ne rfl (n80.ne rfl (n73.ne rfl (n72.ne rfl (n68.ne rfl (n67.ne rfl (n61.ne rfl (n60.ne rfl (n54.ne rfl (n53.ne rfl n50.at_)))))))))))))))))))))))))))))))))))))))
  refine sv n173.ok rfl (wn _ rfl) rfl (o_mv e175) (fun an176 n176 => ?_)
  have e177 := n176.ne rfl (n173.ne rfl (n172.ne rfl e171))
  refine sv n176.ok rfl (wn _ rfl) rfl (o_mv e177) (fun an178 n178 => ?_)
  refine sv n178.ok rfl (wn _ rfl) rfl (o_eq (n178.ne rfl n176.at_) n178.at_ (decide_eq_true rfl)) (fun an179 n179 => ?_)
  refine sv n179.ok rfl (wn _ rfl) rfl (o_mv n179.at_) (fun an180 n180 => ?_)
  have e181 := n180.ne rfl (n179.ne rfl (n178.ne rfl (n176.ne rfl (n173.ne rfl (n172.ne rfl (n168.ne rfl (n167.ne rfl (n165.ne rfl (n164.ne rfl (n163.ne rfl (n160.ne rfl (n158.ne rfl (n157.ne rfl (n156.ne rfl (n155.ne rfl (n154.ne rfl (n146.ne rfl (n145.ne rfl (n141.ne rfl (n140.ne rfl (n136.ne rfl (n128.ne rfl (n127.ne rfl (n125.ne rfl (n124.ne rfl (n120.ne rfl (n118.ne rfl (n110.ne rfl (n98.ne rfl (n95.ne rfl (n94.ne rfl (n84.ne rfl (n82.ne rfl (n81.ne rfl (n80.ne rfl (n73.ne rfl (n72.ne rfl (n68.ne rfl (n67.ne rfl (n61.ne rfl (n60.ne rfl (n54.ne rfl (n53.ne rfl (n50.ne rfl n49.at_))))))))))))))))))))))))))))))))))))))))))))
  refine sv n180.ok rfl (wgT rfl (yl 3 true rfl n180.at_) rfl) rfl (o_mv e181) (fun an182 n182 => ?_)
  refine sv n182.ok rfl (wgT rfl (yl 3 true rfl (n182.ne rfl n180.at_)) rfl) rfl (o_not n182.at_ rfl) (fun an183 n183 => ?_)
  refine sv n183.ok rfl (wn _ rfl) rfl (o_pkT (n183.ne rfl (n182.ne rfl n180.at_)) n183.at_) (fun an184 n184 => ?_)
  refine sv n184.ok rfl (wn _ rfl) rfl (o_as n184.at_) (fun an185 n185 => ?_)
  refine wpList_nil ?_
  refine th_n (hK174 _ _ ?_)
  refine wp_ret ?_
  refine th_r ?_
  exact ret1 n185.ok rfl (n185.at_) ⟨rfl, G149⟩
set_option maxHeartbeats 8000000 in
set_option maxRecDepth 100000 in
theorem partSays_ok_bad_o2 (X : List PtX) (L : List PtI) (va vb : Option Addr) (vc vd : Nat) (t n a c : Int) (hp : (pointB t n && dotB (a, c)) = false) (hP : pointB t n = true) (hD : dotB (a, c) = false) (w : World) (hla : X.length ≤ 30) (hva : RdA encP 3 w va X) (hma : MeansP w X) (hlb : L.length ≤ 9223372036854775807) (hvb : RdA encR 3 w vb L) (hmb : MeansI w L) (hB : ¬ chkP L = 0) :
    Calls Try.prog 3 #[.slice va X.length vc, .slice vb L.length vd, .agg #[.int .i64 (t), .int .i64 (n)], .agg #[.int .i64 (a), .int .i64 (c)]] w fun e w' => e = .returned (.bool true) ∧ Gr w w' := by
  refine enter (N := 110) Try.func3 rfl rfl rfl (fun a0 ok0 h0 => ?_)
  have e0_0 : a0.eval (.tmp 0) = .slice va X.length vc := h0 0 _ rfl
  have e0_1 : a0.eval (.tmp 1) = .slice vb L.length vd := h0 1 _ rfl
  have e0_2 : a0.eval (.tmp 2) = .agg #[.int .i64 (t), .int .i64 (n)] := h0 2 _ rfl
  have e0_3 : a0.eval (.tmp 3) = .agg #[.int .i64 (a), .int .i64 (c)] := h0 3 _ rfl
  clear h0
  have G0 := Gr.refl w
  refine wp_seq_k (fun K1 hK1 => ?_)
  refine wp_region_lit ?_
  refine sal (cs := #[.int .i64 (t), .int .i64 (n)]) ok0 rfl (wn _ rfl) rfl (o_box e0_2) (fun an2 w4 b3 W5 n2 => ?_)
  have l6 : w.heap.size ≤ b3 := by rw [W5.eq]; exact G0.size
  have G7 := G0.trans W5.gr
  refine sal (cs := #[.int .i64 (a), .int .i64 (c)]) n2.ok rfl (wn _ rfl) rfl (o_box (n2.ne rfl e0_3)) (fun an8 w10 b9 W11 n8 => ?_)
  have l12 : b3 < b9 := by rw [W11.eq]; exact W5.bk.lt
  have l13 : w.heap.size ≤ b9 := by rw [W11.eq]; exact G7.size
  have G14 := G7.trans W11.gr
  have B15 := W5.bk.gr W11.gr
  refine sv n8.ok rfl (wn _ rfl) rfl (o_as ev_const) (fun an16 n16 => ?_)
  refine wpList_nil ?_
  refine th_n (hK1 _ _ ?_)
  refine wp_seq_k (fun K17 hK17 => ?_)
  refine wp_region_lit ?_
  have e18 := n16.ne rfl (n8.ne rfl (n2.ne rfl e0_0))
  refine sv n16.ok rfl (wn _ rfl) rfl (o_mv e18) (fun an19 n19 => ?_)
  have e20 := n19.ne rfl (n16.ne rfl (n8.ne rfl n2.at_))
  refine sv n19.ok rfl (wn _ rfl) rfl (o_ldR e20 B15 Try.underlying24 rfl (by kernel_rfl)) (fun an21 n21 => ?_)
  have e22 := n21.ne rfl (n19.ne rfl (n16.ne rfl n8.at_))
  refine sv n21.ok rfl (wn _ rfl) rfl (o_ldR e22 W11.bk Try.underlying26 rfl (by kernel_rfl)) (fun an23 n23 => ?_)
  refine sc n23.ok rfl (wn _ rfl) rfl (o_f3 Try.func4 rfl rfl rfl (n23.ne rfl (n21.ne rfl n19.at_)) (n23.ne rfl n21.at_) n23.at_) (by have h := phas X va vc t n a c w10 hla (hva.gr G14) (hma.gr G14); rw [(hasV_o (K := X) hp).1, (hasV_o (K := X) hp).2] at h; exact h) ?_
  rintro _ w25 ⟨rfl, g26⟩
  refine ⟨_, rfl, fun an24 n24 => ?_⟩
  have G27 := G14.trans g26
  have B28 := B15.gr g26
  have B29 := W11.bk.gr g26
  refine sv n24.ok rfl (wn _ rfl) rfl (o_mv n24.at_) (fun an30 n30 => ?_)
  refine sv n30.ok rfl (wn _ rfl) rfl (o_ex n30.at_ rfl) (fun an31 n31 => ?_)
  refine sv n31.ok rfl (wn _ rfl) rfl (o_ex (n31.ne rfl n30.at_) rfl) (fun an32 n32 => ?_)
  refine sv n32.ok rfl (wn _ rfl) rfl (o_as (n32.ne rfl n31.at_)) (fun an33 n33 => ?_)
  refine sv n33.ok rfl (wn _ rfl) rfl (o_as (n33.ne rfl n32.at_)) (fun an34 n34 => ?_)
  refine wpList_nil ?_
  refine th_n (hK17 _ _ ?_)
  refine wp_seq_k (fun K35 hK35 => ?_)
  refine wp_region_lit ?_
  have e36 := n34.ne rfl (n33.ne rfl (n32.ne rfl (n31.ne rfl (n30.ne rfl (n24.ne rfl (n23.ne rfl (n21.ne rfl (n19.ne rfl e18))))))))
  refine sv n34.ok rfl (wn _ rfl) rfl (o_mv e36) (fun an37 n37 => ?_)
  have e38 := n37.ne rfl (n34.ne rfl (n33.ne rfl (n32.ne rfl (n31.ne rfl (n30.ne rfl (n24.ne rfl (n23.ne rfl (n21.ne rfl (n19.ne rfl (n16.ne rfl (n8.ne rfl (n2.ne rfl e0_1))))))))))))
  refine sv n37.ok rfl (wn _ rfl) rfl (o_mv e38) (fun an39 n39 => ?_)
  refine sc n39.ok rfl (wn _ rfl) rfl (o_f2 Try.func5 rfl rfl rfl (n39.ne rfl n37.at_) n39.at_) (pwithin_half X L va vb vc vd w25 hla hlb hB (hva.gr G27) (hvb.gr G27) (hma.gr G27) (hmb.gr G27)) ?_
  rintro _ w41 ⟨rfl, g42⟩
  refine ⟨_, rfl, fun an40 n40 => ?_⟩
  have G43 := G27.trans g42
  have B44 := B28.gr g42
  have B45 := B29.gr g42
  refine sv n40.ok rfl (wn _ rfl) rfl (o_mv n40.at_) (fun an46 n46 => ?_)
  refine sv n46.ok rfl (wn _ rfl) rfl (o_ex n46.at_ rfl) (fun an47 n47 => ?_)
  refine sv n47.ok rfl (wn _ rfl) rfl (o_ex (n47.ne rfl n46.at_) rfl) (fun an48 n48 => ?_)
  refine sv n48.ok rfl (wn _ rfl) rfl (o_as (n48.ne rfl n47.at_)) (fun an49 n49 => ?_)
  refine sv n49.ok rfl (wn _ rfl) rfl (o_as (n49.ne rfl n48.at_)) (fun an50 n50 => ?_)
  refine wpList_nil ?_
  refine th_n (hK35 _ _ ?_)
  refine wp_seq_k (fun K51 hK51 => ?_)
  refine wp_region_lit ?_
  have e52 := n50.ne rfl (n49.ne rfl (n48.ne rfl (n47.ne rfl (n46.ne rfl (n40.ne rfl (n39.ne rfl (n37.ne rfl e36)))))))
  refine sv n50.ok rfl (wn _ rfl) rfl (o_mv e52) (fun an53 n53 => ?_)
  refine sc n53.ok rfl (wn _ rfl) rfl (o_f1 Try.func6 rfl rfl rfl n53.at_) (rparts_ok X va vc w41 hla (hva.gr G43) (hma.gr G43)) ?_
  rintro _ w55 ⟨rfl, g56⟩
  refine ⟨_, rfl, fun an54 n54 => ?_⟩
  have G57 := G43.trans g56
  have B58 := B44.gr g56
  have B59 := B45.gr g56
  refine sv n54.ok rfl (wn _ rfl) rfl (o_mv (n54.ne rfl (n53.ne rfl e52))) (fun an60 n60 => ?_)
  refine sc n60.ok rfl (wn _ rfl) rfl (o_f1 Try.func6 rfl rfl rfl n60.at_) (rparts_ok X va vc w55 hla (hva.gr G57) (hma.gr G57)) ?_
  rintro _ w62 ⟨rfl, g63⟩
  refine ⟨_, rfl, fun an61 n61 => ?_⟩
  have G64 := G57.trans g63
  have B65 := B58.gr g63
  have B66 := B59.gr g63
  refine sv n61.ok rfl (wn _ rfl) rfl (o_as (n61.ne rfl (n60.ne rfl n54.at_))) (fun an67 n67 => ?_)
  refine sv n67.ok rfl (wn _ rfl) rfl (o_as (n67.ne rfl n61.at_)) (fun an68 n68 => ?_)
  refine wpList_nil ?_
  refine th_n (hK51 _ _ ?_)
  refine wp_seq_k (fun K69 hK69 => ?_)
  refine wp_seq_k (fun K70 hK70 => ?_)
  refine wp_region_lit ?_
  have e71 := n68.ne rfl (n67.ne rfl (n61.ne rfl (n60.ne rfl (n54.ne rfl (n53.ne rfl e52)))))
  refine sv n68.ok rfl (wn _ rfl) rfl (o_mv e71) (fun an72 n72 => ?_)
  refine sc n72.ok rfl (wn _ rfl) rfl (o_f1 Try.func7 rfl rfl rfl n72.at_) (pcheck_ok X va vc w62 hla (hva.gr G64) (hma.gr G64)) ?_
  rintro _ w74 ⟨rfl, g75⟩
  refine ⟨_, rfl, fun an73 n73 => ?_⟩
  have G76 := G64.trans g75
  have B77 := B65.gr g75
  have B78 := B66.gr g75
  have e79 := n73.ne rfl (n72.ne rfl (n68.ne rfl n67.at_))
  refine sv n73.ok rfl (wn _ rfl) rfl (o_mv e79) (fun an80 n80 => ?_)
  refine sv n80.ok rfl (wn _ rfl) rfl (o_neq (b := false) (n80.ne rfl n73.at_) n80.at_ (by decide)) (fun an81 n81 => ?_)
  refine sv n81.ok rfl (wn _ rfl) rfl (o_mv n81.at_) (fun an82 n82 => ?_)
  obtain ⟨i83, i83a, i83b, i83c⟩ := info3_of (show (Try.prog.info? 3).map (fun i => (i.zero, i.size)) = some (some (.int .i64 0), 1) by kernel_rfl)
  refine sals (cs := #[.int .i64 0]) n82.ok rfl (wgT rfl (yl 4 false rfl n82.at_) rfl) rfl (o_bs (vs := [(0, .int .i64 0)]) (by simp [ev_const]) Try.underlying32 i83a i83b (by rw [i83c]; rfl) (by rw [i83c]; rfl) (by rw [i83c]; kernel_rfl)) (fun an84 w86 b85 W87 n84 => ?_)
  have l88 : b3 < b85 := by rw [W87.eq]; exact B77.lt
  have l89 : b9 < b85 := by rw [W87.eq]; exact B78.lt
  have l90 : w.heap.size ≤ b85 := by rw [W87.eq]; exact G76.size
  have G91 := G76.trans W87.gr
  have B92 := B77.gr W87.gr
  have B93 := B78.gr W87.gr
  refine sv n84.ok rfl (wgT rfl (yl 4 false rfl (n84.ne rfl n82.at_)) rfl) rfl (o_bd (cells := #[.slice (some ⟨b85, 0, none⟩) 1 1, .slice none 0 0]) (vs := [(0, .slice (some ⟨b85, 0, none⟩) 1 1)]) (by simp [n84.at_, ev_const]) (by kernel_rfl)) (fun an94 n94 => ?_)
  refine sv n94.ok rfl (wgT rfl (yl 4 false rfl (n94.ne rfl (n84.ne rfl n82.at_))) rfl) rfl (o_bd (cells := #[.slice none 0 0, .slice (some ⟨b85, 0, none⟩) 1 1, .slice none 0 0]) (vs := [(1, .agg #[.slice (some ⟨b85, 0, none⟩) 1 1, .slice none 0 0])]) (by simp [n94.at_, ev_const]) (by kernel_rfl)) (fun an95 n95 => ?_)
  have e96 := n95.ne rfl (n94.ne rfl (n84.ne rfl n82.at_))
  obtain ⟨i97, i97a, i97b, i97c⟩ := info3_of (show (Try.prog.info? 38).map (fun i => (i.zero, i.size)) = some (some (.agg #[.slice none 0 0, .slice none 0 0, .slice none 0 0]), 3) by kernel_rfl)
  refine sals (cs := #[.slice none 0 0, .slice (some ⟨b85, 0, none⟩) 1 1, .slice none 0 0]) n95.ok rfl (wgT rfl (yl 4 false rfl e96) rfl) rfl (o_bs (vs := [(0, .agg #[.slice none 0 0, .slice (some ⟨b85, 0, none⟩) 1 1, .slice none 0 0])]) (by simp [n95.at_, ev_const]) Try.underlying22 i97a i97b (by rw [i97c]; rfl) (by rw [i97c]; rfl) (by rw [i97c]; kernel_rfl)) (fun an98 w100 b99 W101 n98 => ?_)
  have l102 : b3 < b99 := by rw [W101.eq]; exact B92.lt
  have l103 : b9 < b99 := by rw [W101.eq]; exact B93.lt
  have l104 : b85 < b99 := by rw [W101.eq]; exact W87.bk.lt
  have l105 : w.heap.size ≤ b99 := by rw [W101.eq]; exact G91.size
  have G106 := G91.trans W101.gr
  have B107 := B92.gr W101.gr
  have B108 := B93.gr W101.gr
  have B109 := W87.bk.gr W101.gr
  refine sc n98.ok rfl (wgT rfl (yl 4 false rfl (n98.ne rfl e96)) rfl) rfl (o_f1 Try.func7 rfl rfl rfl n98.at_) (pcheck_lit _ _ _ _ w100 W101.bk B109) ?_
  rintro _ w111 ⟨rfl, g112⟩
  refine ⟨_, rfl, fun an110 n110 => ?_⟩
  have G113 := G106.trans g112
  have B114 := B107.gr g112
  have B115 := B108.gr g112
  have B116 := B109.gr g112
  have B117 := W101.bk.gr g112
  refine sv n110.ok rfl (wgT rfl (yl 4 false rfl (n110.ne rfl (n98.ne rfl e96))) rfl) rfl (o_neq (b := false) n110.at_ ev_const (by decide)) (fun an118 n118 => ?_)
  have e119 := n118.ne rfl (n110.ne rfl (n98.ne rfl e96))
  refine sv n118.ok rfl (wn _ rfl) rfl (o_pkF e119 n118.at_) (fun an120 n120 => ?_)
  refine wpList_nil ?_
  refine th_n (hK70 _ _ ?_)
  refine wp_cond_false (n120.at_) ?_
  refine wp_skip ?_
  refine th_n (hK69 _ _ ?_)
  refine wp_seq_k (fun K121 hK121 => ?_)
  refine wp_seq_k (fun K122 hK122 => ?_)
  refine wp_region_lit ?_
  have e123 := n120.ne rfl (n118.ne rfl (n110.ne rfl (n98.ne rfl (n95.ne rfl (n94.ne rfl (n84.ne rfl (n82.ne rfl (n81.ne rfl (n80.ne rfl (n73.ne rfl (n72.ne rfl n68.at_)))))))))))
  refine sv n120.ok rfl (wn _ rfl) rfl (o_mv e123) (fun an124 n124 => ?_)
  refine sv n124.ok rfl (wn _ rfl) rfl (o_eq (b := true) n124.at_ ev_const (by decide)) (fun an125 n125 => ?_)
  refine wpList_nil ?_
  refine th_n (hK122 _ _ ?_)
  refine wp_cond_true (n125.at_) ?_
  refine wp_region_lit ?_
  have e126 := n125.ne rfl (n124.ne rfl (n120.ne rfl (n118.ne rfl (n110.ne rfl (n98.ne rfl (n95.ne rfl (n94.ne rfl (n84.ne rfl (n82.ne rfl (n81.ne rfl (n80.ne rfl (n73.ne rfl (n72.ne rfl (n68.ne rfl (n67.ne rfl (n61.ne rfl (n60.ne rfl (n54.ne rfl (n53.ne rfl (n50.ne rfl (n49.ne rfl (n48.ne rfl (n47.ne rfl (n46.ne rfl (n40.ne rfl (n39.ne rfl e38))))))))))))))))))))))))))
  refine sv n125.ok rfl (wn _ rfl) rfl (o_mv e126) (fun an127 n127 => ?_)
  refine sc n127.ok rfl (wn _ rfl) rfl (o_f1 Try.func6 rfl rfl rfl n127.at_) (rparts_any L vb vd w111 hlb (hvb.gr G113) (hmb.gr G113)) ?_
  rintro _ w129 ⟨rfl, g130⟩
  refine ⟨_, rfl, fun an128 n128 => ?_⟩
  have G131 := G113.trans g130
  have B132 := B114.gr g130
  have B133 := B115.gr g130
  have B134 := B116.gr g130
  have B135 := B117.gr g130
  refine sv n128.ok rfl (wn _ rfl) rfl (o_as n128.at_) (fun an136 n136 => ?_)
  refine wpList_nil ?_
  refine th_n (hK121 _ _ ?_)
  refine wp_seq_k (fun K137 hK137 => ?_)
  refine wp_seq_k (fun K138 hK138 => ?_)
  refine wp_region_lit ?_
  have e139 := n136.ne rfl (n128.ne rfl (n127.ne rfl (n125.ne rfl (n124.ne rfl (n120.ne rfl (n118.ne rfl (n110.ne rfl (n98.ne rfl (n95.ne rfl (n94.ne rfl (n84.ne rfl (n82.ne rfl (n81.ne rfl (n80.ne rfl e79))))))))))))))
  refine sv n136.ok rfl (wn _ rfl) rfl (o_mv e139) (fun an140 n140 => ?_)
  refine sv n140.ok rfl (wn _ rfl) rfl (o_neq (b := false) n140.at_ ev_const (by decide)) (fun an141 n141 => ?_)
  refine wpList_nil ?_
  refine th_n (hK138 _ _ ?_)
  refine wp_cond_false (n141.at_) ?_
  refine wp_skip ?_
  refine th_n (hK137 _ _ ?_)
  refine wp_seq_k (fun K142 hK142 => ?_)
  refine wp_seq_k (fun K143 hK143 => ?_)
  refine wp_region_lit ?_
  have e144 := n141.ne rfl (n140.ne rfl (n136.ne rfl (n128.ne rfl (n127.ne rfl (n125.ne rfl (n124.ne rfl (n120.ne rfl (n118.ne rfl (n110.ne rfl (n98.ne rfl (n95.ne rfl (n94.ne rfl (n84.ne rfl (n82.ne rfl (n81.ne rfl (n80.ne rfl (n73.ne rfl (n72.ne rfl (n68.ne rfl (n67.ne rfl (n61.ne rfl (n60.ne rfl (n54.ne rfl (n53.ne rfl (n50.ne rfl (n49.ne rfl (n48.ne rfl (n47.ne rfl (n46.ne rfl (n40.ne rfl (n39.ne rfl (n37.ne rfl (n34.ne rfl (n33.ne rfl (n32.ne rfl (n31.ne rfl (n30.ne rfl (n24.ne rfl (n23.ne rfl (n21.ne rfl e20))))))))))))))))))))))))))))))))))))))))
  refine sv n141.ok rfl (wn _ rfl) rfl (o_ldR e144 B132 Try.underlying24 rfl (by kernel_rfl)) (fun an145 n145 => ?_)
  refine sc n145.ok rfl (wn _ rfl) rfl (o_f1 Try.func8 rfl rfl rfl n145.at_) (by have h := rpoint_any t n w129; rw [hP] at h; exact h) ?_
  rintro _ w147 ⟨rfl, g148⟩
  refine ⟨_, rfl, fun an146 n146 => ?_⟩
  have G149 := G131.trans g148
  have B150 := B132.gr g148
  have B151 := B133.gr g148
  have B152 := B134.gr g148
  have B153 := B135.gr g148
  refine sv n146.ok rfl (wn _ rfl) rfl (o_not n146.at_ rfl) (fun an154 n154 => ?_)
  refine sv n154.ok rfl (wn _ rfl) rfl (o_mv n154.at_) (fun an155 n155 => ?_)
  have e156 := n155.ne rfl (n154.ne rfl (n146.ne rfl (n145.ne rfl (n141.ne rfl (n140.ne rfl (n136.ne rfl (n128.ne rfl (n127.ne rfl (n125.ne rfl (n124.ne rfl (n120.ne rfl (n118.ne rfl (n110.ne rfl (n98.ne rfl (n95.ne rfl (n94.ne rfl (n84.ne rfl (n82.ne rfl (n81.ne rfl (n80.ne rfl (n73.ne rfl (n72.ne rfl (n68.ne rfl (n67.ne rfl (n61.ne rfl (n60.ne rfl (n54.ne rfl (n53.ne rfl (n50.ne rfl (n49.ne rfl (n48.ne rfl (n47.ne rfl (n46.ne rfl (n40.ne rfl (n39.ne rfl (n37.ne rfl (n34.ne rfl (n33.ne rfl (n32.ne rfl (n31.ne rfl (n30.ne rfl (n24.ne rfl (n23.ne rfl e22)))))))))))))))))))))))))))))))))))))))))))
  refine sv n155.ok rfl (wgT rfl (yl 3 false rfl n155.at_) rfl) rfl (o_ldR e156 B151 Try.underlying26 rfl (by kernel_rfl)) (fun an157 n157 => ?_)
  refine sc n157.ok rfl (wgT rfl (yl 3 false rfl (n157.ne rfl n155.at_)) rfl) rfl (o_f1 Try.func9 rfl rfl rfl n157.at_) (by have h := rdot_any (a, c) w147; rw [hD] at h; exact h) ?_
  rintro _ w159 ⟨rfl, g160⟩
  refine ⟨_, rfl, fun an158 n158 => ?_⟩
  have G161 := G149.trans g160
  have B162 := B150.gr g160
  have B163 := B151.gr g160
  have B164 := B152.gr g160
  have B165 := B153.gr g160
  refine sv n158.ok rfl (wgT rfl (yl 3 false rfl (n158.ne rfl (n157.ne rfl n155.at_))) rfl) rfl (o_not n158.at_ rfl) (fun an166 n166 => ?_)
  have e167 := n166.ne rfl (n158.ne rfl (n157.ne rfl n155.at_))
  refine sv n166.ok rfl (wn _ rfl) rfl (o_pkF e167 n166.at_) (fun an168 n168 => ?_)
  refine wpList_nil ?_
  refine th_n (hK143 _ _ ?_)
  refine wp_cond_true (n168.at_) ?_
  refine wp_seq_k (fun K169 hK169 => ?_)
  refine wp_region_lit ?_
  have e170 := n168.ne rfl (n166.ne rfl (n158.ne rfl (n157.ne rfl (n155.ne rfl (n154.ne rfl (n146.ne rfl (n145.ne rfl (n141.ne rfl (n140.ne rfl (n136.ne rfl (n128.ne rfl (n127.ne rfl (n125.ne rfl (n124.ne rfl (n120.ne rfl (n118.ne rfl (n110.ne rfl (n98.ne rfl (n95.ne rfl (n94.ne rfl (n84.ne rfl (n82.ne rfl (n81.ne rfl (n80.ne rfl (n73.ne rfl (n72.ne rfl (n68.ne rfl (n67.ne rfl (n61.ne rfl (n60.ne rfl (n54.ne rfl (n53.ne rfl (n50.ne rfl (n49.ne rfl (n48.ne rfl (n47.ne rfl (n46.ne rfl (n40.ne rfl (n39.ne rfl (n37.ne rfl n34.at_))))))))))))))))))))))))))))))))))))))))
  refine sv n168.ok rfl (wn _ rfl) rfl (o_mv e170) (fun an171 n171 => ?_)
  refine sv n171.ok rfl (wn _ rfl) rfl (o_neq (b := false) n171.at_ ev_const (by decide)) (fun an172 n172 => ?_)
  refine sv n172.ok rfl (wn _ rfl) rfl (o_mv n172.at_) (fun an173 n173 => ?_)
  have e174 := n173.ne rfl (n172.ne rfl (n171.ne rfl (n168.ne rfl (n166.ne rfl (n158.ne rfl (n157.ne rfl (n155.ne rfl (n154.ne rfl (n146.ne rfl (n145.ne rfl (n141.ne rfl (n140.ne rfl (n136.ne rfl (n128.ne rfl (n127.ne rfl (n125.ne rfl (n124.ne rfl (n120.ne rfl (n118.ne rfl (n110.ne rfl (n98.ne rfl (n95.ne rfl (n94.ne rfl (n84.ne rfl (n82.ne rfl (n81.ne rfl (n80.ne rfl (n73.ne rfl (n72.ne rfl (n68.ne rfl (n67.ne rfl (n61.ne rfl (n60.ne rfl (n54.ne rfl (n53.ne rfl (n50.ne rfl (n49.ne rfl (n48.ne rfl (n47.ne rfl (n46.ne rfl (n40.ne rfl (n39.ne rfl (n37.ne rfl (n34.ne rfl n33.at_))))))))))))))))))))))))))))))))))))))))))))
  refine sv n173.ok rfl (wgT rfl (yl 2 false rfl n173.at_) rfl) rfl (o_mv e174) (fun an175 n175 => ?_)
  refine sv n175.ok rfl (wn _ rfl) rfl (o_pkF (n175.ne rfl n173.at_) n175.at_) (fun an176 n176 => ?_)
  refine wpList_nil ?_
  refine th_n (hK169 _ _ ?_)
  refine wp_cond_false (n176.at_) ?_
  refine wp_skip ?_
  refine th_n (hK142 _ _ ?_)
  refine wp_seq_k (fun K177 hK177 => ?_)
  refine wp_seq_k (fun K178 hK178 => ?_)
  refine wp_region_lit ?_
  have e179 := n176.ne rfl (n175.ne rfl (n173.ne rfl (n172.ne rfl (n171.ne rfl (n168.ne rfl (n166.ne rfl (n158.ne rfl (n157.ne rfl (n155.ne rfl (n154.ne rfl (n146.ne rfl (n145.ne rfl (n141.ne rfl (n140.ne rfl n136.at_))))))))))))))
  refine sv n176.ok rfl (wn _ rfl) rfl (o_mv e179) (fun an180 n180 => ?_)
  refine sv n180.ok rfl (wn _ rfl) rfl (o_neq (b := true) n180.at_ ev_const (by simp [show ¬ (chkP L) = 0 from hB])) (fun an181 n181 => ?_)
  refine wpList_nil ?_
  refine th_n (hK178 _ _ ?_)
  refine wp_cond_true (n181.at_) ?_
  refine wp_seq_k (fun K182 hK182 => ?_)
  refine wp_region_lit ?_
  have e183 := n181.ne rfl (n180.ne rfl (n176.ne rfl (n175.ne rfl (n173.ne rfl (n172.ne rfl (n171.ne rfl (n168.ne rfl (n166.ne rfl (n158.ne rfl (n157.ne rfl (n155.ne rfl (n154.ne rfl (n146.ne rfl (n145.ne rfl (n141.ne rfl (n140.ne rfl (n136.ne rfl (n128.ne rfl (n127.ne rfl (n125.ne rfl (n124.ne rfl (n120.ne rfl (n118.ne rfl (n110.ne rfl (n98.ne rfl (n95.ne rfl (n94.ne rfl (n84.ne rfl (n82.ne rfl (n81.ne rfl (n80.ne rfl (n73.ne rfl (n72.ne rfl (n68.ne rfl (n67.ne rfl (n61.ne rfl (n60.ne rfl (n54.ne rfl (n53.ne rfl n50.at_)))))))))))))))))))))))))))))))))))))))
  refine sv n181.ok rfl (wn _ rfl) rfl (o_mv e183) (fun an184 n184 => ?_)
  have e185 := n184.ne rfl (n181.ne rfl (n180.ne rfl e179))
  refine sv n184.ok rfl (wn _ rfl) rfl (o_mv e185) (fun an186 n186 => ?_)
  refine sv n186.ok rfl (wn _ rfl) rfl (o_eq (n186.ne rfl n184.at_) n186.at_ (decide_eq_true rfl)) (fun an187 n187 => ?_)
  refine sv n187.ok rfl (wn _ rfl) rfl (o_mv n187.at_) (fun an188 n188 => ?_)
  have e189 := n188.ne rfl (n187.ne rfl (n186.ne rfl (n184.ne rfl (n181.ne rfl (n180.ne rfl (n176.ne rfl (n175.ne rfl (n173.ne rfl (n172.ne rfl (n171.ne rfl (n168.ne rfl (n166.ne rfl (n158.ne rfl (n157.ne rfl (n155.ne rfl (n154.ne rfl (n146.ne rfl (n145.ne rfl (n141.ne rfl (n140.ne rfl (n136.ne rfl (n128.ne rfl (n127.ne rfl (n125.ne rfl (n124.ne rfl (n120.ne rfl (n118.ne rfl (n110.ne rfl (n98.ne rfl (n95.ne rfl (n94.ne rfl (n84.ne rfl (n82.ne rfl (n81.ne rfl (n80.ne rfl (n73.ne rfl (n72.ne rfl (n68.ne rfl (n67.ne rfl (n61.ne rfl (n60.ne rfl (n54.ne rfl (n53.ne rfl (n50.ne rfl n49.at_))))))))))))))))))))))))))))))))))))))))))))
  refine sv n188.ok rfl (wgT rfl (yl 3 true rfl n188.at_) rfl) rfl (o_mv e189) (fun an190 n190 => ?_)
  refine sv n190.ok rfl (wgT rfl (yl 3 true rfl (n190.ne rfl n188.at_)) rfl) rfl (o_not n190.at_ rfl) (fun an191 n191 => ?_)
  refine sv n191.ok rfl (wn _ rfl) rfl (o_pkT (n191.ne rfl (n190.ne rfl n188.at_)) n191.at_) (fun an192 n192 => ?_)
  refine sv n192.ok rfl (wn _ rfl) rfl (o_as n192.at_) (fun an193 n193 => ?_)
  refine wpList_nil ?_
  refine th_n (hK182 _ _ ?_)
  refine wp_ret ?_
  refine th_r ?_
  exact ret1 n193.ok rfl (n193.at_) ⟨rfl, G161⟩
set_option maxHeartbeats 8000000 in
set_option maxRecDepth 100000 in
theorem partSays_ok_bad_i (X : List PtX) (L : List PtI) (va vb : Option Addr) (vc vd : Nat) (t n a c : Nat) (ht : t < 16) (hn : n < 32) (hi : inR a c) (hp : (pointB (t : Int) (n : Int) && dotB ((a : Int), (c : Int))) = true) (hP : pointB (t : Int) (n : Int) = true) (hD : dotB ((a : Int), (c : Int)) = true) (w : World) (hla : X.length ≤ 30) (hva : RdA encP 3 w va X) (hma : MeansP w X) (hlb : L.length ≤ 9223372036854775807) (hvb : RdA encR 3 w vb L) (hmb : MeansI w L) (hB : ¬ chkP L = 0) :
    Calls Try.prog 3 #[.slice va X.length vc, .slice vb L.length vd, .agg #[.int .i64 (t : Int), .int .i64 (n : Int)], .agg #[.int .i64 (a : Int), .int .i64 (c : Int)]] w fun e w' => e = .returned (.bool true) ∧ Gr w w' := by
  refine enter (N := 110) Try.func3 rfl rfl rfl (fun a0 ok0 h0 => ?_)
  have e0_0 : a0.eval (.tmp 0) = .slice va X.length vc := h0 0 _ rfl
  have e0_1 : a0.eval (.tmp 1) = .slice vb L.length vd := h0 1 _ rfl
  have e0_2 : a0.eval (.tmp 2) = .agg #[.int .i64 (t : Int), .int .i64 (n : Int)] := h0 2 _ rfl
  have e0_3 : a0.eval (.tmp 3) = .agg #[.int .i64 (a : Int), .int .i64 (c : Int)] := h0 3 _ rfl
  clear h0
  have G0 := Gr.refl w
  refine wp_seq_k (fun K1 hK1 => ?_)
  refine wp_region_lit ?_
  refine sal (cs := #[.int .i64 (t : Int), .int .i64 (n : Int)]) ok0 rfl (wn _ rfl) rfl (o_box e0_2) (fun an2 w4 b3 W5 n2 => ?_)
  have l6 : w.heap.size ≤ b3 := by rw [W5.eq]; exact G0.size
  have G7 := G0.trans W5.gr
  refine sal (cs := #[.int .i64 (a : Int), .int .i64 (c : Int)]) n2.ok rfl (wn _ rfl) rfl (o_box (n2.ne rfl e0_3)) (fun an8 w10 b9 W11 n8 => ?_)
  have l12 : b3 < b9 := by rw [W11.eq]; exact W5.bk.lt
  have l13 : w.heap.size ≤ b9 := by rw [W11.eq]; exact G7.size
  have G14 := G7.trans W11.gr
  have B15 := W5.bk.gr W11.gr
  refine sv n8.ok rfl (wn _ rfl) rfl (o_as ev_const) (fun an16 n16 => ?_)
  refine wpList_nil ?_
  refine th_n (hK1 _ _ ?_)
  refine wp_seq_k (fun K17 hK17 => ?_)
  refine wp_region_lit ?_
  have e18 := n16.ne rfl (n8.ne rfl (n2.ne rfl e0_0))
  refine sv n16.ok rfl (wn _ rfl) rfl (o_mv e18) (fun an19 n19 => ?_)
  have e20 := n19.ne rfl (n16.ne rfl (n8.ne rfl n2.at_))
  refine sv n19.ok rfl (wn _ rfl) rfl (o_ldR e20 B15 Try.underlying24 rfl (by kernel_rfl)) (fun an21 n21 => ?_)
  have e22 := n21.ne rfl (n19.ne rfl (n16.ne rfl n8.at_))
  refine sv n21.ok rfl (wn _ rfl) rfl (o_ldR e22 W11.bk Try.underlying26 rfl (by kernel_rfl)) (fun an23 n23 => ?_)
  refine sc n23.ok rfl (wn _ rfl) rfl (o_f3 Try.func4 rfl rfl rfl (n23.ne rfl (n21.ne rfl n19.at_)) (n23.ne rfl n21.at_) n23.at_) (by have h := phas X va vc t n a c w10 hla (hva.gr G14) (hma.gr G14); rw [(hasV_i (K := X) ht hn hi hp).1, (hasV_i (K := X) ht hn hi hp).2] at h; exact h) ?_
  rintro _ w25 ⟨rfl, g26⟩
  refine ⟨_, rfl, fun an24 n24 => ?_⟩
  have G27 := G14.trans g26
  have B28 := B15.gr g26
  have B29 := W11.bk.gr g26
  refine sv n24.ok rfl (wn _ rfl) rfl (o_mv n24.at_) (fun an30 n30 => ?_)
  refine sv n30.ok rfl (wn _ rfl) rfl (o_ex n30.at_ rfl) (fun an31 n31 => ?_)
  refine sv n31.ok rfl (wn _ rfl) rfl (o_ex (n31.ne rfl n30.at_) rfl) (fun an32 n32 => ?_)
  refine sv n32.ok rfl (wn _ rfl) rfl (o_as (n32.ne rfl n31.at_)) (fun an33 n33 => ?_)
  refine sv n33.ok rfl (wn _ rfl) rfl (o_as (n33.ne rfl n32.at_)) (fun an34 n34 => ?_)
  refine wpList_nil ?_
  refine th_n (hK17 _ _ ?_)
  refine wp_seq_k (fun K35 hK35 => ?_)
  refine wp_region_lit ?_
  have e36 := n34.ne rfl (n33.ne rfl (n32.ne rfl (n31.ne rfl (n30.ne rfl (n24.ne rfl (n23.ne rfl (n21.ne rfl (n19.ne rfl e18))))))))
  refine sv n34.ok rfl (wn _ rfl) rfl (o_mv e36) (fun an37 n37 => ?_)
  have e38 := n37.ne rfl (n34.ne rfl (n33.ne rfl (n32.ne rfl (n31.ne rfl (n30.ne rfl (n24.ne rfl (n23.ne rfl (n21.ne rfl (n19.ne rfl (n16.ne rfl (n8.ne rfl (n2.ne rfl e0_1))))))))))))
  refine sv n37.ok rfl (wn _ rfl) rfl (o_mv e38) (fun an39 n39 => ?_)
  refine sc n39.ok rfl (wn _ rfl) rfl (o_f2 Try.func5 rfl rfl rfl (n39.ne rfl n37.at_) n39.at_) (pwithin_half X L va vb vc vd w25 hla hlb hB (hva.gr G27) (hvb.gr G27) (hma.gr G27) (hmb.gr G27)) ?_
  rintro _ w41 ⟨rfl, g42⟩
  refine ⟨_, rfl, fun an40 n40 => ?_⟩
  have G43 := G27.trans g42
  have B44 := B28.gr g42
  have B45 := B29.gr g42
  refine sv n40.ok rfl (wn _ rfl) rfl (o_mv n40.at_) (fun an46 n46 => ?_)
  refine sv n46.ok rfl (wn _ rfl) rfl (o_ex n46.at_ rfl) (fun an47 n47 => ?_)
  refine sv n47.ok rfl (wn _ rfl) rfl (o_ex (n47.ne rfl n46.at_) rfl) (fun an48 n48 => ?_)
  refine sv n48.ok rfl (wn _ rfl) rfl (o_as (n48.ne rfl n47.at_)) (fun an49 n49 => ?_)
  refine sv n49.ok rfl (wn _ rfl) rfl (o_as (n49.ne rfl n48.at_)) (fun an50 n50 => ?_)
  refine wpList_nil ?_
  refine th_n (hK35 _ _ ?_)
  refine wp_seq_k (fun K51 hK51 => ?_)
  refine wp_region_lit ?_
  have e52 := n50.ne rfl (n49.ne rfl (n48.ne rfl (n47.ne rfl (n46.ne rfl (n40.ne rfl (n39.ne rfl (n37.ne rfl e36)))))))
  refine sv n50.ok rfl (wn _ rfl) rfl (o_mv e52) (fun an53 n53 => ?_)
  refine sc n53.ok rfl (wn _ rfl) rfl (o_f1 Try.func6 rfl rfl rfl n53.at_) (rparts_ok X va vc w41 hla (hva.gr G43) (hma.gr G43)) ?_
  rintro _ w55 ⟨rfl, g56⟩
  refine ⟨_, rfl, fun an54 n54 => ?_⟩
  have G57 := G43.trans g56
  have B58 := B44.gr g56
  have B59 := B45.gr g56
  refine sv n54.ok rfl (wn _ rfl) rfl (o_mv (n54.ne rfl (n53.ne rfl e52))) (fun an60 n60 => ?_)
  refine sc n60.ok rfl (wn _ rfl) rfl (o_f1 Try.func6 rfl rfl rfl n60.at_) (rparts_ok X va vc w55 hla (hva.gr G57) (hma.gr G57)) ?_
  rintro _ w62 ⟨rfl, g63⟩
  refine ⟨_, rfl, fun an61 n61 => ?_⟩
  have G64 := G57.trans g63
  have B65 := B58.gr g63
  have B66 := B59.gr g63
  refine sv n61.ok rfl (wn _ rfl) rfl (o_as (n61.ne rfl (n60.ne rfl n54.at_))) (fun an67 n67 => ?_)
  refine sv n67.ok rfl (wn _ rfl) rfl (o_as (n67.ne rfl n61.at_)) (fun an68 n68 => ?_)
  refine wpList_nil ?_
  refine th_n (hK51 _ _ ?_)
  refine wp_seq_k (fun K69 hK69 => ?_)
  refine wp_seq_k (fun K70 hK70 => ?_)
  refine wp_region_lit ?_
  have e71 := n68.ne rfl (n67.ne rfl (n61.ne rfl (n60.ne rfl (n54.ne rfl (n53.ne rfl e52)))))
  refine sv n68.ok rfl (wn _ rfl) rfl (o_mv e71) (fun an72 n72 => ?_)
  refine sc n72.ok rfl (wn _ rfl) rfl (o_f1 Try.func7 rfl rfl rfl n72.at_) (pcheck_ok X va vc w62 hla (hva.gr G64) (hma.gr G64)) ?_
  rintro _ w74 ⟨rfl, g75⟩
  refine ⟨_, rfl, fun an73 n73 => ?_⟩
  have G76 := G64.trans g75
  have B77 := B65.gr g75
  have B78 := B66.gr g75
  have e79 := n73.ne rfl (n72.ne rfl (n68.ne rfl n67.at_))
  refine sv n73.ok rfl (wn _ rfl) rfl (o_mv e79) (fun an80 n80 => ?_)
  refine sv n80.ok rfl (wn _ rfl) rfl (o_neq (b := false) (n80.ne rfl n73.at_) n80.at_ (by decide)) (fun an81 n81 => ?_)
  refine sv n81.ok rfl (wn _ rfl) rfl (o_mv n81.at_) (fun an82 n82 => ?_)
  obtain ⟨i83, i83a, i83b, i83c⟩ := info3_of (show (Try.prog.info? 3).map (fun i => (i.zero, i.size)) = some (some (.int .i64 0), 1) by kernel_rfl)
  refine sals (cs := #[.int .i64 0]) n82.ok rfl (wgT rfl (yl 4 false rfl n82.at_) rfl) rfl (o_bs (vs := [(0, .int .i64 0)]) (by simp [ev_const]) Try.underlying32 i83a i83b (by rw [i83c]; rfl) (by rw [i83c]; rfl) (by rw [i83c]; kernel_rfl)) (fun an84 w86 b85 W87 n84 => ?_)
  have l88 : b3 < b85 := by rw [W87.eq]; exact B77.lt
  have l89 : b9 < b85 := by rw [W87.eq]; exact B78.lt
  have l90 : w.heap.size ≤ b85 := by rw [W87.eq]; exact G76.size
  have G91 := G76.trans W87.gr
  have B92 := B77.gr W87.gr
  have B93 := B78.gr W87.gr
  refine sv n84.ok rfl (wgT rfl (yl 4 false rfl (n84.ne rfl n82.at_)) rfl) rfl (o_bd (cells := #[.slice (some ⟨b85, 0, none⟩) 1 1, .slice none 0 0]) (vs := [(0, .slice (some ⟨b85, 0, none⟩) 1 1)]) (by simp [n84.at_, ev_const]) (by kernel_rfl)) (fun an94 n94 => ?_)
  refine sv n94.ok rfl (wgT rfl (yl 4 false rfl (n94.ne rfl (n84.ne rfl n82.at_))) rfl) rfl (o_bd (cells := #[.slice none 0 0, .slice (some ⟨b85, 0, none⟩) 1 1, .slice none 0 0]) (vs := [(1, .agg #[.slice (some ⟨b85, 0, none⟩) 1 1, .slice none 0 0])]) (by simp [n94.at_, ev_const]) (by kernel_rfl)) (fun an95 n95 => ?_)
  have e96 := n95.ne rfl (n94.ne rfl (n84.ne rfl n82.at_))
  obtain ⟨i97, i97a, i97b, i97c⟩ := info3_of (show (Try.prog.info? 38).map (fun i => (i.zero, i.size)) = some (some (.agg #[.slice none 0 0, .slice none 0 0, .slice none 0 0]), 3) by kernel_rfl)
  refine sals (cs := #[.slice none 0 0, .slice (some ⟨b85, 0, none⟩) 1 1, .slice none 0 0]) n95.ok rfl (wgT rfl (yl 4 false rfl e96) rfl) rfl (o_bs (vs := [(0, .agg #[.slice none 0 0, .slice (some ⟨b85, 0, none⟩) 1 1, .slice none 0 0])]) (by simp [n95.at_, ev_const]) Try.underlying22 i97a i97b (by rw [i97c]; rfl) (by rw [i97c]; rfl) (by rw [i97c]; kernel_rfl)) (fun an98 w100 b99 W101 n98 => ?_)
  have l102 : b3 < b99 := by rw [W101.eq]; exact B92.lt
  have l103 : b9 < b99 := by rw [W101.eq]; exact B93.lt
  have l104 : b85 < b99 := by rw [W101.eq]; exact W87.bk.lt
  have l105 : w.heap.size ≤ b99 := by rw [W101.eq]; exact G91.size
  have G106 := G91.trans W101.gr
  have B107 := B92.gr W101.gr
  have B108 := B93.gr W101.gr
  have B109 := W87.bk.gr W101.gr
  refine sc n98.ok rfl (wgT rfl (yl 4 false rfl (n98.ne rfl e96)) rfl) rfl (o_f1 Try.func7 rfl rfl rfl n98.at_) (pcheck_lit _ _ _ _ w100 W101.bk B109) ?_
  rintro _ w111 ⟨rfl, g112⟩
  refine ⟨_, rfl, fun an110 n110 => ?_⟩
  have G113 := G106.trans g112
  have B114 := B107.gr g112
  have B115 := B108.gr g112
  have B116 := B109.gr g112
  have B117 := W101.bk.gr g112
  refine sv n110.ok rfl (wgT rfl (yl 4 false rfl (n110.ne rfl (n98.ne rfl e96))) rfl) rfl (o_neq (b := false) n110.at_ ev_const (by decide)) (fun an118 n118 => ?_)
  have e119 := n118.ne rfl (n110.ne rfl (n98.ne rfl e96))
  refine sv n118.ok rfl (wn _ rfl) rfl (o_pkF e119 n118.at_) (fun an120 n120 => ?_)
  refine wpList_nil ?_
  refine th_n (hK70 _ _ ?_)
  refine wp_cond_false (n120.at_) ?_
  refine wp_skip ?_
  refine th_n (hK69 _ _ ?_)
  refine wp_seq_k (fun K121 hK121 => ?_)
  refine wp_seq_k (fun K122 hK122 => ?_)
  refine wp_region_lit ?_
  have e123 := n120.ne rfl (n118.ne rfl (n110.ne rfl (n98.ne rfl (n95.ne rfl (n94.ne rfl (n84.ne rfl (n82.ne rfl (n81.ne rfl (n80.ne rfl (n73.ne rfl (n72.ne rfl n68.at_)))))))))))
  refine sv n120.ok rfl (wn _ rfl) rfl (o_mv e123) (fun an124 n124 => ?_)
  refine sv n124.ok rfl (wn _ rfl) rfl (o_eq (b := true) n124.at_ ev_const (by decide)) (fun an125 n125 => ?_)
  refine wpList_nil ?_
  refine th_n (hK122 _ _ ?_)
  refine wp_cond_true (n125.at_) ?_
  refine wp_region_lit ?_
  have e126 := n125.ne rfl (n124.ne rfl (n120.ne rfl (n118.ne rfl (n110.ne rfl (n98.ne rfl (n95.ne rfl (n94.ne rfl (n84.ne rfl (n82.ne rfl (n81.ne rfl (n80.ne rfl (n73.ne rfl (n72.ne rfl (n68.ne rfl (n67.ne rfl (n61.ne rfl (n60.ne rfl (n54.ne rfl (n53.ne rfl (n50.ne rfl (n49.ne rfl (n48.ne rfl (n47.ne rfl (n46.ne rfl (n40.ne rfl (n39.ne rfl e38))))))))))))))))))))))))))
  refine sv n125.ok rfl (wn _ rfl) rfl (o_mv e126) (fun an127 n127 => ?_)
  refine sc n127.ok rfl (wn _ rfl) rfl (o_f1 Try.func6 rfl rfl rfl n127.at_) (rparts_any L vb vd w111 hlb (hvb.gr G113) (hmb.gr G113)) ?_
  rintro _ w129 ⟨rfl, g130⟩
  refine ⟨_, rfl, fun an128 n128 => ?_⟩
  have G131 := G113.trans g130
  have B132 := B114.gr g130
  have B133 := B115.gr g130
  have B134 := B116.gr g130
  have B135 := B117.gr g130
  refine sv n128.ok rfl (wn _ rfl) rfl (o_as n128.at_) (fun an136 n136 => ?_)
  refine wpList_nil ?_
  refine th_n (hK121 _ _ ?_)
  refine wp_seq_k (fun K137 hK137 => ?_)
  refine wp_seq_k (fun K138 hK138 => ?_)
  refine wp_region_lit ?_
  have e139 := n136.ne rfl (n128.ne rfl (n127.ne rfl (n125.ne rfl (n124.ne rfl (n120.ne rfl (n118.ne rfl (n110.ne rfl (n98.ne rfl (n95.ne rfl (n94.ne rfl (n84.ne rfl (n82.ne rfl (n81.ne rfl (n80.ne rfl e79))))))))))))))
  refine sv n136.ok rfl (wn _ rfl) rfl (o_mv e139) (fun an140 n140 => ?_)
  refine sv n140.ok rfl (wn _ rfl) rfl (o_neq (b := false) n140.at_ ev_const (by decide)) (fun an141 n141 => ?_)
  refine wpList_nil ?_
  refine th_n (hK138 _ _ ?_)
  refine wp_cond_false (n141.at_) ?_
  refine wp_skip ?_
  refine th_n (hK137 _ _ ?_)
  refine wp_seq_k (fun K142 hK142 => ?_)
  refine wp_seq_k (fun K143 hK143 => ?_)
  refine wp_region_lit ?_
  have e144 := n141.ne rfl (n140.ne rfl (n136.ne rfl (n128.ne rfl (n127.ne rfl (n125.ne rfl (n124.ne rfl (n120.ne rfl (n118.ne rfl (n110.ne rfl (n98.ne rfl (n95.ne rfl (n94.ne rfl (n84.ne rfl (n82.ne rfl (n81.ne rfl (n80.ne rfl (n73.ne rfl (n72.ne rfl (n68.ne rfl (n67.ne rfl (n61.ne rfl (n60.ne rfl (n54.ne rfl (n53.ne rfl (n50.ne rfl (n49.ne rfl (n48.ne rfl (n47.ne rfl (n46.ne rfl (n40.ne rfl (n39.ne rfl (n37.ne rfl (n34.ne rfl (n33.ne rfl (n32.ne rfl (n31.ne rfl (n30.ne rfl (n24.ne rfl (n23.ne rfl (n21.ne rfl e20))))))))))))))))))))))))))))))))))))))))
  refine sv n141.ok rfl (wn _ rfl) rfl (o_ldR e144 B132 Try.underlying24 rfl (by kernel_rfl)) (fun an145 n145 => ?_)
  refine sc n145.ok rfl (wn _ rfl) rfl (o_f1 Try.func8 rfl rfl rfl n145.at_) (by have h := rpoint_any ((t : Int)) ((n : Int)) w129; rw [hP] at h; exact h) ?_
  rintro _ w147 ⟨rfl, g148⟩
  refine ⟨_, rfl, fun an146 n146 => ?_⟩
  have G149 := G131.trans g148
  have B150 := B132.gr g148
  have B151 := B133.gr g148
  have B152 := B134.gr g148
  have B153 := B135.gr g148
  refine sv n146.ok rfl (wn _ rfl) rfl (o_not n146.at_ rfl) (fun an154 n154 => ?_)
  refine sv n154.ok rfl (wn _ rfl) rfl (o_mv n154.at_) (fun an155 n155 => ?_)
  have e156 := n155.ne rfl (n154.ne rfl (n146.ne rfl (n145.ne rfl (n141.ne rfl (n140.ne rfl (n136.ne rfl (n128.ne rfl (n127.ne rfl (n125.ne rfl (n124.ne rfl (n120.ne rfl (n118.ne rfl (n110.ne rfl (n98.ne rfl (n95.ne rfl (n94.ne rfl (n84.ne rfl (n82.ne rfl (n81.ne rfl (n80.ne rfl (n73.ne rfl (n72.ne rfl (n68.ne rfl (n67.ne rfl (n61.ne rfl (n60.ne rfl (n54.ne rfl (n53.ne rfl (n50.ne rfl (n49.ne rfl (n48.ne rfl (n47.ne rfl (n46.ne rfl (n40.ne rfl (n39.ne rfl (n37.ne rfl (n34.ne rfl (n33.ne rfl (n32.ne rfl (n31.ne rfl (n30.ne rfl (n24.ne rfl (n23.ne rfl e22)))))))))))))))))))))))))))))))))))))))))))
  refine sv n155.ok rfl (wgT rfl (yl 3 false rfl n155.at_) rfl) rfl (o_ldR e156 B151 Try.underlying26 rfl (by kernel_rfl)) (fun an157 n157 => ?_)
  refine sc n157.ok rfl (wgT rfl (yl 3 false rfl (n157.ne rfl n155.at_)) rfl) rfl (o_f1 Try.func9 rfl rfl rfl n157.at_) (by have h := rdot_any ((a : Int), (c : Int)) w147; rw [hD] at h; exact h) ?_
  rintro _ w159 ⟨rfl, g160⟩
  refine ⟨_, rfl, fun an158 n158 => ?_⟩
  have G161 := G149.trans g160
  have B162 := B150.gr g160
  have B163 := B151.gr g160
  have B164 := B152.gr g160
  have B165 := B153.gr g160
  refine sv n158.ok rfl (wgT rfl (yl 3 false rfl (n158.ne rfl (n157.ne rfl n155.at_))) rfl) rfl (o_not n158.at_ rfl) (fun an166 n166 => ?_)
  have e167 := n166.ne rfl (n158.ne rfl (n157.ne rfl n155.at_))
  refine sv n166.ok rfl (wn _ rfl) rfl (o_pkF e167 n166.at_) (fun an168 n168 => ?_)
  refine wpList_nil ?_
  refine th_n (hK143 _ _ ?_)
  refine wp_cond_false (n168.at_) ?_
  refine wp_seq_k (fun K169 hK169 => ?_)
  refine reg_start (N := 110) (m := 11) (by kernel_rfl) (fun R1700 => ?_)
  have e171 := n168.ne rfl (n166.ne rfl (n158.ne rfl (n157.ne rfl (n155.ne rfl (n154.ne rfl (n146.ne rfl (n145.ne rfl (n141.ne rfl (n140.ne rfl (n136.ne rfl (n128.ne rfl (n127.ne rfl (n125.ne rfl (n124.ne rfl (n120.ne rfl (n118.ne rfl (n110.ne rfl (n98.ne rfl (n95.ne rfl (n94.ne rfl (n84.ne rfl (n82.ne rfl (n81.ne rfl (n80.ne rfl (n73.ne rfl (n72.ne rfl (n68.ne rfl (n67.ne rfl (n61.ne rfl (n60.ne rfl (n54.ne rfl (n53.ne rfl (n50.ne rfl (n49.ne rfl (n48.ne rfl (n47.ne rfl (n46.ne rfl (n40.ne rfl (n39.ne rfl (n37.ne rfl n34.at_))))))))))))))))))))))))))))))))))))))))
  have R1701 := R1700.snoc (n' := 1) rfl (fun vJ _ => vJ = .int .i64 0) rfl (fun _ _ _ _ h => h) (fun aS wS pS => by
      exact Does.val (wn _ rfl) (o_mv ((pS.old 10 rfl).trans e171)) (Gr.refl _) rfl rfl)
  have R1702 := R1701.snoc (n' := 2) rfl (fun vJ _ => vJ = .bool false) rfl (fun _ _ _ _ h => h) (fun aS wS pS => by
      have eR170_0 : aS.eval (.tmp 79) = .int .i64 0 := pS.pre 0 rfl
      exact Does.val (wn _ rfl) (o_neq (b := false) (eR170_0) ev_const (by decide)) (Gr.refl _) rfl rfl)
  have R1703 := R1702.snoc (n' := 3) rfl (fun vJ _ => vJ = .bool false) rfl (fun _ _ _ _ h => h) (fun aS wS pS => by
      have eR170_1 : aS.eval (.tmp 80) = .bool false := pS.pre 1 rfl
      exact Does.val (wn _ rfl) (o_mv (eR170_1)) (Gr.refl _) rfl rfl)
  have e172 := n168.ne rfl (n166.ne rfl (n158.ne rfl (n157.ne rfl (n155.ne rfl (n154.ne rfl (n146.ne rfl (n145.ne rfl (n141.ne rfl (n140.ne rfl (n136.ne rfl (n128.ne rfl (n127.ne rfl (n125.ne rfl (n124.ne rfl (n120.ne rfl (n118.ne rfl (n110.ne rfl (n98.ne rfl (n95.ne rfl (n94.ne rfl (n84.ne rfl (n82.ne rfl (n81.ne rfl (n80.ne rfl (n73.ne rfl (n72.ne rfl (n68.ne rfl (n67.ne rfl (n61.ne rfl (n60.ne rfl (n54.ne rfl (n53.ne rfl (n50.ne rfl (n49.ne rfl (n48.ne rfl (n47.ne rfl (n46.ne rfl (n40.ne rfl (n39.ne rfl (n37.ne rfl (n34.ne rfl n33.at_)))))))))))))))))))))))))))))))))))))))))
  have R1704 := R1703.snoc (n' := 4) rfl (fun vJ _ => vJ = .bool (hasP X t n a c)) rfl (fun _ _ _ _ h => h) (fun aS wS pS => by
      have eR170_2 : aS.eval (.tmp 81) = .bool false := pS.pre 2 rfl
      exact Does.val (wgT rfl (yl 2 false rfl eR170_2) rfl) (o_mv ((pS.old 9 rfl).trans e172)) (Gr.refl _) rfl rfl)
  have e173 := n168.ne rfl (n166.ne rfl (n158.ne rfl (n157.ne rfl (n155.ne rfl (n154.ne rfl (n146.ne rfl (n145.ne rfl (n141.ne rfl (n140.ne rfl (n136.ne rfl (n128.ne rfl (n127.ne rfl (n125.ne rfl (n124.ne rfl (n120.ne rfl (n118.ne rfl (n110.ne rfl (n98.ne rfl (n95.ne rfl (n94.ne rfl (n84.ne rfl (n82.ne rfl (n81.ne rfl (n80.ne rfl (n73.ne rfl (n72.ne rfl e71))))))))))))))))))))))))))
  have R1705 := R1704.snoc (n' := 5) rfl (fun vJ _ => vJ = .slice va X.length vc) rfl (fun _ _ _ _ h => h) (fun aS wS pS => by
      have eR170_2 : aS.eval (.tmp 81) = .bool false := pS.pre 2 rfl
      exact Does.val (wgT rfl (yl 2 false rfl eR170_2) rfl) (o_mv ((pS.old 0 rfl).trans e173)) (Gr.refl _) rfl rfl)
  have R1706 := R1705.snoc (n' := 6) rfl (fun vJ wJ => ∃ (maa1 : Option Addr) (mca1 : Nat), vJ = .slice maa1 ((X.map PtX.d).length) mca1 ∧ (RdA encDoc 592 wJ maa1 (X.map PtX.d))) rfl (fun _ _ _ g ⟨maa1, mca1, h, q0⟩ => ⟨maa1, mca1, h, q0.gr g⟩) (fun aS wS pS => by
      have eR170_2 : aS.eval (.tmp 81) = .bool false := pS.pre 2 rfl
      have eR170_4 : aS.eval (.tmp 83) = .slice va X.length vc := pS.pre 4 rfl
      exact Does.call (wgT rfl (yl 2 false rfl eR170_2) rfl) (o_f1 Try.func11 rfl rfl rfl (eR170_4)) (rmean_r X va vc (by omega) wS (hva.gr (G161.trans (gr_drew pS.gr))) (hma.gr (G161.trans (gr_drew pS.gr)))) (by rintro _ w2 ⟨maa1, mca1, rfl, hra1, g⟩; exact ⟨_, rfl, g, ⟨maa1, mca1, rfl, hra1⟩⟩) rfl)
  have e174 := n168.ne rfl (n166.ne rfl (n158.ne rfl (n157.ne rfl (n155.ne rfl (n154.ne rfl (n146.ne rfl (n145.ne rfl e144)))))))
  have R1707 := R1706.snoc (n' := 7) rfl (fun vJ _ => vJ = .agg #[.int .i64 (t : Int), .int .i64 (n : Int)]) rfl (fun _ _ _ _ h => h) (fun aS wS pS => by
      have eR170_2 : aS.eval (.tmp 81) = .bool false := pS.pre 2 rfl
      exact Does.val (wgT rfl (yl 2 false rfl eR170_2) rfl) (o_ldR ((pS.old 6 rfl).trans e174) (Bk.gr B162 (gr_drew pS.gr)) Try.underlying24 rfl (by kernel_rfl)) (Gr.refl _) rfl rfl)
  have e175 := n168.ne rfl (n166.ne rfl (n158.ne rfl (n157.ne rfl e156)))
  have R1708 := R1707.snoc (n' := 8) rfl (fun vJ _ => vJ = .agg #[.int .i64 (a : Int), .int .i64 (c : Int)]) rfl (fun _ _ _ _ h => h) (fun aS wS pS => by
      have eR170_2 : aS.eval (.tmp 81) = .bool false := pS.pre 2 rfl
      exact Does.val (wgT rfl (yl 2 false rfl eR170_2) rfl) (o_ldR ((pS.old 7 rfl).trans e175) (Bk.gr B163 (gr_drew pS.gr)) Try.underlying26 rfl (by kernel_rfl)) (Gr.refl _) rfl rfl)
  have R1709 := R1708.snoc (n' := 9) rfl (fun vJ _ => vJ = .bool (hasP X t n a c)) rfl (fun _ _ _ _ h => h) (fun aS wS pS => by
      have eR170_2 : aS.eval (.tmp 81) = .bool false := pS.pre 2 rfl
      obtain ⟨maa1, mca1, eR170_5, hra1⟩ := pS.pre 5 rfl
      have eR170_5 : aS.eval (.tmp 84) = .slice maa1 ((X.map PtX.d).length) mca1 := eR170_5
      have eR170_6 : aS.eval (.tmp 85) = .agg #[.int .i64 (t : Int), .int .i64 (n : Int)] := pS.pre 6 rfl
      have eR170_7 : aS.eval (.tmp 86) = .agg #[.int .i64 (a : Int), .int .i64 (c : Int)] := pS.pre 7 rfl
      exact Does.call (wgT rfl (yl 2 false rfl eR170_2) rfl) (o_f3 Try.func10 rfl rfl rfl (eR170_5) (eR170_6) (eR170_7)) (by have h := rknows_any (X.map PtX.d) maa1 mca1 t n a c wS (by rw [List.length_map]; omega) hra1 (d_okX X) ht hn hi.1 (by have := hi.2.2; omega); rw [knM_has X t n a c hn hi] at h; exact h) (by rintro _ w2 ⟨rfl, g⟩; exact ⟨_, rfl, g, rfl⟩) rfl)
  have R17010 := R1709.snoc (n' := 10) rfl (fun vJ _ => vJ = .bool false) rfl (fun _ _ _ _ h => h) (fun aS wS pS => by
      have eR170_2 : aS.eval (.tmp 81) = .bool false := pS.pre 2 rfl
      have eR170_3 : aS.eval (.tmp 82) = .bool (hasP X t n a c) := pS.pre 3 rfl
      have eR170_8 : aS.eval (.tmp 87) = .bool (hasP X t n a c) := pS.pre 8 rfl
      exact Does.val (wgT rfl (yl 2 false rfl eR170_2) rfl) (o_neqB (b := false) (eR170_3) (eR170_8) (by simp) Try.underlying4) (Gr.refl _) rfl rfl)
  have R17011 := R17010.snoc (n' := 11) rfl (fun vJ _ => vJ = .bool false) rfl (fun _ _ _ _ h => h) (fun aS wS pS => by
      have eR170_2 : aS.eval (.tmp 81) = .bool false := pS.pre 2 rfl
      have eR170_9 : aS.eval (.tmp 88) = .bool false := pS.pre 9 rfl
      exact Does.val (wn _ rfl) (o_pkF (eR170_2) (eR170_9)) (Gr.refl _) rfl rfl)
  refine R17011.run (k := 0) (L := #[true, true, true, true, true, true, true, true, true, true, true]) (by kernel_rfl) (by kernel_rfl) (by kernel_rfl) n168.ok (by kernel_rfl) (by kernel_rfl) (fun ap177 w178 p177 => ?_)
  have g179 := gr_drew p177.gr
  have G180 := G161.trans g179
  have B181 := B162.gr g179
  have B182 := B163.gr g179
  have B183 := B164.gr g179
  have B184 := B165.gr g179
  obtain ⟨maa1, mca1, ep177_5, hra1⟩ := p177.js 5 rfl
  have ep177_5 : ap177.eval (.tmp 84) = .slice maa1 ((X.map PtX.d).length) mca1 := ep177_5
  have A186 := Gr.refl w178
  refine wpAny_done (by kernel_rfl) ?_ _
  refine th_n (hK169 _ _ ?_)
  have ep177_10 : ap177.eval (.tmp 89) = .bool false := p177.js 10 rfl
  refine wp_cond_false (ep177_10) ?_
  refine wp_skip ?_
  refine th_n (hK142 _ _ ?_)
  refine wp_seq_k (fun K187 hK187 => ?_)
  refine wp_seq_k (fun K188 hK188 => ?_)
  refine wp_region_lit ?_
  have e189 := (p177.old 14 rfl).trans (n168.ne rfl (n166.ne rfl (n158.ne rfl (n157.ne rfl (n155.ne rfl (n154.ne rfl (n146.ne rfl (n145.ne rfl (n141.ne rfl (n140.ne rfl n136.at_))))))))))
  refine sv p177.ok rfl (wn _ rfl) rfl (o_mv e189) (fun an190 n190 => ?_)
  refine sv n190.ok rfl (wn _ rfl) rfl (o_neq (b := true) n190.at_ ev_const (by simp [show ¬ (chkP L) = 0 from hB])) (fun an191 n191 => ?_)
  refine wpList_nil ?_
  refine th_n (hK188 _ _ ?_)
  refine wp_cond_true (n191.at_) ?_
  refine wp_seq_k (fun K192 hK192 => ?_)
  refine wp_region_lit ?_
  have e193 := n191.ne rfl (n190.ne rfl ((p177.old 12 rfl).trans (n168.ne rfl (n166.ne rfl (n158.ne rfl (n157.ne rfl (n155.ne rfl (n154.ne rfl (n146.ne rfl (n145.ne rfl (n141.ne rfl (n140.ne rfl (n136.ne rfl (n128.ne rfl (n127.ne rfl (n125.ne rfl (n124.ne rfl (n120.ne rfl (n118.ne rfl (n110.ne rfl (n98.ne rfl (n95.ne rfl (n94.ne rfl (n84.ne rfl (n82.ne rfl (n81.ne rfl (n80.ne rfl (n73.ne rfl (n72.ne rfl (n68.ne rfl (n67.ne rfl (n61.ne rfl (n60.ne rfl (n54.ne rfl (n53.ne rfl n50.at_)))))))))))))))))))))))))))))))))))
  refine sv n191.ok rfl (wn _ rfl) rfl (o_mv e193) (fun an194 n194 => ?_)
  have e195 := n194.ne rfl (n191.ne rfl (n190.ne rfl e189))
  refine sv n194.ok rfl (wn _ rfl) rfl (o_mv e195) (fun an196 n196 => ?_)
  refine sv n196.ok rfl (wn _ rfl) rfl (o_eq (n196.ne rfl n194.at_) n196.at_ (decide_eq_true rfl)) (fun an197 n197 => ?_)
  refine sv n197.ok rfl (wn _ rfl) rfl (o_mv n197.at_) (fun an198 n198 => ?_)
  have e199 := n198.ne rfl (n197.ne rfl (n196.ne rfl (n194.ne rfl (n191.ne rfl (n190.ne rfl ((p177.old 11 rfl).trans (n168.ne rfl (n166.ne rfl (n158.ne rfl (n157.ne rfl (n155.ne rfl (n154.ne rfl (n146.ne rfl (n145.ne rfl (n141.ne rfl (n140.ne rfl (n136.ne rfl (n128.ne rfl (n127.ne rfl (n125.ne rfl (n124.ne rfl (n120.ne rfl (n118.ne rfl (n110.ne rfl (n98.ne rfl (n95.ne rfl (n94.ne rfl (n84.ne rfl (n82.ne rfl (n81.ne rfl (n80.ne rfl (n73.ne rfl (n72.ne rfl (n68.ne rfl (n67.ne rfl (n61.ne rfl (n60.ne rfl (n54.ne rfl (n53.ne rfl (n50.ne rfl n49.at_))))))))))))))))))))))))))))))))))))))))
  refine sv n198.ok rfl (wgT rfl (yl 3 true rfl n198.at_) rfl) rfl (o_mv e199) (fun an200 n200 => ?_)
  refine sv n200.ok rfl (wgT rfl (yl 3 true rfl (n200.ne rfl n198.at_)) rfl) rfl (o_not n200.at_ rfl) (fun an201 n201 => ?_)
  refine sv n201.ok rfl (wn _ rfl) rfl (o_pkT (n201.ne rfl (n200.ne rfl n198.at_)) n201.at_) (fun an202 n202 => ?_)
  refine sv n202.ok rfl (wn _ rfl) rfl (o_as n202.at_) (fun an203 n203 => ?_)
  refine wpList_nil ?_
  refine th_n (hK192 _ _ ?_)
  refine wp_ret ?_
  refine th_r ?_
  exact ret1 n203.ok rfl (n203.at_) ⟨rfl, G180⟩
set_option maxHeartbeats 8000000 in
set_option maxRecDepth 100000 in
theorem partSays_ok_ok_o1 (X : List PtX) (Y : List PtX) (va vb : Option Addr) (vc vd : Nat) (t n a c : Int) (hp : (pointB t n && dotB (a, c)) = false) (hP : pointB t n = false) (w : World) (hla : X.length ≤ 30) (hva : RdA encP 3 w va X) (hma : MeansP w X) (hlb : Y.length ≤ 30) (hvb : RdA encP 3 w vb Y) (hmb : MeansP w Y) :
    Calls Try.prog 3 #[.slice va X.length vc, .slice vb Y.length vd, .agg #[.int .i64 (t), .int .i64 (n)], .agg #[.int .i64 (a), .int .i64 (c)]] w fun e w' => e = .returned (.bool true) ∧ Gr w w' := by
  refine enter (N := 110) Try.func3 rfl rfl rfl (fun a0 ok0 h0 => ?_)
  have e0_0 : a0.eval (.tmp 0) = .slice va X.length vc := h0 0 _ rfl
  have e0_1 : a0.eval (.tmp 1) = .slice vb Y.length vd := h0 1 _ rfl
  have e0_2 : a0.eval (.tmp 2) = .agg #[.int .i64 (t), .int .i64 (n)] := h0 2 _ rfl
  have e0_3 : a0.eval (.tmp 3) = .agg #[.int .i64 (a), .int .i64 (c)] := h0 3 _ rfl
  clear h0
  have G0 := Gr.refl w
  refine wp_seq_k (fun K1 hK1 => ?_)
  refine wp_region_lit ?_
  refine sal (cs := #[.int .i64 (t), .int .i64 (n)]) ok0 rfl (wn _ rfl) rfl (o_box e0_2) (fun an2 w4 b3 W5 n2 => ?_)
  have l6 : w.heap.size ≤ b3 := by rw [W5.eq]; exact G0.size
  have G7 := G0.trans W5.gr
  refine sal (cs := #[.int .i64 (a), .int .i64 (c)]) n2.ok rfl (wn _ rfl) rfl (o_box (n2.ne rfl e0_3)) (fun an8 w10 b9 W11 n8 => ?_)
  have l12 : b3 < b9 := by rw [W11.eq]; exact W5.bk.lt
  have l13 : w.heap.size ≤ b9 := by rw [W11.eq]; exact G7.size
  have G14 := G7.trans W11.gr
  have B15 := W5.bk.gr W11.gr
  refine sv n8.ok rfl (wn _ rfl) rfl (o_as ev_const) (fun an16 n16 => ?_)
  refine wpList_nil ?_
  refine th_n (hK1 _ _ ?_)
  refine wp_seq_k (fun K17 hK17 => ?_)
  refine wp_region_lit ?_
  have e18 := n16.ne rfl (n8.ne rfl (n2.ne rfl e0_0))
  refine sv n16.ok rfl (wn _ rfl) rfl (o_mv e18) (fun an19 n19 => ?_)
  have e20 := n19.ne rfl (n16.ne rfl (n8.ne rfl n2.at_))
  refine sv n19.ok rfl (wn _ rfl) rfl (o_ldR e20 B15 Try.underlying24 rfl (by kernel_rfl)) (fun an21 n21 => ?_)
  have e22 := n21.ne rfl (n19.ne rfl (n16.ne rfl n8.at_))
  refine sv n21.ok rfl (wn _ rfl) rfl (o_ldR e22 W11.bk Try.underlying26 rfl (by kernel_rfl)) (fun an23 n23 => ?_)
  refine sc n23.ok rfl (wn _ rfl) rfl (o_f3 Try.func4 rfl rfl rfl (n23.ne rfl (n21.ne rfl n19.at_)) (n23.ne rfl n21.at_) n23.at_) (by have h := phas X va vc t n a c w10 hla (hva.gr G14) (hma.gr G14); rw [(hasV_o (K := X) hp).1, (hasV_o (K := X) hp).2] at h; exact h) ?_
  rintro _ w25 ⟨rfl, g26⟩
  refine ⟨_, rfl, fun an24 n24 => ?_⟩
  have G27 := G14.trans g26
  have B28 := B15.gr g26
  have B29 := W11.bk.gr g26
  refine sv n24.ok rfl (wn _ rfl) rfl (o_mv n24.at_) (fun an30 n30 => ?_)
  refine sv n30.ok rfl (wn _ rfl) rfl (o_ex n30.at_ rfl) (fun an31 n31 => ?_)
  refine sv n31.ok rfl (wn _ rfl) rfl (o_ex (n31.ne rfl n30.at_) rfl) (fun an32 n32 => ?_)
  refine sv n32.ok rfl (wn _ rfl) rfl (o_as (n32.ne rfl n31.at_)) (fun an33 n33 => ?_)
  refine sv n33.ok rfl (wn _ rfl) rfl (o_as (n33.ne rfl n32.at_)) (fun an34 n34 => ?_)
  refine wpList_nil ?_
  refine th_n (hK17 _ _ ?_)
  refine wp_seq_k (fun K35 hK35 => ?_)
  refine wp_region_lit ?_
  have e36 := n34.ne rfl (n33.ne rfl (n32.ne rfl (n31.ne rfl (n30.ne rfl (n24.ne rfl (n23.ne rfl (n21.ne rfl (n19.ne rfl e18))))))))
  refine sv n34.ok rfl (wn _ rfl) rfl (o_mv e36) (fun an37 n37 => ?_)
  have e38 := n37.ne rfl (n34.ne rfl (n33.ne rfl (n32.ne rfl (n31.ne rfl (n30.ne rfl (n24.ne rfl (n23.ne rfl (n21.ne rfl (n19.ne rfl (n16.ne rfl (n8.ne rfl (n2.ne rfl e0_1))))))))))))
  refine sv n37.ok rfl (wn _ rfl) rfl (o_mv e38) (fun an39 n39 => ?_)
  refine sc n39.ok rfl (wn _ rfl) rfl (o_f2 Try.func5 rfl rfl rfl (n39.ne rfl n37.at_) n39.at_) (pwithin_b X Y va vb vc vd (pwB (X.map PtX.d) (Y.map PtX.d)) (pwB_sub X Y) hla hlb w25 (hva.gr G27) (hvb.gr G27) (hma.gr G27) (hmb.gr G27)) ?_
  rintro _ w41 ⟨rfl, g42⟩
  refine ⟨_, rfl, fun an40 n40 => ?_⟩
  have G43 := G27.trans g42
  have B44 := B28.gr g42
  have B45 := B29.gr g42
  refine sv n40.ok rfl (wn _ rfl) rfl (o_mv n40.at_) (fun an46 n46 => ?_)
  refine sv n46.ok rfl (wn _ rfl) rfl (o_ex n46.at_ rfl) (fun an47 n47 => ?_)
  refine sv n47.ok rfl (wn _ rfl) rfl (o_ex (n47.ne rfl n46.at_) rfl) (fun an48 n48 => ?_)
  refine sv n48.ok rfl (wn _ rfl) rfl (o_as (n48.ne rfl n47.at_)) (fun an49 n49 => ?_)
  refine sv n49.ok rfl (wn _ rfl) rfl (o_as (n49.ne rfl n48.at_)) (fun an50 n50 => ?_)
  refine wpList_nil ?_
  refine th_n (hK35 _ _ ?_)
  refine wp_seq_k (fun K51 hK51 => ?_)
  refine wp_region_lit ?_
  have e52 := n50.ne rfl (n49.ne rfl (n48.ne rfl (n47.ne rfl (n46.ne rfl (n40.ne rfl (n39.ne rfl (n37.ne rfl e36)))))))
  refine sv n50.ok rfl (wn _ rfl) rfl (o_mv e52) (fun an53 n53 => ?_)
  refine sc n53.ok rfl (wn _ rfl) rfl (o_f1 Try.func6 rfl rfl rfl n53.at_) (rparts_ok X va vc w41 hla (hva.gr G43) (hma.gr G43)) ?_
  rintro _ w55 ⟨rfl, g56⟩
  refine ⟨_, rfl, fun an54 n54 => ?_⟩
  have G57 := G43.trans g56
  have B58 := B44.gr g56
  have B59 := B45.gr g56
  refine sv n54.ok rfl (wn _ rfl) rfl (o_mv (n54.ne rfl (n53.ne rfl e52))) (fun an60 n60 => ?_)
  refine sc n60.ok rfl (wn _ rfl) rfl (o_f1 Try.func6 rfl rfl rfl n60.at_) (rparts_ok X va vc w55 hla (hva.gr G57) (hma.gr G57)) ?_
  rintro _ w62 ⟨rfl, g63⟩
  refine ⟨_, rfl, fun an61 n61 => ?_⟩
  have G64 := G57.trans g63
  have B65 := B58.gr g63
  have B66 := B59.gr g63
  refine sv n61.ok rfl (wn _ rfl) rfl (o_as (n61.ne rfl (n60.ne rfl n54.at_))) (fun an67 n67 => ?_)
  refine sv n67.ok rfl (wn _ rfl) rfl (o_as (n67.ne rfl n61.at_)) (fun an68 n68 => ?_)
  refine wpList_nil ?_
  refine th_n (hK51 _ _ ?_)
  refine wp_seq_k (fun K69 hK69 => ?_)
  refine wp_seq_k (fun K70 hK70 => ?_)
  refine wp_region_lit ?_
  have e71 := n68.ne rfl (n67.ne rfl (n61.ne rfl (n60.ne rfl (n54.ne rfl (n53.ne rfl e52)))))
  refine sv n68.ok rfl (wn _ rfl) rfl (o_mv e71) (fun an72 n72 => ?_)
  refine sc n72.ok rfl (wn _ rfl) rfl (o_f1 Try.func7 rfl rfl rfl n72.at_) (pcheck_ok X va vc w62 hla (hva.gr G64) (hma.gr G64)) ?_
  rintro _ w74 ⟨rfl, g75⟩
  refine ⟨_, rfl, fun an73 n73 => ?_⟩
  have G76 := G64.trans g75
  have B77 := B65.gr g75
  have B78 := B66.gr g75
  have e79 := n73.ne rfl (n72.ne rfl (n68.ne rfl n67.at_))
  refine sv n73.ok rfl (wn _ rfl) rfl (o_mv e79) (fun an80 n80 => ?_)
  refine sv n80.ok rfl (wn _ rfl) rfl (o_neq (b := false) (n80.ne rfl n73.at_) n80.at_ (by decide)) (fun an81 n81 => ?_)
  refine sv n81.ok rfl (wn _ rfl) rfl (o_mv n81.at_) (fun an82 n82 => ?_)
  obtain ⟨i83, i83a, i83b, i83c⟩ := info3_of (show (Try.prog.info? 3).map (fun i => (i.zero, i.size)) = some (some (.int .i64 0), 1) by kernel_rfl)
  refine sals (cs := #[.int .i64 0]) n82.ok rfl (wgT rfl (yl 4 false rfl n82.at_) rfl) rfl (o_bs (vs := [(0, .int .i64 0)]) (by simp [ev_const]) Try.underlying32 i83a i83b (by rw [i83c]; rfl) (by rw [i83c]; rfl) (by rw [i83c]; kernel_rfl)) (fun an84 w86 b85 W87 n84 => ?_)
  have l88 : b3 < b85 := by rw [W87.eq]; exact B77.lt
  have l89 : b9 < b85 := by rw [W87.eq]; exact B78.lt
  have l90 : w.heap.size ≤ b85 := by rw [W87.eq]; exact G76.size
  have G91 := G76.trans W87.gr
  have B92 := B77.gr W87.gr
  have B93 := B78.gr W87.gr
  refine sv n84.ok rfl (wgT rfl (yl 4 false rfl (n84.ne rfl n82.at_)) rfl) rfl (o_bd (cells := #[.slice (some ⟨b85, 0, none⟩) 1 1, .slice none 0 0]) (vs := [(0, .slice (some ⟨b85, 0, none⟩) 1 1)]) (by simp [n84.at_, ev_const]) (by kernel_rfl)) (fun an94 n94 => ?_)
  refine sv n94.ok rfl (wgT rfl (yl 4 false rfl (n94.ne rfl (n84.ne rfl n82.at_))) rfl) rfl (o_bd (cells := #[.slice none 0 0, .slice (some ⟨b85, 0, none⟩) 1 1, .slice none 0 0]) (vs := [(1, .agg #[.slice (some ⟨b85, 0, none⟩) 1 1, .slice none 0 0])]) (by simp [n94.at_, ev_const]) (by kernel_rfl)) (fun an95 n95 => ?_)
  have e96 := n95.ne rfl (n94.ne rfl (n84.ne rfl n82.at_))
  obtain ⟨i97, i97a, i97b, i97c⟩ := info3_of (show (Try.prog.info? 38).map (fun i => (i.zero, i.size)) = some (some (.agg #[.slice none 0 0, .slice none 0 0, .slice none 0 0]), 3) by kernel_rfl)
  refine sals (cs := #[.slice none 0 0, .slice (some ⟨b85, 0, none⟩) 1 1, .slice none 0 0]) n95.ok rfl (wgT rfl (yl 4 false rfl e96) rfl) rfl (o_bs (vs := [(0, .agg #[.slice none 0 0, .slice (some ⟨b85, 0, none⟩) 1 1, .slice none 0 0])]) (by simp [n95.at_, ev_const]) Try.underlying22 i97a i97b (by rw [i97c]; rfl) (by rw [i97c]; rfl) (by rw [i97c]; kernel_rfl)) (fun an98 w100 b99 W101 n98 => ?_)
  have l102 : b3 < b99 := by rw [W101.eq]; exact B92.lt
  have l103 : b9 < b99 := by rw [W101.eq]; exact B93.lt
  have l104 : b85 < b99 := by rw [W101.eq]; exact W87.bk.lt
  have l105 : w.heap.size ≤ b99 := by rw [W101.eq]; exact G91.size
  have G106 := G91.trans W101.gr
  have B107 := B92.gr W101.gr
  have B108 := B93.gr W101.gr
  have B109 := W87.bk.gr W101.gr
  refine sc n98.ok rfl (wgT rfl (yl 4 false rfl (n98.ne rfl e96)) rfl) rfl (o_f1 Try.func7 rfl rfl rfl n98.at_) (pcheck_lit _ _ _ _ w100 W101.bk B109) ?_
  rintro _ w111 ⟨rfl, g112⟩
  refine ⟨_, rfl, fun an110 n110 => ?_⟩
  have G113 := G106.trans g112
  have B114 := B107.gr g112
  have B115 := B108.gr g112
  have B116 := B109.gr g112
  have B117 := W101.bk.gr g112
  refine sv n110.ok rfl (wgT rfl (yl 4 false rfl (n110.ne rfl (n98.ne rfl e96))) rfl) rfl (o_neq (b := false) n110.at_ ev_const (by decide)) (fun an118 n118 => ?_)
  have e119 := n118.ne rfl (n110.ne rfl (n98.ne rfl e96))
  refine sv n118.ok rfl (wn _ rfl) rfl (o_pkF e119 n118.at_) (fun an120 n120 => ?_)
  refine wpList_nil ?_
  refine th_n (hK70 _ _ ?_)
  refine wp_cond_false (n120.at_) ?_
  refine wp_skip ?_
  refine th_n (hK69 _ _ ?_)
  refine wp_seq_k (fun K121 hK121 => ?_)
  refine wp_seq_k (fun K122 hK122 => ?_)
  refine wp_region_lit ?_
  have e123 := n120.ne rfl (n118.ne rfl (n110.ne rfl (n98.ne rfl (n95.ne rfl (n94.ne rfl (n84.ne rfl (n82.ne rfl (n81.ne rfl (n80.ne rfl (n73.ne rfl (n72.ne rfl n68.at_)))))))))))
  refine sv n120.ok rfl (wn _ rfl) rfl (o_mv e123) (fun an124 n124 => ?_)
  refine sv n124.ok rfl (wn _ rfl) rfl (o_eq (b := true) n124.at_ ev_const (by decide)) (fun an125 n125 => ?_)
  refine wpList_nil ?_
  refine th_n (hK122 _ _ ?_)
  refine wp_cond_true (n125.at_) ?_
  refine wp_region_lit ?_
  have e126 := n125.ne rfl (n124.ne rfl (n120.ne rfl (n118.ne rfl (n110.ne rfl (n98.ne rfl (n95.ne rfl (n94.ne rfl (n84.ne rfl (n82.ne rfl (n81.ne rfl (n80.ne rfl (n73.ne rfl (n72.ne rfl (n68.ne rfl (n67.ne rfl (n61.ne rfl (n60.ne rfl (n54.ne rfl (n53.ne rfl (n50.ne rfl (n49.ne rfl (n48.ne rfl (n47.ne rfl (n46.ne rfl (n40.ne rfl (n39.ne rfl e38))))))))))))))))))))))))))
  refine sv n125.ok rfl (wn _ rfl) rfl (o_mv e126) (fun an127 n127 => ?_)
  refine sc n127.ok rfl (wn _ rfl) rfl (o_f1 Try.func6 rfl rfl rfl n127.at_) (rparts_ok Y vb vd w111 hlb (hvb.gr G113) (hmb.gr G113)) ?_
  rintro _ w129 ⟨rfl, g130⟩
  refine ⟨_, rfl, fun an128 n128 => ?_⟩
  have G131 := G113.trans g130
  have B132 := B114.gr g130
  have B133 := B115.gr g130
  have B134 := B116.gr g130
  have B135 := B117.gr g130
  refine sv n128.ok rfl (wn _ rfl) rfl (o_as n128.at_) (fun an136 n136 => ?_)
  refine wpList_nil ?_
  refine th_n (hK121 _ _ ?_)
  refine wp_seq_k (fun K137 hK137 => ?_)
  refine wp_seq_k (fun K138 hK138 => ?_)
  refine wp_region_lit ?_
  have e139 := n136.ne rfl (n128.ne rfl (n127.ne rfl (n125.ne rfl (n124.ne rfl (n120.ne rfl (n118.ne rfl (n110.ne rfl (n98.ne rfl (n95.ne rfl (n94.ne rfl (n84.ne rfl (n82.ne rfl (n81.ne rfl (n80.ne rfl e79))))))))))))))
  refine sv n136.ok rfl (wn _ rfl) rfl (o_mv e139) (fun an140 n140 => ?_)
  refine sv n140.ok rfl (wn _ rfl) rfl (o_neq (b := false) n140.at_ ev_const (by decide)) (fun an141 n141 => ?_)
  refine wpList_nil ?_
  refine th_n (hK138 _ _ ?_)
  refine wp_cond_false (n141.at_) ?_
  refine wp_skip ?_
  refine th_n (hK137 _ _ ?_)
  refine wp_seq_k (fun K142 hK142 => ?_)
  refine wp_seq_k (fun K143 hK143 => ?_)
  refine wp_region_lit ?_
  have e144 := n141.ne rfl (n140.ne rfl (n136.ne rfl (n128.ne rfl (n127.ne rfl (n125.ne rfl (n124.ne rfl (n120.ne rfl (n118.ne rfl (n110.ne rfl (n98.ne rfl (n95.ne rfl (n94.ne rfl (n84.ne rfl (n82.ne rfl (n81.ne rfl (n80.ne rfl (n73.ne rfl (n72.ne rfl (n68.ne rfl (n67.ne rfl (n61.ne rfl (n60.ne rfl (n54.ne rfl (n53.ne rfl (n50.ne rfl (n49.ne rfl (n48.ne rfl (n47.ne rfl (n46.ne rfl (n40.ne rfl (n39.ne rfl (n37.ne rfl (n34.ne rfl (n33.ne rfl (n32.ne rfl (n31.ne rfl (n30.ne rfl (n24.ne rfl (n23.ne rfl (n21.ne rfl e20))))))))))))))))))))))))))))))))))))))))
  refine sv n141.ok rfl (wn _ rfl) rfl (o_ldR e144 B132 Try.underlying24 rfl (by kernel_rfl)) (fun an145 n145 => ?_)
  refine sc n145.ok rfl (wn _ rfl) rfl (o_f1 Try.func8 rfl rfl rfl n145.at_) (by have h := rpoint_any t n w129; rw [hP] at h; exact h) ?_
  rintro _ w147 ⟨rfl, g148⟩
  refine ⟨_, rfl, fun an146 n146 => ?_⟩
  have G149 := G131.trans g148
  have B150 := B132.gr g148
  have B151 := B133.gr g148
  have B152 := B134.gr g148
  have B153 := B135.gr g148
  refine sv n146.ok rfl (wn _ rfl) rfl (o_not n146.at_ rfl) (fun an154 n154 => ?_)
  refine sv n154.ok rfl (wn _ rfl) rfl (o_mv n154.at_) (fun an155 n155 => ?_)
  refine sn n155.ok rfl (wgF rfl (yl 3 true rfl n155.at_) rfl) rfl (fun an156 n156 => ?_)
  refine sn n156.ok rfl (wgF rfl (yl 3 true rfl (n156.ne rfl n155.at_)) rfl) rfl (fun an157 n157 => ?_)
  refine sn n157.ok rfl (wgF rfl (yl 3 true rfl (n157.ne rfl (n156.ne rfl n155.at_))) rfl) rfl (fun an158 n158 => ?_)
  have e159 := n158.ne rfl (n157.ne rfl (n156.ne rfl n155.at_))
  refine sv n158.ok rfl (wn _ rfl) rfl (o_pkT e159 ev_const) (fun an160 n160 => ?_)
  refine wpList_nil ?_
  refine th_n (hK143 _ _ ?_)
  refine wp_cond_true (n160.at_) ?_
  refine wp_seq_k (fun K161 hK161 => ?_)
  refine wp_region_lit ?_
  have e162 := n160.ne rfl (n158.ne rfl (n157.ne rfl (n156.ne rfl (n155.ne rfl (n154.ne rfl (n146.ne rfl (n145.ne rfl (n141.ne rfl (n140.ne rfl (n136.ne rfl (n128.ne rfl (n127.ne rfl (n125.ne rfl (n124.ne rfl (n120.ne rfl (n118.ne rfl (n110.ne rfl (n98.ne rfl (n95.ne rfl (n94.ne rfl (n84.ne rfl (n82.ne rfl (n81.ne rfl (n80.ne rfl (n73.ne rfl (n72.ne rfl (n68.ne rfl (n67.ne rfl (n61.ne rfl (n60.ne rfl (n54.ne rfl (n53.ne rfl (n50.ne rfl (n49.ne rfl (n48.ne rfl (n47.ne rfl (n46.ne rfl (n40.ne rfl (n39.ne rfl (n37.ne rfl n34.at_))))))))))))))))))))))))))))))))))))))))
  refine sv n160.ok rfl (wn _ rfl) rfl (o_mv e162) (fun an163 n163 => ?_)
  refine sv n163.ok rfl (wn _ rfl) rfl (o_neq (b := false) n163.at_ ev_const (by decide)) (fun an164 n164 => ?_)
  refine sv n164.ok rfl (wn _ rfl) rfl (o_mv n164.at_) (fun an165 n165 => ?_)
  have e166 := n165.ne rfl (n164.ne rfl (n163.ne rfl (n160.ne rfl (n158.ne rfl (n157.ne rfl (n156.ne rfl (n155.ne rfl (n154.ne rfl (n146.ne rfl (n145.ne rfl (n141.ne rfl (n140.ne rfl (n136.ne rfl (n128.ne rfl (n127.ne rfl (n125.ne rfl (n124.ne rfl (n120.ne rfl (n118.ne rfl (n110.ne rfl (n98.ne rfl (n95.ne rfl (n94.ne rfl (n84.ne rfl (n82.ne rfl (n81.ne rfl (n80.ne rfl (n73.ne rfl (n72.ne rfl (n68.ne rfl (n67.ne rfl (n61.ne rfl (n60.ne rfl (n54.ne rfl (n53.ne rfl (n50.ne rfl (n49.ne rfl (n48.ne rfl (n47.ne rfl (n46.ne rfl (n40.ne rfl (n39.ne rfl (n37.ne rfl (n34.ne rfl n33.at_))))))))))))))))))))))))))))))))))))))))))))
  refine sv n165.ok rfl (wgT rfl (yl 2 false rfl n165.at_) rfl) rfl (o_mv e166) (fun an167 n167 => ?_)
  refine sv n167.ok rfl (wn _ rfl) rfl (o_pkF (n167.ne rfl n165.at_) n167.at_) (fun an168 n168 => ?_)
  refine wpList_nil ?_
  refine th_n (hK161 _ _ ?_)
  refine wp_cond_false (n168.at_) ?_
  refine wp_skip ?_
  refine th_n (hK142 _ _ ?_)
  refine wp_seq_k (fun K169 hK169 => ?_)
  refine wp_seq_k (fun K170 hK170 => ?_)
  refine wp_region_lit ?_
  have e171 := n168.ne rfl (n167.ne rfl (n165.ne rfl (n164.ne rfl (n163.ne rfl (n160.ne rfl (n158.ne rfl (n157.ne rfl (n156.ne rfl (n155.ne rfl (n154.ne rfl (n146.ne rfl (n145.ne rfl (n141.ne rfl (n140.ne rfl n136.at_))))))))))))))
  refine sv n168.ok rfl (wn _ rfl) rfl (o_mv e171) (fun an172 n172 => ?_)
  refine sv n172.ok rfl (wn _ rfl) rfl (o_neq (b := false) n172.at_ ev_const (by decide)) (fun an173 n173 => ?_)
  refine wpList_nil ?_
  refine th_n (hK170 _ _ ?_)
  refine wp_cond_false (n173.at_) ?_
  refine wp_skip ?_
  refine th_n (hK169 _ _ ?_)
  refine wp_seq_k (fun K174 hK174 => ?_)
  refine wp_region_lit ?_
  have e175 := n173.ne rfl (n172.ne rfl (n168.ne rfl (n167.ne rfl (n165.ne rfl (n164.ne rfl (n163.ne rfl (n160.ne rfl (n158.ne rfl (n157.ne rfl (n156.ne rfl (n155.ne rfl (n154.ne rfl (n146.ne rfl (n145.ne rfl (n141.ne rfl (n140.ne rfl (n136.ne rfl (n128.ne rfl (n127.ne rfl (n125.ne rfl (n124.ne rfl (n120.ne rfl (n118.ne rfl (n110.ne rfl (n98.ne rfl (n95.ne rfl (n94.ne rfl (n84.ne rfl (n82.ne rfl (n81.ne rfl (n80.ne rfl (n73.ne rfl (n72.ne rfl (n68.ne rfl (n67.ne rfl (n61.ne rfl (n60.ne rfl (n54.ne rfl (n53.ne rfl n50.at_)))))))))))))))))))))))))))))))))))))))
  refine sv n173.ok rfl (wn _ rfl) rfl (o_mv e175) (fun an176 n176 => ?_)
  refine sv n176.ok rfl (wn _ rfl) rfl (o_eq (b := true) n176.at_ ev_const (by decide)) (fun an177 n177 => ?_)
  refine sv n177.ok rfl (wn _ rfl) rfl (o_mv n177.at_) (fun an178 n178 => ?_)
  have e179 := n178.ne rfl (n177.ne rfl (n176.ne rfl (n173.ne rfl (n172.ne rfl (n168.ne rfl (n167.ne rfl (n165.ne rfl (n164.ne rfl (n163.ne rfl (n160.ne rfl (n158.ne rfl (n157.ne rfl (n156.ne rfl (n155.ne rfl (n154.ne rfl (n146.ne rfl (n145.ne rfl (n141.ne rfl (n140.ne rfl (n136.ne rfl (n128.ne rfl (n127.ne rfl (n125.ne rfl (n124.ne rfl (n120.ne rfl (n118.ne rfl (n110.ne rfl (n98.ne rfl (n95.ne rfl (n94.ne rfl (n84.ne rfl (n82.ne rfl (n81.ne rfl (n80.ne rfl (n73.ne rfl (n72.ne rfl (n68.ne rfl (n67.ne rfl (n61.ne rfl (n60.ne rfl (n54.ne rfl (n53.ne rfl (n50.ne rfl n49.at_)))))))))))))))))))))))))))))))))))))))))))
  refine sv n178.ok rfl (wgT rfl (yl 2 true rfl n178.at_) rfl) rfl (o_mv e179) (fun an180 n180 => ?_)
  have e181 := n180.ne rfl (n178.ne rfl (n177.ne rfl (n176.ne rfl (n173.ne rfl (n172.ne rfl (n168.ne rfl (n167.ne rfl (n165.ne rfl (n164.ne rfl (n163.ne rfl (n160.ne rfl (n158.ne rfl (n157.ne rfl (n156.ne rfl (n155.ne rfl (n154.ne rfl (n146.ne rfl (n145.ne rfl (n141.ne rfl (n140.ne rfl (n136.ne rfl (n128.ne rfl (n127.ne rfl (n125.ne rfl (n124.ne rfl (n120.ne rfl (n118.ne rfl (n110.ne rfl (n98.ne rfl (n95.ne rfl (n94.ne rfl (n84.ne rfl (n82.ne rfl (n81.ne rfl (n80.ne rfl (n73.ne rfl (n72.ne rfl e71)))))))))))))))))))))))))))))))))))))
  refine sv n180.ok rfl (wgT rfl (yl 2 true rfl (n180.ne rfl n178.at_)) rfl) rfl (o_mv e181) (fun an182 n182 => ?_)
  refine sc n182.ok rfl (wgT rfl (yl 2 true rfl (n182.ne rfl (n180.ne rfl n178.at_))) rfl) rfl (o_f1 Try.func11 rfl rfl rfl n182.at_) (rmean_r X va vc (by omega) w147 (hva.gr G149) (hma.gr G149)) ?_
  rintro _ w184 ⟨maa1, mca1, rfl, hra1, g185⟩
  refine ⟨_, rfl, fun an183 n183 => ?_⟩
  have G186 := G149.trans g185
  have B187 := B150.gr g185
  have B188 := B151.gr g185
  have B189 := B152.gr g185
  have B190 := B153.gr g185
  have A192 := Gr.refl w184
  have e193 := n183.ne rfl (n182.ne rfl (n180.ne rfl n178.at_))
  have e194 := n183.ne rfl (n182.ne rfl (n180.ne rfl (n178.ne rfl (n177.ne rfl (n176.ne rfl (n173.ne rfl (n172.ne rfl (n168.ne rfl (n167.ne rfl (n165.ne rfl (n164.ne rfl (n163.ne rfl (n160.ne rfl (n158.ne rfl (n157.ne rfl (n156.ne rfl (n155.ne rfl (n154.ne rfl (n146.ne rfl (n145.ne rfl (n141.ne rfl (n140.ne rfl (n136.ne rfl (n128.ne rfl (n127.ne rfl e126)))))))))))))))))))))))))
  refine sv n183.ok rfl (wgT rfl (yl 2 true rfl e193) rfl) rfl (o_mv e194) (fun an195 n195 => ?_)
  refine sc n195.ok rfl (wgT rfl (yl 2 true rfl (n195.ne rfl e193)) rfl) rfl (o_f1 Try.func11 rfl rfl rfl n195.at_) (rmean_r Y vb vd (by omega) w184 (hvb.gr G186) (hmb.gr G186)) ?_
  rintro _ w197 ⟨mab2, mcb2, rfl, hrb2, g198⟩
  refine ⟨_, rfl, fun an196 n196 => ?_⟩
  have G199 := G186.trans g198
  have B200 := B187.gr g198
  have B201 := B188.gr g198
  have B202 := B189.gr g198
  have B203 := B190.gr g198
  have A204 := A192.trans g198
  have A206 := Gr.refl w197
  refine sc n196.ok rfl (wgT rfl (yl 2 true rfl (n196.ne rfl (n195.ne rfl e193))) rfl) rfl (o_f2 Try.func12 rfl rfl rfl (n196.ne rfl (n195.ne rfl n183.at_)) n196.at_) (rpw_any (X.map PtX.d) (Y.map PtX.d) maa1 mab2 mca1 mcb2 w197 (by rw [List.length_map]; omega) (by rw [List.length_map]; omega) (hra1.gr A204) (hrb2.gr A206) (d_okX X) (d_okX Y)) ?_
  rintro _ w208 ⟨rfl, g209⟩
  refine ⟨_, rfl, fun an207 n207 => ?_⟩
  have G210 := G199.trans g209
  have B211 := B200.gr g209
  have B212 := B201.gr g209
  have B213 := B202.gr g209
  have B214 := B203.gr g209
  have A215 := A204.trans g209
  have A216 := A206.trans g209
  have e217 := n207.ne rfl (n196.ne rfl (n195.ne rfl e193))
  have e218 := n207.ne rfl (n196.ne rfl (n195.ne rfl (n183.ne rfl (n182.ne rfl n180.at_))))
  refine sv n207.ok rfl (wgT rfl (yl 2 true rfl e217) rfl) rfl (o_eqB (b := true) e218 n207.at_ (by simp) Try.underlying4) (fun an219 n219 => ?_)
  refine sv n219.ok rfl (wn _ rfl) rfl (o_pkT (n219.ne rfl e217) n219.at_) (fun an220 n220 => ?_)
  refine sv n220.ok rfl (wn _ rfl) rfl (o_as n220.at_) (fun an221 n221 => ?_)
  refine wpList_nil ?_
  refine th_n (hK174 _ _ ?_)
  refine wp_ret ?_
  exact ret1 n221.ok rfl (n221.at_) ⟨rfl, G210⟩
set_option maxHeartbeats 8000000 in
set_option maxRecDepth 100000 in
theorem partSays_ok_ok_o2 (X : List PtX) (Y : List PtX) (va vb : Option Addr) (vc vd : Nat) (t n a c : Int) (hp : (pointB t n && dotB (a, c)) = false) (hP : pointB t n = true) (hD : dotB (a, c) = false) (w : World) (hla : X.length ≤ 30) (hva : RdA encP 3 w va X) (hma : MeansP w X) (hlb : Y.length ≤ 30) (hvb : RdA encP 3 w vb Y) (hmb : MeansP w Y) :
    Calls Try.prog 3 #[.slice va X.length vc, .slice vb Y.length vd, .agg #[.int .i64 (t), .int .i64 (n)], .agg #[.int .i64 (a), .int .i64 (c)]] w fun e w' => e = .returned (.bool true) ∧ Gr w w' := by
  refine enter (N := 110) Try.func3 rfl rfl rfl (fun a0 ok0 h0 => ?_)
  have e0_0 : a0.eval (.tmp 0) = .slice va X.length vc := h0 0 _ rfl
  have e0_1 : a0.eval (.tmp 1) = .slice vb Y.length vd := h0 1 _ rfl
  have e0_2 : a0.eval (.tmp 2) = .agg #[.int .i64 (t), .int .i64 (n)] := h0 2 _ rfl
  have e0_3 : a0.eval (.tmp 3) = .agg #[.int .i64 (a), .int .i64 (c)] := h0 3 _ rfl
  clear h0
  have G0 := Gr.refl w
  refine wp_seq_k (fun K1 hK1 => ?_)
  refine wp_region_lit ?_
  refine sal (cs := #[.int .i64 (t), .int .i64 (n)]) ok0 rfl (wn _ rfl) rfl (o_box e0_2) (fun an2 w4 b3 W5 n2 => ?_)
  have l6 : w.heap.size ≤ b3 := by rw [W5.eq]; exact G0.size
  have G7 := G0.trans W5.gr
  refine sal (cs := #[.int .i64 (a), .int .i64 (c)]) n2.ok rfl (wn _ rfl) rfl (o_box (n2.ne rfl e0_3)) (fun an8 w10 b9 W11 n8 => ?_)
  have l12 : b3 < b9 := by rw [W11.eq]; exact W5.bk.lt
  have l13 : w.heap.size ≤ b9 := by rw [W11.eq]; exact G7.size
  have G14 := G7.trans W11.gr
  have B15 := W5.bk.gr W11.gr
  refine sv n8.ok rfl (wn _ rfl) rfl (o_as ev_const) (fun an16 n16 => ?_)
  refine wpList_nil ?_
  refine th_n (hK1 _ _ ?_)
  refine wp_seq_k (fun K17 hK17 => ?_)
  refine wp_region_lit ?_
  have e18 := n16.ne rfl (n8.ne rfl (n2.ne rfl e0_0))
  refine sv n16.ok rfl (wn _ rfl) rfl (o_mv e18) (fun an19 n19 => ?_)
  have e20 := n19.ne rfl (n16.ne rfl (n8.ne rfl n2.at_))
  refine sv n19.ok rfl (wn _ rfl) rfl (o_ldR e20 B15 Try.underlying24 rfl (by kernel_rfl)) (fun an21 n21 => ?_)
  have e22 := n21.ne rfl (n19.ne rfl (n16.ne rfl n8.at_))
  refine sv n21.ok rfl (wn _ rfl) rfl (o_ldR e22 W11.bk Try.underlying26 rfl (by kernel_rfl)) (fun an23 n23 => ?_)
  refine sc n23.ok rfl (wn _ rfl) rfl (o_f3 Try.func4 rfl rfl rfl (n23.ne rfl (n21.ne rfl n19.at_)) (n23.ne rfl n21.at_) n23.at_) (by have h := phas X va vc t n a c w10 hla (hva.gr G14) (hma.gr G14); rw [(hasV_o (K := X) hp).1, (hasV_o (K := X) hp).2] at h; exact h) ?_
  rintro _ w25 ⟨rfl, g26⟩
  refine ⟨_, rfl, fun an24 n24 => ?_⟩
  have G27 := G14.trans g26
  have B28 := B15.gr g26
  have B29 := W11.bk.gr g26
  refine sv n24.ok rfl (wn _ rfl) rfl (o_mv n24.at_) (fun an30 n30 => ?_)
  refine sv n30.ok rfl (wn _ rfl) rfl (o_ex n30.at_ rfl) (fun an31 n31 => ?_)
  refine sv n31.ok rfl (wn _ rfl) rfl (o_ex (n31.ne rfl n30.at_) rfl) (fun an32 n32 => ?_)
  refine sv n32.ok rfl (wn _ rfl) rfl (o_as (n32.ne rfl n31.at_)) (fun an33 n33 => ?_)
  refine sv n33.ok rfl (wn _ rfl) rfl (o_as (n33.ne rfl n32.at_)) (fun an34 n34 => ?_)
  refine wpList_nil ?_
  refine th_n (hK17 _ _ ?_)
  refine wp_seq_k (fun K35 hK35 => ?_)
  refine wp_region_lit ?_
  have e36 := n34.ne rfl (n33.ne rfl (n32.ne rfl (n31.ne rfl (n30.ne rfl (n24.ne rfl (n23.ne rfl (n21.ne rfl (n19.ne rfl e18))))))))
  refine sv n34.ok rfl (wn _ rfl) rfl (o_mv e36) (fun an37 n37 => ?_)
  have e38 := n37.ne rfl (n34.ne rfl (n33.ne rfl (n32.ne rfl (n31.ne rfl (n30.ne rfl (n24.ne rfl (n23.ne rfl (n21.ne rfl (n19.ne rfl (n16.ne rfl (n8.ne rfl (n2.ne rfl e0_1))))))))))))
  refine sv n37.ok rfl (wn _ rfl) rfl (o_mv e38) (fun an39 n39 => ?_)
  refine sc n39.ok rfl (wn _ rfl) rfl (o_f2 Try.func5 rfl rfl rfl (n39.ne rfl n37.at_) n39.at_) (pwithin_b X Y va vb vc vd (pwB (X.map PtX.d) (Y.map PtX.d)) (pwB_sub X Y) hla hlb w25 (hva.gr G27) (hvb.gr G27) (hma.gr G27) (hmb.gr G27)) ?_
  rintro _ w41 ⟨rfl, g42⟩
  refine ⟨_, rfl, fun an40 n40 => ?_⟩
  have G43 := G27.trans g42
  have B44 := B28.gr g42
  have B45 := B29.gr g42
  refine sv n40.ok rfl (wn _ rfl) rfl (o_mv n40.at_) (fun an46 n46 => ?_)
  refine sv n46.ok rfl (wn _ rfl) rfl (o_ex n46.at_ rfl) (fun an47 n47 => ?_)
  refine sv n47.ok rfl (wn _ rfl) rfl (o_ex (n47.ne rfl n46.at_) rfl) (fun an48 n48 => ?_)
  refine sv n48.ok rfl (wn _ rfl) rfl (o_as (n48.ne rfl n47.at_)) (fun an49 n49 => ?_)
  refine sv n49.ok rfl (wn _ rfl) rfl (o_as (n49.ne rfl n48.at_)) (fun an50 n50 => ?_)
  refine wpList_nil ?_
  refine th_n (hK35 _ _ ?_)
  refine wp_seq_k (fun K51 hK51 => ?_)
  refine wp_region_lit ?_
  have e52 := n50.ne rfl (n49.ne rfl (n48.ne rfl (n47.ne rfl (n46.ne rfl (n40.ne rfl (n39.ne rfl (n37.ne rfl e36)))))))
  refine sv n50.ok rfl (wn _ rfl) rfl (o_mv e52) (fun an53 n53 => ?_)
  refine sc n53.ok rfl (wn _ rfl) rfl (o_f1 Try.func6 rfl rfl rfl n53.at_) (rparts_ok X va vc w41 hla (hva.gr G43) (hma.gr G43)) ?_
  rintro _ w55 ⟨rfl, g56⟩
  refine ⟨_, rfl, fun an54 n54 => ?_⟩
  have G57 := G43.trans g56
  have B58 := B44.gr g56
  have B59 := B45.gr g56
  refine sv n54.ok rfl (wn _ rfl) rfl (o_mv (n54.ne rfl (n53.ne rfl e52))) (fun an60 n60 => ?_)
  refine sc n60.ok rfl (wn _ rfl) rfl (o_f1 Try.func6 rfl rfl rfl n60.at_) (rparts_ok X va vc w55 hla (hva.gr G57) (hma.gr G57)) ?_
  rintro _ w62 ⟨rfl, g63⟩
  refine ⟨_, rfl, fun an61 n61 => ?_⟩
  have G64 := G57.trans g63
  have B65 := B58.gr g63
  have B66 := B59.gr g63
  refine sv n61.ok rfl (wn _ rfl) rfl (o_as (n61.ne rfl (n60.ne rfl n54.at_))) (fun an67 n67 => ?_)
  refine sv n67.ok rfl (wn _ rfl) rfl (o_as (n67.ne rfl n61.at_)) (fun an68 n68 => ?_)
  refine wpList_nil ?_
  refine th_n (hK51 _ _ ?_)
  refine wp_seq_k (fun K69 hK69 => ?_)
  refine wp_seq_k (fun K70 hK70 => ?_)
  refine wp_region_lit ?_
  have e71 := n68.ne rfl (n67.ne rfl (n61.ne rfl (n60.ne rfl (n54.ne rfl (n53.ne rfl e52)))))
  refine sv n68.ok rfl (wn _ rfl) rfl (o_mv e71) (fun an72 n72 => ?_)
  refine sc n72.ok rfl (wn _ rfl) rfl (o_f1 Try.func7 rfl rfl rfl n72.at_) (pcheck_ok X va vc w62 hla (hva.gr G64) (hma.gr G64)) ?_
  rintro _ w74 ⟨rfl, g75⟩
  refine ⟨_, rfl, fun an73 n73 => ?_⟩
  have G76 := G64.trans g75
  have B77 := B65.gr g75
  have B78 := B66.gr g75
  have e79 := n73.ne rfl (n72.ne rfl (n68.ne rfl n67.at_))
  refine sv n73.ok rfl (wn _ rfl) rfl (o_mv e79) (fun an80 n80 => ?_)
  refine sv n80.ok rfl (wn _ rfl) rfl (o_neq (b := false) (n80.ne rfl n73.at_) n80.at_ (by decide)) (fun an81 n81 => ?_)
  refine sv n81.ok rfl (wn _ rfl) rfl (o_mv n81.at_) (fun an82 n82 => ?_)
  obtain ⟨i83, i83a, i83b, i83c⟩ := info3_of (show (Try.prog.info? 3).map (fun i => (i.zero, i.size)) = some (some (.int .i64 0), 1) by kernel_rfl)
  refine sals (cs := #[.int .i64 0]) n82.ok rfl (wgT rfl (yl 4 false rfl n82.at_) rfl) rfl (o_bs (vs := [(0, .int .i64 0)]) (by simp [ev_const]) Try.underlying32 i83a i83b (by rw [i83c]; rfl) (by rw [i83c]; rfl) (by rw [i83c]; kernel_rfl)) (fun an84 w86 b85 W87 n84 => ?_)
  have l88 : b3 < b85 := by rw [W87.eq]; exact B77.lt
  have l89 : b9 < b85 := by rw [W87.eq]; exact B78.lt
  have l90 : w.heap.size ≤ b85 := by rw [W87.eq]; exact G76.size
  have G91 := G76.trans W87.gr
  have B92 := B77.gr W87.gr
  have B93 := B78.gr W87.gr
  refine sv n84.ok rfl (wgT rfl (yl 4 false rfl (n84.ne rfl n82.at_)) rfl) rfl (o_bd (cells := #[.slice (some ⟨b85, 0, none⟩) 1 1, .slice none 0 0]) (vs := [(0, .slice (some ⟨b85, 0, none⟩) 1 1)]) (by simp [n84.at_, ev_const]) (by kernel_rfl)) (fun an94 n94 => ?_)
  refine sv n94.ok rfl (wgT rfl (yl 4 false rfl (n94.ne rfl (n84.ne rfl n82.at_))) rfl) rfl (o_bd (cells := #[.slice none 0 0, .slice (some ⟨b85, 0, none⟩) 1 1, .slice none 0 0]) (vs := [(1, .agg #[.slice (some ⟨b85, 0, none⟩) 1 1, .slice none 0 0])]) (by simp [n94.at_, ev_const]) (by kernel_rfl)) (fun an95 n95 => ?_)
  have e96 := n95.ne rfl (n94.ne rfl (n84.ne rfl n82.at_))
  obtain ⟨i97, i97a, i97b, i97c⟩ := info3_of (show (Try.prog.info? 38).map (fun i => (i.zero, i.size)) = some (some (.agg #[.slice none 0 0, .slice none 0 0, .slice none 0 0]), 3) by kernel_rfl)
  refine sals (cs := #[.slice none 0 0, .slice (some ⟨b85, 0, none⟩) 1 1, .slice none 0 0]) n95.ok rfl (wgT rfl (yl 4 false rfl e96) rfl) rfl (o_bs (vs := [(0, .agg #[.slice none 0 0, .slice (some ⟨b85, 0, none⟩) 1 1, .slice none 0 0])]) (by simp [n95.at_, ev_const]) Try.underlying22 i97a i97b (by rw [i97c]; rfl) (by rw [i97c]; rfl) (by rw [i97c]; kernel_rfl)) (fun an98 w100 b99 W101 n98 => ?_)
  have l102 : b3 < b99 := by rw [W101.eq]; exact B92.lt
  have l103 : b9 < b99 := by rw [W101.eq]; exact B93.lt
  have l104 : b85 < b99 := by rw [W101.eq]; exact W87.bk.lt
  have l105 : w.heap.size ≤ b99 := by rw [W101.eq]; exact G91.size
  have G106 := G91.trans W101.gr
  have B107 := B92.gr W101.gr
  have B108 := B93.gr W101.gr
  have B109 := W87.bk.gr W101.gr
  refine sc n98.ok rfl (wgT rfl (yl 4 false rfl (n98.ne rfl e96)) rfl) rfl (o_f1 Try.func7 rfl rfl rfl n98.at_) (pcheck_lit _ _ _ _ w100 W101.bk B109) ?_
  rintro _ w111 ⟨rfl, g112⟩
  refine ⟨_, rfl, fun an110 n110 => ?_⟩
  have G113 := G106.trans g112
  have B114 := B107.gr g112
  have B115 := B108.gr g112
  have B116 := B109.gr g112
  have B117 := W101.bk.gr g112
  refine sv n110.ok rfl (wgT rfl (yl 4 false rfl (n110.ne rfl (n98.ne rfl e96))) rfl) rfl (o_neq (b := false) n110.at_ ev_const (by decide)) (fun an118 n118 => ?_)
  have e119 := n118.ne rfl (n110.ne rfl (n98.ne rfl e96))
  refine sv n118.ok rfl (wn _ rfl) rfl (o_pkF e119 n118.at_) (fun an120 n120 => ?_)
  refine wpList_nil ?_
  refine th_n (hK70 _ _ ?_)
  refine wp_cond_false (n120.at_) ?_
  refine wp_skip ?_
  refine th_n (hK69 _ _ ?_)
  refine wp_seq_k (fun K121 hK121 => ?_)
  refine wp_seq_k (fun K122 hK122 => ?_)
  refine wp_region_lit ?_
  have e123 := n120.ne rfl (n118.ne rfl (n110.ne rfl (n98.ne rfl (n95.ne rfl (n94.ne rfl (n84.ne rfl (n82.ne rfl (n81.ne rfl (n80.ne rfl (n73.ne rfl (n72.ne rfl n68.at_)))))))))))
  refine sv n120.ok rfl (wn _ rfl) rfl (o_mv e123) (fun an124 n124 => ?_)
  refine sv n124.ok rfl (wn _ rfl) rfl (o_eq (b := true) n124.at_ ev_const (by decide)) (fun an125 n125 => ?_)
  refine wpList_nil ?_
  refine th_n (hK122 _ _ ?_)
  refine wp_cond_true (n125.at_) ?_
  refine wp_region_lit ?_
  have e126 := n125.ne rfl (n124.ne rfl (n120.ne rfl (n118.ne rfl (n110.ne rfl (n98.ne rfl (n95.ne rfl (n94.ne rfl (n84.ne rfl (n82.ne rfl (n81.ne rfl (n80.ne rfl (n73.ne rfl (n72.ne rfl (n68.ne rfl (n67.ne rfl (n61.ne rfl (n60.ne rfl (n54.ne rfl (n53.ne rfl (n50.ne rfl (n49.ne rfl (n48.ne rfl (n47.ne rfl (n46.ne rfl (n40.ne rfl (n39.ne rfl e38))))))))))))))))))))))))))
  refine sv n125.ok rfl (wn _ rfl) rfl (o_mv e126) (fun an127 n127 => ?_)
  refine sc n127.ok rfl (wn _ rfl) rfl (o_f1 Try.func6 rfl rfl rfl n127.at_) (rparts_ok Y vb vd w111 hlb (hvb.gr G113) (hmb.gr G113)) ?_
  rintro _ w129 ⟨rfl, g130⟩
  refine ⟨_, rfl, fun an128 n128 => ?_⟩
  have G131 := G113.trans g130
  have B132 := B114.gr g130
  have B133 := B115.gr g130
  have B134 := B116.gr g130
  have B135 := B117.gr g130
  refine sv n128.ok rfl (wn _ rfl) rfl (o_as n128.at_) (fun an136 n136 => ?_)
  refine wpList_nil ?_
  refine th_n (hK121 _ _ ?_)
  refine wp_seq_k (fun K137 hK137 => ?_)
  refine wp_seq_k (fun K138 hK138 => ?_)
  refine wp_region_lit ?_
  have e139 := n136.ne rfl (n128.ne rfl (n127.ne rfl (n125.ne rfl (n124.ne rfl (n120.ne rfl (n118.ne rfl (n110.ne rfl (n98.ne rfl (n95.ne rfl (n94.ne rfl (n84.ne rfl (n82.ne rfl (n81.ne rfl (n80.ne rfl e79))))))))))))))
  refine sv n136.ok rfl (wn _ rfl) rfl (o_mv e139) (fun an140 n140 => ?_)
  refine sv n140.ok rfl (wn _ rfl) rfl (o_neq (b := false) n140.at_ ev_const (by decide)) (fun an141 n141 => ?_)
  refine wpList_nil ?_
  refine th_n (hK138 _ _ ?_)
  refine wp_cond_false (n141.at_) ?_
  refine wp_skip ?_
  refine th_n (hK137 _ _ ?_)
  refine wp_seq_k (fun K142 hK142 => ?_)
  refine wp_seq_k (fun K143 hK143 => ?_)
  refine wp_region_lit ?_
  have e144 := n141.ne rfl (n140.ne rfl (n136.ne rfl (n128.ne rfl (n127.ne rfl (n125.ne rfl (n124.ne rfl (n120.ne rfl (n118.ne rfl (n110.ne rfl (n98.ne rfl (n95.ne rfl (n94.ne rfl (n84.ne rfl (n82.ne rfl (n81.ne rfl (n80.ne rfl (n73.ne rfl (n72.ne rfl (n68.ne rfl (n67.ne rfl (n61.ne rfl (n60.ne rfl (n54.ne rfl (n53.ne rfl (n50.ne rfl (n49.ne rfl (n48.ne rfl (n47.ne rfl (n46.ne rfl (n40.ne rfl (n39.ne rfl (n37.ne rfl (n34.ne rfl (n33.ne rfl (n32.ne rfl (n31.ne rfl (n30.ne rfl (n24.ne rfl (n23.ne rfl (n21.ne rfl e20))))))))))))))))))))))))))))))))))))))))
  refine sv n141.ok rfl (wn _ rfl) rfl (o_ldR e144 B132 Try.underlying24 rfl (by kernel_rfl)) (fun an145 n145 => ?_)
  refine sc n145.ok rfl (wn _ rfl) rfl (o_f1 Try.func8 rfl rfl rfl n145.at_) (by have h := rpoint_any t n w129; rw [hP] at h; exact h) ?_
  rintro _ w147 ⟨rfl, g148⟩
  refine ⟨_, rfl, fun an146 n146 => ?_⟩
  have G149 := G131.trans g148
  have B150 := B132.gr g148
  have B151 := B133.gr g148
  have B152 := B134.gr g148
  have B153 := B135.gr g148
  refine sv n146.ok rfl (wn _ rfl) rfl (o_not n146.at_ rfl) (fun an154 n154 => ?_)
  refine sv n154.ok rfl (wn _ rfl) rfl (o_mv n154.at_) (fun an155 n155 => ?_)
  have e156 := n155.ne rfl (n154.ne rfl (n146.ne rfl (n145.ne rfl (n141.ne rfl (n140.ne rfl (n136.ne rfl (n128.ne rfl (n127.ne rfl (n125.ne rfl (n124.ne rfl (n120.ne rfl (n118.ne rfl (n110.ne rfl (n98.ne rfl (n95.ne rfl (n94.ne rfl (n84.ne rfl (n82.ne rfl (n81.ne rfl (n80.ne rfl (n73.ne rfl (n72.ne rfl (n68.ne rfl (n67.ne rfl (n61.ne rfl (n60.ne rfl (n54.ne rfl (n53.ne rfl (n50.ne rfl (n49.ne rfl (n48.ne rfl (n47.ne rfl (n46.ne rfl (n40.ne rfl (n39.ne rfl (n37.ne rfl (n34.ne rfl (n33.ne rfl (n32.ne rfl (n31.ne rfl (n30.ne rfl (n24.ne rfl (n23.ne rfl e22)))))))))))))))))))))))))))))))))))))))))))
  refine sv n155.ok rfl (wgT rfl (yl 3 false rfl n155.at_) rfl) rfl (o_ldR e156 B151 Try.underlying26 rfl (by kernel_rfl)) (fun an157 n157 => ?_)
  refine sc n157.ok rfl (wgT rfl (yl 3 false rfl (n157.ne rfl n155.at_)) rfl) rfl (o_f1 Try.func9 rfl rfl rfl n157.at_) (by have h := rdot_any (a, c) w147; rw [hD] at h; exact h) ?_
  rintro _ w159 ⟨rfl, g160⟩
  refine ⟨_, rfl, fun an158 n158 => ?_⟩
  have G161 := G149.trans g160
  have B162 := B150.gr g160
  have B163 := B151.gr g160
  have B164 := B152.gr g160
  have B165 := B153.gr g160
  refine sv n158.ok rfl (wgT rfl (yl 3 false rfl (n158.ne rfl (n157.ne rfl n155.at_))) rfl) rfl (o_not n158.at_ rfl) (fun an166 n166 => ?_)
  have e167 := n166.ne rfl (n158.ne rfl (n157.ne rfl n155.at_))
  refine sv n166.ok rfl (wn _ rfl) rfl (o_pkF e167 n166.at_) (fun an168 n168 => ?_)
  refine wpList_nil ?_
  refine th_n (hK143 _ _ ?_)
  refine wp_cond_true (n168.at_) ?_
  refine wp_seq_k (fun K169 hK169 => ?_)
  refine wp_region_lit ?_
  have e170 := n168.ne rfl (n166.ne rfl (n158.ne rfl (n157.ne rfl (n155.ne rfl (n154.ne rfl (n146.ne rfl (n145.ne rfl (n141.ne rfl (n140.ne rfl (n136.ne rfl (n128.ne rfl (n127.ne rfl (n125.ne rfl (n124.ne rfl (n120.ne rfl (n118.ne rfl (n110.ne rfl (n98.ne rfl (n95.ne rfl (n94.ne rfl (n84.ne rfl (n82.ne rfl (n81.ne rfl (n80.ne rfl (n73.ne rfl (n72.ne rfl (n68.ne rfl (n67.ne rfl (n61.ne rfl (n60.ne rfl (n54.ne rfl (n53.ne rfl (n50.ne rfl (n49.ne rfl (n48.ne rfl (n47.ne rfl (n46.ne rfl (n40.ne rfl (n39.ne rfl (n37.ne rfl n34.at_))))))))))))))))))))))))))))))))))))))))
  refine sv n168.ok rfl (wn _ rfl) rfl (o_mv e170) (fun an171 n171 => ?_)
  refine sv n171.ok rfl (wn _ rfl) rfl (o_neq (b := false) n171.at_ ev_const (by decide)) (fun an172 n172 => ?_)
  refine sv n172.ok rfl (wn _ rfl) rfl (o_mv n172.at_) (fun an173 n173 => ?_)
  have e174 := n173.ne rfl (n172.ne rfl (n171.ne rfl (n168.ne rfl (n166.ne rfl (n158.ne rfl (n157.ne rfl (n155.ne rfl (n154.ne rfl (n146.ne rfl (n145.ne rfl (n141.ne rfl (n140.ne rfl (n136.ne rfl (n128.ne rfl (n127.ne rfl (n125.ne rfl (n124.ne rfl (n120.ne rfl (n118.ne rfl (n110.ne rfl (n98.ne rfl (n95.ne rfl (n94.ne rfl (n84.ne rfl (n82.ne rfl (n81.ne rfl (n80.ne rfl (n73.ne rfl (n72.ne rfl (n68.ne rfl (n67.ne rfl (n61.ne rfl (n60.ne rfl (n54.ne rfl (n53.ne rfl (n50.ne rfl (n49.ne rfl (n48.ne rfl (n47.ne rfl (n46.ne rfl (n40.ne rfl (n39.ne rfl (n37.ne rfl (n34.ne rfl n33.at_))))))))))))))))))))))))))))))))))))))))))))
  refine sv n173.ok rfl (wgT rfl (yl 2 false rfl n173.at_) rfl) rfl (o_mv e174) (fun an175 n175 => ?_)
  refine sv n175.ok rfl (wn _ rfl) rfl (o_pkF (n175.ne rfl n173.at_) n175.at_) (fun an176 n176 => ?_)
  refine wpList_nil ?_
  refine th_n (hK169 _ _ ?_)
  refine wp_cond_false (n176.at_) ?_
  refine wp_skip ?_
  refine th_n (hK142 _ _ ?_)
  refine wp_seq_k (fun K177 hK177 => ?_)
  refine wp_seq_k (fun K178 hK178 => ?_)
  refine wp_region_lit ?_
  have e179 := n176.ne rfl (n175.ne rfl (n173.ne rfl (n172.ne rfl (n171.ne rfl (n168.ne rfl (n166.ne rfl (n158.ne rfl (n157.ne rfl (n155.ne rfl (n154.ne rfl (n146.ne rfl (n145.ne rfl (n141.ne rfl (n140.ne rfl n136.at_))))))))))))))
  refine sv n176.ok rfl (wn _ rfl) rfl (o_mv e179) (fun an180 n180 => ?_)
  refine sv n180.ok rfl (wn _ rfl) rfl (o_neq (b := false) n180.at_ ev_const (by decide)) (fun an181 n181 => ?_)
  refine wpList_nil ?_
  refine th_n (hK178 _ _ ?_)
  refine wp_cond_false (n181.at_) ?_
  refine wp_skip ?_
  refine th_n (hK177 _ _ ?_)
  refine wp_seq_k (fun K182 hK182 => ?_)
  refine wp_region_lit ?_
  have e183 := n181.ne rfl (n180.ne rfl (n176.ne rfl (n175.ne rfl (n173.ne rfl (n172.ne rfl (n171.ne rfl (n168.ne rfl (n166.ne rfl (n158.ne rfl (n157.ne rfl (n155.ne rfl (n154.ne rfl (n146.ne rfl (n145.ne rfl (n141.ne rfl (n140.ne rfl (n136.ne rfl (n128.ne rfl (n127.ne rfl (n125.ne rfl (n124.ne rfl (n120.ne rfl (n118.ne rfl (n110.ne rfl (n98.ne rfl (n95.ne rfl (n94.ne rfl (n84.ne rfl (n82.ne rfl (n81.ne rfl (n80.ne rfl (n73.ne rfl (n72.ne rfl (n68.ne rfl (n67.ne rfl (n61.ne rfl (n60.ne rfl (n54.ne rfl (n53.ne rfl n50.at_)))))))))))))))))))))))))))))))))))))))
  refine sv n181.ok rfl (wn _ rfl) rfl (o_mv e183) (fun an184 n184 => ?_)
  refine sv n184.ok rfl (wn _ rfl) rfl (o_eq (b := true) n184.at_ ev_const (by decide)) (fun an185 n185 => ?_)
  refine sv n185.ok rfl (wn _ rfl) rfl (o_mv n185.at_) (fun an186 n186 => ?_)
  have e187 := n186.ne rfl (n185.ne rfl (n184.ne rfl (n181.ne rfl (n180.ne rfl (n176.ne rfl (n175.ne rfl (n173.ne rfl (n172.ne rfl (n171.ne rfl (n168.ne rfl (n166.ne rfl (n158.ne rfl (n157.ne rfl (n155.ne rfl (n154.ne rfl (n146.ne rfl (n145.ne rfl (n141.ne rfl (n140.ne rfl (n136.ne rfl (n128.ne rfl (n127.ne rfl (n125.ne rfl (n124.ne rfl (n120.ne rfl (n118.ne rfl (n110.ne rfl (n98.ne rfl (n95.ne rfl (n94.ne rfl (n84.ne rfl (n82.ne rfl (n81.ne rfl (n80.ne rfl (n73.ne rfl (n72.ne rfl (n68.ne rfl (n67.ne rfl (n61.ne rfl (n60.ne rfl (n54.ne rfl (n53.ne rfl (n50.ne rfl n49.at_)))))))))))))))))))))))))))))))))))))))))))
  refine sv n186.ok rfl (wgT rfl (yl 2 true rfl n186.at_) rfl) rfl (o_mv e187) (fun an188 n188 => ?_)
  have e189 := n188.ne rfl (n186.ne rfl (n185.ne rfl (n184.ne rfl (n181.ne rfl (n180.ne rfl (n176.ne rfl (n175.ne rfl (n173.ne rfl (n172.ne rfl (n171.ne rfl (n168.ne rfl (n166.ne rfl (n158.ne rfl (n157.ne rfl (n155.ne rfl (n154.ne rfl (n146.ne rfl (n145.ne rfl (n141.ne rfl (n140.ne rfl (n136.ne rfl (n128.ne rfl (n127.ne rfl (n125.ne rfl (n124.ne rfl (n120.ne rfl (n118.ne rfl (n110.ne rfl (n98.ne rfl (n95.ne rfl (n94.ne rfl (n84.ne rfl (n82.ne rfl (n81.ne rfl (n80.ne rfl (n73.ne rfl (n72.ne rfl e71)))))))))))))))))))))))))))))))))))))
  refine sv n188.ok rfl (wgT rfl (yl 2 true rfl (n188.ne rfl n186.at_)) rfl) rfl (o_mv e189) (fun an190 n190 => ?_)
  refine sc n190.ok rfl (wgT rfl (yl 2 true rfl (n190.ne rfl (n188.ne rfl n186.at_))) rfl) rfl (o_f1 Try.func11 rfl rfl rfl n190.at_) (rmean_r X va vc (by omega) w159 (hva.gr G161) (hma.gr G161)) ?_
  rintro _ w192 ⟨maa1, mca1, rfl, hra1, g193⟩
  refine ⟨_, rfl, fun an191 n191 => ?_⟩
  have G194 := G161.trans g193
  have B195 := B162.gr g193
  have B196 := B163.gr g193
  have B197 := B164.gr g193
  have B198 := B165.gr g193
  have A200 := Gr.refl w192
  have e201 := n191.ne rfl (n190.ne rfl (n188.ne rfl n186.at_))
  have e202 := n191.ne rfl (n190.ne rfl (n188.ne rfl (n186.ne rfl (n185.ne rfl (n184.ne rfl (n181.ne rfl (n180.ne rfl (n176.ne rfl (n175.ne rfl (n173.ne rfl (n172.ne rfl (n171.ne rfl (n168.ne rfl (n166.ne rfl (n158.ne rfl (n157.ne rfl (n155.ne rfl (n154.ne rfl (n146.ne rfl (n145.ne rfl (n141.ne rfl (n140.ne rfl (n136.ne rfl (n128.ne rfl (n127.ne rfl e126)))))))))))))))))))))))))
  refine sv n191.ok rfl (wgT rfl (yl 2 true rfl e201) rfl) rfl (o_mv e202) (fun an203 n203 => ?_)
  refine sc n203.ok rfl (wgT rfl (yl 2 true rfl (n203.ne rfl e201)) rfl) rfl (o_f1 Try.func11 rfl rfl rfl n203.at_) (rmean_r Y vb vd (by omega) w192 (hvb.gr G194) (hmb.gr G194)) ?_
  rintro _ w205 ⟨mab2, mcb2, rfl, hrb2, g206⟩
  refine ⟨_, rfl, fun an204 n204 => ?_⟩
  have G207 := G194.trans g206
  have B208 := B195.gr g206
  have B209 := B196.gr g206
  have B210 := B197.gr g206
  have B211 := B198.gr g206
  have A212 := A200.trans g206
  have A214 := Gr.refl w205
  refine sc n204.ok rfl (wgT rfl (yl 2 true rfl (n204.ne rfl (n203.ne rfl e201))) rfl) rfl (o_f2 Try.func12 rfl rfl rfl (n204.ne rfl (n203.ne rfl n191.at_)) n204.at_) (rpw_any (X.map PtX.d) (Y.map PtX.d) maa1 mab2 mca1 mcb2 w205 (by rw [List.length_map]; omega) (by rw [List.length_map]; omega) (hra1.gr A212) (hrb2.gr A214) (d_okX X) (d_okX Y)) ?_
  rintro _ w216 ⟨rfl, g217⟩
  refine ⟨_, rfl, fun an215 n215 => ?_⟩
  have G218 := G207.trans g217
  have B219 := B208.gr g217
  have B220 := B209.gr g217
  have B221 := B210.gr g217
  have B222 := B211.gr g217
  have A223 := A212.trans g217
  have A224 := A214.trans g217
  have e225 := n215.ne rfl (n204.ne rfl (n203.ne rfl e201))
  have e226 := n215.ne rfl (n204.ne rfl (n203.ne rfl (n191.ne rfl (n190.ne rfl n188.at_))))
  refine sv n215.ok rfl (wgT rfl (yl 2 true rfl e225) rfl) rfl (o_eqB (b := true) e226 n215.at_ (by simp) Try.underlying4) (fun an227 n227 => ?_)
  refine sv n227.ok rfl (wn _ rfl) rfl (o_pkT (n227.ne rfl e225) n227.at_) (fun an228 n228 => ?_)
  refine sv n228.ok rfl (wn _ rfl) rfl (o_as n228.at_) (fun an229 n229 => ?_)
  refine wpList_nil ?_
  refine th_n (hK182 _ _ ?_)
  refine wp_ret ?_
  exact ret1 n229.ok rfl (n229.at_) ⟨rfl, G218⟩
set_option maxHeartbeats 8000000 in
set_option maxRecDepth 100000 in
theorem partSays_ok_ok_i (X : List PtX) (Y : List PtX) (va vb : Option Addr) (vc vd : Nat) (t n a c : Nat) (ht : t < 16) (hn : n < 32) (hi : inR a c) (hp : (pointB (t : Int) (n : Int) && dotB ((a : Int), (c : Int))) = true) (hP : pointB (t : Int) (n : Int) = true) (hD : dotB ((a : Int), (c : Int)) = true) (w : World) (hla : X.length ≤ 30) (hva : RdA encP 3 w va X) (hma : MeansP w X) (hlb : Y.length ≤ 30) (hvb : RdA encP 3 w vb Y) (hmb : MeansP w Y) :
    Calls Try.prog 3 #[.slice va X.length vc, .slice vb Y.length vd, .agg #[.int .i64 (t : Int), .int .i64 (n : Int)], .agg #[.int .i64 (a : Int), .int .i64 (c : Int)]] w fun e w' => e = .returned (.bool true) ∧ Gr w w' := by
  refine enter (N := 110) Try.func3 rfl rfl rfl (fun a0 ok0 h0 => ?_)
  have e0_0 : a0.eval (.tmp 0) = .slice va X.length vc := h0 0 _ rfl
  have e0_1 : a0.eval (.tmp 1) = .slice vb Y.length vd := h0 1 _ rfl
  have e0_2 : a0.eval (.tmp 2) = .agg #[.int .i64 (t : Int), .int .i64 (n : Int)] := h0 2 _ rfl
  have e0_3 : a0.eval (.tmp 3) = .agg #[.int .i64 (a : Int), .int .i64 (c : Int)] := h0 3 _ rfl
  clear h0
  have G0 := Gr.refl w
  refine wp_seq_k (fun K1 hK1 => ?_)
  refine wp_region_lit ?_
  refine sal (cs := #[.int .i64 (t : Int), .int .i64 (n : Int)]) ok0 rfl (wn _ rfl) rfl (o_box e0_2) (fun an2 w4 b3 W5 n2 => ?_)
  have l6 : w.heap.size ≤ b3 := by rw [W5.eq]; exact G0.size
  have G7 := G0.trans W5.gr
  refine sal (cs := #[.int .i64 (a : Int), .int .i64 (c : Int)]) n2.ok rfl (wn _ rfl) rfl (o_box (n2.ne rfl e0_3)) (fun an8 w10 b9 W11 n8 => ?_)
  have l12 : b3 < b9 := by rw [W11.eq]; exact W5.bk.lt
  have l13 : w.heap.size ≤ b9 := by rw [W11.eq]; exact G7.size
  have G14 := G7.trans W11.gr
  have B15 := W5.bk.gr W11.gr
  refine sv n8.ok rfl (wn _ rfl) rfl (o_as ev_const) (fun an16 n16 => ?_)
  refine wpList_nil ?_
  refine th_n (hK1 _ _ ?_)
  refine wp_seq_k (fun K17 hK17 => ?_)
  refine wp_region_lit ?_
  have e18 := n16.ne rfl (n8.ne rfl (n2.ne rfl e0_0))
  refine sv n16.ok rfl (wn _ rfl) rfl (o_mv e18) (fun an19 n19 => ?_)
  have e20 := n19.ne rfl (n16.ne rfl (n8.ne rfl n2.at_))
  refine sv n19.ok rfl (wn _ rfl) rfl (o_ldR e20 B15 Try.underlying24 rfl (by kernel_rfl)) (fun an21 n21 => ?_)
  have e22 := n21.ne rfl (n19.ne rfl (n16.ne rfl n8.at_))
  refine sv n21.ok rfl (wn _ rfl) rfl (o_ldR e22 W11.bk Try.underlying26 rfl (by kernel_rfl)) (fun an23 n23 => ?_)
  refine sc n23.ok rfl (wn _ rfl) rfl (o_f3 Try.func4 rfl rfl rfl (n23.ne rfl (n21.ne rfl n19.at_)) (n23.ne rfl n21.at_) n23.at_) (by have h := phas X va vc t n a c w10 hla (hva.gr G14) (hma.gr G14); rw [(hasV_i (K := X) ht hn hi hp).1, (hasV_i (K := X) ht hn hi hp).2] at h; exact h) ?_
  rintro _ w25 ⟨rfl, g26⟩
  refine ⟨_, rfl, fun an24 n24 => ?_⟩
  have G27 := G14.trans g26
  have B28 := B15.gr g26
  have B29 := W11.bk.gr g26
  refine sv n24.ok rfl (wn _ rfl) rfl (o_mv n24.at_) (fun an30 n30 => ?_)
  refine sv n30.ok rfl (wn _ rfl) rfl (o_ex n30.at_ rfl) (fun an31 n31 => ?_)
  refine sv n31.ok rfl (wn _ rfl) rfl (o_ex (n31.ne rfl n30.at_) rfl) (fun an32 n32 => ?_)
  refine sv n32.ok rfl (wn _ rfl) rfl (o_as (n32.ne rfl n31.at_)) (fun an33 n33 => ?_)
  refine sv n33.ok rfl (wn _ rfl) rfl (o_as (n33.ne rfl n32.at_)) (fun an34 n34 => ?_)
  refine wpList_nil ?_
  refine th_n (hK17 _ _ ?_)
  refine wp_seq_k (fun K35 hK35 => ?_)
  refine wp_region_lit ?_
  have e36 := n34.ne rfl (n33.ne rfl (n32.ne rfl (n31.ne rfl (n30.ne rfl (n24.ne rfl (n23.ne rfl (n21.ne rfl (n19.ne rfl e18))))))))
  refine sv n34.ok rfl (wn _ rfl) rfl (o_mv e36) (fun an37 n37 => ?_)
  have e38 := n37.ne rfl (n34.ne rfl (n33.ne rfl (n32.ne rfl (n31.ne rfl (n30.ne rfl (n24.ne rfl (n23.ne rfl (n21.ne rfl (n19.ne rfl (n16.ne rfl (n8.ne rfl (n2.ne rfl e0_1))))))))))))
  refine sv n37.ok rfl (wn _ rfl) rfl (o_mv e38) (fun an39 n39 => ?_)
  refine sc n39.ok rfl (wn _ rfl) rfl (o_f2 Try.func5 rfl rfl rfl (n39.ne rfl n37.at_) n39.at_) (pwithin_b X Y va vb vc vd (pwB (X.map PtX.d) (Y.map PtX.d)) (pwB_sub X Y) hla hlb w25 (hva.gr G27) (hvb.gr G27) (hma.gr G27) (hmb.gr G27)) ?_
  rintro _ w41 ⟨rfl, g42⟩
  refine ⟨_, rfl, fun an40 n40 => ?_⟩
  have G43 := G27.trans g42
  have B44 := B28.gr g42
  have B45 := B29.gr g42
  refine sv n40.ok rfl (wn _ rfl) rfl (o_mv n40.at_) (fun an46 n46 => ?_)
  refine sv n46.ok rfl (wn _ rfl) rfl (o_ex n46.at_ rfl) (fun an47 n47 => ?_)
  refine sv n47.ok rfl (wn _ rfl) rfl (o_ex (n47.ne rfl n46.at_) rfl) (fun an48 n48 => ?_)
  refine sv n48.ok rfl (wn _ rfl) rfl (o_as (n48.ne rfl n47.at_)) (fun an49 n49 => ?_)
  refine sv n49.ok rfl (wn _ rfl) rfl (o_as (n49.ne rfl n48.at_)) (fun an50 n50 => ?_)
  refine wpList_nil ?_
  refine th_n (hK35 _ _ ?_)
  refine wp_seq_k (fun K51 hK51 => ?_)
  refine wp_region_lit ?_
  have e52 := n50.ne rfl (n49.ne rfl (n48.ne rfl (n47.ne rfl (n46.ne rfl (n40.ne rfl (n39.ne rfl (n37.ne rfl e36)))))))
  refine sv n50.ok rfl (wn _ rfl) rfl (o_mv e52) (fun an53 n53 => ?_)
  refine sc n53.ok rfl (wn _ rfl) rfl (o_f1 Try.func6 rfl rfl rfl n53.at_) (rparts_ok X va vc w41 hla (hva.gr G43) (hma.gr G43)) ?_
  rintro _ w55 ⟨rfl, g56⟩
  refine ⟨_, rfl, fun an54 n54 => ?_⟩
  have G57 := G43.trans g56
  have B58 := B44.gr g56
  have B59 := B45.gr g56
  refine sv n54.ok rfl (wn _ rfl) rfl (o_mv (n54.ne rfl (n53.ne rfl e52))) (fun an60 n60 => ?_)
  refine sc n60.ok rfl (wn _ rfl) rfl (o_f1 Try.func6 rfl rfl rfl n60.at_) (rparts_ok X va vc w55 hla (hva.gr G57) (hma.gr G57)) ?_
  rintro _ w62 ⟨rfl, g63⟩
  refine ⟨_, rfl, fun an61 n61 => ?_⟩
  have G64 := G57.trans g63
  have B65 := B58.gr g63
  have B66 := B59.gr g63
  refine sv n61.ok rfl (wn _ rfl) rfl (o_as (n61.ne rfl (n60.ne rfl n54.at_))) (fun an67 n67 => ?_)
  refine sv n67.ok rfl (wn _ rfl) rfl (o_as (n67.ne rfl n61.at_)) (fun an68 n68 => ?_)
  refine wpList_nil ?_
  refine th_n (hK51 _ _ ?_)
  refine wp_seq_k (fun K69 hK69 => ?_)
  refine wp_seq_k (fun K70 hK70 => ?_)
  refine wp_region_lit ?_
  have e71 := n68.ne rfl (n67.ne rfl (n61.ne rfl (n60.ne rfl (n54.ne rfl (n53.ne rfl e52)))))
  refine sv n68.ok rfl (wn _ rfl) rfl (o_mv e71) (fun an72 n72 => ?_)
  refine sc n72.ok rfl (wn _ rfl) rfl (o_f1 Try.func7 rfl rfl rfl n72.at_) (pcheck_ok X va vc w62 hla (hva.gr G64) (hma.gr G64)) ?_
  rintro _ w74 ⟨rfl, g75⟩
  refine ⟨_, rfl, fun an73 n73 => ?_⟩
  have G76 := G64.trans g75
  have B77 := B65.gr g75
  have B78 := B66.gr g75
  have e79 := n73.ne rfl (n72.ne rfl (n68.ne rfl n67.at_))
  refine sv n73.ok rfl (wn _ rfl) rfl (o_mv e79) (fun an80 n80 => ?_)
  refine sv n80.ok rfl (wn _ rfl) rfl (o_neq (b := false) (n80.ne rfl n73.at_) n80.at_ (by decide)) (fun an81 n81 => ?_)
  refine sv n81.ok rfl (wn _ rfl) rfl (o_mv n81.at_) (fun an82 n82 => ?_)
  obtain ⟨i83, i83a, i83b, i83c⟩ := info3_of (show (Try.prog.info? 3).map (fun i => (i.zero, i.size)) = some (some (.int .i64 0), 1) by kernel_rfl)
  refine sals (cs := #[.int .i64 0]) n82.ok rfl (wgT rfl (yl 4 false rfl n82.at_) rfl) rfl (o_bs (vs := [(0, .int .i64 0)]) (by simp [ev_const]) Try.underlying32 i83a i83b (by rw [i83c]; rfl) (by rw [i83c]; rfl) (by rw [i83c]; kernel_rfl)) (fun an84 w86 b85 W87 n84 => ?_)
  have l88 : b3 < b85 := by rw [W87.eq]; exact B77.lt
  have l89 : b9 < b85 := by rw [W87.eq]; exact B78.lt
  have l90 : w.heap.size ≤ b85 := by rw [W87.eq]; exact G76.size
  have G91 := G76.trans W87.gr
  have B92 := B77.gr W87.gr
  have B93 := B78.gr W87.gr
  refine sv n84.ok rfl (wgT rfl (yl 4 false rfl (n84.ne rfl n82.at_)) rfl) rfl (o_bd (cells := #[.slice (some ⟨b85, 0, none⟩) 1 1, .slice none 0 0]) (vs := [(0, .slice (some ⟨b85, 0, none⟩) 1 1)]) (by simp [n84.at_, ev_const]) (by kernel_rfl)) (fun an94 n94 => ?_)
  refine sv n94.ok rfl (wgT rfl (yl 4 false rfl (n94.ne rfl (n84.ne rfl n82.at_))) rfl) rfl (o_bd (cells := #[.slice none 0 0, .slice (some ⟨b85, 0, none⟩) 1 1, .slice none 0 0]) (vs := [(1, .agg #[.slice (some ⟨b85, 0, none⟩) 1 1, .slice none 0 0])]) (by simp [n94.at_, ev_const]) (by kernel_rfl)) (fun an95 n95 => ?_)
  have e96 := n95.ne rfl (n94.ne rfl (n84.ne rfl n82.at_))
  obtain ⟨i97, i97a, i97b, i97c⟩ := info3_of (show (Try.prog.info? 38).map (fun i => (i.zero, i.size)) = some (some (.agg #[.slice none 0 0, .slice none 0 0, .slice none 0 0]), 3) by kernel_rfl)
  refine sals (cs := #[.slice none 0 0, .slice (some ⟨b85, 0, none⟩) 1 1, .slice none 0 0]) n95.ok rfl (wgT rfl (yl 4 false rfl e96) rfl) rfl (o_bs (vs := [(0, .agg #[.slice none 0 0, .slice (some ⟨b85, 0, none⟩) 1 1, .slice none 0 0])]) (by simp [n95.at_, ev_const]) Try.underlying22 i97a i97b (by rw [i97c]; rfl) (by rw [i97c]; rfl) (by rw [i97c]; kernel_rfl)) (fun an98 w100 b99 W101 n98 => ?_)
  have l102 : b3 < b99 := by rw [W101.eq]; exact B92.lt
  have l103 : b9 < b99 := by rw [W101.eq]; exact B93.lt
  have l104 : b85 < b99 := by rw [W101.eq]; exact W87.bk.lt
  have l105 : w.heap.size ≤ b99 := by rw [W101.eq]; exact G91.size
  have G106 := G91.trans W101.gr
  have B107 := B92.gr W101.gr
  have B108 := B93.gr W101.gr
  have B109 := W87.bk.gr W101.gr
  refine sc n98.ok rfl (wgT rfl (yl 4 false rfl (n98.ne rfl e96)) rfl) rfl (o_f1 Try.func7 rfl rfl rfl n98.at_) (pcheck_lit _ _ _ _ w100 W101.bk B109) ?_
  rintro _ w111 ⟨rfl, g112⟩
  refine ⟨_, rfl, fun an110 n110 => ?_⟩
  have G113 := G106.trans g112
  have B114 := B107.gr g112
  have B115 := B108.gr g112
  have B116 := B109.gr g112
  have B117 := W101.bk.gr g112
  refine sv n110.ok rfl (wgT rfl (yl 4 false rfl (n110.ne rfl (n98.ne rfl e96))) rfl) rfl (o_neq (b := false) n110.at_ ev_const (by decide)) (fun an118 n118 => ?_)
  have e119 := n118.ne rfl (n110.ne rfl (n98.ne rfl e96))
  refine sv n118.ok rfl (wn _ rfl) rfl (o_pkF e119 n118.at_) (fun an120 n120 => ?_)
  refine wpList_nil ?_
  refine th_n (hK70 _ _ ?_)
  refine wp_cond_false (n120.at_) ?_
  refine wp_skip ?_
  refine th_n (hK69 _ _ ?_)
  refine wp_seq_k (fun K121 hK121 => ?_)
  refine wp_seq_k (fun K122 hK122 => ?_)
  refine wp_region_lit ?_
  have e123 := n120.ne rfl (n118.ne rfl (n110.ne rfl (n98.ne rfl (n95.ne rfl (n94.ne rfl (n84.ne rfl (n82.ne rfl (n81.ne rfl (n80.ne rfl (n73.ne rfl (n72.ne rfl n68.at_)))))))))))
  refine sv n120.ok rfl (wn _ rfl) rfl (o_mv e123) (fun an124 n124 => ?_)
  refine sv n124.ok rfl (wn _ rfl) rfl (o_eq (b := true) n124.at_ ev_const (by decide)) (fun an125 n125 => ?_)
  refine wpList_nil ?_
  refine th_n (hK122 _ _ ?_)
  refine wp_cond_true (n125.at_) ?_
  refine wp_region_lit ?_
  have e126 := n125.ne rfl (n124.ne rfl (n120.ne rfl (n118.ne rfl (n110.ne rfl (n98.ne rfl (n95.ne rfl (n94.ne rfl (n84.ne rfl (n82.ne rfl (n81.ne rfl (n80.ne rfl (n73.ne rfl (n72.ne rfl (n68.ne rfl (n67.ne rfl (n61.ne rfl (n60.ne rfl (n54.ne rfl (n53.ne rfl (n50.ne rfl (n49.ne rfl (n48.ne rfl (n47.ne rfl (n46.ne rfl (n40.ne rfl (n39.ne rfl e38))))))))))))))))))))))))))
  refine sv n125.ok rfl (wn _ rfl) rfl (o_mv e126) (fun an127 n127 => ?_)
  refine sc n127.ok rfl (wn _ rfl) rfl (o_f1 Try.func6 rfl rfl rfl n127.at_) (rparts_ok Y vb vd w111 hlb (hvb.gr G113) (hmb.gr G113)) ?_
  rintro _ w129 ⟨rfl, g130⟩
  refine ⟨_, rfl, fun an128 n128 => ?_⟩
  have G131 := G113.trans g130
  have B132 := B114.gr g130
  have B133 := B115.gr g130
  have B134 := B116.gr g130
  have B135 := B117.gr g130
  refine sv n128.ok rfl (wn _ rfl) rfl (o_as n128.at_) (fun an136 n136 => ?_)
  refine wpList_nil ?_
  refine th_n (hK121 _ _ ?_)
  refine wp_seq_k (fun K137 hK137 => ?_)
  refine wp_seq_k (fun K138 hK138 => ?_)
  refine wp_region_lit ?_
  have e139 := n136.ne rfl (n128.ne rfl (n127.ne rfl (n125.ne rfl (n124.ne rfl (n120.ne rfl (n118.ne rfl (n110.ne rfl (n98.ne rfl (n95.ne rfl (n94.ne rfl (n84.ne rfl (n82.ne rfl (n81.ne rfl (n80.ne rfl e79))))))))))))))
  refine sv n136.ok rfl (wn _ rfl) rfl (o_mv e139) (fun an140 n140 => ?_)
  refine sv n140.ok rfl (wn _ rfl) rfl (o_neq (b := false) n140.at_ ev_const (by decide)) (fun an141 n141 => ?_)
  refine wpList_nil ?_
  refine th_n (hK138 _ _ ?_)
  refine wp_cond_false (n141.at_) ?_
  refine wp_skip ?_
  refine th_n (hK137 _ _ ?_)
  refine wp_seq_k (fun K142 hK142 => ?_)
  refine wp_seq_k (fun K143 hK143 => ?_)
  refine wp_region_lit ?_
  have e144 := n141.ne rfl (n140.ne rfl (n136.ne rfl (n128.ne rfl (n127.ne rfl (n125.ne rfl (n124.ne rfl (n120.ne rfl (n118.ne rfl (n110.ne rfl (n98.ne rfl (n95.ne rfl (n94.ne rfl (n84.ne rfl (n82.ne rfl (n81.ne rfl (n80.ne rfl (n73.ne rfl (n72.ne rfl (n68.ne rfl (n67.ne rfl (n61.ne rfl (n60.ne rfl (n54.ne rfl (n53.ne rfl (n50.ne rfl (n49.ne rfl (n48.ne rfl (n47.ne rfl (n46.ne rfl (n40.ne rfl (n39.ne rfl (n37.ne rfl (n34.ne rfl (n33.ne rfl (n32.ne rfl (n31.ne rfl (n30.ne rfl (n24.ne rfl (n23.ne rfl (n21.ne rfl e20))))))))))))))))))))))))))))))))))))))))
  refine sv n141.ok rfl (wn _ rfl) rfl (o_ldR e144 B132 Try.underlying24 rfl (by kernel_rfl)) (fun an145 n145 => ?_)
  refine sc n145.ok rfl (wn _ rfl) rfl (o_f1 Try.func8 rfl rfl rfl n145.at_) (by have h := rpoint_any ((t : Int)) ((n : Int)) w129; rw [hP] at h; exact h) ?_
  rintro _ w147 ⟨rfl, g148⟩
  refine ⟨_, rfl, fun an146 n146 => ?_⟩
  have G149 := G131.trans g148
  have B150 := B132.gr g148
  have B151 := B133.gr g148
  have B152 := B134.gr g148
  have B153 := B135.gr g148
  refine sv n146.ok rfl (wn _ rfl) rfl (o_not n146.at_ rfl) (fun an154 n154 => ?_)
  refine sv n154.ok rfl (wn _ rfl) rfl (o_mv n154.at_) (fun an155 n155 => ?_)
  have e156 := n155.ne rfl (n154.ne rfl (n146.ne rfl (n145.ne rfl (n141.ne rfl (n140.ne rfl (n136.ne rfl (n128.ne rfl (n127.ne rfl (n125.ne rfl (n124.ne rfl (n120.ne rfl (n118.ne rfl (n110.ne rfl (n98.ne rfl (n95.ne rfl (n94.ne rfl (n84.ne rfl (n82.ne rfl (n81.ne rfl (n80.ne rfl (n73.ne rfl (n72.ne rfl (n68.ne rfl (n67.ne rfl (n61.ne rfl (n60.ne rfl (n54.ne rfl (n53.ne rfl (n50.ne rfl (n49.ne rfl (n48.ne rfl (n47.ne rfl (n46.ne rfl (n40.ne rfl (n39.ne rfl (n37.ne rfl (n34.ne rfl (n33.ne rfl (n32.ne rfl (n31.ne rfl (n30.ne rfl (n24.ne rfl (n23.ne rfl e22)))))))))))))))))))))))))))))))))))))))))))
  refine sv n155.ok rfl (wgT rfl (yl 3 false rfl n155.at_) rfl) rfl (o_ldR e156 B151 Try.underlying26 rfl (by kernel_rfl)) (fun an157 n157 => ?_)
  refine sc n157.ok rfl (wgT rfl (yl 3 false rfl (n157.ne rfl n155.at_)) rfl) rfl (o_f1 Try.func9 rfl rfl rfl n157.at_) (by have h := rdot_any ((a : Int), (c : Int)) w147; rw [hD] at h; exact h) ?_
  rintro _ w159 ⟨rfl, g160⟩
  refine ⟨_, rfl, fun an158 n158 => ?_⟩
  have G161 := G149.trans g160
  have B162 := B150.gr g160
  have B163 := B151.gr g160
  have B164 := B152.gr g160
  have B165 := B153.gr g160
  refine sv n158.ok rfl (wgT rfl (yl 3 false rfl (n158.ne rfl (n157.ne rfl n155.at_))) rfl) rfl (o_not n158.at_ rfl) (fun an166 n166 => ?_)
  have e167 := n166.ne rfl (n158.ne rfl (n157.ne rfl n155.at_))
  refine sv n166.ok rfl (wn _ rfl) rfl (o_pkF e167 n166.at_) (fun an168 n168 => ?_)
  refine wpList_nil ?_
  refine th_n (hK143 _ _ ?_)
  refine wp_cond_false (n168.at_) ?_
  refine wp_seq_k (fun K169 hK169 => ?_)
  refine reg_start (N := 110) (m := 11) (by kernel_rfl) (fun R1700 => ?_)
  have e171 := n168.ne rfl (n166.ne rfl (n158.ne rfl (n157.ne rfl (n155.ne rfl (n154.ne rfl (n146.ne rfl (n145.ne rfl (n141.ne rfl (n140.ne rfl (n136.ne rfl (n128.ne rfl (n127.ne rfl (n125.ne rfl (n124.ne rfl (n120.ne rfl (n118.ne rfl (n110.ne rfl (n98.ne rfl (n95.ne rfl (n94.ne rfl (n84.ne rfl (n82.ne rfl (n81.ne rfl (n80.ne rfl (n73.ne rfl (n72.ne rfl (n68.ne rfl (n67.ne rfl (n61.ne rfl (n60.ne rfl (n54.ne rfl (n53.ne rfl (n50.ne rfl (n49.ne rfl (n48.ne rfl (n47.ne rfl (n46.ne rfl (n40.ne rfl (n39.ne rfl (n37.ne rfl n34.at_))))))))))))))))))))))))))))))))))))))))
  have R1701 := R1700.snoc (n' := 1) rfl (fun vJ _ => vJ = .int .i64 0) rfl (fun _ _ _ _ h => h) (fun aS wS pS => by
      exact Does.val (wn _ rfl) (o_mv ((pS.old 10 rfl).trans e171)) (Gr.refl _) rfl rfl)
  have R1702 := R1701.snoc (n' := 2) rfl (fun vJ _ => vJ = .bool false) rfl (fun _ _ _ _ h => h) (fun aS wS pS => by
      have eR170_0 : aS.eval (.tmp 79) = .int .i64 0 := pS.pre 0 rfl
      exact Does.val (wn _ rfl) (o_neq (b := false) (eR170_0) ev_const (by decide)) (Gr.refl _) rfl rfl)
  have R1703 := R1702.snoc (n' := 3) rfl (fun vJ _ => vJ = .bool false) rfl (fun _ _ _ _ h => h) (fun aS wS pS => by
      have eR170_1 : aS.eval (.tmp 80) = .bool false := pS.pre 1 rfl
      exact Does.val (wn _ rfl) (o_mv (eR170_1)) (Gr.refl _) rfl rfl)
  have e172 := n168.ne rfl (n166.ne rfl (n158.ne rfl (n157.ne rfl (n155.ne rfl (n154.ne rfl (n146.ne rfl (n145.ne rfl (n141.ne rfl (n140.ne rfl (n136.ne rfl (n128.ne rfl (n127.ne rfl (n125.ne rfl (n124.ne rfl (n120.ne rfl (n118.ne rfl (n110.ne rfl (n98.ne rfl (n95.ne rfl (n94.ne rfl (n84.ne rfl (n82.ne rfl (n81.ne rfl (n80.ne rfl (n73.ne rfl (n72.ne rfl (n68.ne rfl (n67.ne rfl (n61.ne rfl (n60.ne rfl (n54.ne rfl (n53.ne rfl (n50.ne rfl (n49.ne rfl (n48.ne rfl (n47.ne rfl (n46.ne rfl (n40.ne rfl (n39.ne rfl (n37.ne rfl (n34.ne rfl n33.at_)))))))))))))))))))))))))))))))))))))))))
  have R1704 := R1703.snoc (n' := 4) rfl (fun vJ _ => vJ = .bool (hasP X t n a c)) rfl (fun _ _ _ _ h => h) (fun aS wS pS => by
      have eR170_2 : aS.eval (.tmp 81) = .bool false := pS.pre 2 rfl
      exact Does.val (wgT rfl (yl 2 false rfl eR170_2) rfl) (o_mv ((pS.old 9 rfl).trans e172)) (Gr.refl _) rfl rfl)
  have e173 := n168.ne rfl (n166.ne rfl (n158.ne rfl (n157.ne rfl (n155.ne rfl (n154.ne rfl (n146.ne rfl (n145.ne rfl (n141.ne rfl (n140.ne rfl (n136.ne rfl (n128.ne rfl (n127.ne rfl (n125.ne rfl (n124.ne rfl (n120.ne rfl (n118.ne rfl (n110.ne rfl (n98.ne rfl (n95.ne rfl (n94.ne rfl (n84.ne rfl (n82.ne rfl (n81.ne rfl (n80.ne rfl (n73.ne rfl (n72.ne rfl e71))))))))))))))))))))))))))
  have R1705 := R1704.snoc (n' := 5) rfl (fun vJ _ => vJ = .slice va X.length vc) rfl (fun _ _ _ _ h => h) (fun aS wS pS => by
      have eR170_2 : aS.eval (.tmp 81) = .bool false := pS.pre 2 rfl
      exact Does.val (wgT rfl (yl 2 false rfl eR170_2) rfl) (o_mv ((pS.old 0 rfl).trans e173)) (Gr.refl _) rfl rfl)
  have R1706 := R1705.snoc (n' := 6) rfl (fun vJ wJ => ∃ (maa1 : Option Addr) (mca1 : Nat), vJ = .slice maa1 ((X.map PtX.d).length) mca1 ∧ (RdA encDoc 592 wJ maa1 (X.map PtX.d))) rfl (fun _ _ _ g ⟨maa1, mca1, h, q0⟩ => ⟨maa1, mca1, h, q0.gr g⟩) (fun aS wS pS => by
      have eR170_2 : aS.eval (.tmp 81) = .bool false := pS.pre 2 rfl
      have eR170_4 : aS.eval (.tmp 83) = .slice va X.length vc := pS.pre 4 rfl
      exact Does.call (wgT rfl (yl 2 false rfl eR170_2) rfl) (o_f1 Try.func11 rfl rfl rfl (eR170_4)) (rmean_r X va vc (by omega) wS (hva.gr (G161.trans (gr_drew pS.gr))) (hma.gr (G161.trans (gr_drew pS.gr)))) (by rintro _ w2 ⟨maa1, mca1, rfl, hra1, g⟩; exact ⟨_, rfl, g, ⟨maa1, mca1, rfl, hra1⟩⟩) rfl)
  have e174 := n168.ne rfl (n166.ne rfl (n158.ne rfl (n157.ne rfl (n155.ne rfl (n154.ne rfl (n146.ne rfl (n145.ne rfl e144)))))))
  have R1707 := R1706.snoc (n' := 7) rfl (fun vJ _ => vJ = .agg #[.int .i64 (t : Int), .int .i64 (n : Int)]) rfl (fun _ _ _ _ h => h) (fun aS wS pS => by
      have eR170_2 : aS.eval (.tmp 81) = .bool false := pS.pre 2 rfl
      exact Does.val (wgT rfl (yl 2 false rfl eR170_2) rfl) (o_ldR ((pS.old 6 rfl).trans e174) (Bk.gr B162 (gr_drew pS.gr)) Try.underlying24 rfl (by kernel_rfl)) (Gr.refl _) rfl rfl)
  have e175 := n168.ne rfl (n166.ne rfl (n158.ne rfl (n157.ne rfl e156)))
  have R1708 := R1707.snoc (n' := 8) rfl (fun vJ _ => vJ = .agg #[.int .i64 (a : Int), .int .i64 (c : Int)]) rfl (fun _ _ _ _ h => h) (fun aS wS pS => by
      have eR170_2 : aS.eval (.tmp 81) = .bool false := pS.pre 2 rfl
      exact Does.val (wgT rfl (yl 2 false rfl eR170_2) rfl) (o_ldR ((pS.old 7 rfl).trans e175) (Bk.gr B163 (gr_drew pS.gr)) Try.underlying26 rfl (by kernel_rfl)) (Gr.refl _) rfl rfl)
  have R1709 := R1708.snoc (n' := 9) rfl (fun vJ _ => vJ = .bool (hasP X t n a c)) rfl (fun _ _ _ _ h => h) (fun aS wS pS => by
      have eR170_2 : aS.eval (.tmp 81) = .bool false := pS.pre 2 rfl
      obtain ⟨maa1, mca1, eR170_5, hra1⟩ := pS.pre 5 rfl
      have eR170_5 : aS.eval (.tmp 84) = .slice maa1 ((X.map PtX.d).length) mca1 := eR170_5
      have eR170_6 : aS.eval (.tmp 85) = .agg #[.int .i64 (t : Int), .int .i64 (n : Int)] := pS.pre 6 rfl
      have eR170_7 : aS.eval (.tmp 86) = .agg #[.int .i64 (a : Int), .int .i64 (c : Int)] := pS.pre 7 rfl
      exact Does.call (wgT rfl (yl 2 false rfl eR170_2) rfl) (o_f3 Try.func10 rfl rfl rfl (eR170_5) (eR170_6) (eR170_7)) (by have h := rknows_any (X.map PtX.d) maa1 mca1 t n a c wS (by rw [List.length_map]; omega) hra1 (d_okX X) ht hn hi.1 (by have := hi.2.2; omega); rw [knM_has X t n a c hn hi] at h; exact h) (by rintro _ w2 ⟨rfl, g⟩; exact ⟨_, rfl, g, rfl⟩) rfl)
  have R17010 := R1709.snoc (n' := 10) rfl (fun vJ _ => vJ = .bool false) rfl (fun _ _ _ _ h => h) (fun aS wS pS => by
      have eR170_2 : aS.eval (.tmp 81) = .bool false := pS.pre 2 rfl
      have eR170_3 : aS.eval (.tmp 82) = .bool (hasP X t n a c) := pS.pre 3 rfl
      have eR170_8 : aS.eval (.tmp 87) = .bool (hasP X t n a c) := pS.pre 8 rfl
      exact Does.val (wgT rfl (yl 2 false rfl eR170_2) rfl) (o_neqB (b := false) (eR170_3) (eR170_8) (by simp) Try.underlying4) (Gr.refl _) rfl rfl)
  have R17011 := R17010.snoc (n' := 11) rfl (fun vJ _ => vJ = .bool false) rfl (fun _ _ _ _ h => h) (fun aS wS pS => by
      have eR170_2 : aS.eval (.tmp 81) = .bool false := pS.pre 2 rfl
      have eR170_9 : aS.eval (.tmp 88) = .bool false := pS.pre 9 rfl
      exact Does.val (wn _ rfl) (o_pkF (eR170_2) (eR170_9)) (Gr.refl _) rfl rfl)
  refine R17011.run (k := 0) (L := #[true, true, true, true, true, true, true, true, true, true, true]) (by kernel_rfl) (by kernel_rfl) (by kernel_rfl) n168.ok (by kernel_rfl) (by kernel_rfl) (fun ap177 w178 p177 => ?_)
  have g179 := gr_drew p177.gr
  have G180 := G161.trans g179
  have B181 := B162.gr g179
  have B182 := B163.gr g179
  have B183 := B164.gr g179
  have B184 := B165.gr g179
  obtain ⟨maa1, mca1, ep177_5, hra1⟩ := p177.js 5 rfl
  have ep177_5 : ap177.eval (.tmp 84) = .slice maa1 ((X.map PtX.d).length) mca1 := ep177_5
  have A186 := Gr.refl w178
  refine wpAny_done (by kernel_rfl) ?_ _
  refine th_n (hK169 _ _ ?_)
  have ep177_10 : ap177.eval (.tmp 89) = .bool false := p177.js 10 rfl
  refine wp_cond_false (ep177_10) ?_
  refine wp_skip ?_
  refine th_n (hK142 _ _ ?_)
  refine wp_seq_k (fun K187 hK187 => ?_)
  refine wp_seq_k (fun K188 hK188 => ?_)
  refine wp_region_lit ?_
  have e189 := (p177.old 14 rfl).trans (n168.ne rfl (n166.ne rfl (n158.ne rfl (n157.ne rfl (n155.ne rfl (n154.ne rfl (n146.ne rfl (n145.ne rfl (n141.ne rfl (n140.ne rfl n136.at_))))))))))
  refine sv p177.ok rfl (wn _ rfl) rfl (o_mv e189) (fun an190 n190 => ?_)
  refine sv n190.ok rfl (wn _ rfl) rfl (o_neq (b := false) n190.at_ ev_const (by decide)) (fun an191 n191 => ?_)
  refine wpList_nil ?_
  refine th_n (hK188 _ _ ?_)
  refine wp_cond_false (n191.at_) ?_
  refine wp_skip ?_
  refine th_n (hK187 _ _ ?_)
  refine wp_seq_k (fun K192 hK192 => ?_)
  refine wp_region_lit ?_
  have e193 := n191.ne rfl (n190.ne rfl ((p177.old 12 rfl).trans (n168.ne rfl (n166.ne rfl (n158.ne rfl (n157.ne rfl (n155.ne rfl (n154.ne rfl (n146.ne rfl (n145.ne rfl (n141.ne rfl (n140.ne rfl (n136.ne rfl (n128.ne rfl (n127.ne rfl (n125.ne rfl (n124.ne rfl (n120.ne rfl (n118.ne rfl (n110.ne rfl (n98.ne rfl (n95.ne rfl (n94.ne rfl (n84.ne rfl (n82.ne rfl (n81.ne rfl (n80.ne rfl (n73.ne rfl (n72.ne rfl (n68.ne rfl (n67.ne rfl (n61.ne rfl (n60.ne rfl (n54.ne rfl (n53.ne rfl n50.at_)))))))))))))))))))))))))))))))))))
  refine sv n191.ok rfl (wn _ rfl) rfl (o_mv e193) (fun an194 n194 => ?_)
  refine sv n194.ok rfl (wn _ rfl) rfl (o_eq (b := true) n194.at_ ev_const (by decide)) (fun an195 n195 => ?_)
  refine sv n195.ok rfl (wn _ rfl) rfl (o_mv n195.at_) (fun an196 n196 => ?_)
  have e197 := n196.ne rfl (n195.ne rfl (n194.ne rfl (n191.ne rfl (n190.ne rfl ((p177.old 11 rfl).trans (n168.ne rfl (n166.ne rfl (n158.ne rfl (n157.ne rfl (n155.ne rfl (n154.ne rfl (n146.ne rfl (n145.ne rfl (n141.ne rfl (n140.ne rfl (n136.ne rfl (n128.ne rfl (n127.ne rfl (n125.ne rfl (n124.ne rfl (n120.ne rfl (n118.ne rfl (n110.ne rfl (n98.ne rfl (n95.ne rfl (n94.ne rfl (n84.ne rfl (n82.ne rfl (n81.ne rfl (n80.ne rfl (n73.ne rfl (n72.ne rfl (n68.ne rfl (n67.ne rfl (n61.ne rfl (n60.ne rfl (n54.ne rfl (n53.ne rfl (n50.ne rfl n49.at_)))))))))))))))))))))))))))))))))))))))
  refine sv n196.ok rfl (wgT rfl (yl 2 true rfl n196.at_) rfl) rfl (o_mv e197) (fun an198 n198 => ?_)
  have e199 := n198.ne rfl (n196.ne rfl (n195.ne rfl (n194.ne rfl (n191.ne rfl (n190.ne rfl ((p177.old 0 rfl).trans e173))))))
  refine sv n198.ok rfl (wgT rfl (yl 2 true rfl (n198.ne rfl n196.at_)) rfl) rfl (o_mv e199) (fun an200 n200 => ?_)
  refine sc n200.ok rfl (wgT rfl (yl 2 true rfl (n200.ne rfl (n198.ne rfl n196.at_))) rfl) rfl (o_f1 Try.func11 rfl rfl rfl n200.at_) (rmean_r X va vc (by omega) w178 (hva.gr G180) (hma.gr G180)) ?_
  rintro _ w202 ⟨maa2, mca2, rfl, hra2, g203⟩
  refine ⟨_, rfl, fun an201 n201 => ?_⟩
  have G204 := G180.trans g203
  have B205 := B181.gr g203
  have B206 := B182.gr g203
  have B207 := B183.gr g203
  have B208 := B184.gr g203
  have A209 := A186.trans g203
  have A211 := Gr.refl w202
  have e212 := n201.ne rfl (n200.ne rfl (n198.ne rfl n196.at_))
  have e213 := n201.ne rfl (n200.ne rfl (n198.ne rfl (n196.ne rfl (n195.ne rfl (n194.ne rfl (n191.ne rfl (n190.ne rfl ((p177.old 1 rfl).trans (n168.ne rfl (n166.ne rfl (n158.ne rfl (n157.ne rfl (n155.ne rfl (n154.ne rfl (n146.ne rfl (n145.ne rfl (n141.ne rfl (n140.ne rfl (n136.ne rfl (n128.ne rfl (n127.ne rfl e126)))))))))))))))))))))
  refine sv n201.ok rfl (wgT rfl (yl 2 true rfl e212) rfl) rfl (o_mv e213) (fun an214 n214 => ?_)
  refine sc n214.ok rfl (wgT rfl (yl 2 true rfl (n214.ne rfl e212)) rfl) rfl (o_f1 Try.func11 rfl rfl rfl n214.at_) (rmean_r Y vb vd (by omega) w202 (hvb.gr G204) (hmb.gr G204)) ?_
  rintro _ w216 ⟨mab3, mcb3, rfl, hrb3, g217⟩
  refine ⟨_, rfl, fun an215 n215 => ?_⟩
  have G218 := G204.trans g217
  have B219 := B205.gr g217
  have B220 := B206.gr g217
  have B221 := B207.gr g217
  have B222 := B208.gr g217
  have A223 := A209.trans g217
  have A224 := A211.trans g217
  have A226 := Gr.refl w216
  refine sc n215.ok rfl (wgT rfl (yl 2 true rfl (n215.ne rfl (n214.ne rfl e212))) rfl) rfl (o_f2 Try.func12 rfl rfl rfl (n215.ne rfl (n214.ne rfl n201.at_)) n215.at_) (rpw_any (X.map PtX.d) (Y.map PtX.d) maa2 mab3 mca2 mcb3 w216 (by rw [List.length_map]; omega) (by rw [List.length_map]; omega) (hra2.gr A224) (hrb3.gr A226) (d_okX X) (d_okX Y)) ?_
  rintro _ w228 ⟨rfl, g229⟩
  refine ⟨_, rfl, fun an227 n227 => ?_⟩
  have G230 := G218.trans g229
  have B231 := B219.gr g229
  have B232 := B220.gr g229
  have B233 := B221.gr g229
  have B234 := B222.gr g229
  have A235 := A223.trans g229
  have A236 := A224.trans g229
  have A237 := A226.trans g229
  have e238 := n227.ne rfl (n215.ne rfl (n214.ne rfl e212))
  have e239 := n227.ne rfl (n215.ne rfl (n214.ne rfl (n201.ne rfl (n200.ne rfl n198.at_))))
  refine sv n227.ok rfl (wgT rfl (yl 2 true rfl e238) rfl) rfl (o_eqB (b := true) e239 n227.at_ (by simp) Try.underlying4) (fun an240 n240 => ?_)
  refine sv n240.ok rfl (wn _ rfl) rfl (o_pkT (n240.ne rfl e238) n240.at_) (fun an241 n241 => ?_)
  refine sv n241.ok rfl (wn _ rfl) rfl (o_as n241.at_) (fun an242 n242 => ?_)
  refine wpList_nil ?_
  refine th_n (hK192 _ _ ?_)
  refine wp_ret ?_
  exact ret1 n242.ok rfl (n242.at_) ⟨rfl, G230⟩
theorem partSays_walk (K L : List PtI) (va vb : Option Addr) (vc vd : Nat) (t n a c : Int) (w : World) (hla : K.length ≤ 9223372036854775807) (hlb : L.length ≤ 9223372036854775807) (hva : RdA encR 3 w va K) (hma : MeansI w K) (hvb : RdA encR 3 w vb L) (hmb : MeansI w L) :
    Calls Try.prog 3 #[.slice va K.length vc, .slice vb L.length vd, .agg #[.int .i64 t, .int .i64 n], .agg #[.int .i64 a, .int .i64 c]] w fun e w' => e = .returned (.bool true) ∧ Gr w w' := by
  by_cases hA : chkP K = 0
  · obtain ⟨X, e1, h1, h2, h3⟩ := parts_x hva hma hA
    rw [← e1]
    by_cases hB : chkP L = 0
    · obtain ⟨Y, e2, k1, k2, k3⟩ := parts_x hvb hmb hB
      rw [← e2]
      cases hp : pointB t n && dotB (a, c)
      · cases hP : pointB t n
        · exact partSays_ok_ok_o1 X Y va vb vc vd t n a c hp hP w h1 h2 h3 k1 k2 k3
        · exact partSays_ok_ok_o2 X Y va vb vc vd t n a c hp hP (by rw [hP] at hp; simpa using hp) w h1 h2 h3 k1 k2 k3
      · have q : pointB t n = true ∧ dotB (a, c) = true := by simpa using hp
        obtain ⟨x, y, hx, hy, rfl, rfl⟩ := point_of q.1
        obtain ⟨z, u, rfl, rfl, hi⟩ := inR_of q.2
        exact partSays_ok_ok_i X Y va vb vc vd x y z u hx hy hi hp q.1 q.2 w h1 h2 h3 k1 k2 k3
    · cases hp : pointB t n && dotB (a, c)
      · cases hP : pointB t n
        · exact partSays_ok_bad_o1 X L va vb vc vd t n a c hp hP w h1 h2 h3 hlb hvb hmb hB
        · exact partSays_ok_bad_o2 X L va vb vc vd t n a c hp hP (by rw [hP] at hp; simpa using hp) w h1 h2 h3 hlb hvb hmb hB
      · have q : pointB t n = true ∧ dotB (a, c) = true := by simpa using hp
        obtain ⟨x, y, hx, hy, rfl, rfl⟩ := point_of q.1
        obtain ⟨z, u, rfl, rfl, hi⟩ := inR_of q.2
        exact partSays_ok_bad_i X L va vb vc vd x y z u hx hy hi hp q.1 q.2 w h1 h2 h3 hlb hvb hmb hB
  · exact partSays_bad_any_any K L va vb vc vd t n a c w hla hva hma hlb hvb hmb hA
end Go.Proofs.Ythcehgmpajejeaa
