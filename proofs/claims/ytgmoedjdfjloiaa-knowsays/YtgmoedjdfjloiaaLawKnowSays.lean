/- The walk of KnowSays. -/
import Derived.Test.YtgmoedjdfjloiaaKmC
set_option linter.unusedVariables false
set_option linter.unusedSimpArgs false
namespace Go.Proofs.Ytgmoedjdfjloiaa
open Go.RowKit Rm Gx
set_option maxHeartbeats 8000000 in
set_option maxRecDepth 100000 in
theorem knowSays_bad (va ma : Option Addr) (vc mc : Nat) (V : List Int) (M : List (Int × Int)) (x y : Int) (hE : chkK V M ≠ 0) (w : World) (hk : KnR w (.agg #[.slice va V.length vc, .slice ma M.length mc]) V M) :
    Calls Try.prog 3 #[.agg #[.slice va V.length vc, .slice ma M.length mc], .agg #[.int .i64 (x), .int .i64 (y)]] w fun e w' => e = .returned (.bool true) ∧ Gr w w' := by
  refine enter (N := 131) Try.func3 rfl rfl rfl (fun a0 ok0 h0 => ?_)
  have e0_0 : a0.eval (.tmp 0) = .agg #[.slice va V.length vc, .slice ma M.length mc] := h0 0 _ rfl
  have e0_1 : a0.eval (.tmp 1) = .agg #[.int .i64 (x), .int .i64 (y)] := h0 1 _ rfl
  clear h0
  have G0 := Gr.refl w
  refine wp_seq_k (fun K1 hK1 => ?_)
  refine wp_region_lit ?_
  refine sal (cs := #[.slice va V.length vc, .slice ma M.length mc]) ok0 rfl (wn _ rfl) rfl (o_box e0_0) (fun an2 w4 b3 W5 n2 => ?_)
  have l6 : w.heap.size ≤ b3 := by rw [W5.eq]; exact G0.size
  have G7 := G0.trans W5.gr
  refine sal (cs := #[.int .i64 (x), .int .i64 (y)]) n2.ok rfl (wn _ rfl) rfl (o_box (n2.ne rfl e0_1)) (fun an8 w10 b9 W11 n8 => ?_)
  have l12 : b3 < b9 := by rw [W11.eq]; exact W5.bk.lt
  have l13 : w.heap.size ≤ b9 := by rw [W11.eq]; exact G7.size
  have G14 := G7.trans W11.gr
  have B15 := W5.bk.gr W11.gr
  refine sv n8.ok rfl (wn _ rfl) rfl (o_as ev_const) (fun an16 n16 => ?_)
  refine wpList_nil ?_
  refine th_n (hK1 _ _ ?_)
  refine wp_seq_k (fun K17 hK17 => ?_)
  refine wp_region_lit ?_
  refine sv n16.ok rfl (wn _ rfl) rfl (o_ldR (n16.ne rfl (n8.ne rfl n2.at_)) B15 Try.underlying25 rfl (by kernel_rfl)) (fun an18 n18 => ?_)
  refine sv n18.ok rfl (wn _ rfl) rfl (o_ldR (n18.ne rfl (n16.ne rfl n8.at_)) W11.bk Try.underlying27 rfl (by kernel_rfl)) (fun an19 n19 => ?_)
  refine sc n19.ok rfl (wn _ rfl) rfl (o_f2 Try.func10 rfl rfl rfl (n19.ne rfl n18.at_) n19.at_) (by have h := hasf_any _ V M (x, y) w10 (hk.gr G14) (by rw [chkA_k hE]; exact hE); rw [chkA_k hE] at h; exact h) ?_
  rintro _ w21 ⟨rfl, g22⟩
  refine ⟨_, rfl, fun an20 n20 => ?_⟩
  have G23 := G14.trans g22
  have B24 := B15.gr g22
  have B25 := W11.bk.gr g22
  refine sv n20.ok rfl (wn _ rfl) rfl (o_mv n20.at_) (fun an26 n26 => ?_)
  refine sv n26.ok rfl (wn _ rfl) rfl (o_ex n26.at_ rfl) (fun an27 n27 => ?_)
  refine sv n27.ok rfl (wn _ rfl) rfl (o_ex (n27.ne rfl n26.at_) rfl) (fun an28 n28 => ?_)
  refine sv n28.ok rfl (wn _ rfl) rfl (o_as (n28.ne rfl n27.at_)) (fun an29 n29 => ?_)
  refine sv n29.ok rfl (wn _ rfl) rfl (o_as (n29.ne rfl n28.at_)) (fun an30 n30 => ?_)
  refine wpList_nil ?_
  refine th_n (hK17 _ _ ?_)
  refine wp_seq_k (fun K31 hK31 => ?_)
  refine wp_region_lit ?_
  have e32 := n30.ne rfl (n29.ne rfl (n28.ne rfl (n27.ne rfl (n26.ne rfl (n20.ne rfl (n19.ne rfl (n18.ne rfl (n16.ne rfl (n8.ne rfl n2.at_)))))))))
  refine sv n30.ok rfl (wn _ rfl) rfl (o_ldR e32 B24 Try.underlying25 rfl (by kernel_rfl)) (fun an33 n33 => ?_)
  have e34 := n33.ne rfl (n30.ne rfl (n29.ne rfl (n28.ne rfl (n27.ne rfl (n26.ne rfl (n20.ne rfl (n19.ne rfl (n18.ne rfl (n16.ne rfl n8.at_)))))))))
  refine sv n33.ok rfl (wn _ rfl) rfl (o_ldR e34 B25 Try.underlying27 rfl (by kernel_rfl)) (fun an35 n35 => ?_)
  refine sc n35.ok rfl (wn _ rfl) rfl (o_f2 Try.func11 rfl rfl rfl (n35.ne rfl n33.at_) n35.at_) (by have h := add_bad _ V M (x, y) w21 (hk.gr G23) (by rw [chkA_k hE]; exact hE); rw [chkA_k hE] at h; exact h) ?_
  rintro _ w37 ⟨rfl, g38⟩
  refine ⟨_, rfl, fun an36 n36 => ?_⟩
  have G39 := G23.trans g38
  have B40 := B24.gr g38
  have B41 := B25.gr g38
  refine sv n36.ok rfl (wn _ rfl) rfl (o_mv n36.at_) (fun an42 n42 => ?_)
  refine sv n42.ok rfl (wn _ rfl) rfl (o_ex n42.at_ rfl) (fun an43 n43 => ?_)
  refine sv n43.ok rfl (wn _ rfl) rfl (o_ex (n43.ne rfl n42.at_) rfl) (fun an44 n44 => ?_)
  refine sal (cs := #[.slice none 0 0, .slice none 0 0]) n44.ok rfl (wn _ rfl) rfl (o_al (z := .agg #[.slice none 0 0, .slice none 0 0]) (by kernel_rfl)) (fun an45 w47 b46 W48 n45 => ?_)
  have l49 : b3 < b46 := by rw [W48.eq]; exact B40.lt
  have l50 : b9 < b46 := by rw [W48.eq]; exact B41.lt
  have l51 : w.heap.size ≤ b46 := by rw [W48.eq]; exact G39.size
  have G52 := G39.trans W48.gr
  have B53 := B40.gr W48.gr
  have B54 := B41.gr W48.gr
  refine ssR rfl (wn _ rfl) (o_stR n45.at_ (n45.ne rfl (n44.ne rfl n43.at_)) W48.bk (by kernel_rfl) rfl (by simp [Value.oneCell'])) W48.bk (fun w55 u56 u56b => ?_)
  have G57 : Gr w w55 := Below.upd G52 l51 u56
  have B58 := B53.upd u56 (Nat.ne_of_lt l49)
  have B59 := B54.upd u56 (Nat.ne_of_lt l50)
  refine sv n45.ok rfl (wn _ rfl) rfl (o_as (n45.ne rfl n44.at_)) (fun an60 n60 => ?_)
  refine wpList_nil ?_
  refine th_n (hK31 _ _ ?_)
  refine wp_seq_k (fun K61 hK61 => ?_)
  refine wp_region_lit ?_
  have e62 := n60.ne rfl (n45.ne rfl (n44.ne rfl (n43.ne rfl (n42.ne rfl (n36.ne rfl (n35.ne rfl (n33.ne rfl e32)))))))
  refine sv n60.ok rfl (wn _ rfl) rfl (o_ldR e62 B58 Try.underlying25 rfl (by kernel_rfl)) (fun an63 n63 => ?_)
  refine sc n63.ok rfl (wn _ rfl) rfl (o_f1 Try.func12 rfl rfl rfl n63.at_) (count_bad _ V M w55 (hk.gr G57) hE) ?_
  rintro _ w65 ⟨rfl, g66⟩
  refine ⟨_, rfl, fun an64 n64 => ?_⟩
  have G67 := G57.trans g66
  have B68 := B58.gr g66
  have B69 := B59.gr g66
  have B70 := u56b.gr g66
  refine sv n64.ok rfl (wn _ rfl) rfl (o_mv n64.at_) (fun an71 n71 => ?_)
  refine sv n71.ok rfl (wn _ rfl) rfl (o_ex n71.at_ rfl) (fun an72 n72 => ?_)
  refine sv n72.ok rfl (wn _ rfl) rfl (o_ex (n72.ne rfl n71.at_) rfl) (fun an73 n73 => ?_)
  refine sv n73.ok rfl (wn _ rfl) rfl (o_as (n73.ne rfl n72.at_)) (fun an74 n74 => ?_)
  refine sv n74.ok rfl (wn _ rfl) rfl (o_as (n74.ne rfl n73.at_)) (fun an75 n75 => ?_)
  refine wpList_nil ?_
  refine th_n (hK61 _ _ ?_)
  refine wp_seq_k (fun K76 hK76 => ?_)
  refine wp_region_lit ?_
  have e77 := n75.ne rfl (n74.ne rfl (n73.ne rfl (n72.ne rfl (n71.ne rfl (n64.ne rfl (n63.ne rfl e62))))))
  refine sv n75.ok rfl (wn _ rfl) rfl (o_ldR e77 B68 Try.underlying25 rfl (by kernel_rfl)) (fun an78 n78 => ?_)
  refine sc n78.ok rfl (wn _ rfl) rfl (o_f1 Try.func13 rfl rfl rfl n78.at_) (rknow_any _ V M w65 (hk.gr G67)) ?_
  rintro _ w80 ⟨rfl, g81⟩
  refine ⟨_, rfl, fun an79 n79 => ?_⟩
  have G82 := G67.trans g81
  have B83 := B68.gr g81
  have B84 := B69.gr g81
  have B85 := B70.gr g81
  refine sv n79.ok rfl (wn _ rfl) rfl (o_as n79.at_) (fun an86 n86 => ?_)
  refine wpList_nil ?_
  refine th_n (hK76 _ _ ?_)
  refine wp_seq_k (fun K87 hK87 => ?_)
  refine wp_seq_k (fun K88 hK88 => ?_)
  refine reg_start (N := 131) (m := 16) (by kernel_rfl) (fun R890 => ?_)
  have e90 := n86.ne rfl (n79.ne rfl (n78.ne rfl (n75.ne rfl (n74.ne rfl (n73.ne rfl (n72.ne rfl (n71.ne rfl (n64.ne rfl (n63.ne rfl (n60.ne rfl (n45.ne rfl (n44.ne rfl (n43.ne rfl (n42.ne rfl (n36.ne rfl (n35.ne rfl e34))))))))))))))))
  have R891 := R890.snoc (n' := 1) rfl (fun vJ _ => vJ = .agg #[.int .i64 (x), .int .i64 (y)]) rfl (fun _ _ _ _ h => h) (fun aS wS pS => by
      exact Does.val (wn _ rfl) (o_ldR ((pS.old 3 rfl).trans e90) (Bk.gr B84 (gr_drew pS.gr)) Try.underlying27 rfl (by kernel_rfl)) (Gr.refl _) rfl rfl)
  have R892 := R891.snoc (n' := 2) rfl (fun vJ _ => vJ = .bool (dotB (x, y))) rfl (fun _ _ _ _ h => h) (fun aS wS pS => by
      have eR89_0 : aS.eval (.tmp 33) = .agg #[.int .i64 (x), .int .i64 (y)] := pS.pre 0 rfl
      exact Does.call (wn _ rfl) (o_f1 Try.func14 rfl rfl rfl (eR89_0)) (dot_any (x, y) wS) (by rintro _ w2 ⟨rfl, g⟩; exact ⟨_, rfl, g, rfl⟩) rfl)
  have R893 := R892.snoc (n' := 3) rfl (fun vJ _ => vJ = .agg #[.int .i64 (x), .int .i64 (y)]) rfl (fun _ _ _ _ h => h) (fun aS wS pS => by
      exact Does.val (wn _ rfl) (o_ldR ((pS.old 3 rfl).trans e90) (Bk.gr B84 (gr_drew pS.gr)) Try.underlying27 rfl (by kernel_rfl)) (Gr.refl _) rfl rfl)
  have R894 := R893.snoc (n' := 4) rfl (fun vJ _ => vJ = .bool (dotB (x, y))) rfl (fun _ _ _ _ h => h) (fun aS wS pS => by
      have eR89_2 : aS.eval (.tmp 35) = .agg #[.int .i64 (x), .int .i64 (y)] := pS.pre 2 rfl
      exact Does.call (wn _ rfl) (o_f1 Try.func15 rfl rfl rfl (eR89_2)) (rdot_any (x, y) wS) (by rintro _ w2 ⟨rfl, g⟩; exact ⟨_, rfl, g, rfl⟩) rfl)
  have R895 := R894.snoc (n' := 5) rfl (fun vJ _ => vJ = .bool false) rfl (fun _ _ _ _ h => h) (fun aS wS pS => by
      have eR89_1 : aS.eval (.tmp 34) = .bool (dotB (x, y)) := pS.pre 1 rfl
      have eR89_3 : aS.eval (.tmp 36) = .bool (dotB (x, y)) := pS.pre 3 rfl
      exact Does.val (wn _ rfl) (o_neqB (b := false) (eR89_1) (eR89_3) (by simp) Try.underlying4) (Gr.refl _) rfl rfl)
  have R896 := R895.snoc (n' := 6) rfl (fun vJ _ => vJ = .bool false) rfl (fun _ _ _ _ h => h) (fun aS wS pS => by
      have eR89_4 : aS.eval (.tmp 37) = .bool false := pS.pre 4 rfl
      exact Does.val (wn _ rfl) (o_mv (eR89_4)) (Gr.refl _) rfl rfl)
  have e91 := n86.ne rfl (n79.ne rfl (n78.ne rfl e77))
  have R897 := R896.snoc (n' := 7) rfl (fun vJ _ => vJ = .agg #[.slice va V.length vc, .slice ma M.length mc]) rfl (fun _ _ _ _ h => h) (fun aS wS pS => by
      have eR89_5 : aS.eval (.tmp 38) = .bool false := pS.pre 5 rfl
      exact Does.val (wgT rfl (yl 5 false rfl eR89_5) rfl) (o_ldR ((pS.old 2 rfl).trans e91) (Bk.gr B83 (gr_drew pS.gr)) Try.underlying25 rfl (by kernel_rfl)) (Gr.refl _) rfl rfl)
  have R898 := R897.snoc (n' := 8) rfl (fun vJ _ => vJ = .int .i64 (chkK V M)) rfl (fun _ _ _ _ h => h) (fun aS wS pS => by
      have eR89_5 : aS.eval (.tmp 38) = .bool false := pS.pre 5 rfl
      have eR89_6 : aS.eval (.tmp 39) = .agg #[.slice va V.length vc, .slice ma M.length mc] := pS.pre 6 rfl
      exact Does.call (wgT rfl (yl 5 false rfl eR89_5) rfl) (o_f1 Try.func16 rfl rfl rfl (eR89_6)) (check_any _ V M wS (hk.gr (G82.trans (gr_drew pS.gr)))) (by rintro _ w2 ⟨rfl, g⟩; exact ⟨_, rfl, g, rfl⟩) rfl)
  have R899 := R898.snoc (n' := 9) rfl (fun vJ _ => vJ = .int .i64 (chkK V M)) rfl (fun _ _ _ _ h => h) (fun aS wS pS => by
      have eR89_5 : aS.eval (.tmp 38) = .bool false := pS.pre 5 rfl
      exact Does.val (wgT rfl (yl 5 false rfl eR89_5) rfl) (o_mv ((pS.old 11 rfl).trans n86.at_)) (Gr.refl _) rfl rfl)
  have R8910 := R899.snoc (n' := 10) rfl (fun vJ _ => vJ = .bool false) rfl (fun _ _ _ _ h => h) (fun aS wS pS => by
      have eR89_5 : aS.eval (.tmp 38) = .bool false := pS.pre 5 rfl
      have eR89_7 : aS.eval (.tmp 40) = .int .i64 (chkK V M) := pS.pre 7 rfl
      have eR89_8 : aS.eval (.tmp 41) = .int .i64 (chkK V M) := pS.pre 8 rfl
      exact Does.val (wgT rfl (yl 5 false rfl eR89_5) rfl) (o_neq (b := false) (eR89_7) (eR89_8) (by simp [show (chkK V M) = (chkK V M) from rfl])) (Gr.refl _) rfl rfl)
  have R8911 := R8910.snoc (n' := 11) rfl (fun vJ _ => vJ = .bool false) rfl (fun _ _ _ _ h => h) (fun aS wS pS => by
      have eR89_5 : aS.eval (.tmp 38) = .bool false := pS.pre 5 rfl
      have eR89_9 : aS.eval (.tmp 42) = .bool false := pS.pre 9 rfl
      exact Does.val (wn _ rfl) (o_pkF (eR89_5) (eR89_9)) (Gr.refl _) rfl rfl)
  have R8912 := R8911.snoc (n' := 12) rfl (fun vJ _ => vJ = .bool false) rfl (fun _ _ _ _ h => h) (fun aS wS pS => by
      have eR89_10 : aS.eval (.tmp 43) = .bool false := pS.pre 10 rfl
      exact Does.val (wn _ rfl) (o_mv (eR89_10)) (Gr.refl _) rfl rfl)
  have R8913 := R8912.snoc (n' := 13) rfl (fun vJ _ => vJ = .agg #[.int .i64 0, .int .i64 1]) rfl (fun _ _ _ _ h => h) (fun aS wS pS => by
      have eR89_11 : aS.eval (.tmp 44) = .bool false := pS.pre 11 rfl
      exact Does.val (wgT rfl (yl 11 false rfl eR89_11) rfl) (o_bd (cells := #[.int .i64 0, .int .i64 1]) (vs := [(1, .int .i64 1)]) (by simp [ev_const]) (by kernel_rfl)) (Gr.refl _) rfl rfl)
  have R8914 := R8913.snoc (n' := 14) rfl (fun vJ _ => vJ = .bool true) rfl (fun _ _ _ _ h => h) (fun aS wS pS => by
      have eR89_11 : aS.eval (.tmp 44) = .bool false := pS.pre 11 rfl
      have eR89_12 : aS.eval (.tmp 45) = .agg #[.int .i64 0, .int .i64 1] := pS.pre 12 rfl
      exact Does.call (wgT rfl (yl 11 false rfl eR89_11) rfl) (o_f1 Try.func14 rfl rfl rfl (eR89_12)) (dot_any (0, 1) wS) (by rintro _ w2 ⟨rfl, g⟩; exact ⟨_, rfl, g, rfl⟩) rfl)
  have R8915 := R8914.snoc (n' := 15) rfl (fun vJ _ => vJ = .bool false) rfl (fun _ _ _ _ h => h) (fun aS wS pS => by
      have eR89_11 : aS.eval (.tmp 44) = .bool false := pS.pre 11 rfl
      have eR89_13 : aS.eval (.tmp 46) = .bool true := pS.pre 13 rfl
      exact Does.val (wgT rfl (yl 11 false rfl eR89_11) rfl) (o_not (eR89_13) rfl) (Gr.refl _) rfl rfl)
  have R8916 := R8915.snoc (n' := 16) rfl (fun vJ _ => vJ = .bool false) rfl (fun _ _ _ _ h => h) (fun aS wS pS => by
      have eR89_11 : aS.eval (.tmp 44) = .bool false := pS.pre 11 rfl
      have eR89_14 : aS.eval (.tmp 47) = .bool false := pS.pre 14 rfl
      exact Does.val (wn _ rfl) (o_pkF (eR89_11) (eR89_14)) (Gr.refl _) rfl rfl)
  refine R8916.run (k := 0) (L := #[true, true, true, true, true, true, true, true, true, true, true, true, true, true, true, true]) (by kernel_rfl) (by kernel_rfl) (by kernel_rfl) n86.ok (by kernel_rfl) (by kernel_rfl) (fun ap93 w94 p93 => ?_)
  have g95 := gr_drew p93.gr
  have G96 := G82.trans g95
  have B97 := B83.gr g95
  have B98 := B84.gr g95
  have B99 := B85.gr g95
  refine wpAny_done (by kernel_rfl) ?_ _
  refine th_n (hK88 _ _ ?_)
  have ep93_15 : ap93.eval (.tmp 48) = .bool false := p93.js 15 rfl
  refine wp_cond_false (ep93_15) ?_
  refine wp_skip ?_
  refine th_n (hK87 _ _ ?_)
  refine wp_seq_k (fun K100 hK100 => ?_)
  refine wp_seq_k (fun K101 hK101 => ?_)
  refine wp_region_lit ?_
  refine sv p93.ok rfl (wn _ rfl) rfl (o_mv ((p93.old 11 rfl).trans n86.at_)) (fun an102 n102 => ?_)
  refine sv n102.ok rfl (wn _ rfl) rfl (o_neq (b := true) n102.at_ ev_const (by simp [show ¬ (chkK V M) = 0 from hE])) (fun an103 n103 => ?_)
  refine wpList_nil ?_
  refine th_n (hK101 _ _ ?_)
  refine wp_cond_true (n103.at_) ?_
  refine wp_seq_k (fun K104 hK104 => ?_)
  refine wp_region_lit ?_
  have e105 := n103.ne rfl (n102.ne rfl ((p93.old 6 rfl).trans (n86.ne rfl (n79.ne rfl (n78.ne rfl (n75.ne rfl (n74.ne rfl (n73.ne rfl (n72.ne rfl (n71.ne rfl (n64.ne rfl (n63.ne rfl (n60.ne rfl (n45.ne rfl (n44.ne rfl (n43.ne rfl (n42.ne rfl (n36.ne rfl (n35.ne rfl (n33.ne rfl n30.at_))))))))))))))))))))
  refine sv n103.ok rfl (wn _ rfl) rfl (o_mv e105) (fun an106 n106 => ?_)
  have e107 := n106.ne rfl (n103.ne rfl (n102.ne rfl ((p93.old 11 rfl).trans n86.at_)))
  refine sv n106.ok rfl (wn _ rfl) rfl (o_mv e107) (fun an108 n108 => ?_)
  refine sv n108.ok rfl (wn _ rfl) rfl (o_eq (n108.ne rfl n106.at_) n108.at_ (decide_eq_true rfl)) (fun an109 n109 => ?_)
  refine sv n109.ok rfl (wn _ rfl) rfl (o_mv n109.at_) (fun an110 n110 => ?_)
  have e111 := n110.ne rfl (n109.ne rfl (n108.ne rfl (n106.ne rfl (n103.ne rfl (n102.ne rfl ((p93.old 8 rfl).trans (n86.ne rfl (n79.ne rfl (n78.ne rfl (n75.ne rfl (n74.ne rfl (n73.ne rfl (n72.ne rfl (n71.ne rfl (n64.ne rfl (n63.ne rfl n60.at_))))))))))))))))
  refine sv n110.ok rfl (wgT rfl (yl 3 true rfl n110.at_) rfl) rfl (o_mv e111) (fun an112 n112 => ?_)
  have e113 := n112.ne rfl (n110.ne rfl (n109.ne rfl (n108.ne rfl e107)))
  refine sv n112.ok rfl (wgT rfl (yl 3 true rfl (n112.ne rfl n110.at_)) rfl) rfl (o_mv e113) (fun an114 n114 => ?_)
  refine sv n114.ok rfl (wgT rfl (yl 3 true rfl (n114.ne rfl (n112.ne rfl n110.at_))) rfl) rfl (o_eq (n114.ne rfl n112.at_) n114.at_ (decide_eq_true rfl)) (fun an115 n115 => ?_)
  have e116 := n115.ne rfl (n114.ne rfl (n112.ne rfl n110.at_))
  refine sv n115.ok rfl (wn _ rfl) rfl (o_pkT e116 n115.at_) (fun an117 n117 => ?_)
  refine sv n117.ok rfl (wn _ rfl) rfl (o_mv n117.at_) (fun an118 n118 => ?_)
  have e119 := n118.ne rfl (n117.ne rfl (n115.ne rfl (n114.ne rfl (n112.ne rfl (n110.ne rfl (n109.ne rfl (n108.ne rfl (n106.ne rfl (n103.ne rfl (n102.ne rfl ((p93.old 10 rfl).trans (n86.ne rfl (n79.ne rfl (n78.ne rfl n75.at_))))))))))))))
  refine sv n118.ok rfl (wgT rfl (yl 8 true rfl n118.at_) rfl) rfl (o_mv e119) (fun an120 n120 => ?_)
  have e121 := n120.ne rfl (n118.ne rfl (n117.ne rfl (n115.ne rfl (n114.ne rfl e113))))
  refine sv n120.ok rfl (wgT rfl (yl 8 true rfl (n120.ne rfl n118.at_)) rfl) rfl (o_mv e121) (fun an122 n122 => ?_)
  refine sv n122.ok rfl (wgT rfl (yl 8 true rfl (n122.ne rfl (n120.ne rfl n118.at_))) rfl) rfl (o_eq (n122.ne rfl n120.at_) n122.at_ (decide_eq_true rfl)) (fun an123 n123 => ?_)
  have e124 := n123.ne rfl (n122.ne rfl (n120.ne rfl n118.at_))
  refine sv n123.ok rfl (wn _ rfl) rfl (o_pkT e124 n123.at_) (fun an125 n125 => ?_)
  refine sv n125.ok rfl (wn _ rfl) rfl (o_mv n125.at_) (fun an126 n126 => ?_)
  have e127 := n126.ne rfl (n125.ne rfl (n123.ne rfl (n122.ne rfl (n120.ne rfl (n118.ne rfl (n117.ne rfl (n115.ne rfl (n114.ne rfl (n112.ne rfl (n110.ne rfl (n109.ne rfl (n108.ne rfl (n106.ne rfl (n103.ne rfl (n102.ne rfl ((p93.old 5 rfl).trans (n86.ne rfl (n79.ne rfl (n78.ne rfl (n75.ne rfl (n74.ne rfl (n73.ne rfl (n72.ne rfl (n71.ne rfl (n64.ne rfl (n63.ne rfl (n60.ne rfl (n45.ne rfl (n44.ne rfl (n43.ne rfl (n42.ne rfl (n36.ne rfl (n35.ne rfl (n33.ne rfl (n30.ne rfl n29.at_)))))))))))))))))))))))))))))))))))
  refine sv n126.ok rfl (wgT rfl (yl 13 true rfl n126.at_) rfl) rfl (o_mv e127) (fun an128 n128 => ?_)
  refine sv n128.ok rfl (wgT rfl (yl 13 true rfl (n128.ne rfl n126.at_)) rfl) rfl (o_not n128.at_ rfl) (fun an129 n129 => ?_)
  refine sv n129.ok rfl (wn _ rfl) rfl (o_pkT (n129.ne rfl (n128.ne rfl n126.at_)) n129.at_) (fun an130 n130 => ?_)
  refine sv n130.ok rfl (wn _ rfl) rfl (o_mv n130.at_) (fun an131 n131 => ?_)
  have e132 := n131.ne rfl (n130.ne rfl (n129.ne rfl (n128.ne rfl (n126.ne rfl (n125.ne rfl (n123.ne rfl (n122.ne rfl (n120.ne rfl (n118.ne rfl (n117.ne rfl (n115.ne rfl (n114.ne rfl (n112.ne rfl (n110.ne rfl (n109.ne rfl (n108.ne rfl (n106.ne rfl (n103.ne rfl (n102.ne rfl ((p93.old 9 rfl).trans (n86.ne rfl (n79.ne rfl (n78.ne rfl (n75.ne rfl n74.at_))))))))))))))))))))))))
  refine sv n131.ok rfl (wgT rfl (yl 17 true rfl n131.at_) rfl) rfl (o_mv e132) (fun an133 n133 => ?_)
  refine sv n133.ok rfl (wgT rfl (yl 17 true rfl (n133.ne rfl n131.at_)) rfl) rfl (o_eq (b := true) n133.at_ ev_const (by decide)) (fun an134 n134 => ?_)
  refine sv n134.ok rfl (wn _ rfl) rfl (o_pkT (n134.ne rfl (n133.ne rfl n131.at_)) n134.at_) (fun an135 n135 => ?_)
  refine sv n135.ok rfl (wn _ rfl) rfl (o_mv n135.at_) (fun an136 n136 => ?_)
  have e137 := n136.ne rfl (n135.ne rfl (n134.ne rfl (n133.ne rfl (n131.ne rfl (n130.ne rfl (n129.ne rfl (n128.ne rfl (n126.ne rfl (n125.ne rfl (n123.ne rfl (n122.ne rfl (n120.ne rfl (n118.ne rfl (n117.ne rfl (n115.ne rfl (n114.ne rfl (n112.ne rfl (n110.ne rfl (n109.ne rfl (n108.ne rfl (n106.ne rfl (n103.ne rfl (n102.ne rfl ((p93.old 7 rfl).trans (n86.ne rfl (n79.ne rfl (n78.ne rfl (n75.ne rfl (n74.ne rfl (n73.ne rfl (n72.ne rfl (n71.ne rfl (n64.ne rfl (n63.ne rfl (n60.ne rfl n45.at_)))))))))))))))))))))))))))))))))))
  refine sv n136.ok rfl (wgT rfl (yl 21 true rfl n136.at_) rfl) rfl (o_ldR e137 B99 Try.underlying25 rfl (by kernel_rfl)) (fun an138 n138 => ?_)
  refine sv n138.ok rfl (wgT rfl (yl 21 true rfl (n138.ne rfl n136.at_)) rfl) rfl (o_b0 (cs := #[.slice none 0 0, .slice none 0 0]) Try.underlying25 (by kernel_rfl) (by kernel_rfl)) (fun an139 n139 => ?_)
  refine sc n139.ok rfl (wgT rfl (yl 21 true rfl (n139.ne rfl (n138.ne rfl n136.at_))) rfl) rfl (o_f2 Try.func17 rfl rfl rfl (n139.ne rfl n138.at_) n139.at_) (sameK_t _ _ _ _ w94 (knR_nil w94) (knR_nil w94) (by simp) (by simp)) ?_
  rintro _ w141 ⟨rfl, g142⟩
  refine ⟨_, rfl, fun an140 n140 => ?_⟩
  have G143 := G96.trans g142
  have B144 := B97.gr g142
  have B145 := B98.gr g142
  have B146 := B99.gr g142
  have e147 := n140.ne rfl (n139.ne rfl (n138.ne rfl n136.at_))
  refine sv n140.ok rfl (wn _ rfl) rfl (o_pkT e147 n140.at_) (fun an148 n148 => ?_)
  refine sv n148.ok rfl (wn _ rfl) rfl (o_as n148.at_) (fun an149 n149 => ?_)
  refine wpList_nil ?_
  refine th_n (hK104 _ _ ?_)
  refine wp_ret ?_
  refine th_r ?_
  exact ret1 n149.ok rfl (n149.at_) ⟨rfl, G143⟩
set_option maxHeartbeats 8000000 in
set_option maxRecDepth 100000 in
theorem knowSays_dot (va ma : Option Addr) (vc mc : Nat) (v : List Nat) (m : List (Nat × Nat)) (x y : Int) (ok : OkV v m) (hl : m.length ≤ 60) (hE : chkK (ints v) (pairs m) = 0) (hd : dotB (x, y) = false) (w : World) (hk : KnR w (.agg #[.slice va (ints v).length vc, .slice ma (pairs m).length mc]) (ints v) (pairs m)) :
    Calls Try.prog 3 #[.agg #[.slice va ((ints v).length) vc, .slice ma ((pairs m).length) mc], .agg #[.int .i64 (x), .int .i64 (y)]] w fun e w' => e = .returned (.bool true) ∧ Gr w w' := by
  refine enter (N := 131) Try.func3 rfl rfl rfl (fun a0 ok0 h0 => ?_)
  have e0_0 : a0.eval (.tmp 0) = .agg #[.slice va ((ints v).length) vc, .slice ma ((pairs m).length) mc] := h0 0 _ rfl
  have e0_1 : a0.eval (.tmp 1) = .agg #[.int .i64 (x), .int .i64 (y)] := h0 1 _ rfl
  clear h0
  have G0 := Gr.refl w
  refine wp_seq_k (fun K1 hK1 => ?_)
  refine wp_region_lit ?_
  refine sal (cs := #[.slice va ((ints v).length) vc, .slice ma ((pairs m).length) mc]) ok0 rfl (wn _ rfl) rfl (o_box e0_0) (fun an2 w4 b3 W5 n2 => ?_)
  have l6 : w.heap.size ≤ b3 := by rw [W5.eq]; exact G0.size
  have G7 := G0.trans W5.gr
  refine sal (cs := #[.int .i64 (x), .int .i64 (y)]) n2.ok rfl (wn _ rfl) rfl (o_box (n2.ne rfl e0_1)) (fun an8 w10 b9 W11 n8 => ?_)
  have l12 : b3 < b9 := by rw [W11.eq]; exact W5.bk.lt
  have l13 : w.heap.size ≤ b9 := by rw [W11.eq]; exact G7.size
  have G14 := G7.trans W11.gr
  have B15 := W5.bk.gr W11.gr
  refine sv n8.ok rfl (wn _ rfl) rfl (o_as ev_const) (fun an16 n16 => ?_)
  refine wpList_nil ?_
  refine th_n (hK1 _ _ ?_)
  refine wp_seq_k (fun K17 hK17 => ?_)
  refine wp_region_lit ?_
  refine sv n16.ok rfl (wn _ rfl) rfl (o_ldR (n16.ne rfl (n8.ne rfl n2.at_)) B15 Try.underlying25 rfl (by kernel_rfl)) (fun an18 n18 => ?_)
  refine sv n18.ok rfl (wn _ rfl) rfl (o_ldR (n18.ne rfl (n16.ne rfl n8.at_)) W11.bk Try.underlying27 rfl (by kernel_rfl)) (fun an19 n19 => ?_)
  refine sc n19.ok rfl (wn _ rfl) rfl (o_f2 Try.func10 rfl rfl rfl (n19.ne rfl n18.at_) n19.at_) (by have h := hasf_any _ (ints v) (pairs m) (x, y) w10 (hk.gr G14) (by rw [chkA_1 hE hd]; decide); rw [chkA_1 hE hd] at h; exact h) ?_
  rintro _ w21 ⟨rfl, g22⟩
  refine ⟨_, rfl, fun an20 n20 => ?_⟩
  have G23 := G14.trans g22
  have B24 := B15.gr g22
  have B25 := W11.bk.gr g22
  refine sv n20.ok rfl (wn _ rfl) rfl (o_mv n20.at_) (fun an26 n26 => ?_)
  refine sv n26.ok rfl (wn _ rfl) rfl (o_ex n26.at_ rfl) (fun an27 n27 => ?_)
  refine sv n27.ok rfl (wn _ rfl) rfl (o_ex (n27.ne rfl n26.at_) rfl) (fun an28 n28 => ?_)
  refine sv n28.ok rfl (wn _ rfl) rfl (o_as (n28.ne rfl n27.at_)) (fun an29 n29 => ?_)
  refine sv n29.ok rfl (wn _ rfl) rfl (o_as (n29.ne rfl n28.at_)) (fun an30 n30 => ?_)
  refine wpList_nil ?_
  refine th_n (hK17 _ _ ?_)
  refine wp_seq_k (fun K31 hK31 => ?_)
  refine wp_region_lit ?_
  have e32 := n30.ne rfl (n29.ne rfl (n28.ne rfl (n27.ne rfl (n26.ne rfl (n20.ne rfl (n19.ne rfl (n18.ne rfl (n16.ne rfl (n8.ne rfl n2.at_)))))))))
  refine sv n30.ok rfl (wn _ rfl) rfl (o_ldR e32 B24 Try.underlying25 rfl (by kernel_rfl)) (fun an33 n33 => ?_)
  have e34 := n33.ne rfl (n30.ne rfl (n29.ne rfl (n28.ne rfl (n27.ne rfl (n26.ne rfl (n20.ne rfl (n19.ne rfl (n18.ne rfl (n16.ne rfl n8.at_)))))))))
  refine sv n33.ok rfl (wn _ rfl) rfl (o_ldR e34 B25 Try.underlying27 rfl (by kernel_rfl)) (fun an35 n35 => ?_)
  refine sc n35.ok rfl (wn _ rfl) rfl (o_f2 Try.func11 rfl rfl rfl (n35.ne rfl n33.at_) n35.at_) (by have h := add_bad _ (ints v) (pairs m) (x, y) w21 (hk.gr G23) (by rw [chkA_1 hE hd]; decide); rw [chkA_1 hE hd] at h; exact h) ?_
  rintro _ w37 ⟨rfl, g38⟩
  refine ⟨_, rfl, fun an36 n36 => ?_⟩
  have G39 := G23.trans g38
  have B40 := B24.gr g38
  have B41 := B25.gr g38
  refine sv n36.ok rfl (wn _ rfl) rfl (o_mv n36.at_) (fun an42 n42 => ?_)
  refine sv n42.ok rfl (wn _ rfl) rfl (o_ex n42.at_ rfl) (fun an43 n43 => ?_)
  refine sv n43.ok rfl (wn _ rfl) rfl (o_ex (n43.ne rfl n42.at_) rfl) (fun an44 n44 => ?_)
  refine sal (cs := #[.slice none 0 0, .slice none 0 0]) n44.ok rfl (wn _ rfl) rfl (o_al (z := .agg #[.slice none 0 0, .slice none 0 0]) (by kernel_rfl)) (fun an45 w47 b46 W48 n45 => ?_)
  have l49 : b3 < b46 := by rw [W48.eq]; exact B40.lt
  have l50 : b9 < b46 := by rw [W48.eq]; exact B41.lt
  have l51 : w.heap.size ≤ b46 := by rw [W48.eq]; exact G39.size
  have G52 := G39.trans W48.gr
  have B53 := B40.gr W48.gr
  have B54 := B41.gr W48.gr
  refine ssR rfl (wn _ rfl) (o_stR n45.at_ (n45.ne rfl (n44.ne rfl n43.at_)) W48.bk (by kernel_rfl) rfl (by simp [Value.oneCell'])) W48.bk (fun w55 u56 u56b => ?_)
  have G57 : Gr w w55 := Below.upd G52 l51 u56
  have B58 := B53.upd u56 (Nat.ne_of_lt l49)
  have B59 := B54.upd u56 (Nat.ne_of_lt l50)
  refine sv n45.ok rfl (wn _ rfl) rfl (o_as (n45.ne rfl n44.at_)) (fun an60 n60 => ?_)
  refine wpList_nil ?_
  refine th_n (hK31 _ _ ?_)
  refine wp_seq_k (fun K61 hK61 => ?_)
  refine wp_region_lit ?_
  have e62 := n60.ne rfl (n45.ne rfl (n44.ne rfl (n43.ne rfl (n42.ne rfl (n36.ne rfl (n35.ne rfl (n33.ne rfl e32)))))))
  refine sv n60.ok rfl (wn _ rfl) rfl (o_ldR e62 B58 Try.underlying25 rfl (by kernel_rfl)) (fun an63 n63 => ?_)
  refine sc n63.ok rfl (wn _ rfl) rfl (o_f1 Try.func12 rfl rfl rfl n63.at_) (count_ok _ v m w55 (hk.gr G57) ok hl) ?_
  rintro _ w65 ⟨rfl, g66⟩
  refine ⟨_, rfl, fun an64 n64 => ?_⟩
  have G67 := G57.trans g66
  have B68 := B58.gr g66
  have B69 := B59.gr g66
  have B70 := u56b.gr g66
  refine sv n64.ok rfl (wn _ rfl) rfl (o_mv n64.at_) (fun an71 n71 => ?_)
  refine sv n71.ok rfl (wn _ rfl) rfl (o_ex n71.at_ rfl) (fun an72 n72 => ?_)
  refine sv n72.ok rfl (wn _ rfl) rfl (o_ex (n72.ne rfl n71.at_) rfl) (fun an73 n73 => ?_)
  refine sv n73.ok rfl (wn _ rfl) rfl (o_as (n73.ne rfl n72.at_)) (fun an74 n74 => ?_)
  refine sv n74.ok rfl (wn _ rfl) rfl (o_as (n74.ne rfl n73.at_)) (fun an75 n75 => ?_)
  refine wpList_nil ?_
  refine th_n (hK61 _ _ ?_)
  refine wp_seq_k (fun K76 hK76 => ?_)
  refine wp_region_lit ?_
  have e77 := n75.ne rfl (n74.ne rfl (n73.ne rfl (n72.ne rfl (n71.ne rfl (n64.ne rfl (n63.ne rfl e62))))))
  refine sv n75.ok rfl (wn _ rfl) rfl (o_ldR e77 B68 Try.underlying25 rfl (by kernel_rfl)) (fun an78 n78 => ?_)
  refine sc n78.ok rfl (wn _ rfl) rfl (o_f1 Try.func13 rfl rfl rfl n78.at_) (by have h := rknow_any _ _ _ w65 (hk.gr G67); rw [hE] at h; exact h) ?_
  rintro _ w80 ⟨rfl, g81⟩
  refine ⟨_, rfl, fun an79 n79 => ?_⟩
  have G82 := G67.trans g81
  have B83 := B68.gr g81
  have B84 := B69.gr g81
  have B85 := B70.gr g81
  refine sv n79.ok rfl (wn _ rfl) rfl (o_as n79.at_) (fun an86 n86 => ?_)
  refine wpList_nil ?_
  refine th_n (hK76 _ _ ?_)
  refine wp_seq_k (fun K87 hK87 => ?_)
  refine wp_seq_k (fun K88 hK88 => ?_)
  refine reg_start (N := 131) (m := 16) (by kernel_rfl) (fun R890 => ?_)
  have e90 := n86.ne rfl (n79.ne rfl (n78.ne rfl (n75.ne rfl (n74.ne rfl (n73.ne rfl (n72.ne rfl (n71.ne rfl (n64.ne rfl (n63.ne rfl (n60.ne rfl (n45.ne rfl (n44.ne rfl (n43.ne rfl (n42.ne rfl (n36.ne rfl (n35.ne rfl e34))))))))))))))))
  have R891 := R890.snoc (n' := 1) rfl (fun vJ _ => vJ = .agg #[.int .i64 (x), .int .i64 (y)]) rfl (fun _ _ _ _ h => h) (fun aS wS pS => by
      exact Does.val (wn _ rfl) (o_ldR ((pS.old 3 rfl).trans e90) (Bk.gr B84 (gr_drew pS.gr)) Try.underlying27 rfl (by kernel_rfl)) (Gr.refl _) rfl rfl)
  have R892 := R891.snoc (n' := 2) rfl (fun vJ _ => vJ = .bool false) rfl (fun _ _ _ _ h => h) (fun aS wS pS => by
      have eR89_0 : aS.eval (.tmp 33) = .agg #[.int .i64 (x), .int .i64 (y)] := pS.pre 0 rfl
      exact Does.call (wn _ rfl) (o_f1 Try.func14 rfl rfl rfl (eR89_0)) (by have h := dot_any (x, y) wS; rw [hd] at h; exact h) (by rintro _ w2 ⟨rfl, g⟩; exact ⟨_, rfl, g, rfl⟩) rfl)
  have R893 := R892.snoc (n' := 3) rfl (fun vJ _ => vJ = .agg #[.int .i64 (x), .int .i64 (y)]) rfl (fun _ _ _ _ h => h) (fun aS wS pS => by
      exact Does.val (wn _ rfl) (o_ldR ((pS.old 3 rfl).trans e90) (Bk.gr B84 (gr_drew pS.gr)) Try.underlying27 rfl (by kernel_rfl)) (Gr.refl _) rfl rfl)
  have R894 := R893.snoc (n' := 4) rfl (fun vJ _ => vJ = .bool false) rfl (fun _ _ _ _ h => h) (fun aS wS pS => by
      have eR89_2 : aS.eval (.tmp 35) = .agg #[.int .i64 (x), .int .i64 (y)] := pS.pre 2 rfl
      exact Does.call (wn _ rfl) (o_f1 Try.func15 rfl rfl rfl (eR89_2)) (by have h := rdot_any (x, y) wS; rw [hd] at h; exact h) (by rintro _ w2 ⟨rfl, g⟩; exact ⟨_, rfl, g, rfl⟩) rfl)
  have R895 := R894.snoc (n' := 5) rfl (fun vJ _ => vJ = .bool false) rfl (fun _ _ _ _ h => h) (fun aS wS pS => by
      have eR89_1 : aS.eval (.tmp 34) = .bool false := pS.pre 1 rfl
      have eR89_3 : aS.eval (.tmp 36) = .bool false := pS.pre 3 rfl
      exact Does.val (wn _ rfl) (o_neqB (b := false) (eR89_1) (eR89_3) (by simp) Try.underlying4) (Gr.refl _) rfl rfl)
  have R896 := R895.snoc (n' := 6) rfl (fun vJ _ => vJ = .bool false) rfl (fun _ _ _ _ h => h) (fun aS wS pS => by
      have eR89_4 : aS.eval (.tmp 37) = .bool false := pS.pre 4 rfl
      exact Does.val (wn _ rfl) (o_mv (eR89_4)) (Gr.refl _) rfl rfl)
  have e91 := n86.ne rfl (n79.ne rfl (n78.ne rfl e77))
  have R897 := R896.snoc (n' := 7) rfl (fun vJ _ => vJ = .agg #[.slice va ((ints v).length) vc, .slice ma ((pairs m).length) mc]) rfl (fun _ _ _ _ h => h) (fun aS wS pS => by
      have eR89_5 : aS.eval (.tmp 38) = .bool false := pS.pre 5 rfl
      exact Does.val (wgT rfl (yl 5 false rfl eR89_5) rfl) (o_ldR ((pS.old 2 rfl).trans e91) (Bk.gr B83 (gr_drew pS.gr)) Try.underlying25 rfl (by kernel_rfl)) (Gr.refl _) rfl rfl)
  have R898 := R897.snoc (n' := 8) rfl (fun vJ _ => vJ = .int .i64 0) rfl (fun _ _ _ _ h => h) (fun aS wS pS => by
      have eR89_5 : aS.eval (.tmp 38) = .bool false := pS.pre 5 rfl
      have eR89_6 : aS.eval (.tmp 39) = .agg #[.slice va ((ints v).length) vc, .slice ma ((pairs m).length) mc] := pS.pre 6 rfl
      exact Does.call (wgT rfl (yl 5 false rfl eR89_5) rfl) (o_f1 Try.func16 rfl rfl rfl (eR89_6)) (by have h := check_any _ _ _ wS (hk.gr (G82.trans (gr_drew pS.gr))); rw [hE] at h; exact h) (by rintro _ w2 ⟨rfl, g⟩; exact ⟨_, rfl, g, rfl⟩) rfl)
  have R899 := R898.snoc (n' := 9) rfl (fun vJ _ => vJ = .int .i64 0) rfl (fun _ _ _ _ h => h) (fun aS wS pS => by
      have eR89_5 : aS.eval (.tmp 38) = .bool false := pS.pre 5 rfl
      exact Does.val (wgT rfl (yl 5 false rfl eR89_5) rfl) (o_mv ((pS.old 11 rfl).trans n86.at_)) (Gr.refl _) rfl rfl)
  have R8910 := R899.snoc (n' := 10) rfl (fun vJ _ => vJ = .bool false) rfl (fun _ _ _ _ h => h) (fun aS wS pS => by
      have eR89_5 : aS.eval (.tmp 38) = .bool false := pS.pre 5 rfl
      have eR89_7 : aS.eval (.tmp 40) = .int .i64 0 := pS.pre 7 rfl
      have eR89_8 : aS.eval (.tmp 41) = .int .i64 0 := pS.pre 8 rfl
      exact Does.val (wgT rfl (yl 5 false rfl eR89_5) rfl) (o_neq (b := false) (eR89_7) (eR89_8) (by decide)) (Gr.refl _) rfl rfl)
  have R8911 := R8910.snoc (n' := 11) rfl (fun vJ _ => vJ = .bool false) rfl (fun _ _ _ _ h => h) (fun aS wS pS => by
      have eR89_5 : aS.eval (.tmp 38) = .bool false := pS.pre 5 rfl
      have eR89_9 : aS.eval (.tmp 42) = .bool false := pS.pre 9 rfl
      exact Does.val (wn _ rfl) (o_pkF (eR89_5) (eR89_9)) (Gr.refl _) rfl rfl)
  have R8912 := R8911.snoc (n' := 12) rfl (fun vJ _ => vJ = .bool false) rfl (fun _ _ _ _ h => h) (fun aS wS pS => by
      have eR89_10 : aS.eval (.tmp 43) = .bool false := pS.pre 10 rfl
      exact Does.val (wn _ rfl) (o_mv (eR89_10)) (Gr.refl _) rfl rfl)
  have R8913 := R8912.snoc (n' := 13) rfl (fun vJ _ => vJ = .agg #[.int .i64 0, .int .i64 1]) rfl (fun _ _ _ _ h => h) (fun aS wS pS => by
      have eR89_11 : aS.eval (.tmp 44) = .bool false := pS.pre 11 rfl
      exact Does.val (wgT rfl (yl 11 false rfl eR89_11) rfl) (o_bd (cells := #[.int .i64 0, .int .i64 1]) (vs := [(1, .int .i64 1)]) (by simp [ev_const]) (by kernel_rfl)) (Gr.refl _) rfl rfl)
  have R8914 := R8913.snoc (n' := 14) rfl (fun vJ _ => vJ = .bool true) rfl (fun _ _ _ _ h => h) (fun aS wS pS => by
      have eR89_11 : aS.eval (.tmp 44) = .bool false := pS.pre 11 rfl
      have eR89_12 : aS.eval (.tmp 45) = .agg #[.int .i64 0, .int .i64 1] := pS.pre 12 rfl
      exact Does.call (wgT rfl (yl 11 false rfl eR89_11) rfl) (o_f1 Try.func14 rfl rfl rfl (eR89_12)) (dot_any (0, 1) wS) (by rintro _ w2 ⟨rfl, g⟩; exact ⟨_, rfl, g, rfl⟩) rfl)
  have R8915 := R8914.snoc (n' := 15) rfl (fun vJ _ => vJ = .bool false) rfl (fun _ _ _ _ h => h) (fun aS wS pS => by
      have eR89_11 : aS.eval (.tmp 44) = .bool false := pS.pre 11 rfl
      have eR89_13 : aS.eval (.tmp 46) = .bool true := pS.pre 13 rfl
      exact Does.val (wgT rfl (yl 11 false rfl eR89_11) rfl) (o_not (eR89_13) rfl) (Gr.refl _) rfl rfl)
  have R8916 := R8915.snoc (n' := 16) rfl (fun vJ _ => vJ = .bool false) rfl (fun _ _ _ _ h => h) (fun aS wS pS => by
      have eR89_11 : aS.eval (.tmp 44) = .bool false := pS.pre 11 rfl
      have eR89_14 : aS.eval (.tmp 47) = .bool false := pS.pre 14 rfl
      exact Does.val (wn _ rfl) (o_pkF (eR89_11) (eR89_14)) (Gr.refl _) rfl rfl)
  refine R8916.run (k := 0) (L := #[true, true, true, true, true, true, true, true, true, true, true, true, true, true, true, true]) (by kernel_rfl) (by kernel_rfl) (by kernel_rfl) n86.ok (by kernel_rfl) (by kernel_rfl) (fun ap93 w94 p93 => ?_)
  have g95 := gr_drew p93.gr
  have G96 := G82.trans g95
  have B97 := B83.gr g95
  have B98 := B84.gr g95
  have B99 := B85.gr g95
  refine wpAny_done (by kernel_rfl) ?_ _
  refine th_n (hK88 _ _ ?_)
  have ep93_15 : ap93.eval (.tmp 48) = .bool false := p93.js 15 rfl
  refine wp_cond_false (ep93_15) ?_
  refine wp_skip ?_
  refine th_n (hK87 _ _ ?_)
  refine wp_seq_k (fun K100 hK100 => ?_)
  refine wp_seq_k (fun K101 hK101 => ?_)
  refine wp_region_lit ?_
  refine sv p93.ok rfl (wn _ rfl) rfl (o_mv ((p93.old 11 rfl).trans n86.at_)) (fun an102 n102 => ?_)
  refine sv n102.ok rfl (wn _ rfl) rfl (o_neq (b := false) n102.at_ ev_const (by decide)) (fun an103 n103 => ?_)
  refine wpList_nil ?_
  refine th_n (hK101 _ _ ?_)
  refine wp_cond_false (n103.at_) ?_
  refine wp_skip ?_
  refine th_n (hK100 _ _ ?_)
  refine wp_seq_k (fun K104 hK104 => ?_)
  refine wp_region_lit ?_
  have e105 := n103.ne rfl (n102.ne rfl ((p93.old 2 rfl).trans e91))
  refine sv n103.ok rfl (wn _ rfl) rfl (o_ldR e105 B97 Try.underlying25 rfl (by kernel_rfl)) (fun an106 n106 => ?_)
  refine sc n106.ok rfl (wn _ rfl) rfl (o_f1 Try.func18 rfl rfl rfl n106.at_) (rall_any _ v m w94 (hk.gr G96) ok hl) ?_
  rintro _ w108 ⟨X, rfl, hX, hD, g109⟩
  refine ⟨_, rfl, fun an107 n107 => ?_⟩
  have G110 := G96.trans g109
  have B111 := B97.gr g109
  have B112 := B98.gr g109
  have B113 := B99.gr g109
  refine sal (cs := wArr (fun _ => 0)) n107.ok rfl (wn _ rfl) rfl (o_al (z := .agg (wArr (fun _ => 0))) dots_zero) (fun an114 w116 b115 W117 n114 => ?_)
  have l118 : b3 < b115 := by rw [W117.eq]; exact B111.lt
  have l119 : b9 < b115 := by rw [W117.eq]; exact B112.lt
  have l120 : b46 < b115 := by rw [W117.eq]; exact B113.lt
  have l121 : w.heap.size ≤ b115 := by rw [W117.eq]; exact G110.size
  have G122 := G110.trans W117.gr
  have B123 := B111.gr W117.gr
  have B124 := B112.gr W117.gr
  have B125 := B113.gr W117.gr
  refine ssR rfl (wn _ rfl) (o_stR n114.at_ (n114.ne rfl n107.at_) W117.bk (dots_sz X) (by rw [wArr_size, wArr_size]) (wArr_one X)) W117.bk (fun w126 u127 u127b => ?_)
  have G128 : Gr w w126 := Below.upd G122 l121 u127
  have B129 := B123.upd u127 (Nat.ne_of_lt l118)
  have B130 := B124.upd u127 (Nat.ne_of_lt l119)
  have B131 := B125.upd u127 (Nat.ne_of_lt l120)
  refine wpList_nil ?_
  refine th_n (hK104 _ _ ?_)
  refine wp_seq_k (fun K132 hK132 => ?_)
  refine wp_seq_k (fun K133 hK133 => ?_)
  refine wp_region_lit ?_
  have e134 := n114.ne rfl (n107.ne rfl (n106.ne rfl (n103.ne rfl (n102.ne rfl ((p93.old 10 rfl).trans (n86.ne rfl (n79.ne rfl (n78.ne rfl n75.at_))))))))
  refine sv n114.ok rfl (wn _ rfl) rfl (o_mv e134) (fun an135 n135 => ?_)
  refine sv n135.ok rfl (wn _ rfl) rfl (o_neq (b := false) n135.at_ ev_const (by decide)) (fun an136 n136 => ?_)
  refine sv n136.ok rfl (wn _ rfl) rfl (o_mv n136.at_) (fun an137 n137 => ?_)
  have e138 := n137.ne rfl (n136.ne rfl (n135.ne rfl (n114.ne rfl (n107.ne rfl (n106.ne rfl (n103.ne rfl (n102.ne rfl ((p93.old 9 rfl).trans (n86.ne rfl (n79.ne rfl (n78.ne rfl (n75.ne rfl n74.at_))))))))))))
  refine sv n137.ok rfl (wgT rfl (yl 2 false rfl n137.at_) rfl) rfl (o_mv e138) (fun an139 n139 => ?_)
  have e140 := n139.ne rfl (n137.ne rfl (n136.ne rfl (n135.ne rfl n114.at_)))
  refine sv n139.ok rfl (wgT rfl (yl 2 false rfl (n139.ne rfl n137.at_)) rfl) rfl (o_ldR e140 u127b Try.underlying41 rfl (dots_sz X)) (fun an141 n141 => ?_)
  refine sc n141.ok rfl (wgT rfl (yl 2 false rfl (n141.ne rfl (n139.ne rfl n137.at_))) rfl) rfl (o_f1 Try.func19 rfl rfl rfl n141.at_) (by have h := rsize_any X hX w126; rw [size_eq ok hD] at h; exact h) ?_
  rintro _ w143 ⟨rfl, g144⟩
  refine ⟨_, rfl, fun an142 n142 => ?_⟩
  have G145 := G128.trans g144
  have B146 := B129.gr g144
  have B147 := B130.gr g144
  have B148 := B131.gr g144
  have B149 := u127b.gr g144
  have e150 := n142.ne rfl (n141.ne rfl (n139.ne rfl n137.at_))
  refine sv n142.ok rfl (wgT rfl (yl 2 false rfl e150) rfl) rfl (o_neq (b := false) (n142.ne rfl (n141.ne rfl n139.at_)) n142.at_ (by simp [show ((v.sum + m.length : Nat) : Int) = ((v.sum + m.length : Nat) : Int) from rfl])) (fun an151 n151 => ?_)
  refine sv n151.ok rfl (wn _ rfl) rfl (o_pkF (n151.ne rfl e150) n151.at_) (fun an152 n152 => ?_)
  refine wpList_nil ?_
  refine th_n (hK133 _ _ ?_)
  refine wp_cond_false (n152.at_) ?_
  refine wp_skip ?_
  refine th_n (hK132 _ _ ?_)
  refine wp_seq_k (fun K153 hK153 => ?_)
  refine wp_seq_k (fun K154 hK154 => ?_)
  refine wp_region_lit ?_
  have e155 := n152.ne rfl (n151.ne rfl (n142.ne rfl (n141.ne rfl (n139.ne rfl (n137.ne rfl (n136.ne rfl (n135.ne rfl (n114.ne rfl (n107.ne rfl (n106.ne rfl (n103.ne rfl (n102.ne rfl ((p93.old 3 rfl).trans e90)))))))))))))
  refine sv n152.ok rfl (wn _ rfl) rfl (o_ldR e155 B147 Try.underlying27 rfl (by kernel_rfl)) (fun an156 n156 => ?_)
  refine sc n156.ok rfl (wn _ rfl) rfl (o_f1 Try.func15 rfl rfl rfl n156.at_) (by have h := rdot_any (x, y) w143; rw [hd] at h; exact h) ?_
  rintro _ w158 ⟨rfl, g159⟩
  refine ⟨_, rfl, fun an157 n157 => ?_⟩
  have G160 := G145.trans g159
  have B161 := B146.gr g159
  have B162 := B147.gr g159
  have B163 := B148.gr g159
  have B164 := B149.gr g159
  refine sv n157.ok rfl (wn _ rfl) rfl (o_not n157.at_ rfl) (fun an165 n165 => ?_)
  refine wpList_nil ?_
  refine th_n (hK154 _ _ ?_)
  refine wp_cond_true (n165.at_) ?_
  refine wp_seq_k (fun K166 hK166 => ?_)
  refine wp_region_lit ?_
  have e167 := n165.ne rfl (n157.ne rfl (n156.ne rfl (n152.ne rfl (n151.ne rfl (n142.ne rfl (n141.ne rfl (n139.ne rfl (n137.ne rfl (n136.ne rfl (n135.ne rfl (n114.ne rfl (n107.ne rfl (n106.ne rfl (n103.ne rfl (n102.ne rfl ((p93.old 6 rfl).trans (n86.ne rfl (n79.ne rfl (n78.ne rfl (n75.ne rfl (n74.ne rfl (n73.ne rfl (n72.ne rfl (n71.ne rfl (n64.ne rfl (n63.ne rfl (n60.ne rfl (n45.ne rfl (n44.ne rfl (n43.ne rfl (n42.ne rfl (n36.ne rfl (n35.ne rfl (n33.ne rfl n30.at_))))))))))))))))))))))))))))))))))
  refine sv n165.ok rfl (wn _ rfl) rfl (o_mv e167) (fun an168 n168 => ?_)
  refine sv n168.ok rfl (wn _ rfl) rfl (o_eq (b := true) n168.at_ ev_const (by decide)) (fun an169 n169 => ?_)
  refine sv n169.ok rfl (wn _ rfl) rfl (o_mv n169.at_) (fun an170 n170 => ?_)
  have e171 := n170.ne rfl (n169.ne rfl (n168.ne rfl (n165.ne rfl (n157.ne rfl (n156.ne rfl (n152.ne rfl (n151.ne rfl (n142.ne rfl (n141.ne rfl (n139.ne rfl (n137.ne rfl (n136.ne rfl (n135.ne rfl (n114.ne rfl (n107.ne rfl (n106.ne rfl (n103.ne rfl (n102.ne rfl ((p93.old 8 rfl).trans (n86.ne rfl (n79.ne rfl (n78.ne rfl (n75.ne rfl (n74.ne rfl (n73.ne rfl (n72.ne rfl (n71.ne rfl (n64.ne rfl (n63.ne rfl n60.at_)))))))))))))))))))))))))))))
  refine sv n170.ok rfl (wgT rfl (yl 2 true rfl n170.at_) rfl) rfl (o_mv e171) (fun an172 n172 => ?_)
  refine sv n172.ok rfl (wgT rfl (yl 2 true rfl (n172.ne rfl n170.at_)) rfl) rfl (o_eq (b := true) n172.at_ ev_const (by decide)) (fun an173 n173 => ?_)
  refine sv n173.ok rfl (wn _ rfl) rfl (o_pkT (n173.ne rfl (n172.ne rfl n170.at_)) n173.at_) (fun an174 n174 => ?_)
  refine sv n174.ok rfl (wn _ rfl) rfl (o_mv n174.at_) (fun an175 n175 => ?_)
  have e176 := n175.ne rfl (n174.ne rfl (n173.ne rfl (n172.ne rfl (n170.ne rfl (n169.ne rfl (n168.ne rfl (n165.ne rfl (n157.ne rfl (n156.ne rfl (n152.ne rfl (n151.ne rfl (n142.ne rfl (n141.ne rfl (n139.ne rfl (n137.ne rfl (n136.ne rfl (n135.ne rfl (n114.ne rfl (n107.ne rfl (n106.ne rfl (n103.ne rfl (n102.ne rfl ((p93.old 5 rfl).trans (n86.ne rfl (n79.ne rfl (n78.ne rfl (n75.ne rfl (n74.ne rfl (n73.ne rfl (n72.ne rfl (n71.ne rfl (n64.ne rfl (n63.ne rfl (n60.ne rfl (n45.ne rfl (n44.ne rfl (n43.ne rfl (n42.ne rfl (n36.ne rfl (n35.ne rfl (n33.ne rfl (n30.ne rfl n29.at_))))))))))))))))))))))))))))))))))))))))))
  refine sv n175.ok rfl (wgT rfl (yl 6 true rfl n175.at_) rfl) rfl (o_mv e176) (fun an177 n177 => ?_)
  refine sv n177.ok rfl (wgT rfl (yl 6 true rfl (n177.ne rfl n175.at_)) rfl) rfl (o_not n177.at_ rfl) (fun an178 n178 => ?_)
  refine sv n178.ok rfl (wn _ rfl) rfl (o_pkT (n178.ne rfl (n177.ne rfl n175.at_)) n178.at_) (fun an179 n179 => ?_)
  refine sv n179.ok rfl (wn _ rfl) rfl (o_mv n179.at_) (fun an180 n180 => ?_)
  have e181 := n180.ne rfl (n179.ne rfl (n178.ne rfl (n177.ne rfl (n175.ne rfl (n174.ne rfl (n173.ne rfl (n172.ne rfl (n170.ne rfl (n169.ne rfl (n168.ne rfl (n165.ne rfl (n157.ne rfl (n156.ne rfl (n152.ne rfl (n151.ne rfl (n142.ne rfl (n141.ne rfl (n139.ne rfl (n137.ne rfl (n136.ne rfl (n135.ne rfl (n114.ne rfl (n107.ne rfl (n106.ne rfl (n103.ne rfl (n102.ne rfl ((p93.old 7 rfl).trans (n86.ne rfl (n79.ne rfl (n78.ne rfl (n75.ne rfl (n74.ne rfl (n73.ne rfl (n72.ne rfl (n71.ne rfl (n64.ne rfl (n63.ne rfl (n60.ne rfl n45.at_))))))))))))))))))))))))))))))))))))))
  refine sv n180.ok rfl (wgT rfl (yl 10 true rfl n180.at_) rfl) rfl (o_ldR e181 B163 Try.underlying25 rfl (by kernel_rfl)) (fun an182 n182 => ?_)
  refine sv n182.ok rfl (wgT rfl (yl 10 true rfl (n182.ne rfl n180.at_)) rfl) rfl (o_b0 (cs := #[.slice none 0 0, .slice none 0 0]) Try.underlying25 (by kernel_rfl) (by kernel_rfl)) (fun an183 n183 => ?_)
  refine sc n183.ok rfl (wgT rfl (yl 10 true rfl (n183.ne rfl (n182.ne rfl n180.at_))) rfl) rfl (o_f2 Try.func17 rfl rfl rfl (n183.ne rfl n182.at_) n183.at_) (sameK_t _ _ _ _ w158 (knR_nil w158) (knR_nil w158) (by simp) (by simp)) ?_
  rintro _ w185 ⟨rfl, g186⟩
  refine ⟨_, rfl, fun an184 n184 => ?_⟩
  have G187 := G160.trans g186
  have B188 := B161.gr g186
  have B189 := B162.gr g186
  have B190 := B163.gr g186
  have B191 := B164.gr g186
  have e192 := n184.ne rfl (n183.ne rfl (n182.ne rfl n180.at_))
  refine sv n184.ok rfl (wn _ rfl) rfl (o_pkT e192 n184.at_) (fun an193 n193 => ?_)
  refine sv n193.ok rfl (wn _ rfl) rfl (o_as n193.at_) (fun an194 n194 => ?_)
  refine wpList_nil ?_
  refine th_n (hK166 _ _ ?_)
  refine wp_ret ?_
  refine th_r ?_
  exact ret1 n194.ok rfl (n194.at_) ⟨rfl, G187⟩
set_option maxHeartbeats 8000000 in
set_option maxRecDepth 100000 in
theorem knowSays_ok (va ma : Option Addr) (vc mc : Nat) (v : List Nat) (m : List (Nat × Nat)) (s c : Nat) (ok : OkV v m) (hl : m.length ≤ 60) (hd : inR s c) (hE : chkK (ints v) (pairs m) = 0) (hdB : dotB ((s : Int), (c : Int)) = true) (w : World) (hk : KnR w (.agg #[.slice va (ints v).length vc, .slice ma (pairs m).length mc]) (ints v) (pairs m)) :
    Calls Try.prog 3 #[.agg #[.slice va ((ints v).length) vc, .slice ma ((pairs m).length) mc], .agg #[.int .i64 (s : Int), .int .i64 (c : Int)]] w fun e w' => e = .returned (.bool true) ∧ Gr w w' := by
  refine enter (N := 131) Try.func3 rfl rfl rfl (fun a0 ok0 h0 => ?_)
  have e0_0 : a0.eval (.tmp 0) = .agg #[.slice va ((ints v).length) vc, .slice ma ((pairs m).length) mc] := h0 0 _ rfl
  have e0_1 : a0.eval (.tmp 1) = .agg #[.int .i64 (s : Int), .int .i64 (c : Int)] := h0 1 _ rfl
  clear h0
  have G0 := Gr.refl w
  refine wp_seq_k (fun K1 hK1 => ?_)
  refine wp_region_lit ?_
  refine sal (cs := #[.slice va ((ints v).length) vc, .slice ma ((pairs m).length) mc]) ok0 rfl (wn _ rfl) rfl (o_box e0_0) (fun an2 w4 b3 W5 n2 => ?_)
  have l6 : w.heap.size ≤ b3 := by rw [W5.eq]; exact G0.size
  have G7 := G0.trans W5.gr
  refine sal (cs := #[.int .i64 (s : Int), .int .i64 (c : Int)]) n2.ok rfl (wn _ rfl) rfl (o_box (n2.ne rfl e0_1)) (fun an8 w10 b9 W11 n8 => ?_)
  have l12 : b3 < b9 := by rw [W11.eq]; exact W5.bk.lt
  have l13 : w.heap.size ≤ b9 := by rw [W11.eq]; exact G7.size
  have G14 := G7.trans W11.gr
  have B15 := W5.bk.gr W11.gr
  refine sv n8.ok rfl (wn _ rfl) rfl (o_as ev_const) (fun an16 n16 => ?_)
  refine wpList_nil ?_
  refine th_n (hK1 _ _ ?_)
  refine wp_seq_k (fun K17 hK17 => ?_)
  refine wp_region_lit ?_
  refine sv n16.ok rfl (wn _ rfl) rfl (o_ldR (n16.ne rfl (n8.ne rfl n2.at_)) B15 Try.underlying25 rfl (by kernel_rfl)) (fun an18 n18 => ?_)
  refine sv n18.ok rfl (wn _ rfl) rfl (o_ldR (n18.ne rfl (n16.ne rfl n8.at_)) W11.bk Try.underlying27 rfl (by kernel_rfl)) (fun an19 n19 => ?_)
  refine sc n19.ok rfl (wn _ rfl) rfl (o_f2 Try.func10 rfl rfl rfl (n19.ne rfl n18.at_) n19.at_) (hasf_ok _ v m s c w10 (hk.gr G14) ok hl hd) ?_
  rintro _ w21 ⟨rfl, g22⟩
  refine ⟨_, rfl, fun an20 n20 => ?_⟩
  have G23 := G14.trans g22
  have B24 := B15.gr g22
  have B25 := W11.bk.gr g22
  refine sv n20.ok rfl (wn _ rfl) rfl (o_mv n20.at_) (fun an26 n26 => ?_)
  refine sv n26.ok rfl (wn _ rfl) rfl (o_ex n26.at_ rfl) (fun an27 n27 => ?_)
  refine sv n27.ok rfl (wn _ rfl) rfl (o_ex (n27.ne rfl n26.at_) rfl) (fun an28 n28 => ?_)
  refine sv n28.ok rfl (wn _ rfl) rfl (o_as (n28.ne rfl n27.at_)) (fun an29 n29 => ?_)
  refine sv n29.ok rfl (wn _ rfl) rfl (o_as (n29.ne rfl n28.at_)) (fun an30 n30 => ?_)
  refine wpList_nil ?_
  refine th_n (hK17 _ _ ?_)
  refine wp_seq_k (fun K31 hK31 => ?_)
  refine wp_region_lit ?_
  have e32 := n30.ne rfl (n29.ne rfl (n28.ne rfl (n27.ne rfl (n26.ne rfl (n20.ne rfl (n19.ne rfl (n18.ne rfl (n16.ne rfl (n8.ne rfl n2.at_)))))))))
  refine sv n30.ok rfl (wn _ rfl) rfl (o_ldR e32 B24 Try.underlying25 rfl (by kernel_rfl)) (fun an33 n33 => ?_)
  have e34 := n33.ne rfl (n30.ne rfl (n29.ne rfl (n28.ne rfl (n27.ne rfl (n26.ne rfl (n20.ne rfl (n19.ne rfl (n18.ne rfl (n16.ne rfl n8.at_)))))))))
  refine sv n33.ok rfl (wn _ rfl) rfl (o_ldR e34 B25 Try.underlying27 rfl (by kernel_rfl)) (fun an35 n35 => ?_)
  refine sc n35.ok rfl (wn _ rfl) rfl (o_f2 Try.func11 rfl rfl rfl (n35.ne rfl n33.at_) n35.at_) ((add_ok _ v m s c w21 (hk.gr G23) ok hl hd).mono fun e w' h => And.intro (frmK.one h.1) h.2) ?_
  rintro _ w37 ⟨⟨k, rfl, hkx⟩, g38⟩
  obtain ⟨vax, vcx, max, mcx, rfl⟩ := hkx.form
  have hrx := hkx.rd
  refine ⟨_, rfl, fun an36 n36 => ?_⟩
  have G39 := G23.trans g38
  have B40 := B24.gr g38
  have B41 := B25.gr g38
  have A43 := Gr.refl w37
  refine sv n36.ok rfl (wn _ rfl) rfl (o_mv n36.at_) (fun an44 n44 => ?_)
  refine sv n44.ok rfl (wn _ rfl) rfl (o_ex n44.at_ rfl) (fun an45 n45 => ?_)
  refine sv n45.ok rfl (wn _ rfl) rfl (o_ex (n45.ne rfl n44.at_) rfl) (fun an46 n46 => ?_)
  refine sal (cs := #[.slice none 0 0, .slice none 0 0]) n46.ok rfl (wn _ rfl) rfl (o_al (z := .agg #[.slice none 0 0, .slice none 0 0]) (by kernel_rfl)) (fun an47 w49 b48 W50 n47 => ?_)
  have l51 : b3 < b48 := by rw [W50.eq]; exact B40.lt
  have l52 : b9 < b48 := by rw [W50.eq]; exact B41.lt
  have l53 : w.heap.size ≤ b48 := by rw [W50.eq]; exact G39.size
  have l54 : w37.heap.size ≤ b48 := by rw [W50.eq]; exact A43.size
  have G55 := G39.trans W50.gr
  have B56 := B40.gr W50.gr
  have B57 := B41.gr W50.gr
  have A58 := A43.trans W50.gr
  refine ssR rfl (wn _ rfl) (o_stR n47.at_ (n47.ne rfl (n46.ne rfl n45.at_)) W50.bk (by kernel_rfl) rfl (by simp [Value.oneCell'])) W50.bk (fun w59 u60 u60b => ?_)
  have G61 : Gr w w59 := Below.upd G55 l53 u60
  have B62 := B56.upd u60 (Nat.ne_of_lt l51)
  have B63 := B57.upd u60 (Nat.ne_of_lt l52)
  have A64 : Gr w37 w59 := Below.upd A58 l54 u60
  refine sv n47.ok rfl (wn _ rfl) rfl (o_as (n47.ne rfl n46.at_)) (fun an65 n65 => ?_)
  refine wpList_nil ?_
  refine th_n (hK31 _ _ ?_)
  refine wp_seq_k (fun K66 hK66 => ?_)
  refine wp_region_lit ?_
  have e67 := n65.ne rfl (n47.ne rfl (n46.ne rfl (n45.ne rfl (n44.ne rfl (n36.ne rfl (n35.ne rfl (n33.ne rfl e32)))))))
  refine sv n65.ok rfl (wn _ rfl) rfl (o_ldR e67 B62 Try.underlying25 rfl (by kernel_rfl)) (fun an68 n68 => ?_)
  refine sc n68.ok rfl (wn _ rfl) rfl (o_f1 Try.func12 rfl rfl rfl n68.at_) (count_ok _ v m w59 (hk.gr G61) ok hl) ?_
  rintro _ w70 ⟨rfl, g71⟩
  refine ⟨_, rfl, fun an69 n69 => ?_⟩
  have G72 := G61.trans g71
  have B73 := B62.gr g71
  have B74 := B63.gr g71
  have B75 := u60b.gr g71
  have A76 := A64.trans g71
  refine sv n69.ok rfl (wn _ rfl) rfl (o_mv n69.at_) (fun an77 n77 => ?_)
  refine sv n77.ok rfl (wn _ rfl) rfl (o_ex n77.at_ rfl) (fun an78 n78 => ?_)
  refine sv n78.ok rfl (wn _ rfl) rfl (o_ex (n78.ne rfl n77.at_) rfl) (fun an79 n79 => ?_)
  refine sv n79.ok rfl (wn _ rfl) rfl (o_as (n79.ne rfl n78.at_)) (fun an80 n80 => ?_)
  refine sv n80.ok rfl (wn _ rfl) rfl (o_as (n80.ne rfl n79.at_)) (fun an81 n81 => ?_)
  refine wpList_nil ?_
  refine th_n (hK66 _ _ ?_)
  refine wp_seq_k (fun K82 hK82 => ?_)
  refine wp_region_lit ?_
  have e83 := n81.ne rfl (n80.ne rfl (n79.ne rfl (n78.ne rfl (n77.ne rfl (n69.ne rfl (n68.ne rfl e67))))))
  refine sv n81.ok rfl (wn _ rfl) rfl (o_ldR e83 B73 Try.underlying25 rfl (by kernel_rfl)) (fun an84 n84 => ?_)
  refine sc n84.ok rfl (wn _ rfl) rfl (o_f1 Try.func13 rfl rfl rfl n84.at_) (by have h := rknow_any _ _ _ w70 (hk.gr G72); rw [hE] at h; exact h) ?_
  rintro _ w86 ⟨rfl, g87⟩
  refine ⟨_, rfl, fun an85 n85 => ?_⟩
  have G88 := G72.trans g87
  have B89 := B73.gr g87
  have B90 := B74.gr g87
  have B91 := B75.gr g87
  have A92 := A76.trans g87
  refine sv n85.ok rfl (wn _ rfl) rfl (o_as n85.at_) (fun an93 n93 => ?_)
  refine wpList_nil ?_
  refine th_n (hK82 _ _ ?_)
  refine wp_seq_k (fun K94 hK94 => ?_)
  refine wp_seq_k (fun K95 hK95 => ?_)
  refine reg_start (N := 131) (m := 16) (by kernel_rfl) (fun R960 => ?_)
  have e97 := n93.ne rfl (n85.ne rfl (n84.ne rfl (n81.ne rfl (n80.ne rfl (n79.ne rfl (n78.ne rfl (n77.ne rfl (n69.ne rfl (n68.ne rfl (n65.ne rfl (n47.ne rfl (n46.ne rfl (n45.ne rfl (n44.ne rfl (n36.ne rfl (n35.ne rfl e34))))))))))))))))
  have R961 := R960.snoc (n' := 1) rfl (fun vJ _ => vJ = .agg #[.int .i64 (s : Int), .int .i64 (c : Int)]) rfl (fun _ _ _ _ h => h) (fun aS wS pS => by
      exact Does.val (wn _ rfl) (o_ldR ((pS.old 3 rfl).trans e97) (Bk.gr B90 (gr_drew pS.gr)) Try.underlying27 rfl (by kernel_rfl)) (Gr.refl _) rfl rfl)
  have R962 := R961.snoc (n' := 2) rfl (fun vJ _ => vJ = .bool true) rfl (fun _ _ _ _ h => h) (fun aS wS pS => by
      have eR96_0 : aS.eval (.tmp 33) = .agg #[.int .i64 (s : Int), .int .i64 (c : Int)] := pS.pre 0 rfl
      exact Does.call (wn _ rfl) (o_f1 Try.func14 rfl rfl rfl (eR96_0)) (by have h := dot_any ((s : Int), (c : Int)) wS; rw [hdB] at h; exact h) (by rintro _ w2 ⟨rfl, g⟩; exact ⟨_, rfl, g, rfl⟩) rfl)
  have R963 := R962.snoc (n' := 3) rfl (fun vJ _ => vJ = .agg #[.int .i64 (s : Int), .int .i64 (c : Int)]) rfl (fun _ _ _ _ h => h) (fun aS wS pS => by
      exact Does.val (wn _ rfl) (o_ldR ((pS.old 3 rfl).trans e97) (Bk.gr B90 (gr_drew pS.gr)) Try.underlying27 rfl (by kernel_rfl)) (Gr.refl _) rfl rfl)
  have R964 := R963.snoc (n' := 4) rfl (fun vJ _ => vJ = .bool true) rfl (fun _ _ _ _ h => h) (fun aS wS pS => by
      have eR96_2 : aS.eval (.tmp 35) = .agg #[.int .i64 (s : Int), .int .i64 (c : Int)] := pS.pre 2 rfl
      exact Does.call (wn _ rfl) (o_f1 Try.func15 rfl rfl rfl (eR96_2)) (by have h := rdot_any ((s : Int), (c : Int)) wS; rw [hdB] at h; exact h) (by rintro _ w2 ⟨rfl, g⟩; exact ⟨_, rfl, g, rfl⟩) rfl)
  have R965 := R964.snoc (n' := 5) rfl (fun vJ _ => vJ = .bool false) rfl (fun _ _ _ _ h => h) (fun aS wS pS => by
      have eR96_1 : aS.eval (.tmp 34) = .bool true := pS.pre 1 rfl
      have eR96_3 : aS.eval (.tmp 36) = .bool true := pS.pre 3 rfl
      exact Does.val (wn _ rfl) (o_neqB (b := false) (eR96_1) (eR96_3) (by simp) Try.underlying4) (Gr.refl _) rfl rfl)
  have R966 := R965.snoc (n' := 6) rfl (fun vJ _ => vJ = .bool false) rfl (fun _ _ _ _ h => h) (fun aS wS pS => by
      have eR96_4 : aS.eval (.tmp 37) = .bool false := pS.pre 4 rfl
      exact Does.val (wn _ rfl) (o_mv (eR96_4)) (Gr.refl _) rfl rfl)
  have e98 := n93.ne rfl (n85.ne rfl (n84.ne rfl e83))
  have R967 := R966.snoc (n' := 7) rfl (fun vJ _ => vJ = .agg #[.slice va ((ints v).length) vc, .slice ma ((pairs m).length) mc]) rfl (fun _ _ _ _ h => h) (fun aS wS pS => by
      have eR96_5 : aS.eval (.tmp 38) = .bool false := pS.pre 5 rfl
      exact Does.val (wgT rfl (yl 5 false rfl eR96_5) rfl) (o_ldR ((pS.old 2 rfl).trans e98) (Bk.gr B89 (gr_drew pS.gr)) Try.underlying25 rfl (by kernel_rfl)) (Gr.refl _) rfl rfl)
  have R968 := R967.snoc (n' := 8) rfl (fun vJ _ => vJ = .int .i64 0) rfl (fun _ _ _ _ h => h) (fun aS wS pS => by
      have eR96_5 : aS.eval (.tmp 38) = .bool false := pS.pre 5 rfl
      have eR96_6 : aS.eval (.tmp 39) = .agg #[.slice va ((ints v).length) vc, .slice ma ((pairs m).length) mc] := pS.pre 6 rfl
      exact Does.call (wgT rfl (yl 5 false rfl eR96_5) rfl) (o_f1 Try.func16 rfl rfl rfl (eR96_6)) (by have h := check_any _ _ _ wS (hk.gr (G88.trans (gr_drew pS.gr))); rw [hE] at h; exact h) (by rintro _ w2 ⟨rfl, g⟩; exact ⟨_, rfl, g, rfl⟩) rfl)
  have R969 := R968.snoc (n' := 9) rfl (fun vJ _ => vJ = .int .i64 0) rfl (fun _ _ _ _ h => h) (fun aS wS pS => by
      have eR96_5 : aS.eval (.tmp 38) = .bool false := pS.pre 5 rfl
      exact Does.val (wgT rfl (yl 5 false rfl eR96_5) rfl) (o_mv ((pS.old 11 rfl).trans n93.at_)) (Gr.refl _) rfl rfl)
  have R9610 := R969.snoc (n' := 10) rfl (fun vJ _ => vJ = .bool false) rfl (fun _ _ _ _ h => h) (fun aS wS pS => by
      have eR96_5 : aS.eval (.tmp 38) = .bool false := pS.pre 5 rfl
      have eR96_7 : aS.eval (.tmp 40) = .int .i64 0 := pS.pre 7 rfl
      have eR96_8 : aS.eval (.tmp 41) = .int .i64 0 := pS.pre 8 rfl
      exact Does.val (wgT rfl (yl 5 false rfl eR96_5) rfl) (o_neq (b := false) (eR96_7) (eR96_8) (by decide)) (Gr.refl _) rfl rfl)
  have R9611 := R9610.snoc (n' := 11) rfl (fun vJ _ => vJ = .bool false) rfl (fun _ _ _ _ h => h) (fun aS wS pS => by
      have eR96_5 : aS.eval (.tmp 38) = .bool false := pS.pre 5 rfl
      have eR96_9 : aS.eval (.tmp 42) = .bool false := pS.pre 9 rfl
      exact Does.val (wn _ rfl) (o_pkF (eR96_5) (eR96_9)) (Gr.refl _) rfl rfl)
  have R9612 := R9611.snoc (n' := 12) rfl (fun vJ _ => vJ = .bool false) rfl (fun _ _ _ _ h => h) (fun aS wS pS => by
      have eR96_10 : aS.eval (.tmp 43) = .bool false := pS.pre 10 rfl
      exact Does.val (wn _ rfl) (o_mv (eR96_10)) (Gr.refl _) rfl rfl)
  have R9613 := R9612.snoc (n' := 13) rfl (fun vJ _ => vJ = .agg #[.int .i64 0, .int .i64 1]) rfl (fun _ _ _ _ h => h) (fun aS wS pS => by
      have eR96_11 : aS.eval (.tmp 44) = .bool false := pS.pre 11 rfl
      exact Does.val (wgT rfl (yl 11 false rfl eR96_11) rfl) (o_bd (cells := #[.int .i64 0, .int .i64 1]) (vs := [(1, .int .i64 1)]) (by simp [ev_const]) (by kernel_rfl)) (Gr.refl _) rfl rfl)
  have R9614 := R9613.snoc (n' := 14) rfl (fun vJ _ => vJ = .bool true) rfl (fun _ _ _ _ h => h) (fun aS wS pS => by
      have eR96_11 : aS.eval (.tmp 44) = .bool false := pS.pre 11 rfl
      have eR96_12 : aS.eval (.tmp 45) = .agg #[.int .i64 0, .int .i64 1] := pS.pre 12 rfl
      exact Does.call (wgT rfl (yl 11 false rfl eR96_11) rfl) (o_f1 Try.func14 rfl rfl rfl (eR96_12)) (dot_any (0, 1) wS) (by rintro _ w2 ⟨rfl, g⟩; exact ⟨_, rfl, g, rfl⟩) rfl)
  have R9615 := R9614.snoc (n' := 15) rfl (fun vJ _ => vJ = .bool false) rfl (fun _ _ _ _ h => h) (fun aS wS pS => by
      have eR96_11 : aS.eval (.tmp 44) = .bool false := pS.pre 11 rfl
      have eR96_13 : aS.eval (.tmp 46) = .bool true := pS.pre 13 rfl
      exact Does.val (wgT rfl (yl 11 false rfl eR96_11) rfl) (o_not (eR96_13) rfl) (Gr.refl _) rfl rfl)
  have R9616 := R9615.snoc (n' := 16) rfl (fun vJ _ => vJ = .bool false) rfl (fun _ _ _ _ h => h) (fun aS wS pS => by
      have eR96_11 : aS.eval (.tmp 44) = .bool false := pS.pre 11 rfl
      have eR96_14 : aS.eval (.tmp 47) = .bool false := pS.pre 14 rfl
      exact Does.val (wn _ rfl) (o_pkF (eR96_11) (eR96_14)) (Gr.refl _) rfl rfl)
  refine R9616.run (k := 0) (L := #[true, true, true, true, true, true, true, true, true, true, true, true, true, true, true, true]) (by kernel_rfl) (by kernel_rfl) (by kernel_rfl) n93.ok (by kernel_rfl) (by kernel_rfl) (fun ap100 w101 p100 => ?_)
  have g102 := gr_drew p100.gr
  have G103 := G88.trans g102
  have B104 := B89.gr g102
  have B105 := B90.gr g102
  have B106 := B91.gr g102
  have A107 := A92.trans g102
  refine wpAny_done (by kernel_rfl) ?_ _
  refine th_n (hK95 _ _ ?_)
  have ep100_15 : ap100.eval (.tmp 48) = .bool false := p100.js 15 rfl
  refine wp_cond_false (ep100_15) ?_
  refine wp_skip ?_
  refine th_n (hK94 _ _ ?_)
  refine wp_seq_k (fun K108 hK108 => ?_)
  refine wp_seq_k (fun K109 hK109 => ?_)
  refine wp_region_lit ?_
  refine sv p100.ok rfl (wn _ rfl) rfl (o_mv ((p100.old 11 rfl).trans n93.at_)) (fun an110 n110 => ?_)
  refine sv n110.ok rfl (wn _ rfl) rfl (o_neq (b := false) n110.at_ ev_const (by decide)) (fun an111 n111 => ?_)
  refine wpList_nil ?_
  refine th_n (hK109 _ _ ?_)
  refine wp_cond_false (n111.at_) ?_
  refine wp_skip ?_
  refine th_n (hK108 _ _ ?_)
  refine wp_seq_k (fun K112 hK112 => ?_)
  refine wp_region_lit ?_
  have e113 := n111.ne rfl (n110.ne rfl ((p100.old 2 rfl).trans e98))
  refine sv n111.ok rfl (wn _ rfl) rfl (o_ldR e113 B104 Try.underlying25 rfl (by kernel_rfl)) (fun an114 n114 => ?_)
  refine sc n114.ok rfl (wn _ rfl) rfl (o_f1 Try.func18 rfl rfl rfl n114.at_) (rall_any _ v m w101 (hk.gr G103) ok hl) ?_
  rintro _ w116 ⟨X, rfl, hX, hD, g117⟩
  refine ⟨_, rfl, fun an115 n115 => ?_⟩
  have G118 := G103.trans g117
  have B119 := B104.gr g117
  have B120 := B105.gr g117
  have B121 := B106.gr g117
  have A122 := A107.trans g117
  refine sal (cs := wArr (fun _ => 0)) n115.ok rfl (wn _ rfl) rfl (o_al (z := .agg (wArr (fun _ => 0))) dots_zero) (fun an123 w125 b124 W126 n123 => ?_)
  have l127 : b3 < b124 := by rw [W126.eq]; exact B119.lt
  have l128 : b9 < b124 := by rw [W126.eq]; exact B120.lt
  have l129 : b48 < b124 := by rw [W126.eq]; exact B121.lt
  have l130 : w.heap.size ≤ b124 := by rw [W126.eq]; exact G118.size
  have l131 : w37.heap.size ≤ b124 := by rw [W126.eq]; exact A122.size
  have G132 := G118.trans W126.gr
  have B133 := B119.gr W126.gr
  have B134 := B120.gr W126.gr
  have B135 := B121.gr W126.gr
  have A136 := A122.trans W126.gr
  refine ssR rfl (wn _ rfl) (o_stR n123.at_ (n123.ne rfl n115.at_) W126.bk (dots_sz X) (by rw [wArr_size, wArr_size]) (wArr_one X)) W126.bk (fun w137 u138 u138b => ?_)
  have G139 : Gr w w137 := Below.upd G132 l130 u138
  have B140 := B133.upd u138 (Nat.ne_of_lt l127)
  have B141 := B134.upd u138 (Nat.ne_of_lt l128)
  have B142 := B135.upd u138 (Nat.ne_of_lt l129)
  have A143 : Gr w37 w137 := Below.upd A136 l131 u138
  refine wpList_nil ?_
  refine th_n (hK112 _ _ ?_)
  refine wp_seq_k (fun K144 hK144 => ?_)
  refine wp_seq_k (fun K145 hK145 => ?_)
  refine wp_region_lit ?_
  have e146 := n123.ne rfl (n115.ne rfl (n114.ne rfl (n111.ne rfl (n110.ne rfl ((p100.old 10 rfl).trans (n93.ne rfl (n85.ne rfl (n84.ne rfl n81.at_))))))))
  refine sv n123.ok rfl (wn _ rfl) rfl (o_mv e146) (fun an147 n147 => ?_)
  refine sv n147.ok rfl (wn _ rfl) rfl (o_neq (b := false) n147.at_ ev_const (by decide)) (fun an148 n148 => ?_)
  refine sv n148.ok rfl (wn _ rfl) rfl (o_mv n148.at_) (fun an149 n149 => ?_)
  have e150 := n149.ne rfl (n148.ne rfl (n147.ne rfl (n123.ne rfl (n115.ne rfl (n114.ne rfl (n111.ne rfl (n110.ne rfl ((p100.old 9 rfl).trans (n93.ne rfl (n85.ne rfl (n84.ne rfl (n81.ne rfl n80.at_))))))))))))
  refine sv n149.ok rfl (wgT rfl (yl 2 false rfl n149.at_) rfl) rfl (o_mv e150) (fun an151 n151 => ?_)
  have e152 := n151.ne rfl (n149.ne rfl (n148.ne rfl (n147.ne rfl n123.at_)))
  refine sv n151.ok rfl (wgT rfl (yl 2 false rfl (n151.ne rfl n149.at_)) rfl) rfl (o_ldR e152 u138b Try.underlying41 rfl (dots_sz X)) (fun an153 n153 => ?_)
  refine sc n153.ok rfl (wgT rfl (yl 2 false rfl (n153.ne rfl (n151.ne rfl n149.at_))) rfl) rfl (o_f1 Try.func19 rfl rfl rfl n153.at_) (by have h := rsize_any X hX w137; rw [size_eq ok hD] at h; exact h) ?_
  rintro _ w155 ⟨rfl, g156⟩
  refine ⟨_, rfl, fun an154 n154 => ?_⟩
  have G157 := G139.trans g156
  have B158 := B140.gr g156
  have B159 := B141.gr g156
  have B160 := B142.gr g156
  have B161 := u138b.gr g156
  have A162 := A143.trans g156
  have e163 := n154.ne rfl (n153.ne rfl (n151.ne rfl n149.at_))
  refine sv n154.ok rfl (wgT rfl (yl 2 false rfl e163) rfl) rfl (o_neq (b := false) (n154.ne rfl (n153.ne rfl n151.at_)) n154.at_ (by simp [show ((v.sum + m.length : Nat) : Int) = ((v.sum + m.length : Nat) : Int) from rfl])) (fun an164 n164 => ?_)
  refine sv n164.ok rfl (wn _ rfl) rfl (o_pkF (n164.ne rfl e163) n164.at_) (fun an165 n165 => ?_)
  refine wpList_nil ?_
  refine th_n (hK145 _ _ ?_)
  refine wp_cond_false (n165.at_) ?_
  refine wp_skip ?_
  refine th_n (hK144 _ _ ?_)
  refine wp_seq_k (fun K166 hK166 => ?_)
  refine wp_seq_k (fun K167 hK167 => ?_)
  refine wp_region_lit ?_
  have e168 := n165.ne rfl (n164.ne rfl (n154.ne rfl (n153.ne rfl (n151.ne rfl (n149.ne rfl (n148.ne rfl (n147.ne rfl (n123.ne rfl (n115.ne rfl (n114.ne rfl (n111.ne rfl (n110.ne rfl ((p100.old 3 rfl).trans e97)))))))))))))
  refine sv n165.ok rfl (wn _ rfl) rfl (o_ldR e168 B159 Try.underlying27 rfl (by kernel_rfl)) (fun an169 n169 => ?_)
  refine sc n169.ok rfl (wn _ rfl) rfl (o_f1 Try.func15 rfl rfl rfl n169.at_) (by have h := rdot_any ((s : Int), (c : Int)) w155; rw [hdB] at h; exact h) ?_
  rintro _ w171 ⟨rfl, g172⟩
  refine ⟨_, rfl, fun an170 n170 => ?_⟩
  have G173 := G157.trans g172
  have B174 := B158.gr g172
  have B175 := B159.gr g172
  have B176 := B160.gr g172
  have B177 := B161.gr g172
  have A178 := A162.trans g172
  refine sv n170.ok rfl (wn _ rfl) rfl (o_not n170.at_ rfl) (fun an179 n179 => ?_)
  refine wpList_nil ?_
  refine th_n (hK167 _ _ ?_)
  refine wp_cond_false (n179.at_) ?_
  refine wp_skip ?_
  refine th_n (hK166 _ _ ?_)
  refine wp_seq_k (fun K180 hK180 => ?_)
  refine wp_region_lit ?_
  have e181 := n179.ne rfl (n170.ne rfl (n169.ne rfl (n165.ne rfl (n164.ne rfl (n154.ne rfl (n153.ne rfl e152))))))
  refine sv n179.ok rfl (wn _ rfl) rfl (o_ldR e181 B177 Try.underlying41 rfl (dots_sz X)) (fun an182 n182 => ?_)
  have e183 := n182.ne rfl (n179.ne rfl (n170.ne rfl (n169.ne rfl e168)))
  refine sv n182.ok rfl (wn _ rfl) rfl (o_ldR e183 B175 Try.underlying27 rfl (by kernel_rfl)) (fun an184 n184 => ?_)
  refine sc n184.ok rfl (wn _ rfl) rfl (o_f2 Try.func21 rfl rfl rfl (n184.ne rfl n182.at_) n184.at_) (rwith_any X s c w171 hX (by have := hd.1; omega) (by have := hd.2.2; omega)) ?_
  rintro _ w186 ⟨rfl, g187⟩
  refine ⟨_, rfl, fun an185 n185 => ?_⟩
  have G188 := G173.trans g187
  have B189 := B174.gr g187
  have B190 := B175.gr g187
  have B191 := B176.gr g187
  have B192 := B177.gr g187
  have A193 := A178.trans g187
  refine sc n185.ok rfl (wn _ rfl) rfl (o_f1 Try.func20 rfl rfl rfl n185.at_) ((rformed_eq (withX X s c) (hX.with s c) _ (with_eqD hD (by have := hd.2.2; omega)) w186).mono fun e w' h => And.intro (frmK.one h.1) h.2) ?_
  rintro _ w195 ⟨⟨k, rfl, hky⟩, g196⟩
  obtain ⟨vay, vcy, may, mcy, rfl⟩ := hky.form
  have hry := hky.rd
  refine ⟨_, rfl, fun an194 n194 => ?_⟩
  have G197 := G188.trans g196
  have B198 := B189.gr g196
  have B199 := B190.gr g196
  have B200 := B191.gr g196
  have B201 := B192.gr g196
  have A202 := A193.trans g196
  have A204 := Gr.refl w195
  refine sv n194.ok rfl (wn _ rfl) rfl (o_mv n194.at_) (fun an205 n205 => ?_)
  refine sv n205.ok rfl (wn _ rfl) rfl (o_ex n205.at_ rfl) (fun an206 n206 => ?_)
  refine sv n206.ok rfl (wn _ rfl) rfl (o_ex (n206.ne rfl n205.at_) rfl) (fun an207 n207 => ?_)
  refine sal (cs := #[.slice none 0 0, .slice none 0 0]) n207.ok rfl (wn _ rfl) rfl (o_al (z := .agg #[.slice none 0 0, .slice none 0 0]) (by kernel_rfl)) (fun an208 w210 b209 W211 n208 => ?_)
  have l212 : b3 < b209 := by rw [W211.eq]; exact B198.lt
  have l213 : b9 < b209 := by rw [W211.eq]; exact B199.lt
  have l214 : b48 < b209 := by rw [W211.eq]; exact B200.lt
  have l215 : b124 < b209 := by rw [W211.eq]; exact B201.lt
  have l216 : w.heap.size ≤ b209 := by rw [W211.eq]; exact G197.size
  have l217 : w37.heap.size ≤ b209 := by rw [W211.eq]; exact A202.size
  have l218 : w195.heap.size ≤ b209 := by rw [W211.eq]; exact A204.size
  have G219 := G197.trans W211.gr
  have B220 := B198.gr W211.gr
  have B221 := B199.gr W211.gr
  have B222 := B200.gr W211.gr
  have B223 := B201.gr W211.gr
  have A224 := A202.trans W211.gr
  have A225 := A204.trans W211.gr
  refine ssR rfl (wn _ rfl) (o_stR n208.at_ (n208.ne rfl (n207.ne rfl n206.at_)) W211.bk (by kernel_rfl) rfl (by simp [Value.oneCell'])) W211.bk (fun w226 u227 u227b => ?_)
  have G228 : Gr w w226 := Below.upd G219 l216 u227
  have B229 := B220.upd u227 (Nat.ne_of_lt l212)
  have B230 := B221.upd u227 (Nat.ne_of_lt l213)
  have B231 := B222.upd u227 (Nat.ne_of_lt l214)
  have B232 := B223.upd u227 (Nat.ne_of_lt l215)
  have A233 : Gr w37 w226 := Below.upd A224 l217 u227
  have A234 : Gr w195 w226 := Below.upd A225 l218 u227
  refine sv n208.ok rfl (wn _ rfl) rfl (o_as (n208.ne rfl n207.at_)) (fun an235 n235 => ?_)
  refine wpList_nil ?_
  refine th_n (hK180 _ _ ?_)
  refine wp_seq_k (fun K236 hK236 => ?_)
  refine wp_region_lit ?_
  have e237 := n235.ne rfl (n208.ne rfl (n207.ne rfl (n206.ne rfl (n205.ne rfl (n194.ne rfl (n185.ne rfl (n184.ne rfl (n182.ne rfl (n179.ne rfl (n170.ne rfl (n169.ne rfl (n165.ne rfl (n164.ne rfl (n154.ne rfl (n153.ne rfl (n151.ne rfl (n149.ne rfl (n148.ne rfl (n147.ne rfl (n123.ne rfl (n115.ne rfl (n114.ne rfl (n111.ne rfl (n110.ne rfl ((p100.old 6 rfl).trans (n93.ne rfl (n85.ne rfl (n84.ne rfl (n81.ne rfl (n80.ne rfl (n79.ne rfl (n78.ne rfl (n77.ne rfl (n69.ne rfl (n68.ne rfl (n65.ne rfl (n47.ne rfl (n46.ne rfl (n45.ne rfl (n44.ne rfl (n36.ne rfl (n35.ne rfl (n33.ne rfl n30.at_)))))))))))))))))))))))))))))))))))))))))))
  refine sv n235.ok rfl (wn _ rfl) rfl (o_mv e237) (fun an238 n238 => ?_)
  refine sv n238.ok rfl (wn _ rfl) rfl (o_eq (b := true) n238.at_ ev_const (by decide)) (fun an239 n239 => ?_)
  refine sv n239.ok rfl (wn _ rfl) rfl (o_mv n239.at_) (fun an240 n240 => ?_)
  have e241 := n240.ne rfl (n239.ne rfl (n238.ne rfl (n235.ne rfl (n208.ne rfl (n207.ne rfl (n206.ne rfl (n205.ne rfl (n194.ne rfl (n185.ne rfl (n184.ne rfl (n182.ne rfl (n179.ne rfl (n170.ne rfl (n169.ne rfl (n165.ne rfl (n164.ne rfl (n154.ne rfl (n153.ne rfl (n151.ne rfl (n149.ne rfl (n148.ne rfl (n147.ne rfl (n123.ne rfl (n115.ne rfl (n114.ne rfl (n111.ne rfl (n110.ne rfl ((p100.old 5 rfl).trans (n93.ne rfl (n85.ne rfl (n84.ne rfl (n81.ne rfl (n80.ne rfl (n79.ne rfl (n78.ne rfl (n77.ne rfl (n69.ne rfl (n68.ne rfl (n65.ne rfl (n47.ne rfl (n46.ne rfl (n45.ne rfl (n44.ne rfl (n36.ne rfl (n35.ne rfl (n33.ne rfl (n30.ne rfl n29.at_)))))))))))))))))))))))))))))))))))))))))))))))
  refine sv n240.ok rfl (wgT rfl (yl 2 true rfl n240.at_) rfl) rfl (o_mv e241) (fun an242 n242 => ?_)
  have e243 := n242.ne rfl (n240.ne rfl (n239.ne rfl (n238.ne rfl (n235.ne rfl (n208.ne rfl (n207.ne rfl (n206.ne rfl (n205.ne rfl (n194.ne rfl (n185.ne rfl (n184.ne rfl (n182.ne rfl e181))))))))))))
  refine sv n242.ok rfl (wgT rfl (yl 2 true rfl (n242.ne rfl n240.at_)) rfl) rfl (o_ldR e243 B232 Try.underlying41 rfl (dots_sz X)) (fun an244 n244 => ?_)
  have e245 := n244.ne rfl (n242.ne rfl (n240.ne rfl (n239.ne rfl (n238.ne rfl (n235.ne rfl (n208.ne rfl (n207.ne rfl (n206.ne rfl (n205.ne rfl (n194.ne rfl (n185.ne rfl (n184.ne rfl e183))))))))))))
  refine sv n244.ok rfl (wgT rfl (yl 2 true rfl (n244.ne rfl (n242.ne rfl n240.at_))) rfl) rfl (o_ldR e245 B230 Try.underlying27 rfl (by kernel_rfl)) (fun an246 n246 => ?_)
  have e247 := n246.ne rfl (n244.ne rfl (n242.ne rfl n240.at_))
  refine sc n246.ok rfl (wgT rfl (yl 2 true rfl e247) rfl) rfl (o_f2 Try.func22 rfl rfl rfl (n246.ne rfl n244.at_) n246.at_) (by have h := rhas_any X s c w226 hX (by have := hd.1; omega) (by have := hd.2.2; omega); rw [hD s c (by have := hd.1; omega) (by have := hd.2.2; omega)] at h; exact h) ?_
  rintro _ w249 ⟨rfl, g250⟩
  refine ⟨_, rfl, fun an248 n248 => ?_⟩
  have G251 := G228.trans g250
  have B252 := B229.gr g250
  have B253 := B230.gr g250
  have B254 := B231.gr g250
  have B255 := B232.gr g250
  have B256 := u227b.gr g250
  have A257 := A233.trans g250
  have A258 := A234.trans g250
  have e259 := n248.ne rfl (n246.ne rfl (n244.ne rfl n242.at_))
  refine sv n248.ok rfl (wgT rfl (yl 2 true rfl (n248.ne rfl e247)) rfl) rfl (o_eqB (b := true) e259 n248.at_ (by simp) Try.underlying4) (fun an260 n260 => ?_)
  refine sv n260.ok rfl (wn _ rfl) rfl (o_pkT (n260.ne rfl (n248.ne rfl e247)) n260.at_) (fun an261 n261 => ?_)
  refine sv n261.ok rfl (wn _ rfl) rfl (o_mv n261.at_) (fun an262 n262 => ?_)
  have e263 := n262.ne rfl (n261.ne rfl (n260.ne rfl (n248.ne rfl (n246.ne rfl (n244.ne rfl (n242.ne rfl (n240.ne rfl (n239.ne rfl (n238.ne rfl (n235.ne rfl (n208.ne rfl (n207.ne rfl (n206.ne rfl (n205.ne rfl (n194.ne rfl (n185.ne rfl (n184.ne rfl (n182.ne rfl (n179.ne rfl (n170.ne rfl (n169.ne rfl (n165.ne rfl (n164.ne rfl (n154.ne rfl (n153.ne rfl (n151.ne rfl (n149.ne rfl (n148.ne rfl (n147.ne rfl (n123.ne rfl (n115.ne rfl (n114.ne rfl (n111.ne rfl (n110.ne rfl ((p100.old 8 rfl).trans (n93.ne rfl (n85.ne rfl (n84.ne rfl (n81.ne rfl (n80.ne rfl (n79.ne rfl (n78.ne rfl (n77.ne rfl (n69.ne rfl (n68.ne rfl n65.at_)))))))))))))))))))))))))))))))))))))))))))))
  refine sv n262.ok rfl (wgT rfl (yl 9 true rfl n262.at_) rfl) rfl (o_mv e263) (fun an264 n264 => ?_)
  have e265 := n264.ne rfl (n262.ne rfl (n261.ne rfl (n260.ne rfl (n248.ne rfl (n246.ne rfl (n244.ne rfl (n242.ne rfl (n240.ne rfl (n239.ne rfl (n238.ne rfl n235.at_))))))))))
  refine sv n264.ok rfl (wgT rfl (yl 9 true rfl (n264.ne rfl n262.at_)) rfl) rfl (o_mv e265) (fun an266 n266 => ?_)
  refine sv n266.ok rfl (wgT rfl (yl 9 true rfl (n266.ne rfl (n264.ne rfl n262.at_))) rfl) rfl (o_eq (n266.ne rfl n264.at_) n266.at_ (decide_eq_true rfl)) (fun an267 n267 => ?_)
  have e268 := n267.ne rfl (n266.ne rfl (n264.ne rfl n262.at_))
  refine sv n267.ok rfl (wn _ rfl) rfl (o_pkT e268 n267.at_) (fun an269 n269 => ?_)
  refine sv n269.ok rfl (wn _ rfl) rfl (o_mv n269.at_) (fun an270 n270 => ?_)
  have e271 := n270.ne rfl (n269.ne rfl (n267.ne rfl (n266.ne rfl (n264.ne rfl (n262.ne rfl (n261.ne rfl (n260.ne rfl (n248.ne rfl (n246.ne rfl (n244.ne rfl (n242.ne rfl (n240.ne rfl (n239.ne rfl (n238.ne rfl (n235.ne rfl (n208.ne rfl (n207.ne rfl (n206.ne rfl (n205.ne rfl (n194.ne rfl (n185.ne rfl (n184.ne rfl (n182.ne rfl (n179.ne rfl (n170.ne rfl (n169.ne rfl (n165.ne rfl (n164.ne rfl (n154.ne rfl (n153.ne rfl (n151.ne rfl (n149.ne rfl (n148.ne rfl (n147.ne rfl (n123.ne rfl (n115.ne rfl (n114.ne rfl (n111.ne rfl (n110.ne rfl ((p100.old 7 rfl).trans (n93.ne rfl (n85.ne rfl (n84.ne rfl (n81.ne rfl (n80.ne rfl (n79.ne rfl (n78.ne rfl (n77.ne rfl (n69.ne rfl (n68.ne rfl (n65.ne rfl n47.at_)))))))))))))))))))))))))))))))))))))))))))))))))))
  refine sv n270.ok rfl (wgT rfl (yl 14 true rfl n270.at_) rfl) rfl (o_ldR e271 B254 Try.underlying25 rfl (by kernel_rfl)) (fun an272 n272 => ?_)
  have e273 := n272.ne rfl (n270.ne rfl (n269.ne rfl (n267.ne rfl (n266.ne rfl (n264.ne rfl (n262.ne rfl (n261.ne rfl (n260.ne rfl (n248.ne rfl (n246.ne rfl (n244.ne rfl (n242.ne rfl (n240.ne rfl (n239.ne rfl (n238.ne rfl (n235.ne rfl n208.at_))))))))))))))))
  refine sv n272.ok rfl (wgT rfl (yl 14 true rfl (n272.ne rfl n270.at_)) rfl) rfl (o_ldR e273 B256 Try.underlying25 rfl (by kernel_rfl)) (fun an274 n274 => ?_)
  refine sc n274.ok rfl (wgT rfl (yl 14 true rfl (n274.ne rfl (n272.ne rfl n270.at_))) rfl) rfl (o_f2 Try.func17 rfl rfl rfl (n274.ne rfl n272.at_) n274.at_) (sameK_t _ _ _ _ w249 (hrx.gr A257) (hry.gr A258) (frV_small _) (frM_small _)) ?_
  rintro _ w276 ⟨rfl, g277⟩
  refine ⟨_, rfl, fun an275 n275 => ?_⟩
  have G278 := G251.trans g277
  have B279 := B252.gr g277
  have B280 := B253.gr g277
  have B281 := B254.gr g277
  have B282 := B255.gr g277
  have B283 := B256.gr g277
  have A284 := A257.trans g277
  have A285 := A258.trans g277
  have e286 := n275.ne rfl (n274.ne rfl (n272.ne rfl n270.at_))
  refine sv n275.ok rfl (wn _ rfl) rfl (o_pkT e286 n275.at_) (fun an287 n287 => ?_)
  refine sv n287.ok rfl (wn _ rfl) rfl (o_as n287.at_) (fun an288 n288 => ?_)
  refine wpList_nil ?_
  refine th_n (hK236 _ _ ?_)
  refine wp_ret ?_
  exact ret1 n288.ok rfl (n288.at_) ⟨rfl, G278⟩
theorem knowSays_walk (k : Value) (V : List Int) (M : List (Int × Int)) (x y : Int) (w : World) (hk : KnR w k V M) : Calls Try.prog 3 #[k, .agg #[.int .i64 x, .int .i64 y]] w fun e w' => e = .returned (.bool true) ∧ Gr w w' := by
  obtain ⟨va, vc, ma, mc, rfl, -, -⟩ := knr_form hk
  by_cases hE : chkK V M = 0
  · obtain ⟨v, m, rfl, rfl, ok, hl⟩ := chkK_zero hE
    cases hd : dotB (x, y)
    · exact knowSays_dot va ma vc mc v m x y ok hl hE hd w hk
    · obtain ⟨h1, h2, h3, h4⟩ := (dotB_iff _).1 hd
      simp only at h1 h2 h3 h4
      obtain ⟨s, rfl⟩ : ∃ n : Nat, x = n := ⟨x.toNat, by omega⟩
      obtain ⟨c, rfl⟩ : ∃ n : Nat, y = n := ⟨y.toNat, by omega⟩
      exact knowSays_ok va ma vc mc v m s c ok hl ⟨by omega, by omega, by omega⟩ hE hd w hk
  · exact knowSays_bad va ma vc mc V M x y hE w hk
end Go.Proofs.Ytgmoedjdfjloiaa
