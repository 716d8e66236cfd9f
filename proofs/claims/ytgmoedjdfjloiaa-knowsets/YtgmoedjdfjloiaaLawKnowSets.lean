/- The walk of KnowSets. -/
import Derived.Test.YtgmoedjdfjloiaaKmD
set_option linter.unusedVariables false
set_option linter.unusedSimpArgs false
namespace Go.Proofs.Ytgmoedjdfjloiaa
open Go.RowKit Rm Gx
theorem chk2_1 {V V2 : List Int} {M M2 : List (Int × Int)} (h : chkK V M ≠ 0) : chk2K V V2 M M2 = chkK V M := by unfold chk2K; rw [if_pos h]
theorem chk2_2 {V V2 : List Int} {M M2 : List (Int × Int)} (h : chkK V M = 0) : chk2K V V2 M M2 = chkK V2 M2 := by unfold chk2K; rw [if_neg (by simp [h])]
set_option maxHeartbeats 8000000 in
set_option maxRecDepth 100000 in
theorem knowSets_bad1 (va ma vb mb : Option Addr) (vc mc wc nc : Nat) (V V2 : List Int) (M M2 : List (Int × Int)) (hE : chk2K V V2 M M2 ≠ 0) (hE1 : chkK V M ≠ 0) (w : World) (hk1 : KnR w (.agg #[.slice va V.length vc, .slice ma M.length mc]) V M) (hk2 : KnR w (.agg #[.slice vb V2.length wc, .slice mb M2.length nc]) V2 M2) :
    Calls Try.prog 4 #[.agg #[.slice va V.length vc, .slice ma M.length mc], .agg #[.slice vb V2.length wc, .slice mb M2.length nc]] w fun e w' => e = .returned (.bool true) ∧ Gr w w' := by
  refine enter (N := 140) Try.func4 rfl rfl rfl (fun a0 ok0 h0 => ?_)
  have e0_0 : a0.eval (.tmp 0) = .agg #[.slice va V.length vc, .slice ma M.length mc] := h0 0 _ rfl
  have e0_1 : a0.eval (.tmp 1) = .agg #[.slice vb V2.length wc, .slice mb M2.length nc] := h0 1 _ rfl
  clear h0
  have G0 := Gr.refl w
  have ok1 : OkV [1] [] := ⟨by simp, by simp, by simp, by simp, by simp⟩
  have ok2 : OkV [] [(0, 2)] := ⟨by simp, by simp, by simp, by simp [cv], by simp⟩
  refine wp_seq_k (fun K1 hK1 => ?_)
  refine wp_region_lit ?_
  refine sal (cs := #[.slice va V.length vc, .slice ma M.length mc]) ok0 rfl (wn _ rfl) rfl (o_box e0_0) (fun an2 w4 b3 W5 n2 => ?_)
  have l6 : w.heap.size ≤ b3 := by rw [W5.eq]; exact G0.size
  have G7 := G0.trans W5.gr
  refine sal (cs := #[.slice vb V2.length wc, .slice mb M2.length nc]) n2.ok rfl (wn _ rfl) rfl (o_box (n2.ne rfl e0_1)) (fun an8 w10 b9 W11 n8 => ?_)
  have l12 : b3 < b9 := by rw [W11.eq]; exact W5.bk.lt
  have l13 : w.heap.size ≤ b9 := by rw [W11.eq]; exact G7.size
  have G14 := G7.trans W11.gr
  have B15 := W5.bk.gr W11.gr
  refine sv n8.ok rfl (wn _ rfl) rfl (o_as ev_const) (fun an16 n16 => ?_)
  refine wpList_nil ?_
  refine th_n (hK1 _ _ ?_)
  refine wp_seq_k (fun K17 hK17 => ?_)
  refine wp_region_lit ?_
  refine sv n16.ok rfl (wn _ rfl) rfl (o_ldR (n16.ne rfl (n8.ne rfl n2.at_)) B15 Try.underlying25 rfl (by kernel_rfl)) (fun an18 n18 => ?_)
  refine sv n18.ok rfl (wn _ rfl) rfl (o_ldR (n18.ne rfl (n16.ne rfl n8.at_)) W11.bk Try.underlying25 rfl (by kernel_rfl)) (fun an19 n19 => ?_)
  refine sc n19.ok rfl (wn _ rfl) rfl (o_f2 Try.func23 rfl rfl rfl (n19.ne rfl n18.at_) n19.at_) (join_bad _ _ V V2 M M2 w10 (hk1.gr G14) (hk2.gr G14) hE) ?_
  rintro _ w21 ⟨rfl, g22⟩
  refine ⟨_, rfl, fun an20 n20 => ?_⟩
  have G23 := G14.trans g22
  have B24 := B15.gr g22
  have B25 := W11.bk.gr g22
  refine sv n20.ok rfl (wn _ rfl) rfl (o_mv n20.at_) (fun an26 n26 => ?_)
  refine sv n26.ok rfl (wn _ rfl) rfl (o_ex n26.at_ rfl) (fun an27 n27 => ?_)
  refine sv n27.ok rfl (wn _ rfl) rfl (o_ex (n27.ne rfl n26.at_) rfl) (fun an28 n28 => ?_)
  refine sal (cs := #[.slice none 0 0, .slice none 0 0]) n28.ok rfl (wn _ rfl) rfl (o_al (z := .agg #[.slice none 0 0, .slice none 0 0]) (by kernel_rfl)) (fun an29 w31 b30 W32 n29 => ?_)
  have l33 : b3 < b30 := by rw [W32.eq]; exact B24.lt
  have l34 : b9 < b30 := by rw [W32.eq]; exact B25.lt
  have l35 : w.heap.size ≤ b30 := by rw [W32.eq]; exact G23.size
  have G36 := G23.trans W32.gr
  have B37 := B24.gr W32.gr
  have B38 := B25.gr W32.gr
  refine ssR rfl (wn _ rfl) (o_stR n29.at_ (n29.ne rfl (n28.ne rfl n27.at_)) W32.bk (by kernel_rfl) rfl (by simp [Value.oneCell'])) W32.bk (fun w39 u40 u40b => ?_)
  have G41 : Gr w w39 := Below.upd G36 l35 u40
  have B42 := B37.upd u40 (Nat.ne_of_lt l33)
  have B43 := B38.upd u40 (Nat.ne_of_lt l34)
  refine sv n29.ok rfl (wn _ rfl) rfl (o_as (n29.ne rfl n28.at_)) (fun an44 n44 => ?_)
  refine wpList_nil ?_
  refine th_n (hK17 _ _ ?_)
  refine wp_seq_k (fun K45 hK45 => ?_)
  refine wp_region_lit ?_
  have e46 := n44.ne rfl (n29.ne rfl (n28.ne rfl (n27.ne rfl (n26.ne rfl (n20.ne rfl (n19.ne rfl (n18.ne rfl (n16.ne rfl (n8.ne rfl n2.at_)))))))))
  refine sv n44.ok rfl (wn _ rfl) rfl (o_ldR e46 B42 Try.underlying25 rfl (by kernel_rfl)) (fun an47 n47 => ?_)
  have e48 := n47.ne rfl (n44.ne rfl (n29.ne rfl (n28.ne rfl (n27.ne rfl (n26.ne rfl (n20.ne rfl (n19.ne rfl (n18.ne rfl (n16.ne rfl n8.at_)))))))))
  refine sv n47.ok rfl (wn _ rfl) rfl (o_ldR e48 B43 Try.underlying25 rfl (by kernel_rfl)) (fun an49 n49 => ?_)
  refine sc n49.ok rfl (wn _ rfl) rfl (o_f2 Try.func24 rfl rfl rfl (n49.ne rfl n47.at_) n49.at_) (meet_bad _ _ V V2 M M2 w39 (hk1.gr G41) (hk2.gr G41) hE) ?_
  rintro _ w51 ⟨rfl, g52⟩
  refine ⟨_, rfl, fun an50 n50 => ?_⟩
  have G53 := G41.trans g52
  have B54 := B42.gr g52
  have B55 := B43.gr g52
  have B56 := u40b.gr g52
  refine sv n50.ok rfl (wn _ rfl) rfl (o_mv n50.at_) (fun an57 n57 => ?_)
  refine sv n57.ok rfl (wn _ rfl) rfl (o_ex n57.at_ rfl) (fun an58 n58 => ?_)
  refine sv n58.ok rfl (wn _ rfl) rfl (o_ex (n58.ne rfl n57.at_) rfl) (fun an59 n59 => ?_)
  refine sal (cs := #[.slice none 0 0, .slice none 0 0]) n59.ok rfl (wn _ rfl) rfl (o_al (z := .agg #[.slice none 0 0, .slice none 0 0]) (by kernel_rfl)) (fun an60 w62 b61 W63 n60 => ?_)
  have l64 : b3 < b61 := by rw [W63.eq]; exact B54.lt
  have l65 : b9 < b61 := by rw [W63.eq]; exact B55.lt
  have l66 : b30 < b61 := by rw [W63.eq]; exact B56.lt
  have l67 : w.heap.size ≤ b61 := by rw [W63.eq]; exact G53.size
  have G68 := G53.trans W63.gr
  have B69 := B54.gr W63.gr
  have B70 := B55.gr W63.gr
  have B71 := B56.gr W63.gr
  refine ssR rfl (wn _ rfl) (o_stR n60.at_ (n60.ne rfl (n59.ne rfl n58.at_)) W63.bk (by kernel_rfl) rfl (by simp [Value.oneCell'])) W63.bk (fun w72 u73 u73b => ?_)
  have G74 : Gr w w72 := Below.upd G68 l67 u73
  have B75 := B69.upd u73 (Nat.ne_of_lt l64)
  have B76 := B70.upd u73 (Nat.ne_of_lt l65)
  have B77 := B71.upd u73 (Nat.ne_of_lt l66)
  refine sv n60.ok rfl (wn _ rfl) rfl (o_as (n60.ne rfl n59.at_)) (fun an78 n78 => ?_)
  refine wpList_nil ?_
  refine th_n (hK45 _ _ ?_)
  refine wp_seq_k (fun K79 hK79 => ?_)
  refine wp_region_lit ?_
  have e80 := n78.ne rfl (n60.ne rfl (n59.ne rfl (n58.ne rfl (n57.ne rfl (n50.ne rfl (n49.ne rfl (n47.ne rfl e46)))))))
  refine sv n78.ok rfl (wn _ rfl) rfl (o_ldR e80 B75 Try.underlying25 rfl (by kernel_rfl)) (fun an81 n81 => ?_)
  have e82 := n81.ne rfl (n78.ne rfl (n60.ne rfl (n59.ne rfl (n58.ne rfl (n57.ne rfl (n50.ne rfl (n49.ne rfl e48)))))))
  refine sv n81.ok rfl (wn _ rfl) rfl (o_ldR e82 B76 Try.underlying25 rfl (by kernel_rfl)) (fun an83 n83 => ?_)
  refine sc n83.ok rfl (wn _ rfl) rfl (o_f2 Try.func25 rfl rfl rfl (n83.ne rfl n81.at_) n83.at_) (within_bad _ _ V V2 M M2 w72 (hk1.gr G74) (hk2.gr G74) hE) ?_
  rintro _ w85 ⟨rfl, g86⟩
  refine ⟨_, rfl, fun an84 n84 => ?_⟩
  have G87 := G74.trans g86
  have B88 := B75.gr g86
  have B89 := B76.gr g86
  have B90 := B77.gr g86
  have B91 := u73b.gr g86
  refine sv n84.ok rfl (wn _ rfl) rfl (o_mv n84.at_) (fun an92 n92 => ?_)
  refine sv n92.ok rfl (wn _ rfl) rfl (o_ex n92.at_ rfl) (fun an93 n93 => ?_)
  refine sv n93.ok rfl (wn _ rfl) rfl (o_ex (n93.ne rfl n92.at_) rfl) (fun an94 n94 => ?_)
  refine sv n94.ok rfl (wn _ rfl) rfl (o_as (n94.ne rfl n93.at_)) (fun an95 n95 => ?_)
  refine sv n95.ok rfl (wn _ rfl) rfl (o_as (n95.ne rfl n94.at_)) (fun an96 n96 => ?_)
  refine wpList_nil ?_
  refine th_n (hK79 _ _ ?_)
  refine wp_seq_k (fun K97 hK97 => ?_)
  refine wp_seq_k (fun K98 hK98 => ?_)
  refine wp_region_lit ?_
  obtain ⟨i99, i99a, i99b, i99c⟩ := info3_of (show (Try.prog.info? 3).map (fun i => (i.zero, i.size)) = some (some (.int .i64 0), 1) by kernel_rfl)
  refine sals (cs := #[.int .i64 1]) n96.ok rfl (wn _ rfl) rfl (o_bs (vs := [(0, .int .i64 1)]) (by simp [ev_const]) Try.underlying22 i99a i99b (by rw [i99c]; rfl) (by rw [i99c]; rfl) (by rw [i99c]; kernel_rfl)) (fun an100 w102 b101 W103 n100 => ?_)
  have l104 : b3 < b101 := by rw [W103.eq]; exact B88.lt
  have l105 : b9 < b101 := by rw [W103.eq]; exact B89.lt
  have l106 : b30 < b101 := by rw [W103.eq]; exact B90.lt
  have l107 : b61 < b101 := by rw [W103.eq]; exact B91.lt
  have l108 : w.heap.size ≤ b101 := by rw [W103.eq]; exact G87.size
  have G109 := G87.trans W103.gr
  have B110 := B88.gr W103.gr
  have B111 := B89.gr W103.gr
  have B112 := B90.gr W103.gr
  have B113 := B91.gr W103.gr
  refine sv n100.ok rfl (wn _ rfl) rfl (o_bd (cells := #[.slice (some ⟨b101, 0, none⟩) 1 1, .slice none 0 0]) (vs := [(0, .slice (some ⟨b101, 0, none⟩) 1 1)]) (by simp [n100.at_, ev_const]) (by kernel_rfl)) (fun an114 n114 => ?_)
  refine sv n114.ok rfl (wn _ rfl) rfl (o_bd (cells := #[.int .i64 0, .int .i64 2]) (vs := [(1, .int .i64 2)]) (by simp [ev_const]) (by kernel_rfl)) (fun an115 n115 => ?_)
  obtain ⟨i116, i116a, i116b, i116c⟩ := info3_of (show (Try.prog.info? 27).map (fun i => (i.zero, i.size)) = some (some (.agg #[.int .i64 0, .int .i64 0]), 2) by kernel_rfl)
  refine sals (cs := #[.int .i64 0, .int .i64 2]) n115.ok rfl (wn _ rfl) rfl (o_bs (vs := [(0, .agg #[.int .i64 0, .int .i64 2])]) (by simp [n115.at_, ev_const]) Try.underlying23 i116a i116b (by rw [i116c]; rfl) (by rw [i116c]; rfl) (by rw [i116c]; kernel_rfl)) (fun an117 w119 b118 W120 n117 => ?_)
  have l121 : b3 < b118 := by rw [W120.eq]; exact B110.lt
  have l122 : b9 < b118 := by rw [W120.eq]; exact B111.lt
  have l123 : b30 < b118 := by rw [W120.eq]; exact B112.lt
  have l124 : b61 < b118 := by rw [W120.eq]; exact B113.lt
  have l125 : b101 < b118 := by rw [W120.eq]; exact W103.bk.lt
  have l126 : w.heap.size ≤ b118 := by rw [W120.eq]; exact G109.size
  have G127 := G109.trans W120.gr
  have B128 := B110.gr W120.gr
  have B129 := B111.gr W120.gr
  have B130 := B112.gr W120.gr
  have B131 := B113.gr W120.gr
  have B132 := W103.bk.gr W120.gr
  refine sv n117.ok rfl (wn _ rfl) rfl (o_bd (cells := #[.slice none 0 0, .slice (some ⟨b118, 0, none⟩) 1 1]) (vs := [(1, .slice (some ⟨b118, 0, none⟩) 1 1)]) (by simp [n117.at_, ev_const]) (by kernel_rfl)) (fun an133 n133 => ?_)
  have e134 := n133.ne rfl (n117.ne rfl (n115.ne rfl n114.at_))
  refine sc n133.ok rfl (wn _ rfl) rfl (o_f2 Try.func23 rfl rfl rfl e134 n133.at_) (by have h := ((join_ok _ _ [1] [] [] [(0, 2)] w119 (knR_vec1 B132) (knR_more1 W120.bk) ok1 ok2 (by simp) (by simp)).mono fun e w' h => And.intro (frmK.one h.1) h.2); rw [form_12.1, form_12.2.1, form_12.2.2] at h; exact h) ?_
  rintro _ w136 ⟨⟨k, rfl, hkz⟩, g137⟩
  obtain ⟨vaz, vcz, maz, mcz, rfl⟩ := hkz.form
  have hrz := hkz.rd
  refine ⟨_, rfl, fun an135 n135 => ?_⟩
  have G138 := G127.trans g137
  have B139 := B128.gr g137
  have B140 := B129.gr g137
  have B141 := B130.gr g137
  have B142 := B131.gr g137
  have B143 := B132.gr g137
  have B144 := W120.bk.gr g137
  have A146 := Gr.refl w136
  refine sv n135.ok rfl (wn _ rfl) rfl (o_mv n135.at_) (fun an147 n147 => ?_)
  refine sv n147.ok rfl (wn _ rfl) rfl (o_ex n147.at_ rfl) (fun an148 n148 => ?_)
  refine sv n148.ok rfl (wn _ rfl) rfl (o_ex (n148.ne rfl n147.at_) rfl) (fun an149 n149 => ?_)
  refine sal (cs := #[.slice none 0 0, .slice none 0 0]) n149.ok rfl (wn _ rfl) rfl (o_al (z := .agg #[.slice none 0 0, .slice none 0 0]) (by kernel_rfl)) (fun an150 w152 b151 W153 n150 => ?_)
  have l154 : b3 < b151 := by rw [W153.eq]; exact B139.lt
  have l155 : b9 < b151 := by rw [W153.eq]; exact B140.lt
  have l156 : b30 < b151 := by rw [W153.eq]; exact B141.lt
  have l157 : b61 < b151 := by rw [W153.eq]; exact B142.lt
  have l158 : b101 < b151 := by rw [W153.eq]; exact B143.lt
  have l159 : b118 < b151 := by rw [W153.eq]; exact B144.lt
  have l160 : w.heap.size ≤ b151 := by rw [W153.eq]; exact G138.size
  have l161 : w136.heap.size ≤ b151 := by rw [W153.eq]; exact A146.size
  have G162 := G138.trans W153.gr
  have B163 := B139.gr W153.gr
  have B164 := B140.gr W153.gr
  have B165 := B141.gr W153.gr
  have B166 := B142.gr W153.gr
  have B167 := B143.gr W153.gr
  have B168 := B144.gr W153.gr
  have A169 := A146.trans W153.gr
  refine ssR rfl (wn _ rfl) (o_stR n150.at_ (n150.ne rfl (n149.ne rfl n148.at_)) W153.bk (by kernel_rfl) rfl (by simp [Value.oneCell'])) W153.bk (fun w170 u171 u171b => ?_)
  have G172 : Gr w w170 := Below.upd G162 l160 u171
  have B173 := B163.upd u171 (Nat.ne_of_lt l154)
  have B174 := B164.upd u171 (Nat.ne_of_lt l155)
  have B175 := B165.upd u171 (Nat.ne_of_lt l156)
  have B176 := B166.upd u171 (Nat.ne_of_lt l157)
  have B177 := B167.upd u171 (Nat.ne_of_lt l158)
  have B178 := B168.upd u171 (Nat.ne_of_lt l159)
  have A179 : Gr w136 w170 := Below.upd A169 l161 u171
  refine sv n150.ok rfl (wn _ rfl) rfl (o_as (n150.ne rfl n149.at_)) (fun an180 n180 => ?_)
  refine wpList_nil ?_
  refine th_n (hK98 _ _ ?_)
  refine wp_seq_k (fun K181 hK181 => ?_)
  refine wp_region_lit ?_
  refine sv n180.ok rfl (wn _ rfl) rfl (o_mv n180.at_) (fun an182 n182 => ?_)
  refine sv n182.ok rfl (wn _ rfl) rfl (o_neq (b := false) n182.at_ ev_const (by decide)) (fun an183 n183 => ?_)
  refine sv n183.ok rfl (wn _ rfl) rfl (o_mv n183.at_) (fun an184 n184 => ?_)
  have e185 := n184.ne rfl (n183.ne rfl (n182.ne rfl (n180.ne rfl n150.at_)))
  refine sv n184.ok rfl (wgT rfl (yl 2 false rfl n184.at_) rfl) rfl (o_ldR e185 u171b Try.underlying25 rfl (by kernel_rfl)) (fun an186 n186 => ?_)
  obtain ⟨i187, i187a, i187b, i187c⟩ := info3_of (show (Try.prog.info? 3).map (fun i => (i.zero, i.size)) = some (some (.int .i64 0), 1) by kernel_rfl)
  refine sals (cs := #[.int .i64 2]) n186.ok rfl (wgT rfl (yl 2 false rfl (n186.ne rfl n184.at_)) rfl) rfl (o_bs (vs := [(0, .int .i64 2)]) (by simp [ev_const]) Try.underlying22 i187a i187b (by rw [i187c]; rfl) (by rw [i187c]; rfl) (by rw [i187c]; kernel_rfl)) (fun an188 w190 b189 W191 n188 => ?_)
  have l192 : b3 < b189 := by rw [W191.eq]; exact B173.lt
  have l193 : b9 < b189 := by rw [W191.eq]; exact B174.lt
  have l194 : b30 < b189 := by rw [W191.eq]; exact B175.lt
  have l195 : b61 < b189 := by rw [W191.eq]; exact B176.lt
  have l196 : b101 < b189 := by rw [W191.eq]; exact B177.lt
  have l197 : b118 < b189 := by rw [W191.eq]; exact B178.lt
  have l198 : b151 < b189 := by rw [W191.eq]; exact u171b.lt
  have l199 : w.heap.size ≤ b189 := by rw [W191.eq]; exact G172.size
  have l200 : w136.heap.size ≤ b189 := by rw [W191.eq]; exact A179.size
  have G201 := G172.trans W191.gr
  have B202 := B173.gr W191.gr
  have B203 := B174.gr W191.gr
  have B204 := B175.gr W191.gr
  have B205 := B176.gr W191.gr
  have B206 := B177.gr W191.gr
  have B207 := B178.gr W191.gr
  have B208 := u171b.gr W191.gr
  have A209 := A179.trans W191.gr
  refine sv n188.ok rfl (wgT rfl (yl 2 false rfl (n188.ne rfl (n186.ne rfl n184.at_))) rfl) rfl (o_bd (cells := #[.slice (some ⟨b189, 0, none⟩) 1 1, .slice none 0 0]) (vs := [(0, .slice (some ⟨b189, 0, none⟩) 1 1)]) (by simp [n188.at_, ev_const]) (by kernel_rfl)) (fun an210 n210 => ?_)
  have e211 := n210.ne rfl (n188.ne rfl (n186.ne rfl n184.at_))
  refine sc n210.ok rfl (wgT rfl (yl 2 false rfl e211) rfl) rfl (o_f2 Try.func17 rfl rfl rfl (n210.ne rfl (n188.ne rfl n186.at_)) n210.at_) (sameK_t _ _ _ _ w190 (hrz.gr A209) (knR_vec1 W191.bk) (by decide) (by decide)) ?_
  rintro _ w213 ⟨rfl, g214⟩
  refine ⟨_, rfl, fun an212 n212 => ?_⟩
  have G215 := G201.trans g214
  have B216 := B202.gr g214
  have B217 := B203.gr g214
  have B218 := B204.gr g214
  have B219 := B205.gr g214
  have B220 := B206.gr g214
  have B221 := B207.gr g214
  have B222 := B208.gr g214
  have B223 := W191.bk.gr g214
  have A224 := A209.trans g214
  refine sv n212.ok rfl (wgT rfl (yl 2 false rfl (n212.ne rfl e211)) rfl) rfl (o_not n212.at_ rfl) (fun an225 n225 => ?_)
  refine sv n225.ok rfl (wn _ rfl) rfl (o_pkF (n225.ne rfl (n212.ne rfl e211)) n225.at_) (fun an226 n226 => ?_)
  refine wpList_nil ?_
  refine th_n (hK181 _ _ ?_)
  refine wp_cond_false (n226.at_) ?_
  refine wp_skip ?_
  refine th_n (hK97 _ _ ?_)
  refine wp_seq_k (fun K227 hK227 => ?_)
  refine wp_region_lit ?_
  have e228 := n226.ne rfl (n225.ne rfl (n212.ne rfl (n210.ne rfl (n188.ne rfl (n186.ne rfl (n184.ne rfl (n183.ne rfl (n182.ne rfl (n180.ne rfl (n150.ne rfl (n149.ne rfl (n148.ne rfl (n147.ne rfl (n135.ne rfl (n133.ne rfl (n117.ne rfl (n115.ne rfl (n114.ne rfl (n100.ne rfl (n96.ne rfl (n95.ne rfl (n94.ne rfl (n93.ne rfl (n92.ne rfl (n84.ne rfl (n83.ne rfl (n81.ne rfl e80)))))))))))))))))))))))))))
  refine sv n226.ok rfl (wn _ rfl) rfl (o_ldR e228 B216 Try.underlying25 rfl (by kernel_rfl)) (fun an229 n229 => ?_)
  refine sc n229.ok rfl (wn _ rfl) rfl (o_f1 Try.func13 rfl rfl rfl n229.at_) (by have h := rknow_any _ V M w213 (hk1.gr G215); rw [← chk2_1 (V2 := V2) (M2 := M2) hE1] at h; exact h) ?_
  rintro _ w231 ⟨rfl, g232⟩
  refine ⟨_, rfl, fun an230 n230 => ?_⟩
  have G233 := G215.trans g232
  have B234 := B216.gr g232
  have B235 := B217.gr g232
  have B236 := B218.gr g232
  have B237 := B219.gr g232
  have B238 := B220.gr g232
  have B239 := B221.gr g232
  have B240 := B222.gr g232
  have B241 := B223.gr g232
  have A242 := A224.trans g232
  refine sv n230.ok rfl (wn _ rfl) rfl (o_as n230.at_) (fun an243 n243 => ?_)
  refine wpList_nil ?_
  refine th_n (hK227 _ _ ?_)
  refine wp_seq_k (fun K244 hK244 => ?_)
  refine wp_seq_k (fun K245 hK245 => ?_)
  refine wp_region_lit ?_
  refine sv n243.ok rfl (wn _ rfl) rfl (o_mv n243.at_) (fun an246 n246 => ?_)
  refine sv n246.ok rfl (wn _ rfl) rfl (o_eq n246.at_ ev_const (decide_eq_false hE)) (fun an247 n247 => ?_)
  refine wpList_nil ?_
  refine th_n (hK245 _ _ ?_)
  refine wp_cond_false (n247.at_) ?_
  refine wp_skip ?_
  refine th_n (hK244 _ _ ?_)
  refine wp_seq_k (fun K248 hK248 => ?_)
  refine wp_seq_k (fun K249 hK249 => ?_)
  refine wp_region_lit ?_
  refine sv n247.ok rfl (wn _ rfl) rfl (o_mv (n247.ne rfl (n246.ne rfl n243.at_))) (fun an250 n250 => ?_)
  refine sv n250.ok rfl (wn _ rfl) rfl (o_neq (b := true) n250.at_ ev_const (by simp [show ¬ (chk2K V V2 M M2) = 0 from hE])) (fun an251 n251 => ?_)
  refine wpList_nil ?_
  refine th_n (hK249 _ _ ?_)
  refine wp_cond_true (n251.at_) ?_
  refine wp_seq_k (fun K252 hK252 => ?_)
  refine wp_region_lit ?_
  have e253 := n251.ne rfl (n250.ne rfl (n247.ne rfl (n246.ne rfl (n243.ne rfl (n230.ne rfl (n229.ne rfl (n226.ne rfl (n225.ne rfl (n212.ne rfl (n210.ne rfl (n188.ne rfl (n186.ne rfl (n184.ne rfl (n183.ne rfl (n182.ne rfl (n180.ne rfl (n150.ne rfl (n149.ne rfl (n148.ne rfl (n147.ne rfl (n135.ne rfl (n133.ne rfl (n117.ne rfl (n115.ne rfl (n114.ne rfl (n100.ne rfl (n96.ne rfl (n95.ne rfl (n94.ne rfl (n93.ne rfl (n92.ne rfl (n84.ne rfl (n83.ne rfl (n81.ne rfl (n78.ne rfl (n60.ne rfl (n59.ne rfl (n58.ne rfl (n57.ne rfl (n50.ne rfl (n49.ne rfl (n47.ne rfl n44.at_))))))))))))))))))))))))))))))))))))))))))
  refine sv n251.ok rfl (wn _ rfl) rfl (o_mv e253) (fun an254 n254 => ?_)
  have e255 := n254.ne rfl (n251.ne rfl (n250.ne rfl (n247.ne rfl (n246.ne rfl n243.at_))))
  refine sv n254.ok rfl (wn _ rfl) rfl (o_mv e255) (fun an256 n256 => ?_)
  refine sv n256.ok rfl (wn _ rfl) rfl (o_eq (n256.ne rfl n254.at_) n256.at_ (decide_eq_true rfl)) (fun an257 n257 => ?_)
  refine sv n257.ok rfl (wn _ rfl) rfl (o_mv n257.at_) (fun an258 n258 => ?_)
  have e259 := n258.ne rfl (n257.ne rfl (n256.ne rfl (n254.ne rfl (n251.ne rfl (n250.ne rfl (n247.ne rfl (n246.ne rfl (n243.ne rfl (n230.ne rfl (n229.ne rfl (n226.ne rfl (n225.ne rfl (n212.ne rfl (n210.ne rfl (n188.ne rfl (n186.ne rfl (n184.ne rfl (n183.ne rfl (n182.ne rfl (n180.ne rfl (n150.ne rfl (n149.ne rfl (n148.ne rfl (n147.ne rfl (n135.ne rfl (n133.ne rfl (n117.ne rfl (n115.ne rfl (n114.ne rfl (n100.ne rfl (n96.ne rfl (n95.ne rfl (n94.ne rfl (n93.ne rfl (n92.ne rfl (n84.ne rfl (n83.ne rfl (n81.ne rfl n78.at_))))))))))))))))))))))))))))))))))))))
  refine sv n258.ok rfl (wgT rfl (yl 3 true rfl n258.at_) rfl) rfl (o_mv e259) (fun an260 n260 => ?_)
  have e261 := n260.ne rfl (n258.ne rfl (n257.ne rfl (n256.ne rfl e255)))
  refine sv n260.ok rfl (wgT rfl (yl 3 true rfl (n260.ne rfl n258.at_)) rfl) rfl (o_mv e261) (fun an262 n262 => ?_)
  refine sv n262.ok rfl (wgT rfl (yl 3 true rfl (n262.ne rfl (n260.ne rfl n258.at_))) rfl) rfl (o_eq (n262.ne rfl n260.at_) n262.at_ (decide_eq_true rfl)) (fun an263 n263 => ?_)
  have e264 := n263.ne rfl (n262.ne rfl (n260.ne rfl n258.at_))
  refine sv n263.ok rfl (wn _ rfl) rfl (o_pkT e264 n263.at_) (fun an265 n265 => ?_)
  refine sv n265.ok rfl (wn _ rfl) rfl (o_mv n265.at_) (fun an266 n266 => ?_)
  have e267 := n266.ne rfl (n265.ne rfl (n263.ne rfl (n262.ne rfl (n260.ne rfl (n258.ne rfl (n257.ne rfl (n256.ne rfl (n254.ne rfl (n251.ne rfl (n250.ne rfl (n247.ne rfl (n246.ne rfl (n243.ne rfl (n230.ne rfl (n229.ne rfl (n226.ne rfl (n225.ne rfl (n212.ne rfl (n210.ne rfl (n188.ne rfl (n186.ne rfl (n184.ne rfl (n183.ne rfl (n182.ne rfl (n180.ne rfl (n150.ne rfl (n149.ne rfl (n148.ne rfl (n147.ne rfl (n135.ne rfl (n133.ne rfl (n117.ne rfl (n115.ne rfl (n114.ne rfl (n100.ne rfl n96.at_)))))))))))))))))))))))))))))))))))
  refine sv n266.ok rfl (wgT rfl (yl 8 true rfl n266.at_) rfl) rfl (o_mv e267) (fun an268 n268 => ?_)
  have e269 := n268.ne rfl (n266.ne rfl (n265.ne rfl (n263.ne rfl (n262.ne rfl e261))))
  refine sv n268.ok rfl (wgT rfl (yl 8 true rfl (n268.ne rfl n266.at_)) rfl) rfl (o_mv e269) (fun an270 n270 => ?_)
  refine sv n270.ok rfl (wgT rfl (yl 8 true rfl (n270.ne rfl (n268.ne rfl n266.at_))) rfl) rfl (o_eq (n270.ne rfl n268.at_) n270.at_ (decide_eq_true rfl)) (fun an271 n271 => ?_)
  have e272 := n271.ne rfl (n270.ne rfl (n268.ne rfl n266.at_))
  refine sv n271.ok rfl (wn _ rfl) rfl (o_pkT e272 n271.at_) (fun an273 n273 => ?_)
  refine sv n273.ok rfl (wn _ rfl) rfl (o_mv n273.at_) (fun an274 n274 => ?_)
  have e275 := n274.ne rfl (n273.ne rfl (n271.ne rfl (n270.ne rfl (n268.ne rfl (n266.ne rfl (n265.ne rfl (n263.ne rfl (n262.ne rfl (n260.ne rfl (n258.ne rfl (n257.ne rfl (n256.ne rfl (n254.ne rfl (n251.ne rfl (n250.ne rfl (n247.ne rfl (n246.ne rfl (n243.ne rfl (n230.ne rfl (n229.ne rfl (n226.ne rfl (n225.ne rfl (n212.ne rfl (n210.ne rfl (n188.ne rfl (n186.ne rfl (n184.ne rfl (n183.ne rfl (n182.ne rfl (n180.ne rfl (n150.ne rfl (n149.ne rfl (n148.ne rfl (n147.ne rfl (n135.ne rfl (n133.ne rfl (n117.ne rfl (n115.ne rfl (n114.ne rfl (n100.ne rfl (n96.ne rfl n95.at_)))))))))))))))))))))))))))))))))))))))))
  refine sv n274.ok rfl (wgT rfl (yl 13 true rfl n274.at_) rfl) rfl (o_mv e275) (fun an276 n276 => ?_)
  refine sv n276.ok rfl (wgT rfl (yl 13 true rfl (n276.ne rfl n274.at_)) rfl) rfl (o_not n276.at_ rfl) (fun an277 n277 => ?_)
  refine sv n277.ok rfl (wn _ rfl) rfl (o_pkT (n277.ne rfl (n276.ne rfl n274.at_)) n277.at_) (fun an278 n278 => ?_)
  refine sv n278.ok rfl (wn _ rfl) rfl (o_mv n278.at_) (fun an279 n279 => ?_)
  have e280 := n279.ne rfl (n278.ne rfl (n277.ne rfl (n276.ne rfl (n274.ne rfl (n273.ne rfl (n271.ne rfl (n270.ne rfl (n268.ne rfl (n266.ne rfl (n265.ne rfl (n263.ne rfl (n262.ne rfl (n260.ne rfl (n258.ne rfl (n257.ne rfl (n256.ne rfl (n254.ne rfl (n251.ne rfl (n250.ne rfl (n247.ne rfl (n246.ne rfl (n243.ne rfl (n230.ne rfl (n229.ne rfl (n226.ne rfl (n225.ne rfl (n212.ne rfl (n210.ne rfl (n188.ne rfl (n186.ne rfl (n184.ne rfl (n183.ne rfl (n182.ne rfl (n180.ne rfl (n150.ne rfl (n149.ne rfl (n148.ne rfl (n147.ne rfl (n135.ne rfl (n133.ne rfl (n117.ne rfl (n115.ne rfl (n114.ne rfl (n100.ne rfl (n96.ne rfl (n95.ne rfl (n94.ne rfl (n93.ne rfl (n92.ne rfl (n84.ne rfl (n83.ne rfl (n81.ne rfl (n78.ne rfl (n60.ne rfl (n59.ne rfl (n58.ne rfl (n57.ne rfl (n50.ne rfl (n49.ne rfl (n47.ne rfl (n44.ne rfl n29.at_)))))))))))))))))))))))))))))))))))))))))))))))))))))))))))))
  refine sv n279.ok rfl (wgT rfl (yl 17 true rfl n279.at_) rfl) rfl (o_ldR e280 B236 Try.underlying25 rfl (by kernel_rfl)) (fun an281 n281 => ?_)
  refine sv n281.ok rfl (wgT rfl (yl 17 true rfl (n281.ne rfl n279.at_)) rfl) rfl (o_b0 (cs := #[.slice none 0 0, .slice none 0 0]) Try.underlying25 (by kernel_rfl) (by kernel_rfl)) (fun an282 n282 => ?_)
  refine sc n282.ok rfl (wgT rfl (yl 17 true rfl (n282.ne rfl (n281.ne rfl n279.at_))) rfl) rfl (o_f2 Try.func17 rfl rfl rfl (n282.ne rfl n281.at_) n282.at_) (sameK_t _ _ _ _ w231 (knR_nil w231) (knR_nil w231) (by decide) (by decide)) ?_
  rintro _ w284 ⟨rfl, g285⟩
  refine ⟨_, rfl, fun an283 n283 => ?_⟩
  have G286 := G233.trans g285
  have B287 := B234.gr g285
  have B288 := B235.gr g285
  have B289 := B236.gr g285
  have B290 := B237.gr g285
  have B291 := B238.gr g285
  have B292 := B239.gr g285
  have B293 := B240.gr g285
  have B294 := B241.gr g285
  have A295 := A242.trans g285
  have e296 := n283.ne rfl (n282.ne rfl (n281.ne rfl n279.at_))
  refine sv n283.ok rfl (wn _ rfl) rfl (o_pkT e296 n283.at_) (fun an297 n297 => ?_)
  refine sv n297.ok rfl (wn _ rfl) rfl (o_mv n297.at_) (fun an298 n298 => ?_)
  have e299 := n298.ne rfl (n297.ne rfl (n283.ne rfl (n282.ne rfl (n281.ne rfl (n279.ne rfl (n278.ne rfl (n277.ne rfl (n276.ne rfl (n274.ne rfl (n273.ne rfl (n271.ne rfl (n270.ne rfl (n268.ne rfl (n266.ne rfl (n265.ne rfl (n263.ne rfl (n262.ne rfl (n260.ne rfl (n258.ne rfl (n257.ne rfl (n256.ne rfl (n254.ne rfl (n251.ne rfl (n250.ne rfl (n247.ne rfl (n246.ne rfl (n243.ne rfl (n230.ne rfl (n229.ne rfl (n226.ne rfl (n225.ne rfl (n212.ne rfl (n210.ne rfl (n188.ne rfl (n186.ne rfl (n184.ne rfl (n183.ne rfl (n182.ne rfl (n180.ne rfl (n150.ne rfl (n149.ne rfl (n148.ne rfl (n147.ne rfl (n135.ne rfl (n133.ne rfl (n117.ne rfl (n115.ne rfl (n114.ne rfl (n100.ne rfl (n96.ne rfl (n95.ne rfl (n94.ne rfl (n93.ne rfl (n92.ne rfl (n84.ne rfl (n83.ne rfl (n81.ne rfl (n78.ne rfl n60.at_))))))))))))))))))))))))))))))))))))))))))))))))))))))))))
  refine sv n298.ok rfl (wgT rfl (yl 22 true rfl n298.at_) rfl) rfl (o_ldR e299 B290 Try.underlying25 rfl (by kernel_rfl)) (fun an300 n300 => ?_)
  refine sv n300.ok rfl (wgT rfl (yl 22 true rfl (n300.ne rfl n298.at_)) rfl) rfl (o_b0 (cs := #[.slice none 0 0, .slice none 0 0]) Try.underlying25 (by kernel_rfl) (by kernel_rfl)) (fun an301 n301 => ?_)
  refine sc n301.ok rfl (wgT rfl (yl 22 true rfl (n301.ne rfl (n300.ne rfl n298.at_))) rfl) rfl (o_f2 Try.func17 rfl rfl rfl (n301.ne rfl n300.at_) n301.at_) (sameK_t _ _ _ _ w284 (knR_nil w284) (knR_nil w284) (by decide) (by decide)) ?_
  rintro _ w303 ⟨rfl, g304⟩
  refine ⟨_, rfl, fun an302 n302 => ?_⟩
  have G305 := G286.trans g304
  have B306 := B287.gr g304
  have B307 := B288.gr g304
  have B308 := B289.gr g304
  have B309 := B290.gr g304
  have B310 := B291.gr g304
  have B311 := B292.gr g304
  have B312 := B293.gr g304
  have B313 := B294.gr g304
  have A314 := A295.trans g304
  have e315 := n302.ne rfl (n301.ne rfl (n300.ne rfl n298.at_))
  refine sv n302.ok rfl (wn _ rfl) rfl (o_pkT e315 n302.at_) (fun an316 n316 => ?_)
  refine sv n316.ok rfl (wn _ rfl) rfl (o_as n316.at_) (fun an317 n317 => ?_)
  refine wpList_nil ?_
  refine th_n (hK252 _ _ ?_)
  refine wp_ret ?_
  refine th_r ?_
  exact ret1 n317.ok rfl (n317.at_) ⟨rfl, G305⟩
set_option maxHeartbeats 8000000 in
set_option maxRecDepth 100000 in
theorem knowSets_bad2 (va ma vb mb : Option Addr) (vc mc wc nc : Nat) (V V2 : List Int) (M M2 : List (Int × Int)) (hE : chk2K V V2 M M2 ≠ 0) (hE1 : chkK V M = 0) (w : World) (hk1 : KnR w (.agg #[.slice va V.length vc, .slice ma M.length mc]) V M) (hk2 : KnR w (.agg #[.slice vb V2.length wc, .slice mb M2.length nc]) V2 M2) :
    Calls Try.prog 4 #[.agg #[.slice va V.length vc, .slice ma M.length mc], .agg #[.slice vb V2.length wc, .slice mb M2.length nc]] w fun e w' => e = .returned (.bool true) ∧ Gr w w' := by
  refine enter (N := 140) Try.func4 rfl rfl rfl (fun a0 ok0 h0 => ?_)
  have e0_0 : a0.eval (.tmp 0) = .agg #[.slice va V.length vc, .slice ma M.length mc] := h0 0 _ rfl
  have e0_1 : a0.eval (.tmp 1) = .agg #[.slice vb V2.length wc, .slice mb M2.length nc] := h0 1 _ rfl
  clear h0
  have G0 := Gr.refl w
  have ok1 : OkV [1] [] := ⟨by simp, by simp, by simp, by simp, by simp⟩
  have ok2 : OkV [] [(0, 2)] := ⟨by simp, by simp, by simp, by simp [cv], by simp⟩
  refine wp_seq_k (fun K1 hK1 => ?_)
  refine wp_region_lit ?_
  refine sal (cs := #[.slice va V.length vc, .slice ma M.length mc]) ok0 rfl (wn _ rfl) rfl (o_box e0_0) (fun an2 w4 b3 W5 n2 => ?_)
  have l6 : w.heap.size ≤ b3 := by rw [W5.eq]; exact G0.size
  have G7 := G0.trans W5.gr
  refine sal (cs := #[.slice vb V2.length wc, .slice mb M2.length nc]) n2.ok rfl (wn _ rfl) rfl (o_box (n2.ne rfl e0_1)) (fun an8 w10 b9 W11 n8 => ?_)
  have l12 : b3 < b9 := by rw [W11.eq]; exact W5.bk.lt
  have l13 : w.heap.size ≤ b9 := by rw [W11.eq]; exact G7.size
  have G14 := G7.trans W11.gr
  have B15 := W5.bk.gr W11.gr
  refine sv n8.ok rfl (wn _ rfl) rfl (o_as ev_const) (fun an16 n16 => ?_)
  refine wpList_nil ?_
  refine th_n (hK1 _ _ ?_)
  refine wp_seq_k (fun K17 hK17 => ?_)
  refine wp_region_lit ?_
  refine sv n16.ok rfl (wn _ rfl) rfl (o_ldR (n16.ne rfl (n8.ne rfl n2.at_)) B15 Try.underlying25 rfl (by kernel_rfl)) (fun an18 n18 => ?_)
  refine sv n18.ok rfl (wn _ rfl) rfl (o_ldR (n18.ne rfl (n16.ne rfl n8.at_)) W11.bk Try.underlying25 rfl (by kernel_rfl)) (fun an19 n19 => ?_)
  refine sc n19.ok rfl (wn _ rfl) rfl (o_f2 Try.func23 rfl rfl rfl (n19.ne rfl n18.at_) n19.at_) (join_bad _ _ V V2 M M2 w10 (hk1.gr G14) (hk2.gr G14) hE) ?_
  rintro _ w21 ⟨rfl, g22⟩
  refine ⟨_, rfl, fun an20 n20 => ?_⟩
  have G23 := G14.trans g22
  have B24 := B15.gr g22
  have B25 := W11.bk.gr g22
  refine sv n20.ok rfl (wn _ rfl) rfl (o_mv n20.at_) (fun an26 n26 => ?_)
  refine sv n26.ok rfl (wn _ rfl) rfl (o_ex n26.at_ rfl) (fun an27 n27 => ?_)
  refine sv n27.ok rfl (wn _ rfl) rfl (o_ex (n27.ne rfl n26.at_) rfl) (fun an28 n28 => ?_)
  refine sal (cs := #[.slice none 0 0, .slice none 0 0]) n28.ok rfl (wn _ rfl) rfl (o_al (z := .agg #[.slice none 0 0, .slice none 0 0]) (by kernel_rfl)) (fun an29 w31 b30 W32 n29 => ?_)
  have l33 : b3 < b30 := by rw [W32.eq]; exact B24.lt
  have l34 : b9 < b30 := by rw [W32.eq]; exact B25.lt
  have l35 : w.heap.size ≤ b30 := by rw [W32.eq]; exact G23.size
  have G36 := G23.trans W32.gr
  have B37 := B24.gr W32.gr
  have B38 := B25.gr W32.gr
  refine ssR rfl (wn _ rfl) (o_stR n29.at_ (n29.ne rfl (n28.ne rfl n27.at_)) W32.bk (by kernel_rfl) rfl (by simp [Value.oneCell'])) W32.bk (fun w39 u40 u40b => ?_)
  have G41 : Gr w w39 := Below.upd G36 l35 u40
  have B42 := B37.upd u40 (Nat.ne_of_lt l33)
  have B43 := B38.upd u40 (Nat.ne_of_lt l34)
  refine sv n29.ok rfl (wn _ rfl) rfl (o_as (n29.ne rfl n28.at_)) (fun an44 n44 => ?_)
  refine wpList_nil ?_
  refine th_n (hK17 _ _ ?_)
  refine wp_seq_k (fun K45 hK45 => ?_)
  refine wp_region_lit ?_
  have e46 := n44.ne rfl (n29.ne rfl (n28.ne rfl (n27.ne rfl (n26.ne rfl (n20.ne rfl (n19.ne rfl (n18.ne rfl (n16.ne rfl (n8.ne rfl n2.at_)))))))))
  refine sv n44.ok rfl (wn _ rfl) rfl (o_ldR e46 B42 Try.underlying25 rfl (by kernel_rfl)) (fun an47 n47 => ?_)
  have e48 := n47.ne rfl (n44.ne rfl (n29.ne rfl (n28.ne rfl (n27.ne rfl (n26.ne rfl (n20.ne rfl (n19.ne rfl (n18.ne rfl (n16.ne rfl n8.at_)))))))))
  refine sv n47.ok rfl (wn _ rfl) rfl (o_ldR e48 B43 Try.underlying25 rfl (by kernel_rfl)) (fun an49 n49 => ?_)
  refine sc n49.ok rfl (wn _ rfl) rfl (o_f2 Try.func24 rfl rfl rfl (n49.ne rfl n47.at_) n49.at_) (meet_bad _ _ V V2 M M2 w39 (hk1.gr G41) (hk2.gr G41) hE) ?_
  rintro _ w51 ⟨rfl, g52⟩
  refine ⟨_, rfl, fun an50 n50 => ?_⟩
  have G53 := G41.trans g52
  have B54 := B42.gr g52
  have B55 := B43.gr g52
  have B56 := u40b.gr g52
  refine sv n50.ok rfl (wn _ rfl) rfl (o_mv n50.at_) (fun an57 n57 => ?_)
  refine sv n57.ok rfl (wn _ rfl) rfl (o_ex n57.at_ rfl) (fun an58 n58 => ?_)
  refine sv n58.ok rfl (wn _ rfl) rfl (o_ex (n58.ne rfl n57.at_) rfl) (fun an59 n59 => ?_)
  refine sal (cs := #[.slice none 0 0, .slice none 0 0]) n59.ok rfl (wn _ rfl) rfl (o_al (z := .agg #[.slice none 0 0, .slice none 0 0]) (by kernel_rfl)) (fun an60 w62 b61 W63 n60 => ?_)
  have l64 : b3 < b61 := by rw [W63.eq]; exact B54.lt
  have l65 : b9 < b61 := by rw [W63.eq]; exact B55.lt
  have l66 : b30 < b61 := by rw [W63.eq]; exact B56.lt
  have l67 : w.heap.size ≤ b61 := by rw [W63.eq]; exact G53.size
  have G68 := G53.trans W63.gr
  have B69 := B54.gr W63.gr
  have B70 := B55.gr W63.gr
  have B71 := B56.gr W63.gr
  refine ssR rfl (wn _ rfl) (o_stR n60.at_ (n60.ne rfl (n59.ne rfl n58.at_)) W63.bk (by kernel_rfl) rfl (by simp [Value.oneCell'])) W63.bk (fun w72 u73 u73b => ?_)
  have G74 : Gr w w72 := Below.upd G68 l67 u73
  have B75 := B69.upd u73 (Nat.ne_of_lt l64)
  have B76 := B70.upd u73 (Nat.ne_of_lt l65)
  have B77 := B71.upd u73 (Nat.ne_of_lt l66)
  refine sv n60.ok rfl (wn _ rfl) rfl (o_as (n60.ne rfl n59.at_)) (fun an78 n78 => ?_)
  refine wpList_nil ?_
  refine th_n (hK45 _ _ ?_)
  refine wp_seq_k (fun K79 hK79 => ?_)
  refine wp_region_lit ?_
  have e80 := n78.ne rfl (n60.ne rfl (n59.ne rfl (n58.ne rfl (n57.ne rfl (n50.ne rfl (n49.ne rfl (n47.ne rfl e46)))))))
  refine sv n78.ok rfl (wn _ rfl) rfl (o_ldR e80 B75 Try.underlying25 rfl (by kernel_rfl)) (fun an81 n81 => ?_)
  have e82 := n81.ne rfl (n78.ne rfl (n60.ne rfl (n59.ne rfl (n58.ne rfl (n57.ne rfl (n50.ne rfl (n49.ne rfl e48)))))))
  refine sv n81.ok rfl (wn _ rfl) rfl (o_ldR e82 B76 Try.underlying25 rfl (by kernel_rfl)) (fun an83 n83 => ?_)
  refine sc n83.ok rfl (wn _ rfl) rfl (o_f2 Try.func25 rfl rfl rfl (n83.ne rfl n81.at_) n83.at_) (within_bad _ _ V V2 M M2 w72 (hk1.gr G74) (hk2.gr G74) hE) ?_
  rintro _ w85 ⟨rfl, g86⟩
  refine ⟨_, rfl, fun an84 n84 => ?_⟩
  have G87 := G74.trans g86
  have B88 := B75.gr g86
  have B89 := B76.gr g86
  have B90 := B77.gr g86
  have B91 := u73b.gr g86
  refine sv n84.ok rfl (wn _ rfl) rfl (o_mv n84.at_) (fun an92 n92 => ?_)
  refine sv n92.ok rfl (wn _ rfl) rfl (o_ex n92.at_ rfl) (fun an93 n93 => ?_)
  refine sv n93.ok rfl (wn _ rfl) rfl (o_ex (n93.ne rfl n92.at_) rfl) (fun an94 n94 => ?_)
  refine sv n94.ok rfl (wn _ rfl) rfl (o_as (n94.ne rfl n93.at_)) (fun an95 n95 => ?_)
  refine sv n95.ok rfl (wn _ rfl) rfl (o_as (n95.ne rfl n94.at_)) (fun an96 n96 => ?_)
  refine wpList_nil ?_
  refine th_n (hK79 _ _ ?_)
  refine wp_seq_k (fun K97 hK97 => ?_)
  refine wp_seq_k (fun K98 hK98 => ?_)
  refine wp_region_lit ?_
  obtain ⟨i99, i99a, i99b, i99c⟩ := info3_of (show (Try.prog.info? 3).map (fun i => (i.zero, i.size)) = some (some (.int .i64 0), 1) by kernel_rfl)
  refine sals (cs := #[.int .i64 1]) n96.ok rfl (wn _ rfl) rfl (o_bs (vs := [(0, .int .i64 1)]) (by simp [ev_const]) Try.underlying22 i99a i99b (by rw [i99c]; rfl) (by rw [i99c]; rfl) (by rw [i99c]; kernel_rfl)) (fun an100 w102 b101 W103 n100 => ?_)
  have l104 : b3 < b101 := by rw [W103.eq]; exact B88.lt
  have l105 : b9 < b101 := by rw [W103.eq]; exact B89.lt
  have l106 : b30 < b101 := by rw [W103.eq]; exact B90.lt
  have l107 : b61 < b101 := by rw [W103.eq]; exact B91.lt
  have l108 : w.heap.size ≤ b101 := by rw [W103.eq]; exact G87.size
  have G109 := G87.trans W103.gr
  have B110 := B88.gr W103.gr
  have B111 := B89.gr W103.gr
  have B112 := B90.gr W103.gr
  have B113 := B91.gr W103.gr
  refine sv n100.ok rfl (wn _ rfl) rfl (o_bd (cells := #[.slice (some ⟨b101, 0, none⟩) 1 1, .slice none 0 0]) (vs := [(0, .slice (some ⟨b101, 0, none⟩) 1 1)]) (by simp [n100.at_, ev_const]) (by kernel_rfl)) (fun an114 n114 => ?_)
  refine sv n114.ok rfl (wn _ rfl) rfl (o_bd (cells := #[.int .i64 0, .int .i64 2]) (vs := [(1, .int .i64 2)]) (by simp [ev_const]) (by kernel_rfl)) (fun an115 n115 => ?_)
  obtain ⟨i116, i116a, i116b, i116c⟩ := info3_of (show (Try.prog.info? 27).map (fun i => (i.zero, i.size)) = some (some (.agg #[.int .i64 0, .int .i64 0]), 2) by kernel_rfl)
  refine sals (cs := #[.int .i64 0, .int .i64 2]) n115.ok rfl (wn _ rfl) rfl (o_bs (vs := [(0, .agg #[.int .i64 0, .int .i64 2])]) (by simp [n115.at_, ev_const]) Try.underlying23 i116a i116b (by rw [i116c]; rfl) (by rw [i116c]; rfl) (by rw [i116c]; kernel_rfl)) (fun an117 w119 b118 W120 n117 => ?_)
  have l121 : b3 < b118 := by rw [W120.eq]; exact B110.lt
  have l122 : b9 < b118 := by rw [W120.eq]; exact B111.lt
  have l123 : b30 < b118 := by rw [W120.eq]; exact B112.lt
  have l124 : b61 < b118 := by rw [W120.eq]; exact B113.lt
  have l125 : b101 < b118 := by rw [W120.eq]; exact W103.bk.lt
  have l126 : w.heap.size ≤ b118 := by rw [W120.eq]; exact G109.size
  have G127 := G109.trans W120.gr
  have B128 := B110.gr W120.gr
  have B129 := B111.gr W120.gr
  have B130 := B112.gr W120.gr
  have B131 := B113.gr W120.gr
  have B132 := W103.bk.gr W120.gr
  refine sv n117.ok rfl (wn _ rfl) rfl (o_bd (cells := #[.slice none 0 0, .slice (some ⟨b118, 0, none⟩) 1 1]) (vs := [(1, .slice (some ⟨b118, 0, none⟩) 1 1)]) (by simp [n117.at_, ev_const]) (by kernel_rfl)) (fun an133 n133 => ?_)
  have e134 := n133.ne rfl (n117.ne rfl (n115.ne rfl n114.at_))
  refine sc n133.ok rfl (wn _ rfl) rfl (o_f2 Try.func23 rfl rfl rfl e134 n133.at_) (by have h := ((join_ok _ _ [1] [] [] [(0, 2)] w119 (knR_vec1 B132) (knR_more1 W120.bk) ok1 ok2 (by simp) (by simp)).mono fun e w' h => And.intro (frmK.one h.1) h.2); rw [form_12.1, form_12.2.1, form_12.2.2] at h; exact h) ?_
  rintro _ w136 ⟨⟨k, rfl, hkz⟩, g137⟩
  obtain ⟨vaz, vcz, maz, mcz, rfl⟩ := hkz.form
  have hrz := hkz.rd
  refine ⟨_, rfl, fun an135 n135 => ?_⟩
  have G138 := G127.trans g137
  have B139 := B128.gr g137
  have B140 := B129.gr g137
  have B141 := B130.gr g137
  have B142 := B131.gr g137
  have B143 := B132.gr g137
  have B144 := W120.bk.gr g137
  have A146 := Gr.refl w136
  refine sv n135.ok rfl (wn _ rfl) rfl (o_mv n135.at_) (fun an147 n147 => ?_)
  refine sv n147.ok rfl (wn _ rfl) rfl (o_ex n147.at_ rfl) (fun an148 n148 => ?_)
  refine sv n148.ok rfl (wn _ rfl) rfl (o_ex (n148.ne rfl n147.at_) rfl) (fun an149 n149 => ?_)
  refine sal (cs := #[.slice none 0 0, .slice none 0 0]) n149.ok rfl (wn _ rfl) rfl (o_al (z := .agg #[.slice none 0 0, .slice none 0 0]) (by kernel_rfl)) (fun an150 w152 b151 W153 n150 => ?_)
  have l154 : b3 < b151 := by rw [W153.eq]; exact B139.lt
  have l155 : b9 < b151 := by rw [W153.eq]; exact B140.lt
  have l156 : b30 < b151 := by rw [W153.eq]; exact B141.lt
  have l157 : b61 < b151 := by rw [W153.eq]; exact B142.lt
  have l158 : b101 < b151 := by rw [W153.eq]; exact B143.lt
  have l159 : b118 < b151 := by rw [W153.eq]; exact B144.lt
  have l160 : w.heap.size ≤ b151 := by rw [W153.eq]; exact G138.size
  have l161 : w136.heap.size ≤ b151 := by rw [W153.eq]; exact A146.size
  have G162 := G138.trans W153.gr
  have B163 := B139.gr W153.gr
  have B164 := B140.gr W153.gr
  have B165 := B141.gr W153.gr
  have B166 := B142.gr W153.gr
  have B167 := B143.gr W153.gr
  have B168 := B144.gr W153.gr
  have A169 := A146.trans W153.gr
  refine ssR rfl (wn _ rfl) (o_stR n150.at_ (n150.ne rfl (n149.ne rfl n148.at_)) W153.bk (by kernel_rfl) rfl (by simp [Value.oneCell'])) W153.bk (fun w170 u171 u171b => ?_)
  have G172 : Gr w w170 := Below.upd G162 l160 u171
  have B173 := B163.upd u171 (Nat.ne_of_lt l154)
  have B174 := B164.upd u171 (Nat.ne_of_lt l155)
  have B175 := B165.upd u171 (Nat.ne_of_lt l156)
  have B176 := B166.upd u171 (Nat.ne_of_lt l157)
  have B177 := B167.upd u171 (Nat.ne_of_lt l158)
  have B178 := B168.upd u171 (Nat.ne_of_lt l159)
  have A179 : Gr w136 w170 := Below.upd A169 l161 u171
  refine sv n150.ok rfl (wn _ rfl) rfl (o_as (n150.ne rfl n149.at_)) (fun an180 n180 => ?_)
  refine wpList_nil ?_
  refine th_n (hK98 _ _ ?_)
  refine wp_seq_k (fun K181 hK181 => ?_)
  refine wp_region_lit ?_
  refine sv n180.ok rfl (wn _ rfl) rfl (o_mv n180.at_) (fun an182 n182 => ?_)
  refine sv n182.ok rfl (wn _ rfl) rfl (o_neq (b := false) n182.at_ ev_const (by decide)) (fun an183 n183 => ?_)
  refine sv n183.ok rfl (wn _ rfl) rfl (o_mv n183.at_) (fun an184 n184 => ?_)
  have e185 := n184.ne rfl (n183.ne rfl (n182.ne rfl (n180.ne rfl n150.at_)))
  refine sv n184.ok rfl (wgT rfl (yl 2 false rfl n184.at_) rfl) rfl (o_ldR e185 u171b Try.underlying25 rfl (by kernel_rfl)) (fun an186 n186 => ?_)
  obtain ⟨i187, i187a, i187b, i187c⟩ := info3_of (show (Try.prog.info? 3).map (fun i => (i.zero, i.size)) = some (some (.int .i64 0), 1) by kernel_rfl)
  refine sals (cs := #[.int .i64 2]) n186.ok rfl (wgT rfl (yl 2 false rfl (n186.ne rfl n184.at_)) rfl) rfl (o_bs (vs := [(0, .int .i64 2)]) (by simp [ev_const]) Try.underlying22 i187a i187b (by rw [i187c]; rfl) (by rw [i187c]; rfl) (by rw [i187c]; kernel_rfl)) (fun an188 w190 b189 W191 n188 => ?_)
  have l192 : b3 < b189 := by rw [W191.eq]; exact B173.lt
  have l193 : b9 < b189 := by rw [W191.eq]; exact B174.lt
  have l194 : b30 < b189 := by rw [W191.eq]; exact B175.lt
  have l195 : b61 < b189 := by rw [W191.eq]; exact B176.lt
  have l196 : b101 < b189 := by rw [W191.eq]; exact B177.lt
  have l197 : b118 < b189 := by rw [W191.eq]; exact B178.lt
  have l198 : b151 < b189 := by rw [W191.eq]; exact u171b.lt
  have l199 : w.heap.size ≤ b189 := by rw [W191.eq]; exact G172.size
  have l200 : w136.heap.size ≤ b189 := by rw [W191.eq]; exact A179.size
  have G201 := G172.trans W191.gr
  have B202 := B173.gr W191.gr
  have B203 := B174.gr W191.gr
  have B204 := B175.gr W191.gr
  have B205 := B176.gr W191.gr
  have B206 := B177.gr W191.gr
  have B207 := B178.gr W191.gr
  have B208 := u171b.gr W191.gr
  have A209 := A179.trans W191.gr
  refine sv n188.ok rfl (wgT rfl (yl 2 false rfl (n188.ne rfl (n186.ne rfl n184.at_))) rfl) rfl (o_bd (cells := #[.slice (some ⟨b189, 0, none⟩) 1 1, .slice none 0 0]) (vs := [(0, .slice (some ⟨b189, 0, none⟩) 1 1)]) (by simp [n188.at_, ev_const]) (by kernel_rfl)) (fun an210 n210 => ?_)
  have e211 := n210.ne rfl (n188.ne rfl (n186.ne rfl n184.at_))
  refine sc n210.ok rfl (wgT rfl (yl 2 false rfl e211) rfl) rfl (o_f2 Try.func17 rfl rfl rfl (n210.ne rfl (n188.ne rfl n186.at_)) n210.at_) (sameK_t _ _ _ _ w190 (hrz.gr A209) (knR_vec1 W191.bk) (by decide) (by decide)) ?_
  rintro _ w213 ⟨rfl, g214⟩
  refine ⟨_, rfl, fun an212 n212 => ?_⟩
  have G215 := G201.trans g214
  have B216 := B202.gr g214
  have B217 := B203.gr g214
  have B218 := B204.gr g214
  have B219 := B205.gr g214
  have B220 := B206.gr g214
  have B221 := B207.gr g214
  have B222 := B208.gr g214
  have B223 := W191.bk.gr g214
  have A224 := A209.trans g214
  refine sv n212.ok rfl (wgT rfl (yl 2 false rfl (n212.ne rfl e211)) rfl) rfl (o_not n212.at_ rfl) (fun an225 n225 => ?_)
  refine sv n225.ok rfl (wn _ rfl) rfl (o_pkF (n225.ne rfl (n212.ne rfl e211)) n225.at_) (fun an226 n226 => ?_)
  refine wpList_nil ?_
  refine th_n (hK181 _ _ ?_)
  refine wp_cond_false (n226.at_) ?_
  refine wp_skip ?_
  refine th_n (hK97 _ _ ?_)
  refine wp_seq_k (fun K227 hK227 => ?_)
  refine wp_region_lit ?_
  have e228 := n226.ne rfl (n225.ne rfl (n212.ne rfl (n210.ne rfl (n188.ne rfl (n186.ne rfl (n184.ne rfl (n183.ne rfl (n182.ne rfl (n180.ne rfl (n150.ne rfl (n149.ne rfl (n148.ne rfl (n147.ne rfl (n135.ne rfl (n133.ne rfl (n117.ne rfl (n115.ne rfl (n114.ne rfl (n100.ne rfl (n96.ne rfl (n95.ne rfl (n94.ne rfl (n93.ne rfl (n92.ne rfl (n84.ne rfl (n83.ne rfl (n81.ne rfl e80)))))))))))))))))))))))))))
  refine sv n226.ok rfl (wn _ rfl) rfl (o_ldR e228 B216 Try.underlying25 rfl (by kernel_rfl)) (fun an229 n229 => ?_)
  refine sc n229.ok rfl (wn _ rfl) rfl (o_f1 Try.func13 rfl rfl rfl n229.at_) (by have h := rknow_any _ _ _ w213 (hk1.gr G215); rw [hE1] at h; exact h) ?_
  rintro _ w231 ⟨rfl, g232⟩
  refine ⟨_, rfl, fun an230 n230 => ?_⟩
  have G233 := G215.trans g232
  have B234 := B216.gr g232
  have B235 := B217.gr g232
  have B236 := B218.gr g232
  have B237 := B219.gr g232
  have B238 := B220.gr g232
  have B239 := B221.gr g232
  have B240 := B222.gr g232
  have B241 := B223.gr g232
  have A242 := A224.trans g232
  refine sv n230.ok rfl (wn _ rfl) rfl (o_as n230.at_) (fun an243 n243 => ?_)
  refine wpList_nil ?_
  refine th_n (hK227 _ _ ?_)
  refine wp_seq_k (fun K244 hK244 => ?_)
  refine wp_seq_k (fun K245 hK245 => ?_)
  refine wp_region_lit ?_
  refine sv n243.ok rfl (wn _ rfl) rfl (o_mv n243.at_) (fun an246 n246 => ?_)
  refine sv n246.ok rfl (wn _ rfl) rfl (o_eq (b := true) n246.at_ ev_const (by decide)) (fun an247 n247 => ?_)
  refine wpList_nil ?_
  refine th_n (hK245 _ _ ?_)
  refine wp_cond_true (n247.at_) ?_
  refine wp_region_lit ?_
  have e248 := n247.ne rfl (n246.ne rfl (n243.ne rfl (n230.ne rfl (n229.ne rfl (n226.ne rfl (n225.ne rfl (n212.ne rfl (n210.ne rfl (n188.ne rfl (n186.ne rfl (n184.ne rfl (n183.ne rfl (n182.ne rfl (n180.ne rfl (n150.ne rfl (n149.ne rfl (n148.ne rfl (n147.ne rfl (n135.ne rfl (n133.ne rfl (n117.ne rfl (n115.ne rfl (n114.ne rfl (n100.ne rfl (n96.ne rfl (n95.ne rfl (n94.ne rfl (n93.ne rfl (n92.ne rfl (n84.ne rfl (n83.ne rfl e82)))))))))))))))))))))))))))))))
  refine sv n247.ok rfl (wn _ rfl) rfl (o_ldR e248 B235 Try.underlying25 rfl (by kernel_rfl)) (fun an249 n249 => ?_)
  refine sc n249.ok rfl (wn _ rfl) rfl (o_f1 Try.func13 rfl rfl rfl n249.at_) (by have h := rknow_any _ V2 M2 w231 (hk2.gr G233); rw [← chk2_2 (V2 := V2) (M2 := M2) hE1] at h; exact h) ?_
  rintro _ w251 ⟨rfl, g252⟩
  refine ⟨_, rfl, fun an250 n250 => ?_⟩
  have G253 := G233.trans g252
  have B254 := B234.gr g252
  have B255 := B235.gr g252
  have B256 := B236.gr g252
  have B257 := B237.gr g252
  have B258 := B238.gr g252
  have B259 := B239.gr g252
  have B260 := B240.gr g252
  have B261 := B241.gr g252
  have A262 := A242.trans g252
  refine sv n250.ok rfl (wn _ rfl) rfl (o_as n250.at_) (fun an263 n263 => ?_)
  refine wpList_nil ?_
  refine th_n (hK244 _ _ ?_)
  refine wp_seq_k (fun K264 hK264 => ?_)
  refine wp_seq_k (fun K265 hK265 => ?_)
  refine wp_region_lit ?_
  refine sv n263.ok rfl (wn _ rfl) rfl (o_mv n263.at_) (fun an266 n266 => ?_)
  refine sv n266.ok rfl (wn _ rfl) rfl (o_neq (b := true) n266.at_ ev_const (by simp [show ¬ (chk2K V V2 M M2) = 0 from hE])) (fun an267 n267 => ?_)
  refine wpList_nil ?_
  refine th_n (hK265 _ _ ?_)
  refine wp_cond_true (n267.at_) ?_
  refine wp_seq_k (fun K268 hK268 => ?_)
  refine wp_region_lit ?_
  have e269 := n267.ne rfl (n266.ne rfl (n263.ne rfl (n250.ne rfl (n249.ne rfl (n247.ne rfl (n246.ne rfl (n243.ne rfl (n230.ne rfl (n229.ne rfl (n226.ne rfl (n225.ne rfl (n212.ne rfl (n210.ne rfl (n188.ne rfl (n186.ne rfl (n184.ne rfl (n183.ne rfl (n182.ne rfl (n180.ne rfl (n150.ne rfl (n149.ne rfl (n148.ne rfl (n147.ne rfl (n135.ne rfl (n133.ne rfl (n117.ne rfl (n115.ne rfl (n114.ne rfl (n100.ne rfl (n96.ne rfl (n95.ne rfl (n94.ne rfl (n93.ne rfl (n92.ne rfl (n84.ne rfl (n83.ne rfl (n81.ne rfl (n78.ne rfl (n60.ne rfl (n59.ne rfl (n58.ne rfl (n57.ne rfl (n50.ne rfl (n49.ne rfl (n47.ne rfl n44.at_)))))))))))))))))))))))))))))))))))))))))))))
  refine sv n267.ok rfl (wn _ rfl) rfl (o_mv e269) (fun an270 n270 => ?_)
  have e271 := n270.ne rfl (n267.ne rfl (n266.ne rfl n263.at_))
  refine sv n270.ok rfl (wn _ rfl) rfl (o_mv e271) (fun an272 n272 => ?_)
  refine sv n272.ok rfl (wn _ rfl) rfl (o_eq (n272.ne rfl n270.at_) n272.at_ (decide_eq_true rfl)) (fun an273 n273 => ?_)
  refine sv n273.ok rfl (wn _ rfl) rfl (o_mv n273.at_) (fun an274 n274 => ?_)
  have e275 := n274.ne rfl (n273.ne rfl (n272.ne rfl (n270.ne rfl (n267.ne rfl (n266.ne rfl (n263.ne rfl (n250.ne rfl (n249.ne rfl (n247.ne rfl (n246.ne rfl (n243.ne rfl (n230.ne rfl (n229.ne rfl (n226.ne rfl (n225.ne rfl (n212.ne rfl (n210.ne rfl (n188.ne rfl (n186.ne rfl (n184.ne rfl (n183.ne rfl (n182.ne rfl (n180.ne rfl (n150.ne rfl (n149.ne rfl (n148.ne rfl (n147.ne rfl (n135.ne rfl (n133.ne rfl (n117.ne rfl (n115.ne rfl (n114.ne rfl (n100.ne rfl (n96.ne rfl (n95.ne rfl (n94.ne rfl (n93.ne rfl (n92.ne rfl (n84.ne rfl (n83.ne rfl (n81.ne rfl n78.at_)))))))))))))))))))))))))))))))))))))))))
  refine sv n274.ok rfl (wgT rfl (yl 3 true rfl n274.at_) rfl) rfl (o_mv e275) (fun an276 n276 => ?_)
  have e277 := n276.ne rfl (n274.ne rfl (n273.ne rfl (n272.ne rfl e271)))
  refine sv n276.ok rfl (wgT rfl (yl 3 true rfl (n276.ne rfl n274.at_)) rfl) rfl (o_mv e277) (fun an278 n278 => ?_)
  refine sv n278.ok rfl (wgT rfl (yl 3 true rfl (n278.ne rfl (n276.ne rfl n274.at_))) rfl) rfl (o_eq (n278.ne rfl n276.at_) n278.at_ (decide_eq_true rfl)) (fun an279 n279 => ?_)
  have e280 := n279.ne rfl (n278.ne rfl (n276.ne rfl n274.at_))
  refine sv n279.ok rfl (wn _ rfl) rfl (o_pkT e280 n279.at_) (fun an281 n281 => ?_)
  refine sv n281.ok rfl (wn _ rfl) rfl (o_mv n281.at_) (fun an282 n282 => ?_)
  have e283 := n282.ne rfl (n281.ne rfl (n279.ne rfl (n278.ne rfl (n276.ne rfl (n274.ne rfl (n273.ne rfl (n272.ne rfl (n270.ne rfl (n267.ne rfl (n266.ne rfl (n263.ne rfl (n250.ne rfl (n249.ne rfl (n247.ne rfl (n246.ne rfl (n243.ne rfl (n230.ne rfl (n229.ne rfl (n226.ne rfl (n225.ne rfl (n212.ne rfl (n210.ne rfl (n188.ne rfl (n186.ne rfl (n184.ne rfl (n183.ne rfl (n182.ne rfl (n180.ne rfl (n150.ne rfl (n149.ne rfl (n148.ne rfl (n147.ne rfl (n135.ne rfl (n133.ne rfl (n117.ne rfl (n115.ne rfl (n114.ne rfl (n100.ne rfl n96.at_))))))))))))))))))))))))))))))))))))))
  refine sv n282.ok rfl (wgT rfl (yl 8 true rfl n282.at_) rfl) rfl (o_mv e283) (fun an284 n284 => ?_)
  have e285 := n284.ne rfl (n282.ne rfl (n281.ne rfl (n279.ne rfl (n278.ne rfl e277))))
  refine sv n284.ok rfl (wgT rfl (yl 8 true rfl (n284.ne rfl n282.at_)) rfl) rfl (o_mv e285) (fun an286 n286 => ?_)
  refine sv n286.ok rfl (wgT rfl (yl 8 true rfl (n286.ne rfl (n284.ne rfl n282.at_))) rfl) rfl (o_eq (n286.ne rfl n284.at_) n286.at_ (decide_eq_true rfl)) (fun an287 n287 => ?_)
  have e288 := n287.ne rfl (n286.ne rfl (n284.ne rfl n282.at_))
  refine sv n287.ok rfl (wn _ rfl) rfl (o_pkT e288 n287.at_) (fun an289 n289 => ?_)
  refine sv n289.ok rfl (wn _ rfl) rfl (o_mv n289.at_) (fun an290 n290 => ?_)
  have e291 := n290.ne rfl (n289.ne rfl (n287.ne rfl (n286.ne rfl (n284.ne rfl (n282.ne rfl (n281.ne rfl (n279.ne rfl (n278.ne rfl (n276.ne rfl (n274.ne rfl (n273.ne rfl (n272.ne rfl (n270.ne rfl (n267.ne rfl (n266.ne rfl (n263.ne rfl (n250.ne rfl (n249.ne rfl (n247.ne rfl (n246.ne rfl (n243.ne rfl (n230.ne rfl (n229.ne rfl (n226.ne rfl (n225.ne rfl (n212.ne rfl (n210.ne rfl (n188.ne rfl (n186.ne rfl (n184.ne rfl (n183.ne rfl (n182.ne rfl (n180.ne rfl (n150.ne rfl (n149.ne rfl (n148.ne rfl (n147.ne rfl (n135.ne rfl (n133.ne rfl (n117.ne rfl (n115.ne rfl (n114.ne rfl (n100.ne rfl (n96.ne rfl n95.at_))))))))))))))))))))))))))))))))))))))))))))
  refine sv n290.ok rfl (wgT rfl (yl 13 true rfl n290.at_) rfl) rfl (o_mv e291) (fun an292 n292 => ?_)
  refine sv n292.ok rfl (wgT rfl (yl 13 true rfl (n292.ne rfl n290.at_)) rfl) rfl (o_not n292.at_ rfl) (fun an293 n293 => ?_)
  refine sv n293.ok rfl (wn _ rfl) rfl (o_pkT (n293.ne rfl (n292.ne rfl n290.at_)) n293.at_) (fun an294 n294 => ?_)
  refine sv n294.ok rfl (wn _ rfl) rfl (o_mv n294.at_) (fun an295 n295 => ?_)
  have e296 := n295.ne rfl (n294.ne rfl (n293.ne rfl (n292.ne rfl (n290.ne rfl (n289.ne rfl (n287.ne rfl (n286.ne rfl (n284.ne rfl (n282.ne rfl (n281.ne rfl (n279.ne rfl (n278.ne rfl (n276.ne rfl (n274.ne rfl (n273.ne rfl (n272.ne rfl (n270.ne rfl (n267.ne rfl (n266.ne rfl (n263.ne rfl (n250.ne rfl (n249.ne rfl (n247.ne rfl (n246.ne rfl (n243.ne rfl (n230.ne rfl (n229.ne rfl (n226.ne rfl (n225.ne rfl (n212.ne rfl (n210.ne rfl (n188.ne rfl (n186.ne rfl (n184.ne rfl (n183.ne rfl (n182.ne rfl (n180.ne rfl (n150.ne rfl (n149.ne rfl (n148.ne rfl (n147.ne rfl (n135.ne rfl (n133.ne rfl (n117.ne rfl (n115.ne rfl (n114.ne rfl (n100.ne rfl (n96.ne rfl (n95.ne rfl (n94.ne rfl (n93.ne rfl (n92.ne rfl (n84.ne rfl (n83.ne rfl (n81.ne rfl (n78.ne rfl (n60.ne rfl (n59.ne rfl (n58.ne rfl (n57.ne rfl (n50.ne rfl (n49.ne rfl (n47.ne rfl (n44.ne rfl n29.at_))))))))))))))))))))))))))))))))))))))))))))))))))))))))))))))))
  refine sv n295.ok rfl (wgT rfl (yl 17 true rfl n295.at_) rfl) rfl (o_ldR e296 B256 Try.underlying25 rfl (by kernel_rfl)) (fun an297 n297 => ?_)
  refine sv n297.ok rfl (wgT rfl (yl 17 true rfl (n297.ne rfl n295.at_)) rfl) rfl (o_b0 (cs := #[.slice none 0 0, .slice none 0 0]) Try.underlying25 (by kernel_rfl) (by kernel_rfl)) (fun an298 n298 => ?_)
  refine sc n298.ok rfl (wgT rfl (yl 17 true rfl (n298.ne rfl (n297.ne rfl n295.at_))) rfl) rfl (o_f2 Try.func17 rfl rfl rfl (n298.ne rfl n297.at_) n298.at_) (sameK_t _ _ _ _ w251 (knR_nil w251) (knR_nil w251) (by decide) (by decide)) ?_
  rintro _ w300 ⟨rfl, g301⟩
  refine ⟨_, rfl, fun an299 n299 => ?_⟩
  have G302 := G253.trans g301
  have B303 := B254.gr g301
  have B304 := B255.gr g301
  have B305 := B256.gr g301
  have B306 := B257.gr g301
  have B307 := B258.gr g301
  have B308 := B259.gr g301
  have B309 := B260.gr g301
  have B310 := B261.gr g301
  have A311 := A262.trans g301
  have e312 := n299.ne rfl (n298.ne rfl (n297.ne rfl n295.at_))
  refine sv n299.ok rfl (wn _ rfl) rfl (o_pkT e312 n299.at_) (fun an313 n313 => ?_)
  refine sv n313.ok rfl (wn _ rfl) rfl (o_mv n313.at_) (fun an314 n314 => ?_)
  have e315 := n314.ne rfl (n313.ne rfl (n299.ne rfl (n298.ne rfl (n297.ne rfl (n295.ne rfl (n294.ne rfl (n293.ne rfl (n292.ne rfl (n290.ne rfl (n289.ne rfl (n287.ne rfl (n286.ne rfl (n284.ne rfl (n282.ne rfl (n281.ne rfl (n279.ne rfl (n278.ne rfl (n276.ne rfl (n274.ne rfl (n273.ne rfl (n272.ne rfl (n270.ne rfl (n267.ne rfl (n266.ne rfl (n263.ne rfl (n250.ne rfl (n249.ne rfl (n247.ne rfl (n246.ne rfl (n243.ne rfl (n230.ne rfl (n229.ne rfl (n226.ne rfl (n225.ne rfl (n212.ne rfl (n210.ne rfl (n188.ne rfl (n186.ne rfl (n184.ne rfl (n183.ne rfl (n182.ne rfl (n180.ne rfl (n150.ne rfl (n149.ne rfl (n148.ne rfl (n147.ne rfl (n135.ne rfl (n133.ne rfl (n117.ne rfl (n115.ne rfl (n114.ne rfl (n100.ne rfl (n96.ne rfl (n95.ne rfl (n94.ne rfl (n93.ne rfl (n92.ne rfl (n84.ne rfl (n83.ne rfl (n81.ne rfl (n78.ne rfl n60.at_)))))))))))))))))))))))))))))))))))))))))))))))))))))))))))))
  refine sv n314.ok rfl (wgT rfl (yl 22 true rfl n314.at_) rfl) rfl (o_ldR e315 B306 Try.underlying25 rfl (by kernel_rfl)) (fun an316 n316 => ?_)
  refine sv n316.ok rfl (wgT rfl (yl 22 true rfl (n316.ne rfl n314.at_)) rfl) rfl (o_b0 (cs := #[.slice none 0 0, .slice none 0 0]) Try.underlying25 (by kernel_rfl) (by kernel_rfl)) (fun an317 n317 => ?_)
  refine sc n317.ok rfl (wgT rfl (yl 22 true rfl (n317.ne rfl (n316.ne rfl n314.at_))) rfl) rfl (o_f2 Try.func17 rfl rfl rfl (n317.ne rfl n316.at_) n317.at_) (sameK_t _ _ _ _ w300 (knR_nil w300) (knR_nil w300) (by decide) (by decide)) ?_
  rintro _ w319 ⟨rfl, g320⟩
  refine ⟨_, rfl, fun an318 n318 => ?_⟩
  have G321 := G302.trans g320
  have B322 := B303.gr g320
  have B323 := B304.gr g320
  have B324 := B305.gr g320
  have B325 := B306.gr g320
  have B326 := B307.gr g320
  have B327 := B308.gr g320
  have B328 := B309.gr g320
  have B329 := B310.gr g320
  have A330 := A311.trans g320
  have e331 := n318.ne rfl (n317.ne rfl (n316.ne rfl n314.at_))
  refine sv n318.ok rfl (wn _ rfl) rfl (o_pkT e331 n318.at_) (fun an332 n332 => ?_)
  refine sv n332.ok rfl (wn _ rfl) rfl (o_as n332.at_) (fun an333 n333 => ?_)
  refine wpList_nil ?_
  refine th_n (hK268 _ _ ?_)
  refine wp_ret ?_
  refine th_r ?_
  exact ret1 n333.ok rfl (n333.at_) ⟨rfl, G321⟩
set_option maxHeartbeats 8000000 in
set_option maxRecDepth 100000 in
theorem knowSets_ok (va ma vb mb : Option Addr) (vc mc wc nc : Nat) (v v2 : List Nat) (m m2 : List (Nat × Nat)) (ok : OkV v m) (ok3 : OkV v2 m2) (hl : m.length ≤ 60) (hl2 : m2.length ≤ 60) (hE1 : chkK (ints v) (pairs m) = 0) (hE2 : chkK (ints v2) (pairs m2) = 0) (w : World) (hk1 : KnR w (.agg #[.slice va (ints v).length vc, .slice ma (pairs m).length mc]) (ints v) (pairs m)) (hk2 : KnR w (.agg #[.slice vb (ints v2).length wc, .slice mb (pairs m2).length nc]) (ints v2) (pairs m2)) :
    Calls Try.prog 4 #[.agg #[.slice va ((ints v).length) vc, .slice ma ((pairs m).length) mc], .agg #[.slice vb ((ints v2).length) wc, .slice mb ((pairs m2).length) nc]] w fun e w' => e = .returned (.bool true) ∧ Gr w w' := by
  refine enter (N := 140) Try.func4 rfl rfl rfl (fun a0 ok0 h0 => ?_)
  have e0_0 : a0.eval (.tmp 0) = .agg #[.slice va ((ints v).length) vc, .slice ma ((pairs m).length) mc] := h0 0 _ rfl
  have e0_1 : a0.eval (.tmp 1) = .agg #[.slice vb ((ints v2).length) wc, .slice mb ((pairs m2).length) nc] := h0 1 _ rfl
  clear h0
  have G0 := Gr.refl w
  have ok1 : OkV [1] [] := ⟨by simp, by simp, by simp, by simp, by simp⟩
  have ok2 : OkV [] [(0, 2)] := ⟨by simp, by simp, by simp, by simp [cv], by simp⟩
  refine wp_seq_k (fun K1 hK1 => ?_)
  refine wp_region_lit ?_
  refine sal (cs := #[.slice va ((ints v).length) vc, .slice ma ((pairs m).length) mc]) ok0 rfl (wn _ rfl) rfl (o_box e0_0) (fun an2 w4 b3 W5 n2 => ?_)
  have l6 : w.heap.size ≤ b3 := by rw [W5.eq]; exact G0.size
  have G7 := G0.trans W5.gr
  refine sal (cs := #[.slice vb ((ints v2).length) wc, .slice mb ((pairs m2).length) nc]) n2.ok rfl (wn _ rfl) rfl (o_box (n2.ne rfl e0_1)) (fun an8 w10 b9 W11 n8 => ?_)
  have l12 : b3 < b9 := by rw [W11.eq]; exact W5.bk.lt
  have l13 : w.heap.size ≤ b9 := by rw [W11.eq]; exact G7.size
  have G14 := G7.trans W11.gr
  have B15 := W5.bk.gr W11.gr
  refine sv n8.ok rfl (wn _ rfl) rfl (o_as ev_const) (fun an16 n16 => ?_)
  refine wpList_nil ?_
  refine th_n (hK1 _ _ ?_)
  refine wp_seq_k (fun K17 hK17 => ?_)
  refine wp_region_lit ?_
  refine sv n16.ok rfl (wn _ rfl) rfl (o_ldR (n16.ne rfl (n8.ne rfl n2.at_)) B15 Try.underlying25 rfl (by kernel_rfl)) (fun an18 n18 => ?_)
  refine sv n18.ok rfl (wn _ rfl) rfl (o_ldR (n18.ne rfl (n16.ne rfl n8.at_)) W11.bk Try.underlying25 rfl (by kernel_rfl)) (fun an19 n19 => ?_)
  refine sc n19.ok rfl (wn _ rfl) rfl (o_f2 Try.func23 rfl rfl rfl (n19.ne rfl n18.at_) n19.at_) ((join_ok _ _ v v2 m m2 w10 (hk1.gr G14) (hk2.gr G14) ok ok3 hl hl2).mono fun e w' h => And.intro (frmK.one h.1) h.2) ?_
  rintro _ w21 ⟨⟨k, rfl, hkj⟩, g22⟩
  obtain ⟨vaj, vcj, maj, mcj, rfl⟩ := hkj.form
  have hrj := hkj.rd
  refine ⟨_, rfl, fun an20 n20 => ?_⟩
  have G23 := G14.trans g22
  have B24 := B15.gr g22
  have B25 := W11.bk.gr g22
  have A27 := Gr.refl w21
  refine sv n20.ok rfl (wn _ rfl) rfl (o_mv n20.at_) (fun an28 n28 => ?_)
  refine sv n28.ok rfl (wn _ rfl) rfl (o_ex n28.at_ rfl) (fun an29 n29 => ?_)
  refine sv n29.ok rfl (wn _ rfl) rfl (o_ex (n29.ne rfl n28.at_) rfl) (fun an30 n30 => ?_)
  refine sal (cs := #[.slice none 0 0, .slice none 0 0]) n30.ok rfl (wn _ rfl) rfl (o_al (z := .agg #[.slice none 0 0, .slice none 0 0]) (by kernel_rfl)) (fun an31 w33 b32 W34 n31 => ?_)
  have l35 : b3 < b32 := by rw [W34.eq]; exact B24.lt
  have l36 : b9 < b32 := by rw [W34.eq]; exact B25.lt
  have l37 : w.heap.size ≤ b32 := by rw [W34.eq]; exact G23.size
  have l38 : w21.heap.size ≤ b32 := by rw [W34.eq]; exact A27.size
  have G39 := G23.trans W34.gr
  have B40 := B24.gr W34.gr
  have B41 := B25.gr W34.gr
  have A42 := A27.trans W34.gr
  refine ssR rfl (wn _ rfl) (o_stR n31.at_ (n31.ne rfl (n30.ne rfl n29.at_)) W34.bk (by kernel_rfl) rfl (by simp [Value.oneCell'])) W34.bk (fun w43 u44 u44b => ?_)
  have G45 : Gr w w43 := Below.upd G39 l37 u44
  have B46 := B40.upd u44 (Nat.ne_of_lt l35)
  have B47 := B41.upd u44 (Nat.ne_of_lt l36)
  have A48 : Gr w21 w43 := Below.upd A42 l38 u44
  refine sv n31.ok rfl (wn _ rfl) rfl (o_as (n31.ne rfl n30.at_)) (fun an49 n49 => ?_)
  refine wpList_nil ?_
  refine th_n (hK17 _ _ ?_)
  refine wp_seq_k (fun K50 hK50 => ?_)
  refine wp_region_lit ?_
  have e51 := n49.ne rfl (n31.ne rfl (n30.ne rfl (n29.ne rfl (n28.ne rfl (n20.ne rfl (n19.ne rfl (n18.ne rfl (n16.ne rfl (n8.ne rfl n2.at_)))))))))
  refine sv n49.ok rfl (wn _ rfl) rfl (o_ldR e51 B46 Try.underlying25 rfl (by kernel_rfl)) (fun an52 n52 => ?_)
  have e53 := n52.ne rfl (n49.ne rfl (n31.ne rfl (n30.ne rfl (n29.ne rfl (n28.ne rfl (n20.ne rfl (n19.ne rfl (n18.ne rfl (n16.ne rfl n8.at_)))))))))
  refine sv n52.ok rfl (wn _ rfl) rfl (o_ldR e53 B47 Try.underlying25 rfl (by kernel_rfl)) (fun an54 n54 => ?_)
  refine sc n54.ok rfl (wn _ rfl) rfl (o_f2 Try.func24 rfl rfl rfl (n54.ne rfl n52.at_) n54.at_) ((meet_ok _ _ v v2 m m2 w43 (hk1.gr G45) (hk2.gr G45) ok ok3 hl hl2).mono fun e w' h => And.intro (frmK.one h.1) h.2) ?_
  rintro _ w56 ⟨⟨k, rfl, hkm⟩, g57⟩
  obtain ⟨vam, vcm, mam, mcm, rfl⟩ := hkm.form
  have hrm := hkm.rd
  refine ⟨_, rfl, fun an55 n55 => ?_⟩
  have G58 := G45.trans g57
  have B59 := B46.gr g57
  have B60 := B47.gr g57
  have B61 := u44b.gr g57
  have A62 := A48.trans g57
  have A64 := Gr.refl w56
  refine sv n55.ok rfl (wn _ rfl) rfl (o_mv n55.at_) (fun an65 n65 => ?_)
  refine sv n65.ok rfl (wn _ rfl) rfl (o_ex n65.at_ rfl) (fun an66 n66 => ?_)
  refine sv n66.ok rfl (wn _ rfl) rfl (o_ex (n66.ne rfl n65.at_) rfl) (fun an67 n67 => ?_)
  refine sal (cs := #[.slice none 0 0, .slice none 0 0]) n67.ok rfl (wn _ rfl) rfl (o_al (z := .agg #[.slice none 0 0, .slice none 0 0]) (by kernel_rfl)) (fun an68 w70 b69 W71 n68 => ?_)
  have l72 : b3 < b69 := by rw [W71.eq]; exact B59.lt
  have l73 : b9 < b69 := by rw [W71.eq]; exact B60.lt
  have l74 : b32 < b69 := by rw [W71.eq]; exact B61.lt
  have l75 : w.heap.size ≤ b69 := by rw [W71.eq]; exact G58.size
  have l76 : w21.heap.size ≤ b69 := by rw [W71.eq]; exact A62.size
  have l77 : w56.heap.size ≤ b69 := by rw [W71.eq]; exact A64.size
  have G78 := G58.trans W71.gr
  have B79 := B59.gr W71.gr
  have B80 := B60.gr W71.gr
  have B81 := B61.gr W71.gr
  have A82 := A62.trans W71.gr
  have A83 := A64.trans W71.gr
  refine ssR rfl (wn _ rfl) (o_stR n68.at_ (n68.ne rfl (n67.ne rfl n66.at_)) W71.bk (by kernel_rfl) rfl (by simp [Value.oneCell'])) W71.bk (fun w84 u85 u85b => ?_)
  have G86 : Gr w w84 := Below.upd G78 l75 u85
  have B87 := B79.upd u85 (Nat.ne_of_lt l72)
  have B88 := B80.upd u85 (Nat.ne_of_lt l73)
  have B89 := B81.upd u85 (Nat.ne_of_lt l74)
  have A90 : Gr w21 w84 := Below.upd A82 l76 u85
  have A91 : Gr w56 w84 := Below.upd A83 l77 u85
  refine sv n68.ok rfl (wn _ rfl) rfl (o_as (n68.ne rfl n67.at_)) (fun an92 n92 => ?_)
  refine wpList_nil ?_
  refine th_n (hK50 _ _ ?_)
  refine wp_seq_k (fun K93 hK93 => ?_)
  refine wp_region_lit ?_
  have e94 := n92.ne rfl (n68.ne rfl (n67.ne rfl (n66.ne rfl (n65.ne rfl (n55.ne rfl (n54.ne rfl (n52.ne rfl e51)))))))
  refine sv n92.ok rfl (wn _ rfl) rfl (o_ldR e94 B87 Try.underlying25 rfl (by kernel_rfl)) (fun an95 n95 => ?_)
  have e96 := n95.ne rfl (n92.ne rfl (n68.ne rfl (n67.ne rfl (n66.ne rfl (n65.ne rfl (n55.ne rfl (n54.ne rfl e53)))))))
  refine sv n95.ok rfl (wn _ rfl) rfl (o_ldR e96 B88 Try.underlying25 rfl (by kernel_rfl)) (fun an97 n97 => ?_)
  refine sc n97.ok rfl (wn _ rfl) rfl (o_f2 Try.func25 rfl rfl rfl (n97.ne rfl n95.at_) n97.at_) (within_ok _ _ v v2 m m2 w84 (hk1.gr G86) (hk2.gr G86) ok ok3 hl hl2) ?_
  rintro _ w99 ⟨rfl, g100⟩
  refine ⟨_, rfl, fun an98 n98 => ?_⟩
  have G101 := G86.trans g100
  have B102 := B87.gr g100
  have B103 := B88.gr g100
  have B104 := B89.gr g100
  have B105 := u85b.gr g100
  have A106 := A90.trans g100
  have A107 := A91.trans g100
  refine sv n98.ok rfl (wn _ rfl) rfl (o_mv n98.at_) (fun an108 n108 => ?_)
  refine sv n108.ok rfl (wn _ rfl) rfl (o_ex n108.at_ rfl) (fun an109 n109 => ?_)
  refine sv n109.ok rfl (wn _ rfl) rfl (o_ex (n109.ne rfl n108.at_) rfl) (fun an110 n110 => ?_)
  refine sv n110.ok rfl (wn _ rfl) rfl (o_as (n110.ne rfl n109.at_)) (fun an111 n111 => ?_)
  refine sv n111.ok rfl (wn _ rfl) rfl (o_as (n111.ne rfl n110.at_)) (fun an112 n112 => ?_)
  refine wpList_nil ?_
  refine th_n (hK93 _ _ ?_)
  refine wp_seq_k (fun K113 hK113 => ?_)
  refine wp_seq_k (fun K114 hK114 => ?_)
  refine wp_region_lit ?_
  obtain ⟨i115, i115a, i115b, i115c⟩ := info3_of (show (Try.prog.info? 3).map (fun i => (i.zero, i.size)) = some (some (.int .i64 0), 1) by kernel_rfl)
  refine sals (cs := #[.int .i64 1]) n112.ok rfl (wn _ rfl) rfl (o_bs (vs := [(0, .int .i64 1)]) (by simp [ev_const]) Try.underlying22 i115a i115b (by rw [i115c]; rfl) (by rw [i115c]; rfl) (by rw [i115c]; kernel_rfl)) (fun an116 w118 b117 W119 n116 => ?_)
  have l120 : b3 < b117 := by rw [W119.eq]; exact B102.lt
  have l121 : b9 < b117 := by rw [W119.eq]; exact B103.lt
  have l122 : b32 < b117 := by rw [W119.eq]; exact B104.lt
  have l123 : b69 < b117 := by rw [W119.eq]; exact B105.lt
  have l124 : w.heap.size ≤ b117 := by rw [W119.eq]; exact G101.size
  have l125 : w21.heap.size ≤ b117 := by rw [W119.eq]; exact A106.size
  have l126 : w56.heap.size ≤ b117 := by rw [W119.eq]; exact A107.size
  have G127 := G101.trans W119.gr
  have B128 := B102.gr W119.gr
  have B129 := B103.gr W119.gr
  have B130 := B104.gr W119.gr
  have B131 := B105.gr W119.gr
  have A132 := A106.trans W119.gr
  have A133 := A107.trans W119.gr
  refine sv n116.ok rfl (wn _ rfl) rfl (o_bd (cells := #[.slice (some ⟨b117, 0, none⟩) 1 1, .slice none 0 0]) (vs := [(0, .slice (some ⟨b117, 0, none⟩) 1 1)]) (by simp [n116.at_, ev_const]) (by kernel_rfl)) (fun an134 n134 => ?_)
  refine sv n134.ok rfl (wn _ rfl) rfl (o_bd (cells := #[.int .i64 0, .int .i64 2]) (vs := [(1, .int .i64 2)]) (by simp [ev_const]) (by kernel_rfl)) (fun an135 n135 => ?_)
  obtain ⟨i136, i136a, i136b, i136c⟩ := info3_of (show (Try.prog.info? 27).map (fun i => (i.zero, i.size)) = some (some (.agg #[.int .i64 0, .int .i64 0]), 2) by kernel_rfl)
  refine sals (cs := #[.int .i64 0, .int .i64 2]) n135.ok rfl (wn _ rfl) rfl (o_bs (vs := [(0, .agg #[.int .i64 0, .int .i64 2])]) (by simp [n135.at_, ev_const]) Try.underlying23 i136a i136b (by rw [i136c]; rfl) (by rw [i136c]; rfl) (by rw [i136c]; kernel_rfl)) (fun an137 w139 b138 W140 n137 => ?_)
  have l141 : b3 < b138 := by rw [W140.eq]; exact B128.lt
  have l142 : b9 < b138 := by rw [W140.eq]; exact B129.lt
  have l143 : b32 < b138 := by rw [W140.eq]; exact B130.lt
  have l144 : b69 < b138 := by rw [W140.eq]; exact B131.lt
  have l145 : b117 < b138 := by rw [W140.eq]; exact W119.bk.lt
  have l146 : w.heap.size ≤ b138 := by rw [W140.eq]; exact G127.size
  have l147 : w21.heap.size ≤ b138 := by rw [W140.eq]; exact A132.size
  have l148 : w56.heap.size ≤ b138 := by rw [W140.eq]; exact A133.size
  have G149 := G127.trans W140.gr
  have B150 := B128.gr W140.gr
  have B151 := B129.gr W140.gr
  have B152 := B130.gr W140.gr
  have B153 := B131.gr W140.gr
  have B154 := W119.bk.gr W140.gr
  have A155 := A132.trans W140.gr
  have A156 := A133.trans W140.gr
  refine sv n137.ok rfl (wn _ rfl) rfl (o_bd (cells := #[.slice none 0 0, .slice (some ⟨b138, 0, none⟩) 1 1]) (vs := [(1, .slice (some ⟨b138, 0, none⟩) 1 1)]) (by simp [n137.at_, ev_const]) (by kernel_rfl)) (fun an157 n157 => ?_)
  have e158 := n157.ne rfl (n137.ne rfl (n135.ne rfl n134.at_))
  refine sc n157.ok rfl (wn _ rfl) rfl (o_f2 Try.func23 rfl rfl rfl e158 n157.at_) (by have h := ((join_ok _ _ [1] [] [] [(0, 2)] w139 (knR_vec1 B154) (knR_more1 W140.bk) ok1 ok2 (by simp) (by simp)).mono fun e w' h => And.intro (frmK.one h.1) h.2); rw [form_12.1, form_12.2.1, form_12.2.2] at h; exact h) ?_
  rintro _ w160 ⟨⟨k, rfl, hkz⟩, g161⟩
  obtain ⟨vaz, vcz, maz, mcz, rfl⟩ := hkz.form
  have hrz := hkz.rd
  refine ⟨_, rfl, fun an159 n159 => ?_⟩
  have G162 := G149.trans g161
  have B163 := B150.gr g161
  have B164 := B151.gr g161
  have B165 := B152.gr g161
  have B166 := B153.gr g161
  have B167 := B154.gr g161
  have B168 := W140.bk.gr g161
  have A169 := A155.trans g161
  have A170 := A156.trans g161
  have A172 := Gr.refl w160
  refine sv n159.ok rfl (wn _ rfl) rfl (o_mv n159.at_) (fun an173 n173 => ?_)
  refine sv n173.ok rfl (wn _ rfl) rfl (o_ex n173.at_ rfl) (fun an174 n174 => ?_)
  refine sv n174.ok rfl (wn _ rfl) rfl (o_ex (n174.ne rfl n173.at_) rfl) (fun an175 n175 => ?_)
  refine sal (cs := #[.slice none 0 0, .slice none 0 0]) n175.ok rfl (wn _ rfl) rfl (o_al (z := .agg #[.slice none 0 0, .slice none 0 0]) (by kernel_rfl)) (fun an176 w178 b177 W179 n176 => ?_)
  have l180 : b3 < b177 := by rw [W179.eq]; exact B163.lt
  have l181 : b9 < b177 := by rw [W179.eq]; exact B164.lt
  have l182 : b32 < b177 := by rw [W179.eq]; exact B165.lt
  have l183 : b69 < b177 := by rw [W179.eq]; exact B166.lt
  have l184 : b117 < b177 := by rw [W179.eq]; exact B167.lt
  have l185 : b138 < b177 := by rw [W179.eq]; exact B168.lt
  have l186 : w.heap.size ≤ b177 := by rw [W179.eq]; exact G162.size
  have l187 : w21.heap.size ≤ b177 := by rw [W179.eq]; exact A169.size
  have l188 : w56.heap.size ≤ b177 := by rw [W179.eq]; exact A170.size
  have l189 : w160.heap.size ≤ b177 := by rw [W179.eq]; exact A172.size
  have G190 := G162.trans W179.gr
  have B191 := B163.gr W179.gr
  have B192 := B164.gr W179.gr
  have B193 := B165.gr W179.gr
  have B194 := B166.gr W179.gr
  have B195 := B167.gr W179.gr
  have B196 := B168.gr W179.gr
  have A197 := A169.trans W179.gr
  have A198 := A170.trans W179.gr
  have A199 := A172.trans W179.gr
  refine ssR rfl (wn _ rfl) (o_stR n176.at_ (n176.ne rfl (n175.ne rfl n174.at_)) W179.bk (by kernel_rfl) rfl (by simp [Value.oneCell'])) W179.bk (fun w200 u201 u201b => ?_)
  have G202 : Gr w w200 := Below.upd G190 l186 u201
  have B203 := B191.upd u201 (Nat.ne_of_lt l180)
  have B204 := B192.upd u201 (Nat.ne_of_lt l181)
  have B205 := B193.upd u201 (Nat.ne_of_lt l182)
  have B206 := B194.upd u201 (Nat.ne_of_lt l183)
  have B207 := B195.upd u201 (Nat.ne_of_lt l184)
  have B208 := B196.upd u201 (Nat.ne_of_lt l185)
  have A209 : Gr w21 w200 := Below.upd A197 l187 u201
  have A210 : Gr w56 w200 := Below.upd A198 l188 u201
  have A211 : Gr w160 w200 := Below.upd A199 l189 u201
  refine sv n176.ok rfl (wn _ rfl) rfl (o_as (n176.ne rfl n175.at_)) (fun an212 n212 => ?_)
  refine wpList_nil ?_
  refine th_n (hK114 _ _ ?_)
  refine wp_seq_k (fun K213 hK213 => ?_)
  refine wp_region_lit ?_
  refine sv n212.ok rfl (wn _ rfl) rfl (o_mv n212.at_) (fun an214 n214 => ?_)
  refine sv n214.ok rfl (wn _ rfl) rfl (o_neq (b := false) n214.at_ ev_const (by decide)) (fun an215 n215 => ?_)
  refine sv n215.ok rfl (wn _ rfl) rfl (o_mv n215.at_) (fun an216 n216 => ?_)
  have e217 := n216.ne rfl (n215.ne rfl (n214.ne rfl (n212.ne rfl n176.at_)))
  refine sv n216.ok rfl (wgT rfl (yl 2 false rfl n216.at_) rfl) rfl (o_ldR e217 u201b Try.underlying25 rfl (by kernel_rfl)) (fun an218 n218 => ?_)
  obtain ⟨i219, i219a, i219b, i219c⟩ := info3_of (show (Try.prog.info? 3).map (fun i => (i.zero, i.size)) = some (some (.int .i64 0), 1) by kernel_rfl)
  refine sals (cs := #[.int .i64 2]) n218.ok rfl (wgT rfl (yl 2 false rfl (n218.ne rfl n216.at_)) rfl) rfl (o_bs (vs := [(0, .int .i64 2)]) (by simp [ev_const]) Try.underlying22 i219a i219b (by rw [i219c]; rfl) (by rw [i219c]; rfl) (by rw [i219c]; kernel_rfl)) (fun an220 w222 b221 W223 n220 => ?_)
  have l224 : b3 < b221 := by rw [W223.eq]; exact B203.lt
  have l225 : b9 < b221 := by rw [W223.eq]; exact B204.lt
  have l226 : b32 < b221 := by rw [W223.eq]; exact B205.lt
  have l227 : b69 < b221 := by rw [W223.eq]; exact B206.lt
  have l228 : b117 < b221 := by rw [W223.eq]; exact B207.lt
  have l229 : b138 < b221 := by rw [W223.eq]; exact B208.lt
  have l230 : b177 < b221 := by rw [W223.eq]; exact u201b.lt
  have l231 : w.heap.size ≤ b221 := by rw [W223.eq]; exact G202.size
  have l232 : w21.heap.size ≤ b221 := by rw [W223.eq]; exact A209.size
  have l233 : w56.heap.size ≤ b221 := by rw [W223.eq]; exact A210.size
  have l234 : w160.heap.size ≤ b221 := by rw [W223.eq]; exact A211.size
  have G235 := G202.trans W223.gr
  have B236 := B203.gr W223.gr
  have B237 := B204.gr W223.gr
  have B238 := B205.gr W223.gr
  have B239 := B206.gr W223.gr
  have B240 := B207.gr W223.gr
  have B241 := B208.gr W223.gr
  have B242 := u201b.gr W223.gr
  have A243 := A209.trans W223.gr
  have A244 := A210.trans W223.gr
  have A245 := A211.trans W223.gr
  refine sv n220.ok rfl (wgT rfl (yl 2 false rfl (n220.ne rfl (n218.ne rfl n216.at_))) rfl) rfl (o_bd (cells := #[.slice (some ⟨b221, 0, none⟩) 1 1, .slice none 0 0]) (vs := [(0, .slice (some ⟨b221, 0, none⟩) 1 1)]) (by simp [n220.at_, ev_const]) (by kernel_rfl)) (fun an246 n246 => ?_)
  have e247 := n246.ne rfl (n220.ne rfl (n218.ne rfl n216.at_))
  refine sc n246.ok rfl (wgT rfl (yl 2 false rfl e247) rfl) rfl (o_f2 Try.func17 rfl rfl rfl (n246.ne rfl (n220.ne rfl n218.at_)) n246.at_) (sameK_t _ _ _ _ w222 (hrz.gr A245) (knR_vec1 W223.bk) (by decide) (by decide)) ?_
  rintro _ w249 ⟨rfl, g250⟩
  refine ⟨_, rfl, fun an248 n248 => ?_⟩
  have G251 := G235.trans g250
  have B252 := B236.gr g250
  have B253 := B237.gr g250
  have B254 := B238.gr g250
  have B255 := B239.gr g250
  have B256 := B240.gr g250
  have B257 := B241.gr g250
  have B258 := B242.gr g250
  have B259 := W223.bk.gr g250
  have A260 := A243.trans g250
  have A261 := A244.trans g250
  have A262 := A245.trans g250
  refine sv n248.ok rfl (wgT rfl (yl 2 false rfl (n248.ne rfl e247)) rfl) rfl (o_not n248.at_ rfl) (fun an263 n263 => ?_)
  refine sv n263.ok rfl (wn _ rfl) rfl (o_pkF (n263.ne rfl (n248.ne rfl e247)) n263.at_) (fun an264 n264 => ?_)
  refine wpList_nil ?_
  refine th_n (hK213 _ _ ?_)
  refine wp_cond_false (n264.at_) ?_
  refine wp_skip ?_
  refine th_n (hK113 _ _ ?_)
  refine wp_seq_k (fun K265 hK265 => ?_)
  refine wp_region_lit ?_
  have e266 := n264.ne rfl (n263.ne rfl (n248.ne rfl (n246.ne rfl (n220.ne rfl (n218.ne rfl (n216.ne rfl (n215.ne rfl (n214.ne rfl (n212.ne rfl (n176.ne rfl (n175.ne rfl (n174.ne rfl (n173.ne rfl (n159.ne rfl (n157.ne rfl (n137.ne rfl (n135.ne rfl (n134.ne rfl (n116.ne rfl (n112.ne rfl (n111.ne rfl (n110.ne rfl (n109.ne rfl (n108.ne rfl (n98.ne rfl (n97.ne rfl (n95.ne rfl e94)))))))))))))))))))))))))))
  refine sv n264.ok rfl (wn _ rfl) rfl (o_ldR e266 B252 Try.underlying25 rfl (by kernel_rfl)) (fun an267 n267 => ?_)
  refine sc n267.ok rfl (wn _ rfl) rfl (o_f1 Try.func13 rfl rfl rfl n267.at_) (by have h := rknow_any _ _ _ w249 (hk1.gr G251); rw [hE1] at h; exact h) ?_
  rintro _ w269 ⟨rfl, g270⟩
  refine ⟨_, rfl, fun an268 n268 => ?_⟩
  have G271 := G251.trans g270
  have B272 := B252.gr g270
  have B273 := B253.gr g270
  have B274 := B254.gr g270
  have B275 := B255.gr g270
  have B276 := B256.gr g270
  have B277 := B257.gr g270
  have B278 := B258.gr g270
  have B279 := B259.gr g270
  have A280 := A260.trans g270
  have A281 := A261.trans g270
  have A282 := A262.trans g270
  refine sv n268.ok rfl (wn _ rfl) rfl (o_as n268.at_) (fun an283 n283 => ?_)
  refine wpList_nil ?_
  refine th_n (hK265 _ _ ?_)
  refine wp_seq_k (fun K284 hK284 => ?_)
  refine wp_seq_k (fun K285 hK285 => ?_)
  refine wp_region_lit ?_
  refine sv n283.ok rfl (wn _ rfl) rfl (o_mv n283.at_) (fun an286 n286 => ?_)
  refine sv n286.ok rfl (wn _ rfl) rfl (o_eq (b := true) n286.at_ ev_const (by decide)) (fun an287 n287 => ?_)
  refine wpList_nil ?_
  refine th_n (hK285 _ _ ?_)
  refine wp_cond_true (n287.at_) ?_
  refine wp_region_lit ?_
  have e288 := n287.ne rfl (n286.ne rfl (n283.ne rfl (n268.ne rfl (n267.ne rfl (n264.ne rfl (n263.ne rfl (n248.ne rfl (n246.ne rfl (n220.ne rfl (n218.ne rfl (n216.ne rfl (n215.ne rfl (n214.ne rfl (n212.ne rfl (n176.ne rfl (n175.ne rfl (n174.ne rfl (n173.ne rfl (n159.ne rfl (n157.ne rfl (n137.ne rfl (n135.ne rfl (n134.ne rfl (n116.ne rfl (n112.ne rfl (n111.ne rfl (n110.ne rfl (n109.ne rfl (n108.ne rfl (n98.ne rfl (n97.ne rfl e96)))))))))))))))))))))))))))))))
  refine sv n287.ok rfl (wn _ rfl) rfl (o_ldR e288 B273 Try.underlying25 rfl (by kernel_rfl)) (fun an289 n289 => ?_)
  refine sc n289.ok rfl (wn _ rfl) rfl (o_f1 Try.func13 rfl rfl rfl n289.at_) (by have h := rknow_any _ _ _ w269 (hk2.gr G271); rw [hE2] at h; exact h) ?_
  rintro _ w291 ⟨rfl, g292⟩
  refine ⟨_, rfl, fun an290 n290 => ?_⟩
  have G293 := G271.trans g292
  have B294 := B272.gr g292
  have B295 := B273.gr g292
  have B296 := B274.gr g292
  have B297 := B275.gr g292
  have B298 := B276.gr g292
  have B299 := B277.gr g292
  have B300 := B278.gr g292
  have B301 := B279.gr g292
  have A302 := A280.trans g292
  have A303 := A281.trans g292
  have A304 := A282.trans g292
  refine sv n290.ok rfl (wn _ rfl) rfl (o_as n290.at_) (fun an305 n305 => ?_)
  refine wpList_nil ?_
  refine th_n (hK284 _ _ ?_)
  refine wp_seq_k (fun K306 hK306 => ?_)
  refine wp_seq_k (fun K307 hK307 => ?_)
  refine wp_region_lit ?_
  refine sv n305.ok rfl (wn _ rfl) rfl (o_mv n305.at_) (fun an308 n308 => ?_)
  refine sv n308.ok rfl (wn _ rfl) rfl (o_neq (b := false) n308.at_ ev_const (by decide)) (fun an309 n309 => ?_)
  refine wpList_nil ?_
  refine th_n (hK307 _ _ ?_)
  refine wp_cond_false (n309.at_) ?_
  refine wp_skip ?_
  refine th_n (hK306 _ _ ?_)
  refine wp_seq_k (fun K310 hK310 => ?_)
  refine reg_start (N := 140) (m := 6) (by kernel_rfl) (fun R3110 => ?_)
  have e312 := n309.ne rfl (n308.ne rfl (n305.ne rfl (n290.ne rfl (n289.ne rfl (n287.ne rfl (n286.ne rfl (n283.ne rfl (n268.ne rfl (n267.ne rfl e266)))))))))
  have R3111 := R3110.snoc (n' := 1) rfl (fun vJ _ => vJ = .agg #[.slice va ((ints v).length) vc, .slice ma ((pairs m).length) mc]) rfl (fun _ _ _ _ h => h) (fun aS wS pS => by
      exact Does.val (wn _ rfl) (o_ldR ((pS.old 2 rfl).trans e312) (Bk.gr B294 (gr_drew pS.gr)) Try.underlying25 rfl (by kernel_rfl)) (Gr.refl _) rfl rfl)
  have R3112 := R3111.snoc (n' := 2) rfl (fun vJ wJ => ∃ (X1 : Nat → Nat), vJ = .agg (wArr X1) ∧ (OkX X1) ∧ (∀ s q, s < 5 → q < 1024 → dsX X1 s q = memB v m s q)) rfl (fun _ _ _ g ⟨X1, h, q0, q1⟩ => ⟨X1, h, q0, q1⟩) (fun aS wS pS => by
      have eR311_0 : aS.eval (.tmp 91) = .agg #[.slice va ((ints v).length) vc, .slice ma ((pairs m).length) mc] := pS.pre 0 rfl
      exact Does.call (wn _ rfl) (o_f1 Try.func18 rfl rfl rfl (eR311_0)) (rall_any _ v m wS (hk1.gr (G293.trans (gr_drew pS.gr))) ok hl) (by rintro _ w2 ⟨X1, rfl, hX1, hD1, g⟩; exact ⟨_, rfl, g, ⟨X1, rfl, hX1, hD1⟩⟩) rfl)
  have e313 := n309.ne rfl (n308.ne rfl (n305.ne rfl (n290.ne rfl (n289.ne rfl e288))))
  have R3113 := R3112.snoc (n' := 3) rfl (fun vJ _ => vJ = .agg #[.slice vb ((ints v2).length) wc, .slice mb ((pairs m2).length) nc]) rfl (fun _ _ _ _ h => h) (fun aS wS pS => by
      exact Does.val (wn _ rfl) (o_ldR ((pS.old 3 rfl).trans e313) (Bk.gr B295 (gr_drew pS.gr)) Try.underlying25 rfl (by kernel_rfl)) (Gr.refl _) rfl rfl)
  have R3114 := R3113.snoc (n' := 4) rfl (fun vJ wJ => ∃ (X2 : Nat → Nat), vJ = .agg (wArr X2) ∧ (OkX X2) ∧ (∀ s q, s < 5 → q < 1024 → dsX X2 s q = memB v2 m2 s q)) rfl (fun _ _ _ g ⟨X2, h, q0, q1⟩ => ⟨X2, h, q0, q1⟩) (fun aS wS pS => by
      have eR311_2 : aS.eval (.tmp 93) = .agg #[.slice vb ((ints v2).length) wc, .slice mb ((pairs m2).length) nc] := pS.pre 2 rfl
      exact Does.call (wn _ rfl) (o_f1 Try.func18 rfl rfl rfl (eR311_2)) (rall_any _ v2 m2 wS (hk2.gr (G293.trans (gr_drew pS.gr))) ok3 hl2) (by rintro _ w2 ⟨X2, rfl, hX2, hD2, g⟩; exact ⟨_, rfl, g, ⟨X2, rfl, hX2, hD2⟩⟩) rfl)
  have R3115 := R3114.snoc (n' := 5) rfl (fun vJ wJ => ∃ b : Nat, vJ = .pointer (some ⟨b, 0, none⟩) ∧ w291.heap.size ≤ b ∧ Bk wJ b (wArr (fun _ => 0)) 41) rfl (fun _ _ _ g ⟨b, h1, h2, h3⟩ => ⟨b, h1, h2, h3.gr g⟩) (fun aS wS pS => by
      exact Does.alloc (wn _ rfl) (o_al (z := .agg (wArr (fun _ => 0))) dots_zero) ⟨_, rfl, pS.gr.size, (New.mk' _ _ _).bk⟩)
  have R3116 := R3115.snoc (n' := 6) rfl (fun vJ wJ => ∃ b : Nat, vJ = .pointer (some ⟨b, 0, none⟩) ∧ w291.heap.size ≤ b ∧ Bk wJ b (wArr (fun _ => 0)) 41) rfl (fun _ _ _ g ⟨b, h1, h2, h3⟩ => ⟨b, h1, h2, h3.gr g⟩) (fun aS wS pS => by
      exact Does.alloc (wn _ rfl) (o_al (z := .agg (wArr (fun _ => 0))) dots_zero) ⟨_, rfl, pS.gr.size, (New.mk' _ _ _).bk⟩)
  refine R3116.run (k := 2) (L := #[true, true, true, true, true, true, false, false]) (by kernel_rfl) (by kernel_rfl) (by kernel_rfl) n309.ok (by kernel_rfl) (by kernel_rfl) (fun ap317 w318 p317 => ?_)
  have g319 := gr_drew p317.gr
  have G320 := G293.trans g319
  have B321 := B294.gr g319
  have B322 := B295.gr g319
  have B323 := B296.gr g319
  have B324 := B297.gr g319
  have B325 := B298.gr g319
  have B326 := B299.gr g319
  have B327 := B300.gr g319
  have B328 := B301.gr g319
  have A329 := A302.trans g319
  have A330 := A303.trans g319
  have A331 := A304.trans g319
  obtain ⟨X1, ep317_1, hX1, hD1⟩ := p317.js 1 rfl
  have ep317_1 : ap317.eval (.tmp 92) = .agg (wArr X1) := ep317_1
  obtain ⟨X2, ep317_3, hX2, hD2⟩ := p317.js 3 rfl
  have ep317_3 : ap317.eval (.tmp 94) = .agg (wArr X2) := ep317_3
  obtain ⟨b314, ep317_4, geb314, bkb314⟩ := p317.js 4 rfl
  have ep317_4 : ap317.eval (.tmp 14) = .pointer (some ⟨b314, 0, none⟩) := ep317_4
  have l332 : b3 < b314 := Nat.lt_of_lt_of_le B294.lt geb314
  have l333 : b9 < b314 := Nat.lt_of_lt_of_le B295.lt geb314
  have l334 : b32 < b314 := Nat.lt_of_lt_of_le B296.lt geb314
  have l335 : b69 < b314 := Nat.lt_of_lt_of_le B297.lt geb314
  have l336 : b117 < b314 := Nat.lt_of_lt_of_le B298.lt geb314
  have l337 : b138 < b314 := Nat.lt_of_lt_of_le B299.lt geb314
  have l338 : b177 < b314 := Nat.lt_of_lt_of_le B300.lt geb314
  have l339 : b221 < b314 := Nat.lt_of_lt_of_le B301.lt geb314
  have l340 : w.heap.size ≤ b314 := Nat.le_trans G293.size geb314
  have l341 : w21.heap.size ≤ b314 := Nat.le_trans A302.size geb314
  have l342 : w56.heap.size ≤ b314 := Nat.le_trans A303.size geb314
  have l343 : w160.heap.size ≤ b314 := Nat.le_trans A304.size geb314
  obtain ⟨b315, ep317_5, geb315, bkb315⟩ := p317.js 5 rfl
  have ep317_5 : ap317.eval (.tmp 15) = .pointer (some ⟨b315, 0, none⟩) := ep317_5
  have l344 : b3 < b315 := Nat.lt_of_lt_of_le B294.lt geb315
  have l345 : b9 < b315 := Nat.lt_of_lt_of_le B295.lt geb315
  have l346 : b32 < b315 := Nat.lt_of_lt_of_le B296.lt geb315
  have l347 : b69 < b315 := Nat.lt_of_lt_of_le B297.lt geb315
  have l348 : b117 < b315 := Nat.lt_of_lt_of_le B298.lt geb315
  have l349 : b138 < b315 := Nat.lt_of_lt_of_le B299.lt geb315
  have l350 : b177 < b315 := Nat.lt_of_lt_of_le B300.lt geb315
  have l351 : b221 < b315 := Nat.lt_of_lt_of_le B301.lt geb315
  have l352 : w.heap.size ≤ b315 := Nat.le_trans G293.size geb315
  have l353 : w21.heap.size ≤ b315 := Nat.le_trans A302.size geb315
  have l354 : w56.heap.size ≤ b315 := Nat.le_trans A303.size geb315
  have l355 : w160.heap.size ≤ b315 := Nat.le_trans A304.size geb315
  have l356 : b315 ≠ b314 := p317.dis 5 4 _ _ rfl rfl rfl rfl rfl ep317_5 ep317_4
  refine t_stR (i := 6) (by kernel_rfl) rfl rfl (wn _ rfl) (o_stR ep317_4 ep317_1 bkb314 (dots_sz X1) (by rw [wArr_size, wArr_size]) (wArr_one X1)) bkb314 (fun w357 u358 u358b => ?_)
  have G359 : Gr w w357 := Below.upd G320 l340 u358
  have B360 := B321.upd u358 (Nat.ne_of_lt l332)
  have B361 := B322.upd u358 (Nat.ne_of_lt l333)
  have B362 := B323.upd u358 (Nat.ne_of_lt l334)
  have B363 := B324.upd u358 (Nat.ne_of_lt l335)
  have B364 := B325.upd u358 (Nat.ne_of_lt l336)
  have B365 := B326.upd u358 (Nat.ne_of_lt l337)
  have B366 := B327.upd u358 (Nat.ne_of_lt l338)
  have B367 := B328.upd u358 (Nat.ne_of_lt l339)
  have B368 := bkb315.upd u358 l356
  have A369 : Gr w21 w357 := Below.upd A329 l341 u358
  have A370 : Gr w56 w357 := Below.upd A330 l342 u358
  have A371 : Gr w160 w357 := Below.upd A331 l343 u358
  refine t_stR (i := 7) (by kernel_rfl) rfl rfl (wn _ rfl) (o_stR ep317_5 ep317_3 B368 (dots_sz X2) (by rw [wArr_size, wArr_size]) (wArr_one X2)) B368 (fun w372 u373 u373b => ?_)
  have G374 : Gr w w372 := Below.upd G359 l352 u373
  have B375 := B360.upd u373 (Nat.ne_of_lt l344)
  have B376 := B361.upd u373 (Nat.ne_of_lt l345)
  have B377 := B362.upd u373 (Nat.ne_of_lt l346)
  have B378 := B363.upd u373 (Nat.ne_of_lt l347)
  have B379 := B364.upd u373 (Nat.ne_of_lt l348)
  have B380 := B365.upd u373 (Nat.ne_of_lt l349)
  have B381 := B366.upd u373 (Nat.ne_of_lt l350)
  have B382 := B367.upd u373 (Nat.ne_of_lt l351)
  have B383 := u358b.upd u373 (Ne.symm l356)
  have A384 : Gr w21 w372 := Below.upd A369 l353 u373
  have A385 : Gr w56 w372 := Below.upd A370 l354 u373
  have A386 : Gr w160 w372 := Below.upd A371 l355 u373
  refine wpAny_done (by kernel_rfl) ?_ _
  refine th_n (hK310 _ _ ?_)
  refine wp_seq_k (fun K387 hK387 => ?_)
  refine wp_region_lit ?_
  refine sv p317.ok rfl (wn _ rfl) rfl (o_ldR ep317_4 B383 Try.underlying41 rfl (dots_sz X1)) (fun an388 n388 => ?_)
  refine sv n388.ok rfl (wn _ rfl) rfl (o_ldR (n388.ne rfl ep317_5) u373b Try.underlying41 rfl (dots_sz X2)) (fun an389 n389 => ?_)
  refine sc n389.ok rfl (wn _ rfl) rfl (o_f2 Try.func26 rfl rfl rfl (n389.ne rfl n388.at_) n389.at_) (djoin_any X1 X2 hX1 hX2 w372) ?_
  rintro _ w391 ⟨rfl, g392⟩
  refine ⟨_, rfl, fun an390 n390 => ?_⟩
  have G393 := G374.trans g392
  have B394 := B375.gr g392
  have B395 := B376.gr g392
  have B396 := B377.gr g392
  have B397 := B378.gr g392
  have B398 := B379.gr g392
  have B399 := B380.gr g392
  have B400 := B381.gr g392
  have B401 := B382.gr g392
  have B402 := B383.gr g392
  have B403 := u373b.gr g392
  have A404 := A384.trans g392
  have A405 := A385.trans g392
  have A406 := A386.trans g392
  refine sc n390.ok rfl (wn _ rfl) rfl (o_f1 Try.func20 rfl rfl rfl n390.at_) ((rformed_eq (fun i => X1 i ||| X2 i) (hX1.or hX2) _ (or_eqD hD1 hD2) w391).mono fun e w' h => And.intro (frmK.one h.1) h.2) ?_
  rintro _ w408 ⟨⟨k, rfl, hkp⟩, g409⟩
  obtain ⟨vap, vcp, map, mcp, rfl⟩ := hkp.form
  have hrp := hkp.rd
  refine ⟨_, rfl, fun an407 n407 => ?_⟩
  have G410 := G393.trans g409
  have B411 := B394.gr g409
  have B412 := B395.gr g409
  have B413 := B396.gr g409
  have B414 := B397.gr g409
  have B415 := B398.gr g409
  have B416 := B399.gr g409
  have B417 := B400.gr g409
  have B418 := B401.gr g409
  have B419 := B402.gr g409
  have B420 := B403.gr g409
  have A421 := A404.trans g409
  have A422 := A405.trans g409
  have A423 := A406.trans g409
  have A425 := Gr.refl w408
  refine sv n407.ok rfl (wn _ rfl) rfl (o_mv n407.at_) (fun an426 n426 => ?_)
  refine sv n426.ok rfl (wn _ rfl) rfl (o_ex n426.at_ rfl) (fun an427 n427 => ?_)
  refine sv n427.ok rfl (wn _ rfl) rfl (o_ex (n427.ne rfl n426.at_) rfl) (fun an428 n428 => ?_)
  refine sal (cs := #[.slice none 0 0, .slice none 0 0]) n428.ok rfl (wn _ rfl) rfl (o_al (z := .agg #[.slice none 0 0, .slice none 0 0]) (by kernel_rfl)) (fun an429 w431 b430 W432 n429 => ?_)
  have l433 : b3 < b430 := by rw [W432.eq]; exact B411.lt
  have l434 : b9 < b430 := by rw [W432.eq]; exact B412.lt
  have l435 : b32 < b430 := by rw [W432.eq]; exact B413.lt
  have l436 : b69 < b430 := by rw [W432.eq]; exact B414.lt
  have l437 : b117 < b430 := by rw [W432.eq]; exact B415.lt
  have l438 : b138 < b430 := by rw [W432.eq]; exact B416.lt
  have l439 : b177 < b430 := by rw [W432.eq]; exact B417.lt
  have l440 : b221 < b430 := by rw [W432.eq]; exact B418.lt
  have l441 : b314 < b430 := by rw [W432.eq]; exact B419.lt
  have l442 : b315 < b430 := by rw [W432.eq]; exact B420.lt
  have l443 : w.heap.size ≤ b430 := by rw [W432.eq]; exact G410.size
  have l444 : w21.heap.size ≤ b430 := by rw [W432.eq]; exact A421.size
  have l445 : w56.heap.size ≤ b430 := by rw [W432.eq]; exact A422.size
  have l446 : w160.heap.size ≤ b430 := by rw [W432.eq]; exact A423.size
  have l447 : w408.heap.size ≤ b430 := by rw [W432.eq]; exact A425.size
  have G448 := G410.trans W432.gr
  have B449 := B411.gr W432.gr
  have B450 := B412.gr W432.gr
  have B451 := B413.gr W432.gr
  have B452 := B414.gr W432.gr
  have B453 := B415.gr W432.gr
  have B454 := B416.gr W432.gr
  have B455 := B417.gr W432.gr
  have B456 := B418.gr W432.gr
  have B457 := B419.gr W432.gr
  have B458 := B420.gr W432.gr
  have A459 := A421.trans W432.gr
  have A460 := A422.trans W432.gr
  have A461 := A423.trans W432.gr
  have A462 := A425.trans W432.gr
  refine ssR rfl (wn _ rfl) (o_stR n429.at_ (n429.ne rfl (n428.ne rfl n427.at_)) W432.bk (by kernel_rfl) rfl (by simp [Value.oneCell'])) W432.bk (fun w463 u464 u464b => ?_)
  have G465 : Gr w w463 := Below.upd G448 l443 u464
  have B466 := B449.upd u464 (Nat.ne_of_lt l433)
  have B467 := B450.upd u464 (Nat.ne_of_lt l434)
  have B468 := B451.upd u464 (Nat.ne_of_lt l435)
  have B469 := B452.upd u464 (Nat.ne_of_lt l436)
  have B470 := B453.upd u464 (Nat.ne_of_lt l437)
  have B471 := B454.upd u464 (Nat.ne_of_lt l438)
  have B472 := B455.upd u464 (Nat.ne_of_lt l439)
  have B473 := B456.upd u464 (Nat.ne_of_lt l440)
  have B474 := B457.upd u464 (Nat.ne_of_lt l441)
  have B475 := B458.upd u464 (Nat.ne_of_lt l442)
  have A476 : Gr w21 w463 := Below.upd A459 l444 u464
  have A477 : Gr w56 w463 := Below.upd A460 l445 u464
  have A478 : Gr w160 w463 := Below.upd A461 l446 u464
  have A479 : Gr w408 w463 := Below.upd A462 l447 u464
  refine sv n429.ok rfl (wn _ rfl) rfl (o_as (n429.ne rfl n428.at_)) (fun an480 n480 => ?_)
  refine wpList_nil ?_
  refine th_n (hK387 _ _ ?_)
  refine wp_seq_k (fun K481 hK481 => ?_)
  refine wp_region_lit ?_
  have e482 := n480.ne rfl (n429.ne rfl (n428.ne rfl (n427.ne rfl (n426.ne rfl (n407.ne rfl (n390.ne rfl (n389.ne rfl (n388.ne rfl ep317_4))))))))
  refine sv n480.ok rfl (wn _ rfl) rfl (o_ldR e482 B474 Try.underlying41 rfl (dots_sz X1)) (fun an483 n483 => ?_)
  have e484 := n483.ne rfl (n480.ne rfl (n429.ne rfl (n428.ne rfl (n427.ne rfl (n426.ne rfl (n407.ne rfl (n390.ne rfl (n389.ne rfl (n388.ne rfl ep317_5)))))))))
  refine sv n483.ok rfl (wn _ rfl) rfl (o_ldR e484 B475 Try.underlying41 rfl (dots_sz X2)) (fun an485 n485 => ?_)
  refine sc n485.ok rfl (wn _ rfl) rfl (o_f2 Try.func27 rfl rfl rfl (n485.ne rfl n483.at_) n485.at_) (dmeet_any X1 X2 hX1 hX2 w463) ?_
  rintro _ w487 ⟨rfl, g488⟩
  refine ⟨_, rfl, fun an486 n486 => ?_⟩
  have G489 := G465.trans g488
  have B490 := B466.gr g488
  have B491 := B467.gr g488
  have B492 := B468.gr g488
  have B493 := B469.gr g488
  have B494 := B470.gr g488
  have B495 := B471.gr g488
  have B496 := B472.gr g488
  have B497 := B473.gr g488
  have B498 := B474.gr g488
  have B499 := B475.gr g488
  have B500 := u464b.gr g488
  have A501 := A476.trans g488
  have A502 := A477.trans g488
  have A503 := A478.trans g488
  have A504 := A479.trans g488
  refine sc n486.ok rfl (wn _ rfl) rfl (o_f1 Try.func20 rfl rfl rfl n486.at_) ((rformed_eq (fun i => X1 i &&& X2 i) (OkX.and hX2) _ (and_eqD hD1 hD2) w487).mono fun e w' h => And.intro (frmK.one h.1) h.2) ?_
  rintro _ w506 ⟨⟨k, rfl, hkq⟩, g507⟩
  obtain ⟨vaq, vcq, maq, mcq, rfl⟩ := hkq.form
  have hrq := hkq.rd
  refine ⟨_, rfl, fun an505 n505 => ?_⟩
  have G508 := G489.trans g507
  have B509 := B490.gr g507
  have B510 := B491.gr g507
  have B511 := B492.gr g507
  have B512 := B493.gr g507
  have B513 := B494.gr g507
  have B514 := B495.gr g507
  have B515 := B496.gr g507
  have B516 := B497.gr g507
  have B517 := B498.gr g507
  have B518 := B499.gr g507
  have B519 := B500.gr g507
  have A520 := A501.trans g507
  have A521 := A502.trans g507
  have A522 := A503.trans g507
  have A523 := A504.trans g507
  have A525 := Gr.refl w506
  refine sv n505.ok rfl (wn _ rfl) rfl (o_mv n505.at_) (fun an526 n526 => ?_)
  refine sv n526.ok rfl (wn _ rfl) rfl (o_ex n526.at_ rfl) (fun an527 n527 => ?_)
  refine sv n527.ok rfl (wn _ rfl) rfl (o_ex (n527.ne rfl n526.at_) rfl) (fun an528 n528 => ?_)
  refine sal (cs := #[.slice none 0 0, .slice none 0 0]) n528.ok rfl (wn _ rfl) rfl (o_al (z := .agg #[.slice none 0 0, .slice none 0 0]) (by kernel_rfl)) (fun an529 w531 b530 W532 n529 => ?_)
  have l533 : b3 < b530 := by rw [W532.eq]; exact B509.lt
  have l534 : b9 < b530 := by rw [W532.eq]; exact B510.lt
  have l535 : b32 < b530 := by rw [W532.eq]; exact B511.lt
  have l536 : b69 < b530 := by rw [W532.eq]; exact B512.lt
  have l537 : b117 < b530 := by rw [W532.eq]; exact B513.lt
  have l538 : b138 < b530 := by rw [W532.eq]; exact B514.lt
  have l539 : b177 < b530 := by rw [W532.eq]; exact B515.lt
  have l540 : b221 < b530 := by rw [W532.eq]; exact B516.lt
  have l541 : b314 < b530 := by rw [W532.eq]; exact B517.lt
  have l542 : b315 < b530 := by rw [W532.eq]; exact B518.lt
  have l543 : b430 < b530 := by rw [W532.eq]; exact B519.lt
  have l544 : w.heap.size ≤ b530 := by rw [W532.eq]; exact G508.size
  have l545 : w21.heap.size ≤ b530 := by rw [W532.eq]; exact A520.size
  have l546 : w56.heap.size ≤ b530 := by rw [W532.eq]; exact A521.size
  have l547 : w160.heap.size ≤ b530 := by rw [W532.eq]; exact A522.size
  have l548 : w408.heap.size ≤ b530 := by rw [W532.eq]; exact A523.size
  have l549 : w506.heap.size ≤ b530 := by rw [W532.eq]; exact A525.size
  have G550 := G508.trans W532.gr
  have B551 := B509.gr W532.gr
  have B552 := B510.gr W532.gr
  have B553 := B511.gr W532.gr
  have B554 := B512.gr W532.gr
  have B555 := B513.gr W532.gr
  have B556 := B514.gr W532.gr
  have B557 := B515.gr W532.gr
  have B558 := B516.gr W532.gr
  have B559 := B517.gr W532.gr
  have B560 := B518.gr W532.gr
  have B561 := B519.gr W532.gr
  have A562 := A520.trans W532.gr
  have A563 := A521.trans W532.gr
  have A564 := A522.trans W532.gr
  have A565 := A523.trans W532.gr
  have A566 := A525.trans W532.gr
  refine ssR rfl (wn _ rfl) (o_stR n529.at_ (n529.ne rfl (n528.ne rfl n527.at_)) W532.bk (by kernel_rfl) rfl (by simp [Value.oneCell'])) W532.bk (fun w567 u568 u568b => ?_)
  have G569 : Gr w w567 := Below.upd G550 l544 u568
  have B570 := B551.upd u568 (Nat.ne_of_lt l533)
  have B571 := B552.upd u568 (Nat.ne_of_lt l534)
  have B572 := B553.upd u568 (Nat.ne_of_lt l535)
  have B573 := B554.upd u568 (Nat.ne_of_lt l536)
  have B574 := B555.upd u568 (Nat.ne_of_lt l537)
  have B575 := B556.upd u568 (Nat.ne_of_lt l538)
  have B576 := B557.upd u568 (Nat.ne_of_lt l539)
  have B577 := B558.upd u568 (Nat.ne_of_lt l540)
  have B578 := B559.upd u568 (Nat.ne_of_lt l541)
  have B579 := B560.upd u568 (Nat.ne_of_lt l542)
  have B580 := B561.upd u568 (Nat.ne_of_lt l543)
  have A581 : Gr w21 w567 := Below.upd A562 l545 u568
  have A582 : Gr w56 w567 := Below.upd A563 l546 u568
  have A583 : Gr w160 w567 := Below.upd A564 l547 u568
  have A584 : Gr w408 w567 := Below.upd A565 l548 u568
  have A585 : Gr w506 w567 := Below.upd A566 l549 u568
  refine sv n529.ok rfl (wn _ rfl) rfl (o_as (n529.ne rfl n528.at_)) (fun an586 n586 => ?_)
  refine wpList_nil ?_
  refine th_n (hK481 _ _ ?_)
  refine wp_seq_k (fun K587 hK587 => ?_)
  refine reg_start (N := 140) (m := 32) (by kernel_rfl) (fun R5880 => ?_)
  have e589 := n586.ne rfl (n529.ne rfl (n528.ne rfl (n527.ne rfl (n526.ne rfl (n505.ne rfl (n486.ne rfl (n485.ne rfl (n483.ne rfl (n480.ne rfl (n429.ne rfl (n428.ne rfl (n427.ne rfl (n426.ne rfl (n407.ne rfl (n390.ne rfl (n389.ne rfl (n388.ne rfl ((p317.old 6 rfl).trans (n309.ne rfl (n308.ne rfl (n305.ne rfl (n290.ne rfl (n289.ne rfl (n287.ne rfl (n286.ne rfl (n283.ne rfl (n268.ne rfl (n267.ne rfl (n264.ne rfl (n263.ne rfl (n248.ne rfl (n246.ne rfl (n220.ne rfl (n218.ne rfl (n216.ne rfl (n215.ne rfl (n214.ne rfl (n212.ne rfl (n176.ne rfl (n175.ne rfl (n174.ne rfl (n173.ne rfl (n159.ne rfl (n157.ne rfl (n137.ne rfl (n135.ne rfl (n134.ne rfl (n116.ne rfl (n112.ne rfl (n111.ne rfl (n110.ne rfl (n109.ne rfl (n108.ne rfl (n98.ne rfl (n97.ne rfl (n95.ne rfl (n92.ne rfl (n68.ne rfl (n67.ne rfl (n66.ne rfl (n65.ne rfl (n55.ne rfl (n54.ne rfl (n52.ne rfl n49.at_))))))))))))))))))))))))))))))))))))))))))))))))))))))))))))))))
  have R5881 := R5880.snoc (n' := 1) rfl (fun vJ _ => vJ = .int .i64 (frE (orD (memB v m) (memB v2 m2)))) rfl (fun _ _ _ _ h => h) (fun aS wS pS => by
      exact Does.val (wn _ rfl) (o_mv ((pS.old 6 rfl).trans e589)) (Gr.refl _) rfl rfl)
  have e590 := n586.ne rfl (n529.ne rfl (n528.ne rfl (n527.ne rfl (n526.ne rfl (n505.ne rfl (n486.ne rfl (n485.ne rfl (n483.ne rfl n480.at_))))))))
  have R5882 := R5881.snoc (n' := 2) rfl (fun vJ _ => vJ = .int .i64 (frE (orD (memB v m) (memB v2 m2)))) rfl (fun _ _ _ _ h => h) (fun aS wS pS => by
      exact Does.val (wn _ rfl) (o_mv ((pS.old 17 rfl).trans e590)) (Gr.refl _) rfl rfl)
  have R5883 := R5882.snoc (n' := 3) rfl (fun vJ _ => vJ = .bool true) rfl (fun _ _ _ _ h => h) (fun aS wS pS => by
      have eR588_0 : aS.eval (.tmp 109) = .int .i64 (frE (orD (memB v m) (memB v2 m2))) := pS.pre 0 rfl
      have eR588_1 : aS.eval (.tmp 110) = .int .i64 (frE (orD (memB v m) (memB v2 m2))) := pS.pre 1 rfl
      exact Does.val (wn _ rfl) (o_eq (eR588_0) (eR588_1) (decide_eq_true rfl)) (Gr.refl _) rfl rfl)
  have R5884 := R5883.snoc (n' := 4) rfl (fun vJ _ => vJ = .bool true) rfl (fun _ _ _ _ h => h) (fun aS wS pS => by
      have eR588_2 : aS.eval (.tmp 111) = .bool true := pS.pre 2 rfl
      exact Does.val (wn _ rfl) (o_mv (eR588_2)) (Gr.refl _) rfl rfl)
  have e591 := n586.ne rfl (n529.ne rfl (n528.ne rfl (n527.ne rfl (n526.ne rfl (n505.ne rfl (n486.ne rfl (n485.ne rfl (n483.ne rfl (n480.ne rfl (n429.ne rfl (n428.ne rfl (n427.ne rfl (n426.ne rfl (n407.ne rfl (n390.ne rfl (n389.ne rfl (n388.ne rfl ((p317.old 5 rfl).trans (n309.ne rfl (n308.ne rfl (n305.ne rfl (n290.ne rfl (n289.ne rfl (n287.ne rfl (n286.ne rfl (n283.ne rfl (n268.ne rfl (n267.ne rfl (n264.ne rfl (n263.ne rfl (n248.ne rfl (n246.ne rfl (n220.ne rfl (n218.ne rfl (n216.ne rfl (n215.ne rfl (n214.ne rfl (n212.ne rfl (n176.ne rfl (n175.ne rfl (n174.ne rfl (n173.ne rfl (n159.ne rfl (n157.ne rfl (n137.ne rfl (n135.ne rfl (n134.ne rfl (n116.ne rfl (n112.ne rfl (n111.ne rfl (n110.ne rfl (n109.ne rfl (n108.ne rfl (n98.ne rfl (n97.ne rfl (n95.ne rfl (n92.ne rfl (n68.ne rfl (n67.ne rfl (n66.ne rfl (n65.ne rfl (n55.ne rfl (n54.ne rfl (n52.ne rfl (n49.ne rfl n31.at_)))))))))))))))))))))))))))))))))))))))))))))))))))))))))))))))))
  have R5885 := R5884.snoc (n' := 5) rfl (fun vJ _ => vJ = .agg #[.slice vaj ((ints (frV (orD (memB v m) (memB v2 m2)))).length) vcj, .slice maj ((pairs (frM (orD (memB v m) (memB v2 m2)))).length) mcj]) rfl (fun _ _ _ _ h => h) (fun aS wS pS => by
      have eR588_3 : aS.eval (.tmp 112) = .bool true := pS.pre 3 rfl
      exact Does.val (wgT rfl (yl 3 true rfl eR588_3) rfl) (o_ldR ((pS.old 5 rfl).trans e591) (Bk.gr B572 (gr_drew pS.gr)) Try.underlying25 rfl (by kernel_rfl)) (Gr.refl _) rfl rfl)
  have e592 := n586.ne rfl (n529.ne rfl (n528.ne rfl (n527.ne rfl (n526.ne rfl (n505.ne rfl (n486.ne rfl (n485.ne rfl (n483.ne rfl (n480.ne rfl n429.at_)))))))))
  have R5886 := R5885.snoc (n' := 6) rfl (fun vJ _ => vJ = .agg #[.slice vap ((ints (frV (orD (memB v m) (memB v2 m2)))).length) vcp, .slice map ((pairs (frM (orD (memB v m) (memB v2 m2)))).length) mcp]) rfl (fun _ _ _ _ h => h) (fun aS wS pS => by
      have eR588_3 : aS.eval (.tmp 112) = .bool true := pS.pre 3 rfl
      exact Does.val (wgT rfl (yl 3 true rfl eR588_3) rfl) (o_ldR ((pS.old 16 rfl).trans e592) (Bk.gr B580 (gr_drew pS.gr)) Try.underlying25 rfl (by kernel_rfl)) (Gr.refl _) rfl rfl)
  have R5887 := R5886.snoc (n' := 7) rfl (fun vJ _ => vJ = .bool true) rfl (fun _ _ _ _ h => h) (fun aS wS pS => by
      have eR588_3 : aS.eval (.tmp 112) = .bool true := pS.pre 3 rfl
      have eR588_4 : aS.eval (.tmp 113) = .agg #[.slice vaj ((ints (frV (orD (memB v m) (memB v2 m2)))).length) vcj, .slice maj ((pairs (frM (orD (memB v m) (memB v2 m2)))).length) mcj] := pS.pre 4 rfl
      have eR588_5 : aS.eval (.tmp 114) = .agg #[.slice vap ((ints (frV (orD (memB v m) (memB v2 m2)))).length) vcp, .slice map ((pairs (frM (orD (memB v m) (memB v2 m2)))).length) mcp] := pS.pre 5 rfl
      exact Does.call (wgT rfl (yl 3 true rfl eR588_3) rfl) (o_f2 Try.func17 rfl rfl rfl (eR588_4) (eR588_5)) (sameK_t _ _ _ _ wS (hrj.gr (A581.trans (gr_drew pS.gr))) (hrp.gr (A584.trans (gr_drew pS.gr))) (frV_small _) (frM_small _)) (by rintro _ w2 ⟨rfl, g⟩; exact ⟨_, rfl, g, rfl⟩) rfl)
  have R5888 := R5887.snoc (n' := 8) rfl (fun vJ _ => vJ = .bool true) rfl (fun _ _ _ _ h => h) (fun aS wS pS => by
      have eR588_3 : aS.eval (.tmp 112) = .bool true := pS.pre 3 rfl
      have eR588_6 : aS.eval (.tmp 115) = .bool true := pS.pre 6 rfl
      exact Does.val (wn _ rfl) (o_pkT (eR588_3) (eR588_6)) (Gr.refl _) rfl rfl)
  have R5889 := R5888.snoc (n' := 9) rfl (fun vJ _ => vJ = .bool true) rfl (fun _ _ _ _ h => h) (fun aS wS pS => by
      have eR588_7 : aS.eval (.tmp 116) = .bool true := pS.pre 7 rfl
      exact Does.val (wn _ rfl) (o_mv (eR588_7)) (Gr.refl _) rfl rfl)
  have e593 := n586.ne rfl (n529.ne rfl (n528.ne rfl (n527.ne rfl (n526.ne rfl (n505.ne rfl (n486.ne rfl (n485.ne rfl (n483.ne rfl (n480.ne rfl (n429.ne rfl (n428.ne rfl (n427.ne rfl (n426.ne rfl (n407.ne rfl (n390.ne rfl (n389.ne rfl (n388.ne rfl ((p317.old 8 rfl).trans (n309.ne rfl (n308.ne rfl (n305.ne rfl (n290.ne rfl (n289.ne rfl (n287.ne rfl (n286.ne rfl (n283.ne rfl (n268.ne rfl (n267.ne rfl (n264.ne rfl (n263.ne rfl (n248.ne rfl (n246.ne rfl (n220.ne rfl (n218.ne rfl (n216.ne rfl (n215.ne rfl (n214.ne rfl (n212.ne rfl (n176.ne rfl (n175.ne rfl (n174.ne rfl (n173.ne rfl (n159.ne rfl (n157.ne rfl (n137.ne rfl (n135.ne rfl (n134.ne rfl (n116.ne rfl (n112.ne rfl (n111.ne rfl (n110.ne rfl (n109.ne rfl (n108.ne rfl (n98.ne rfl (n97.ne rfl (n95.ne rfl n92.at_))))))))))))))))))))))))))))))))))))))))))))))))))))))))
  have R58810 := R5889.snoc (n' := 10) rfl (fun vJ _ => vJ = .int .i64 (frE (andD (memB v m) (memB v2 m2)))) rfl (fun _ _ _ _ h => h) (fun aS wS pS => by
      have eR588_8 : aS.eval (.tmp 117) = .bool true := pS.pre 8 rfl
      exact Does.val (wgT rfl (yl 8 true rfl eR588_8) rfl) (o_mv ((pS.old 8 rfl).trans e593)) (Gr.refl _) rfl rfl)
  have R58811 := R58810.snoc (n' := 11) rfl (fun vJ _ => vJ = .int .i64 (frE (andD (memB v m) (memB v2 m2)))) rfl (fun _ _ _ _ h => h) (fun aS wS pS => by
      have eR588_8 : aS.eval (.tmp 117) = .bool true := pS.pre 8 rfl
      exact Does.val (wgT rfl (yl 8 true rfl eR588_8) rfl) (o_mv ((pS.old 19 rfl).trans n586.at_)) (Gr.refl _) rfl rfl)
  have R58812 := R58811.snoc (n' := 12) rfl (fun vJ _ => vJ = .bool true) rfl (fun _ _ _ _ h => h) (fun aS wS pS => by
      have eR588_8 : aS.eval (.tmp 117) = .bool true := pS.pre 8 rfl
      have eR588_9 : aS.eval (.tmp 118) = .int .i64 (frE (andD (memB v m) (memB v2 m2))) := pS.pre 9 rfl
      have eR588_10 : aS.eval (.tmp 119) = .int .i64 (frE (andD (memB v m) (memB v2 m2))) := pS.pre 10 rfl
      exact Does.val (wgT rfl (yl 8 true rfl eR588_8) rfl) (o_eq (eR588_9) (eR588_10) (decide_eq_true rfl)) (Gr.refl _) rfl rfl)
  have R58813 := R58812.snoc (n' := 13) rfl (fun vJ _ => vJ = .bool true) rfl (fun _ _ _ _ h => h) (fun aS wS pS => by
      have eR588_8 : aS.eval (.tmp 117) = .bool true := pS.pre 8 rfl
      have eR588_11 : aS.eval (.tmp 120) = .bool true := pS.pre 11 rfl
      exact Does.val (wn _ rfl) (o_pkT (eR588_8) (eR588_11)) (Gr.refl _) rfl rfl)
  have R58814 := R58813.snoc (n' := 14) rfl (fun vJ _ => vJ = .bool true) rfl (fun _ _ _ _ h => h) (fun aS wS pS => by
      have eR588_12 : aS.eval (.tmp 121) = .bool true := pS.pre 12 rfl
      exact Does.val (wn _ rfl) (o_mv (eR588_12)) (Gr.refl _) rfl rfl)
  have e594 := n586.ne rfl (n529.ne rfl (n528.ne rfl (n527.ne rfl (n526.ne rfl (n505.ne rfl (n486.ne rfl (n485.ne rfl (n483.ne rfl (n480.ne rfl (n429.ne rfl (n428.ne rfl (n427.ne rfl (n426.ne rfl (n407.ne rfl (n390.ne rfl (n389.ne rfl (n388.ne rfl ((p317.old 7 rfl).trans (n309.ne rfl (n308.ne rfl (n305.ne rfl (n290.ne rfl (n289.ne rfl (n287.ne rfl (n286.ne rfl (n283.ne rfl (n268.ne rfl (n267.ne rfl (n264.ne rfl (n263.ne rfl (n248.ne rfl (n246.ne rfl (n220.ne rfl (n218.ne rfl (n216.ne rfl (n215.ne rfl (n214.ne rfl (n212.ne rfl (n176.ne rfl (n175.ne rfl (n174.ne rfl (n173.ne rfl (n159.ne rfl (n157.ne rfl (n137.ne rfl (n135.ne rfl (n134.ne rfl (n116.ne rfl (n112.ne rfl (n111.ne rfl (n110.ne rfl (n109.ne rfl (n108.ne rfl (n98.ne rfl (n97.ne rfl (n95.ne rfl (n92.ne rfl n68.at_)))))))))))))))))))))))))))))))))))))))))))))))))))))))))
  have R58815 := R58814.snoc (n' := 15) rfl (fun vJ _ => vJ = .agg #[.slice vam ((ints (frV (andD (memB v m) (memB v2 m2)))).length) vcm, .slice mam ((pairs (frM (andD (memB v m) (memB v2 m2)))).length) mcm]) rfl (fun _ _ _ _ h => h) (fun aS wS pS => by
      have eR588_13 : aS.eval (.tmp 122) = .bool true := pS.pre 13 rfl
      exact Does.val (wgT rfl (yl 13 true rfl eR588_13) rfl) (o_ldR ((pS.old 7 rfl).trans e594) (Bk.gr B573 (gr_drew pS.gr)) Try.underlying25 rfl (by kernel_rfl)) (Gr.refl _) rfl rfl)
  have R58816 := R58815.snoc (n' := 16) rfl (fun vJ _ => vJ = .agg #[.slice vaq ((ints (frV (andD (memB v m) (memB v2 m2)))).length) vcq, .slice maq ((pairs (frM (andD (memB v m) (memB v2 m2)))).length) mcq]) rfl (fun _ _ _ _ h => h) (fun aS wS pS => by
      have eR588_13 : aS.eval (.tmp 122) = .bool true := pS.pre 13 rfl
      exact Does.val (wgT rfl (yl 13 true rfl eR588_13) rfl) (o_ldR ((pS.old 18 rfl).trans (n586.ne rfl n529.at_)) (Bk.gr u568b (gr_drew pS.gr)) Try.underlying25 rfl (by kernel_rfl)) (Gr.refl _) rfl rfl)
  have R58817 := R58816.snoc (n' := 17) rfl (fun vJ _ => vJ = .bool true) rfl (fun _ _ _ _ h => h) (fun aS wS pS => by
      have eR588_13 : aS.eval (.tmp 122) = .bool true := pS.pre 13 rfl
      have eR588_14 : aS.eval (.tmp 123) = .agg #[.slice vam ((ints (frV (andD (memB v m) (memB v2 m2)))).length) vcm, .slice mam ((pairs (frM (andD (memB v m) (memB v2 m2)))).length) mcm] := pS.pre 14 rfl
      have eR588_15 : aS.eval (.tmp 124) = .agg #[.slice vaq ((ints (frV (andD (memB v m) (memB v2 m2)))).length) vcq, .slice maq ((pairs (frM (andD (memB v m) (memB v2 m2)))).length) mcq] := pS.pre 15 rfl
      exact Does.call (wgT rfl (yl 13 true rfl eR588_13) rfl) (o_f2 Try.func17 rfl rfl rfl (eR588_14) (eR588_15)) (sameK_t _ _ _ _ wS (hrm.gr (A582.trans (gr_drew pS.gr))) (hrq.gr (A585.trans (gr_drew pS.gr))) (frV_small _) (frM_small _)) (by rintro _ w2 ⟨rfl, g⟩; exact ⟨_, rfl, g, rfl⟩) rfl)
  have R58818 := R58817.snoc (n' := 18) rfl (fun vJ _ => vJ = .bool true) rfl (fun _ _ _ _ h => h) (fun aS wS pS => by
      have eR588_13 : aS.eval (.tmp 122) = .bool true := pS.pre 13 rfl
      have eR588_16 : aS.eval (.tmp 125) = .bool true := pS.pre 16 rfl
      exact Does.val (wn _ rfl) (o_pkT (eR588_13) (eR588_16)) (Gr.refl _) rfl rfl)
  have R58819 := R58818.snoc (n' := 19) rfl (fun vJ _ => vJ = .bool true) rfl (fun _ _ _ _ h => h) (fun aS wS pS => by
      have eR588_17 : aS.eval (.tmp 126) = .bool true := pS.pre 17 rfl
      exact Does.val (wn _ rfl) (o_mv (eR588_17)) (Gr.refl _) rfl rfl)
  have e595 := n586.ne rfl (n529.ne rfl (n528.ne rfl (n527.ne rfl (n526.ne rfl (n505.ne rfl (n486.ne rfl (n485.ne rfl (n483.ne rfl (n480.ne rfl (n429.ne rfl (n428.ne rfl (n427.ne rfl (n426.ne rfl (n407.ne rfl (n390.ne rfl (n389.ne rfl (n388.ne rfl ((p317.old 10 rfl).trans (n309.ne rfl (n308.ne rfl (n305.ne rfl (n290.ne rfl (n289.ne rfl (n287.ne rfl (n286.ne rfl (n283.ne rfl (n268.ne rfl (n267.ne rfl (n264.ne rfl (n263.ne rfl (n248.ne rfl (n246.ne rfl (n220.ne rfl (n218.ne rfl (n216.ne rfl (n215.ne rfl (n214.ne rfl (n212.ne rfl (n176.ne rfl (n175.ne rfl (n174.ne rfl (n173.ne rfl (n159.ne rfl (n157.ne rfl (n137.ne rfl (n135.ne rfl (n134.ne rfl (n116.ne rfl n112.at_))))))))))))))))))))))))))))))))))))))))))))))))
  have R58820 := R58819.snoc (n' := 20) rfl (fun vJ _ => vJ = .int .i64 0) rfl (fun _ _ _ _ h => h) (fun aS wS pS => by
      have eR588_18 : aS.eval (.tmp 127) = .bool true := pS.pre 18 rfl
      exact Does.val (wgT rfl (yl 18 true rfl eR588_18) rfl) (o_mv ((pS.old 10 rfl).trans e595)) (Gr.refl _) rfl rfl)
  have R58821 := R58820.snoc (n' := 21) rfl (fun vJ _ => vJ = .bool true) rfl (fun _ _ _ _ h => h) (fun aS wS pS => by
      have eR588_18 : aS.eval (.tmp 127) = .bool true := pS.pre 18 rfl
      have eR588_19 : aS.eval (.tmp 128) = .int .i64 0 := pS.pre 19 rfl
      exact Does.val (wgT rfl (yl 18 true rfl eR588_18) rfl) (o_eq (b := true) (eR588_19) ev_const (by decide)) (Gr.refl _) rfl rfl)
  have R58822 := R58821.snoc (n' := 22) rfl (fun vJ _ => vJ = .bool true) rfl (fun _ _ _ _ h => h) (fun aS wS pS => by
      have eR588_18 : aS.eval (.tmp 127) = .bool true := pS.pre 18 rfl
      have eR588_20 : aS.eval (.tmp 129) = .bool true := pS.pre 20 rfl
      exact Does.val (wn _ rfl) (o_pkT (eR588_18) (eR588_20)) (Gr.refl _) rfl rfl)
  have R58823 := R58822.snoc (n' := 23) rfl (fun vJ _ => vJ = .bool true) rfl (fun _ _ _ _ h => h) (fun aS wS pS => by
      have eR588_21 : aS.eval (.tmp 130) = .bool true := pS.pre 21 rfl
      exact Does.val (wn _ rfl) (o_mv (eR588_21)) (Gr.refl _) rfl rfl)
  have e596 := n586.ne rfl (n529.ne rfl (n528.ne rfl (n527.ne rfl (n526.ne rfl (n505.ne rfl (n486.ne rfl (n485.ne rfl (n483.ne rfl (n480.ne rfl (n429.ne rfl (n428.ne rfl (n427.ne rfl (n426.ne rfl (n407.ne rfl (n390.ne rfl (n389.ne rfl (n388.ne rfl ((p317.old 9 rfl).trans (n309.ne rfl (n308.ne rfl (n305.ne rfl (n290.ne rfl (n289.ne rfl (n287.ne rfl (n286.ne rfl (n283.ne rfl (n268.ne rfl (n267.ne rfl (n264.ne rfl (n263.ne rfl (n248.ne rfl (n246.ne rfl (n220.ne rfl (n218.ne rfl (n216.ne rfl (n215.ne rfl (n214.ne rfl (n212.ne rfl (n176.ne rfl (n175.ne rfl (n174.ne rfl (n173.ne rfl (n159.ne rfl (n157.ne rfl (n137.ne rfl (n135.ne rfl (n134.ne rfl (n116.ne rfl (n112.ne rfl n111.at_)))))))))))))))))))))))))))))))))))))))))))))))))
  have R58824 := R58823.snoc (n' := 24) rfl (fun vJ _ => vJ = .bool (withB v v2 m m2)) rfl (fun _ _ _ _ h => h) (fun aS wS pS => by
      have eR588_22 : aS.eval (.tmp 131) = .bool true := pS.pre 22 rfl
      exact Does.val (wgT rfl (yl 22 true rfl eR588_22) rfl) (o_mv ((pS.old 9 rfl).trans e596)) (Gr.refl _) rfl rfl)
  have e597 := n586.ne rfl (n529.ne rfl (n528.ne rfl (n527.ne rfl (n526.ne rfl (n505.ne rfl (n486.ne rfl (n485.ne rfl (n483.ne rfl e482))))))))
  have R58825 := R58824.snoc (n' := 25) rfl (fun vJ _ => vJ = .agg (wArr X1)) rfl (fun _ _ _ _ h => h) (fun aS wS pS => by
      have eR588_22 : aS.eval (.tmp 131) = .bool true := pS.pre 22 rfl
      exact Does.val (wgT rfl (yl 22 true rfl eR588_22) rfl) (o_ldR ((pS.old 14 rfl).trans e597) (Bk.gr B578 (gr_drew pS.gr)) Try.underlying41 rfl (dots_sz X1)) (Gr.refl _) rfl rfl)
  have e598 := n586.ne rfl (n529.ne rfl (n528.ne rfl (n527.ne rfl (n526.ne rfl (n505.ne rfl (n486.ne rfl (n485.ne rfl e484)))))))
  have R58826 := R58825.snoc (n' := 26) rfl (fun vJ _ => vJ = .agg (wArr X2)) rfl (fun _ _ _ _ h => h) (fun aS wS pS => by
      have eR588_22 : aS.eval (.tmp 131) = .bool true := pS.pre 22 rfl
      exact Does.val (wgT rfl (yl 22 true rfl eR588_22) rfl) (o_ldR ((pS.old 15 rfl).trans e598) (Bk.gr B579 (gr_drew pS.gr)) Try.underlying41 rfl (dots_sz X2)) (Gr.refl _) rfl rfl)
  have R58827 := R58826.snoc (n' := 27) rfl (fun vJ _ => vJ = .agg (wArr (fun i => X1 i ||| X2 i))) rfl (fun _ _ _ _ h => h) (fun aS wS pS => by
      have eR588_22 : aS.eval (.tmp 131) = .bool true := pS.pre 22 rfl
      have eR588_24 : aS.eval (.tmp 133) = .agg (wArr X1) := pS.pre 24 rfl
      have eR588_25 : aS.eval (.tmp 134) = .agg (wArr X2) := pS.pre 25 rfl
      exact Does.call (wgT rfl (yl 22 true rfl eR588_22) rfl) (o_f2 Try.func26 rfl rfl rfl (eR588_24) (eR588_25)) (djoin_any X1 X2 hX1 hX2 wS) (by rintro _ w2 ⟨rfl, g⟩; exact ⟨_, rfl, g, rfl⟩) rfl)
  have R58828 := R58827.snoc (n' := 28) rfl (fun vJ _ => vJ = .agg (wArr X2)) rfl (fun _ _ _ _ h => h) (fun aS wS pS => by
      have eR588_22 : aS.eval (.tmp 131) = .bool true := pS.pre 22 rfl
      exact Does.val (wgT rfl (yl 22 true rfl eR588_22) rfl) (o_ldR ((pS.old 15 rfl).trans e598) (Bk.gr B579 (gr_drew pS.gr)) Try.underlying41 rfl (dots_sz X2)) (Gr.refl _) rfl rfl)
  have R58829 := R58828.snoc (n' := 29) rfl (fun vJ _ => vJ = .bool (withB v v2 m m2)) rfl (fun _ _ _ _ h => h) (fun aS wS pS => by
      have eR588_22 : aS.eval (.tmp 131) = .bool true := pS.pre 22 rfl
      have eR588_26 : aS.eval (.tmp 135) = .agg (wArr (fun i => X1 i ||| X2 i)) := pS.pre 26 rfl
      have eR588_27 : aS.eval (.tmp 136) = .agg (wArr X2) := pS.pre 27 rfl
      exact Does.val (wgT rfl (yl 22 true rfl eR588_22) rfl) (o_eqDots (eR588_26) (eR588_27) (within_eqX hX1 hX2 ok ok3 hD1 hD2)) (Gr.refl _) rfl rfl)
  have R58830 := R58829.snoc (n' := 30) rfl (fun vJ _ => vJ = .bool true) rfl (fun _ _ _ _ h => h) (fun aS wS pS => by
      have eR588_22 : aS.eval (.tmp 131) = .bool true := pS.pre 22 rfl
      have eR588_23 : aS.eval (.tmp 132) = .bool (withB v v2 m m2) := pS.pre 23 rfl
      have eR588_28 : aS.eval (.tmp 137) = .bool (withB v v2 m m2) := pS.pre 28 rfl
      exact Does.val (wgT rfl (yl 22 true rfl eR588_22) rfl) (o_eqB (b := true) (eR588_23) (eR588_28) (by simp) Try.underlying4) (Gr.refl _) rfl rfl)
  have R58831 := R58830.snoc (n' := 31) rfl (fun vJ _ => vJ = .bool true) rfl (fun _ _ _ _ h => h) (fun aS wS pS => by
      have eR588_22 : aS.eval (.tmp 131) = .bool true := pS.pre 22 rfl
      have eR588_29 : aS.eval (.tmp 138) = .bool true := pS.pre 29 rfl
      exact Does.val (wn _ rfl) (o_pkT (eR588_22) (eR588_29)) (Gr.refl _) rfl rfl)
  have R58832 := R58831.snoc (n' := 32) rfl (fun vJ _ => vJ = .bool true) rfl (fun _ _ _ _ h => h) (fun aS wS pS => by
      have eR588_30 : aS.eval (.tmp 139) = .bool true := pS.pre 30 rfl
      exact Does.val (wn _ rfl) (o_as (eR588_30)) (Gr.refl _) rfl rfl)
  refine R58832.run (k := 0) (L := #[true, true, true, true, true, true, true, true, true, true, true, true, true, true, true, true, true, true, true, true, true, true, true, true, true, true, true, true, true, true, true, true]) (by kernel_rfl) (by kernel_rfl) (by kernel_rfl) n586.ok (by kernel_rfl) (by kernel_rfl) (fun ap600 w601 p600 => ?_)
  have g602 := gr_drew p600.gr
  have G603 := G569.trans g602
  have B604 := B570.gr g602
  have B605 := B571.gr g602
  have B606 := B572.gr g602
  have B607 := B573.gr g602
  have B608 := B574.gr g602
  have B609 := B575.gr g602
  have B610 := B576.gr g602
  have B611 := B577.gr g602
  have B612 := B578.gr g602
  have B613 := B579.gr g602
  have B614 := B580.gr g602
  have B615 := u568b.gr g602
  have A616 := A581.trans g602
  have A617 := A582.trans g602
  have A618 := A583.trans g602
  have A619 := A584.trans g602
  have A620 := A585.trans g602
  refine wpAny_done (by kernel_rfl) ?_ _
  refine th_n (hK587 _ _ ?_)
  refine wp_ret ?_
  have ep600_31 : ap600.eval (.tmp 4) = .bool true := p600.js 31 rfl
  exact ret1 p600.ok rfl (ep600_31) ⟨rfl, G603⟩
theorem knowSets_walk (k k2 : Value) (V V2 : List Int) (M M2 : List (Int × Int)) (w : World) (hk1 : KnR w k V M) (hk2 : KnR w k2 V2 M2) : Calls Try.prog 4 #[k, k2] w fun e w' => e = .returned (.bool true) ∧ Gr w w' := by
  obtain ⟨va, vc, ma, mc, rfl, -, -⟩ := knr_form hk1
  obtain ⟨vb, wc, mb, nc, rfl, -, -⟩ := knr_form hk2
  by_cases h1 : chkK V M = 0
  · by_cases h2 : chkK V2 M2 = 0
    · obtain ⟨v, m, rfl, rfl, ok, hl⟩ := chkK_zero h1
      obtain ⟨v2, m2, rfl, rfl, ok3, hl2⟩ := chkK_zero h2
      exact knowSets_ok va ma vb mb vc mc wc nc v v2 m m2 ok ok3 hl hl2 h1 h2 w hk1 hk2
    · exact knowSets_bad2 va ma vb mb vc mc wc nc V V2 M M2 (by rw [chk2_2 h1]; exact h2) h1 w hk1 hk2
  · exact knowSets_bad1 va ma vb mb vc mc wc nc V V2 M M2 (by rw [chk2_1 h1]; exact h1) h1 w hk1 hk2
end Go.Proofs.Ytgmoedjdfjloiaa
