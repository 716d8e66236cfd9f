/- The walk of KnowDots. -/
import Derived.Test.YtgmoedjdfjloiaaKmH
set_option linter.unusedVariables false
set_option linter.unusedSimpArgs false
namespace Go.Proofs.Ytgmoedjdfjloiaa
open Go.RowKit Rm Gx
set_option maxHeartbeats 8000000 in
set_option maxRecDepth 100000 in
theorem knowDots_w (v1 v2 : Value) (L1 L2 : List (List Int)) (x y : Int) (a b : Bool) (ha : hasD (setD L1) x y = a) (hb : hasD (setD L2) x y = b) (w : World) (h1 : RdLL w v1 L1) (h2 : RdLL w v2 L2) :
    Calls Try.prog 9 #[v1, v2, .agg #[.int .i64 (x), .int .i64 (y)]] w fun e w' => e = .returned (.bool true) ∧ Gr w w' := by
  refine enter (N := 161) Try.func9 rfl rfl rfl (fun a0 ok0 h0 => ?_)
  have e0_0 : a0.eval (.tmp 0) = v1 := h0 0 _ rfl
  have e0_1 : a0.eval (.tmp 1) = v2 := h0 1 _ rfl
  have e0_2 : a0.eval (.tmp 2) = .agg #[.int .i64 (x), .int .i64 (y)] := h0 2 _ rfl
  clear h0
  have G0 := Gr.refl w
  have ok1 : OkV [0, 3] [] := ⟨by simp, by simp, by simp, by simp, by simp⟩
  refine wp_seq_k (fun K1 hK1 => ?_)
  refine wp_region_lit ?_
  refine sal (cs := #[.int .i64 (x), .int .i64 (y)]) ok0 rfl (wn _ rfl) rfl (o_box e0_2) (fun an2 w4 b3 W5 n2 => ?_)
  have l6 : w.heap.size ≤ b3 := by rw [W5.eq]; exact G0.size
  have G7 := G0.trans W5.gr
  refine sv n2.ok rfl (wn _ rfl) rfl (o_as ev_const) (fun an8 n8 => ?_)
  refine wpList_nil ?_
  refine th_n (hK1 _ _ ?_)
  refine wp_seq_k (fun K9 hK9 => ?_)
  refine wp_seq_k (fun K10 hK10 => ?_)
  refine wp_region_lit ?_
  obtain ⟨i11, i11a, i11b, i11c⟩ := info3_of (show (Try.prog.info? 3).map (fun i => (i.zero, i.size)) = some (some (.int .i64 0), 1) by kernel_rfl)
  refine sals (cs := #[.int .i64 0, .int .i64 3]) n8.ok rfl (wn _ rfl) rfl (o_bs (vs := [(0, .int .i64 0), (1, .int .i64 3)]) (by simp [ev_const]) Try.underlying22 i11a i11b (by rw [i11c]; rfl) (by rw [i11c]; rfl) (by rw [i11c]; kernel_rfl)) (fun an12 w14 b13 W15 n12 => ?_)
  have l16 : b3 < b13 := by rw [W15.eq]; exact W5.bk.lt
  have l17 : w.heap.size ≤ b13 := by rw [W15.eq]; exact G7.size
  have G18 := G7.trans W15.gr
  have B19 := W5.bk.gr W15.gr
  refine sv n12.ok rfl (wn _ rfl) rfl (o_bd (cells := #[.slice (some ⟨b13, 0, none⟩) 2 2, .slice none 0 0]) (vs := [(0, .slice (some ⟨b13, 0, none⟩) 2 2)]) (by simp [n12.at_, ev_const]) (by kernel_rfl)) (fun an20 n20 => ?_)
  refine sv n20.ok rfl (wn _ rfl) rfl (o_bd (cells := #[.int .i64 1, .int .i64 3]) (vs := [(0, .int .i64 1), (1, .int .i64 3)]) (by simp [ev_const]) (by kernel_rfl)) (fun an21 n21 => ?_)
  refine sc n21.ok rfl (wn _ rfl) rfl (o_f2 Try.func10 rfl rfl rfl (n21.ne rfl n20.at_) n21.at_) (by have h := (hasf_ok _ [0, 3] [] 1 3 w14 (knR_vec2 W15.bk) ok1 (by simp) ⟨by omega, by omega, by omega⟩); rw [show memB [0, 3] [] 1 3 = true by decide] at h; exact h) ?_
  rintro _ w23 ⟨rfl, g24⟩
  refine ⟨_, rfl, fun an22 n22 => ?_⟩
  have G25 := G18.trans g24
  have B26 := B19.gr g24
  have B27 := W15.bk.gr g24
  refine sv n22.ok rfl (wn _ rfl) rfl (o_mv n22.at_) (fun an28 n28 => ?_)
  refine sv n28.ok rfl (wn _ rfl) rfl (o_ex n28.at_ rfl) (fun an29 n29 => ?_)
  refine sv n29.ok rfl (wn _ rfl) rfl (o_ex (n29.ne rfl n28.at_) rfl) (fun an30 n30 => ?_)
  refine sv n30.ok rfl (wn _ rfl) rfl (o_as (n30.ne rfl n29.at_)) (fun an31 n31 => ?_)
  refine sv n31.ok rfl (wn _ rfl) rfl (o_as (n31.ne rfl n30.at_)) (fun an32 n32 => ?_)
  refine wpList_nil ?_
  refine th_n (hK10 _ _ ?_)
  refine wp_seq_k (fun K33 hK33 => ?_)
  refine wp_region_lit ?_
  refine sv n32.ok rfl (wn _ rfl) rfl (o_mv n32.at_) (fun an34 n34 => ?_)
  refine sv n34.ok rfl (wn _ rfl) rfl (o_neq (b := false) n34.at_ ev_const (by decide)) (fun an35 n35 => ?_)
  refine sv n35.ok rfl (wn _ rfl) rfl (o_mv n35.at_) (fun an36 n36 => ?_)
  have e37 := n36.ne rfl (n35.ne rfl (n34.ne rfl (n32.ne rfl n31.at_)))
  refine sv n36.ok rfl (wgT rfl (yl 2 false rfl n36.at_) rfl) rfl (o_mv e37) (fun an38 n38 => ?_)
  refine sv n38.ok rfl (wgT rfl (yl 2 false rfl (n38.ne rfl n36.at_)) rfl) rfl (o_not n38.at_ rfl) (fun an39 n39 => ?_)
  refine sv n39.ok rfl (wn _ rfl) rfl (o_pkF (n39.ne rfl (n38.ne rfl n36.at_)) n39.at_) (fun an40 n40 => ?_)
  refine wpList_nil ?_
  refine th_n (hK33 _ _ ?_)
  refine wp_cond_false (n40.at_) ?_
  refine wp_skip ?_
  refine th_n (hK9 _ _ ?_)
  refine wp_seq_k (fun K41 hK41 => ?_)
  refine wp_region_lit ?_
  have e42 := n40.ne rfl (n39.ne rfl (n38.ne rfl (n36.ne rfl (n35.ne rfl (n34.ne rfl (n32.ne rfl (n31.ne rfl (n30.ne rfl (n29.ne rfl (n28.ne rfl (n22.ne rfl (n21.ne rfl (n20.ne rfl (n12.ne rfl (n8.ne rfl (n2.ne rfl e0_0))))))))))))))))
  refine sv n40.ok rfl (wn _ rfl) rfl (o_mv e42) (fun an43 n43 => ?_)
  refine sc n43.ok rfl (wn _ rfl) rfl (o_f1 Try.func29 rfl rfl rfl n43.at_) (setK v1 L1 w23 (h1.gr G25)) ?_
  rintro _ w45 ⟨kq1, rfl, hkq1, g46⟩
  obtain ⟨vaq1, vcq1, maq1, mcq1, rfl⟩ := hkq1.form
  refine ⟨_, rfl, fun an44 n44 => ?_⟩
  have G47 := G25.trans g46
  have B48 := B26.gr g46
  have B49 := B27.gr g46
  have A51 := Gr.refl w45
  have e52 := n44.ne rfl (n43.ne rfl (n40.ne rfl (n39.ne rfl (n38.ne rfl (n36.ne rfl (n35.ne rfl (n34.ne rfl (n32.ne rfl (n31.ne rfl (n30.ne rfl (n29.ne rfl (n28.ne rfl (n22.ne rfl (n21.ne rfl (n20.ne rfl (n12.ne rfl (n8.ne rfl (n2.ne rfl e0_1))))))))))))))))))
  refine sv n44.ok rfl (wn _ rfl) rfl (o_mv e52) (fun an53 n53 => ?_)
  refine sc n53.ok rfl (wn _ rfl) rfl (o_f1 Try.func29 rfl rfl rfl n53.at_) (setK v2 L2 w45 (h2.gr G47)) ?_
  rintro _ w55 ⟨kq2, rfl, hkq2, g56⟩
  obtain ⟨vaq2, vcq2, maq2, mcq2, rfl⟩ := hkq2.form
  refine ⟨_, rfl, fun an54 n54 => ?_⟩
  have G57 := G47.trans g56
  have B58 := B48.gr g56
  have B59 := B49.gr g56
  have A60 := A51.trans g56
  have A62 := Gr.refl w55
  refine sal (cs := #[.slice none 0 0, .slice none 0 0]) n54.ok rfl (wn _ rfl) rfl (o_al (z := .agg #[.slice none 0 0, .slice none 0 0]) (by kernel_rfl)) (fun an63 w65 b64 W66 n63 => ?_)
  have l67 : b3 < b64 := by rw [W66.eq]; exact B58.lt
  have l68 : b13 < b64 := by rw [W66.eq]; exact B59.lt
  have l69 : w.heap.size ≤ b64 := by rw [W66.eq]; exact G57.size
  have l70 : w45.heap.size ≤ b64 := by rw [W66.eq]; exact A60.size
  have l71 : w55.heap.size ≤ b64 := by rw [W66.eq]; exact A62.size
  have G72 := G57.trans W66.gr
  have B73 := B58.gr W66.gr
  have B74 := B59.gr W66.gr
  have A75 := A60.trans W66.gr
  have A76 := A62.trans W66.gr
  refine sal (cs := #[.slice none 0 0, .slice none 0 0]) n63.ok rfl (wn _ rfl) rfl (o_al (z := .agg #[.slice none 0 0, .slice none 0 0]) (by kernel_rfl)) (fun an77 w79 b78 W80 n77 => ?_)
  have l81 : b3 < b78 := by rw [W80.eq]; exact B73.lt
  have l82 : b13 < b78 := by rw [W80.eq]; exact B74.lt
  have l83 : b64 < b78 := by rw [W80.eq]; exact W66.bk.lt
  have l84 : w.heap.size ≤ b78 := by rw [W80.eq]; exact G72.size
  have l85 : w45.heap.size ≤ b78 := by rw [W80.eq]; exact A75.size
  have l86 : w55.heap.size ≤ b78 := by rw [W80.eq]; exact A76.size
  have G87 := G72.trans W80.gr
  have B88 := B73.gr W80.gr
  have B89 := B74.gr W80.gr
  have B90 := W66.bk.gr W80.gr
  have A91 := A75.trans W80.gr
  have A92 := A76.trans W80.gr
  have e93 := n77.ne rfl (n63.ne rfl (n54.ne rfl (n53.ne rfl n44.at_)))
  refine ssR rfl (wn _ rfl) (o_stR (n77.ne rfl n63.at_) e93 B90 (by kernel_rfl) rfl (by simp [Value.oneCell'])) B90 (fun w94 u95 u95b => ?_)
  have G96 : Gr w w94 := Below.upd G87 l69 u95
  have B97 := B88.upd u95 (Nat.ne_of_lt l67)
  have B98 := B89.upd u95 (Nat.ne_of_lt l68)
  have B99 := W80.bk.upd u95 (Nat.ne_of_gt l83)
  have A100 : Gr w45 w94 := Below.upd A91 l70 u95
  have A101 : Gr w55 w94 := Below.upd A92 l71 u95
  refine ssR rfl (wn _ rfl) (o_stR n77.at_ (n77.ne rfl (n63.ne rfl n54.at_)) B99 (by kernel_rfl) rfl (by simp [Value.oneCell'])) B99 (fun w102 u103 u103b => ?_)
  have G104 : Gr w w102 := Below.upd G96 l84 u103
  have B105 := B97.upd u103 (Nat.ne_of_lt l81)
  have B106 := B98.upd u103 (Nat.ne_of_lt l82)
  have B107 := u95b.upd u103 (Nat.ne_of_lt l83)
  have A108 : Gr w45 w102 := Below.upd A100 l85 u103
  have A109 : Gr w55 w102 := Below.upd A101 l86 u103
  refine wpList_nil ?_
  refine th_n (hK41 _ _ ?_)
  refine wp_seq_k (fun K110 hK110 => ?_)
  refine wp_region_lit ?_
  refine sv n77.ok rfl (wn _ rfl) rfl (o_ldR (n77.ne rfl n63.at_) B107 Try.underlying25 rfl (by kernel_rfl)) (fun an111 n111 => ?_)
  refine sv n111.ok rfl (wn _ rfl) rfl (o_ldR (n111.ne rfl n77.at_) u103b Try.underlying25 rfl (by kernel_rfl)) (fun an112 n112 => ?_)
  refine sc n112.ok rfl (wn _ rfl) rfl (o_f2 Try.func23 rfl rfl rfl (n112.ne rfl n111.at_) n112.at_) (sjoin _ _ _ _ w102 (hkq1.gr A108) (hkq2.gr A109) (Sm.set L1) (Sm.set L2)) ?_
  rintro _ w114 ⟨kk1, rfl, hkk1, g115⟩
  obtain ⟨vak1, vck1, mak1, mck1, rfl⟩ := hkk1.form
  refine ⟨_, rfl, fun an113 n113 => ?_⟩
  have G116 := G104.trans g115
  have B117 := B105.gr g115
  have B118 := B106.gr g115
  have B119 := B107.gr g115
  have B120 := u103b.gr g115
  have A121 := A108.trans g115
  have A122 := A109.trans g115
  have A124 := Gr.refl w114
  refine sv n113.ok rfl (wn _ rfl) rfl (o_mv n113.at_) (fun an125 n125 => ?_)
  refine sv n125.ok rfl (wn _ rfl) rfl (o_ex n125.at_ rfl) (fun an126 n126 => ?_)
  refine sv n126.ok rfl (wn _ rfl) rfl (o_ex (n126.ne rfl n125.at_) rfl) (fun an127 n127 => ?_)
  refine sal (cs := #[.slice none 0 0, .slice none 0 0]) n127.ok rfl (wn _ rfl) rfl (o_al (z := .agg #[.slice none 0 0, .slice none 0 0]) (by kernel_rfl)) (fun an128 w130 b129 W131 n128 => ?_)
  have l132 : b3 < b129 := by rw [W131.eq]; exact B117.lt
  have l133 : b13 < b129 := by rw [W131.eq]; exact B118.lt
  have l134 : b64 < b129 := by rw [W131.eq]; exact B119.lt
  have l135 : b78 < b129 := by rw [W131.eq]; exact B120.lt
  have l136 : w.heap.size ≤ b129 := by rw [W131.eq]; exact G116.size
  have l137 : w45.heap.size ≤ b129 := by rw [W131.eq]; exact A121.size
  have l138 : w55.heap.size ≤ b129 := by rw [W131.eq]; exact A122.size
  have l139 : w114.heap.size ≤ b129 := by rw [W131.eq]; exact A124.size
  have G140 := G116.trans W131.gr
  have B141 := B117.gr W131.gr
  have B142 := B118.gr W131.gr
  have B143 := B119.gr W131.gr
  have B144 := B120.gr W131.gr
  have A145 := A121.trans W131.gr
  have A146 := A122.trans W131.gr
  have A147 := A124.trans W131.gr
  refine ssR rfl (wn _ rfl) (o_stR n128.at_ (n128.ne rfl (n127.ne rfl n126.at_)) W131.bk (by kernel_rfl) rfl (by simp [Value.oneCell'])) W131.bk (fun w148 u149 u149b => ?_)
  have G150 : Gr w w148 := Below.upd G140 l136 u149
  have B151 := B141.upd u149 (Nat.ne_of_lt l132)
  have B152 := B142.upd u149 (Nat.ne_of_lt l133)
  have B153 := B143.upd u149 (Nat.ne_of_lt l134)
  have B154 := B144.upd u149 (Nat.ne_of_lt l135)
  have A155 : Gr w45 w148 := Below.upd A145 l137 u149
  have A156 : Gr w55 w148 := Below.upd A146 l138 u149
  have A157 : Gr w114 w148 := Below.upd A147 l139 u149
  refine sv n128.ok rfl (wn _ rfl) rfl (o_as (n128.ne rfl n127.at_)) (fun an158 n158 => ?_)
  refine wpList_nil ?_
  refine th_n (hK110 _ _ ?_)
  refine wp_seq_k (fun K159 hK159 => ?_)
  refine wp_region_lit ?_
  have e160 := n158.ne rfl (n128.ne rfl (n127.ne rfl (n126.ne rfl (n125.ne rfl (n113.ne rfl (n112.ne rfl (n111.ne rfl (n77.ne rfl n63.at_))))))))
  refine sv n158.ok rfl (wn _ rfl) rfl (o_ldR e160 B153 Try.underlying25 rfl (by kernel_rfl)) (fun an161 n161 => ?_)
  have e162 := n161.ne rfl (n158.ne rfl (n128.ne rfl (n127.ne rfl (n126.ne rfl (n125.ne rfl (n113.ne rfl (n112.ne rfl (n111.ne rfl n77.at_))))))))
  refine sv n161.ok rfl (wn _ rfl) rfl (o_ldR e162 B154 Try.underlying25 rfl (by kernel_rfl)) (fun an163 n163 => ?_)
  refine sc n163.ok rfl (wn _ rfl) rfl (o_f2 Try.func24 rfl rfl rfl (n163.ne rfl n161.at_) n163.at_) (smeet _ _ _ _ w148 (hkq1.gr A155) (hkq2.gr A156) (Sm.set L1) (Sm.set L2)) ?_
  rintro _ w165 ⟨kk2, rfl, hkk2, g166⟩
  obtain ⟨vak2, vck2, mak2, mck2, rfl⟩ := hkk2.form
  refine ⟨_, rfl, fun an164 n164 => ?_⟩
  have G167 := G150.trans g166
  have B168 := B151.gr g166
  have B169 := B152.gr g166
  have B170 := B153.gr g166
  have B171 := B154.gr g166
  have B172 := u149b.gr g166
  have A173 := A155.trans g166
  have A174 := A156.trans g166
  have A175 := A157.trans g166
  have A177 := Gr.refl w165
  refine sv n164.ok rfl (wn _ rfl) rfl (o_mv n164.at_) (fun an178 n178 => ?_)
  refine sv n178.ok rfl (wn _ rfl) rfl (o_ex n178.at_ rfl) (fun an179 n179 => ?_)
  refine sv n179.ok rfl (wn _ rfl) rfl (o_ex (n179.ne rfl n178.at_) rfl) (fun an180 n180 => ?_)
  refine sal (cs := #[.slice none 0 0, .slice none 0 0]) n180.ok rfl (wn _ rfl) rfl (o_al (z := .agg #[.slice none 0 0, .slice none 0 0]) (by kernel_rfl)) (fun an181 w183 b182 W184 n181 => ?_)
  have l185 : b3 < b182 := by rw [W184.eq]; exact B168.lt
  have l186 : b13 < b182 := by rw [W184.eq]; exact B169.lt
  have l187 : b64 < b182 := by rw [W184.eq]; exact B170.lt
  have l188 : b78 < b182 := by rw [W184.eq]; exact B171.lt
  have l189 : b129 < b182 := by rw [W184.eq]; exact B172.lt
  have l190 : w.heap.size ≤ b182 := by rw [W184.eq]; exact G167.size
  have l191 : w45.heap.size ≤ b182 := by rw [W184.eq]; exact A173.size
  have l192 : w55.heap.size ≤ b182 := by rw [W184.eq]; exact A174.size
  have l193 : w114.heap.size ≤ b182 := by rw [W184.eq]; exact A175.size
  have l194 : w165.heap.size ≤ b182 := by rw [W184.eq]; exact A177.size
  have G195 := G167.trans W184.gr
  have B196 := B168.gr W184.gr
  have B197 := B169.gr W184.gr
  have B198 := B170.gr W184.gr
  have B199 := B171.gr W184.gr
  have B200 := B172.gr W184.gr
  have A201 := A173.trans W184.gr
  have A202 := A174.trans W184.gr
  have A203 := A175.trans W184.gr
  have A204 := A177.trans W184.gr
  refine ssR rfl (wn _ rfl) (o_stR n181.at_ (n181.ne rfl (n180.ne rfl n179.at_)) W184.bk (by kernel_rfl) rfl (by simp [Value.oneCell'])) W184.bk (fun w205 u206 u206b => ?_)
  have G207 : Gr w w205 := Below.upd G195 l190 u206
  have B208 := B196.upd u206 (Nat.ne_of_lt l185)
  have B209 := B197.upd u206 (Nat.ne_of_lt l186)
  have B210 := B198.upd u206 (Nat.ne_of_lt l187)
  have B211 := B199.upd u206 (Nat.ne_of_lt l188)
  have B212 := B200.upd u206 (Nat.ne_of_lt l189)
  have A213 : Gr w45 w205 := Below.upd A201 l191 u206
  have A214 : Gr w55 w205 := Below.upd A202 l192 u206
  have A215 : Gr w114 w205 := Below.upd A203 l193 u206
  have A216 : Gr w165 w205 := Below.upd A204 l194 u206
  refine sv n181.ok rfl (wn _ rfl) rfl (o_as (n181.ne rfl n180.at_)) (fun an217 n217 => ?_)
  refine wpList_nil ?_
  refine th_n (hK159 _ _ ?_)
  refine wp_seq_k (fun K218 hK218 => ?_)
  refine wp_region_lit ?_
  have e219 := n217.ne rfl (n181.ne rfl (n180.ne rfl (n179.ne rfl (n178.ne rfl (n164.ne rfl (n163.ne rfl (n161.ne rfl e160)))))))
  refine sv n217.ok rfl (wn _ rfl) rfl (o_ldR e219 B210 Try.underlying25 rfl (by kernel_rfl)) (fun an220 n220 => ?_)
  have e221 := n220.ne rfl (n217.ne rfl (n181.ne rfl (n180.ne rfl (n179.ne rfl (n178.ne rfl (n164.ne rfl (n163.ne rfl (n161.ne rfl (n158.ne rfl (n128.ne rfl (n127.ne rfl (n126.ne rfl (n125.ne rfl (n113.ne rfl (n112.ne rfl (n111.ne rfl (n77.ne rfl (n63.ne rfl (n54.ne rfl (n53.ne rfl (n44.ne rfl (n43.ne rfl (n40.ne rfl (n39.ne rfl (n38.ne rfl (n36.ne rfl (n35.ne rfl (n34.ne rfl (n32.ne rfl (n31.ne rfl (n30.ne rfl (n29.ne rfl (n28.ne rfl (n22.ne rfl (n21.ne rfl (n20.ne rfl (n12.ne rfl (n8.ne rfl n2.at_))))))))))))))))))))))))))))))))))))))
  refine sv n220.ok rfl (wn _ rfl) rfl (o_ldR e221 B208 Try.underlying27 rfl (by kernel_rfl)) (fun an222 n222 => ?_)
  refine sc n222.ok rfl (wn _ rfl) rfl (o_f2 Try.func10 rfl rfl rfl (n222.ne rfl n220.at_) n222.at_) (shasB (b := a) _ _ x y w205 (hkq1.gr A213) (Sm.set L1) ha) ?_
  rintro _ w224 ⟨rfl, g225⟩
  refine ⟨_, rfl, fun an223 n223 => ?_⟩
  have G226 := G207.trans g225
  have B227 := B208.gr g225
  have B228 := B209.gr g225
  have B229 := B210.gr g225
  have B230 := B211.gr g225
  have B231 := B212.gr g225
  have B232 := u206b.gr g225
  have A233 := A213.trans g225
  have A234 := A214.trans g225
  have A235 := A215.trans g225
  have A236 := A216.trans g225
  refine sv n223.ok rfl (wn _ rfl) rfl (o_mv n223.at_) (fun an237 n237 => ?_)
  refine sv n237.ok rfl (wn _ rfl) rfl (o_ex n237.at_ rfl) (fun an238 n238 => ?_)
  refine sv n238.ok rfl (wn _ rfl) rfl (o_ex (n238.ne rfl n237.at_) rfl) (fun an239 n239 => ?_)
  refine sv n239.ok rfl (wn _ rfl) rfl (o_as (n239.ne rfl n238.at_)) (fun an240 n240 => ?_)
  refine sv n240.ok rfl (wn _ rfl) rfl (o_as (n240.ne rfl n239.at_)) (fun an241 n241 => ?_)
  refine wpList_nil ?_
  refine th_n (hK218 _ _ ?_)
  refine wp_seq_k (fun K242 hK242 => ?_)
  refine wp_region_lit ?_
  have e243 := n241.ne rfl (n240.ne rfl (n239.ne rfl (n238.ne rfl (n237.ne rfl (n223.ne rfl (n222.ne rfl (n220.ne rfl (n217.ne rfl (n181.ne rfl (n180.ne rfl (n179.ne rfl (n178.ne rfl (n164.ne rfl (n163.ne rfl e162))))))))))))))
  refine sv n241.ok rfl (wn _ rfl) rfl (o_ldR e243 B230 Try.underlying25 rfl (by kernel_rfl)) (fun an244 n244 => ?_)
  have e245 := n244.ne rfl (n241.ne rfl (n240.ne rfl (n239.ne rfl (n238.ne rfl (n237.ne rfl (n223.ne rfl (n222.ne rfl e221)))))))
  refine sv n244.ok rfl (wn _ rfl) rfl (o_ldR e245 B227 Try.underlying27 rfl (by kernel_rfl)) (fun an246 n246 => ?_)
  refine sc n246.ok rfl (wn _ rfl) rfl (o_f2 Try.func10 rfl rfl rfl (n246.ne rfl n244.at_) n246.at_) (shasB (b := b) _ _ x y w224 (hkq2.gr A234) (Sm.set L2) hb) ?_
  rintro _ w248 ⟨rfl, g249⟩
  refine ⟨_, rfl, fun an247 n247 => ?_⟩
  have G250 := G226.trans g249
  have B251 := B227.gr g249
  have B252 := B228.gr g249
  have B253 := B229.gr g249
  have B254 := B230.gr g249
  have B255 := B231.gr g249
  have B256 := B232.gr g249
  have A257 := A233.trans g249
  have A258 := A234.trans g249
  have A259 := A235.trans g249
  have A260 := A236.trans g249
  refine sv n247.ok rfl (wn _ rfl) rfl (o_mv n247.at_) (fun an261 n261 => ?_)
  refine sv n261.ok rfl (wn _ rfl) rfl (o_ex n261.at_ rfl) (fun an262 n262 => ?_)
  refine sv n262.ok rfl (wn _ rfl) rfl (o_ex (n262.ne rfl n261.at_) rfl) (fun an263 n263 => ?_)
  refine sv n263.ok rfl (wn _ rfl) rfl (o_as (n263.ne rfl n262.at_)) (fun an264 n264 => ?_)
  refine sv n264.ok rfl (wn _ rfl) rfl (o_as (n264.ne rfl n263.at_)) (fun an265 n265 => ?_)
  refine wpList_nil ?_
  refine th_n (hK242 _ _ ?_)
  refine wp_seq_k (fun K266 hK266 => ?_)
  refine wp_region_lit ?_
  have e267 := n265.ne rfl (n264.ne rfl (n263.ne rfl (n262.ne rfl (n261.ne rfl (n247.ne rfl (n246.ne rfl (n244.ne rfl (n241.ne rfl (n240.ne rfl (n239.ne rfl (n238.ne rfl (n237.ne rfl (n223.ne rfl (n222.ne rfl (n220.ne rfl (n217.ne rfl (n181.ne rfl (n180.ne rfl (n179.ne rfl (n178.ne rfl (n164.ne rfl (n163.ne rfl (n161.ne rfl (n158.ne rfl n128.at_))))))))))))))))))))))))
  refine sv n265.ok rfl (wn _ rfl) rfl (o_ldR e267 B255 Try.underlying25 rfl (by kernel_rfl)) (fun an268 n268 => ?_)
  have e269 := n268.ne rfl (n265.ne rfl (n264.ne rfl (n263.ne rfl (n262.ne rfl (n261.ne rfl (n247.ne rfl (n246.ne rfl e245)))))))
  refine sv n268.ok rfl (wn _ rfl) rfl (o_ldR e269 B251 Try.underlying27 rfl (by kernel_rfl)) (fun an270 n270 => ?_)
  refine sc n270.ok rfl (wn _ rfl) rfl (o_f2 Try.func10 rfl rfl rfl (n270.ne rfl n268.at_) n270.at_) (shasB (b := (a || b)) _ _ x y w248 (hkk1.gr A259) ((Sm.set L1).or (Sm.set L2)) (by rw [hasD_or, ha, hb])) ?_
  rintro _ w272 ⟨rfl, g273⟩
  refine ⟨_, rfl, fun an271 n271 => ?_⟩
  have G274 := G250.trans g273
  have B275 := B251.gr g273
  have B276 := B252.gr g273
  have B277 := B253.gr g273
  have B278 := B254.gr g273
  have B279 := B255.gr g273
  have B280 := B256.gr g273
  have A281 := A257.trans g273
  have A282 := A258.trans g273
  have A283 := A259.trans g273
  have A284 := A260.trans g273
  refine sv n271.ok rfl (wn _ rfl) rfl (o_mv n271.at_) (fun an285 n285 => ?_)
  refine sv n285.ok rfl (wn _ rfl) rfl (o_ex n285.at_ rfl) (fun an286 n286 => ?_)
  refine sv n286.ok rfl (wn _ rfl) rfl (o_ex (n286.ne rfl n285.at_) rfl) (fun an287 n287 => ?_)
  refine sv n287.ok rfl (wn _ rfl) rfl (o_as (n287.ne rfl n286.at_)) (fun an288 n288 => ?_)
  refine sv n288.ok rfl (wn _ rfl) rfl (o_as (n288.ne rfl n287.at_)) (fun an289 n289 => ?_)
  refine wpList_nil ?_
  refine th_n (hK266 _ _ ?_)
  refine wp_seq_k (fun K290 hK290 => ?_)
  refine wp_region_lit ?_
  have e291 := n289.ne rfl (n288.ne rfl (n287.ne rfl (n286.ne rfl (n285.ne rfl (n271.ne rfl (n270.ne rfl (n268.ne rfl (n265.ne rfl (n264.ne rfl (n263.ne rfl (n262.ne rfl (n261.ne rfl (n247.ne rfl (n246.ne rfl (n244.ne rfl (n241.ne rfl (n240.ne rfl (n239.ne rfl (n238.ne rfl (n237.ne rfl (n223.ne rfl (n222.ne rfl (n220.ne rfl (n217.ne rfl n181.at_))))))))))))))))))))))))
  refine sv n289.ok rfl (wn _ rfl) rfl (o_ldR e291 B280 Try.underlying25 rfl (by kernel_rfl)) (fun an292 n292 => ?_)
  have e293 := n292.ne rfl (n289.ne rfl (n288.ne rfl (n287.ne rfl (n286.ne rfl (n285.ne rfl (n271.ne rfl (n270.ne rfl e269)))))))
  refine sv n292.ok rfl (wn _ rfl) rfl (o_ldR e293 B275 Try.underlying27 rfl (by kernel_rfl)) (fun an294 n294 => ?_)
  refine sc n294.ok rfl (wn _ rfl) rfl (o_f2 Try.func10 rfl rfl rfl (n294.ne rfl n292.at_) n294.at_) (shasB (b := (a && b)) _ _ x y w272 (hkk2.gr A284) (Sm.and (Sm.set L1)) (by rw [hasD_and, ha, hb])) ?_
  rintro _ w296 ⟨rfl, g297⟩
  refine ⟨_, rfl, fun an295 n295 => ?_⟩
  have G298 := G274.trans g297
  have B299 := B275.gr g297
  have B300 := B276.gr g297
  have B301 := B277.gr g297
  have B302 := B278.gr g297
  have B303 := B279.gr g297
  have B304 := B280.gr g297
  have A305 := A281.trans g297
  have A306 := A282.trans g297
  have A307 := A283.trans g297
  have A308 := A284.trans g297
  refine sv n295.ok rfl (wn _ rfl) rfl (o_mv n295.at_) (fun an309 n309 => ?_)
  refine sv n309.ok rfl (wn _ rfl) rfl (o_ex n309.at_ rfl) (fun an310 n310 => ?_)
  refine sv n310.ok rfl (wn _ rfl) rfl (o_ex (n310.ne rfl n309.at_) rfl) (fun an311 n311 => ?_)
  refine sv n311.ok rfl (wn _ rfl) rfl (o_as (n311.ne rfl n310.at_)) (fun an312 n312 => ?_)
  refine sv n312.ok rfl (wn _ rfl) rfl (o_as (n312.ne rfl n311.at_)) (fun an313 n313 => ?_)
  refine wpList_nil ?_
  refine th_n (hK290 _ _ ?_)
  refine wp_seq_k (fun K314 hK314 => ?_)
  refine wp_seq_k (fun K315 hK315 => ?_)
  refine wp_region_lit ?_
  have e316 := n313.ne rfl (n312.ne rfl (n311.ne rfl (n310.ne rfl (n309.ne rfl (n295.ne rfl (n294.ne rfl (n292.ne rfl (n289.ne rfl (n288.ne rfl (n287.ne rfl (n286.ne rfl (n285.ne rfl (n271.ne rfl (n270.ne rfl (n268.ne rfl (n265.ne rfl (n264.ne rfl (n263.ne rfl (n262.ne rfl (n261.ne rfl (n247.ne rfl (n246.ne rfl (n244.ne rfl (n241.ne rfl (n240.ne rfl (n239.ne rfl (n238.ne rfl (n237.ne rfl (n223.ne rfl (n222.ne rfl (n220.ne rfl (n217.ne rfl (n181.ne rfl (n180.ne rfl (n179.ne rfl (n178.ne rfl (n164.ne rfl (n163.ne rfl (n161.ne rfl n158.at_)))))))))))))))))))))))))))))))))))))))
  refine sv n313.ok rfl (wn _ rfl) rfl (o_mv e316) (fun an317 n317 => ?_)
  refine sv n317.ok rfl (wn _ rfl) rfl (o_neq (b := false) n317.at_ ev_const (by decide)) (fun an318 n318 => ?_)
  refine sv n318.ok rfl (wn _ rfl) rfl (o_mv n318.at_) (fun an319 n319 => ?_)
  have e320 := n319.ne rfl (n318.ne rfl (n317.ne rfl (n313.ne rfl (n312.ne rfl (n311.ne rfl (n310.ne rfl (n309.ne rfl (n295.ne rfl (n294.ne rfl (n292.ne rfl (n289.ne rfl (n288.ne rfl (n287.ne rfl (n286.ne rfl (n285.ne rfl (n271.ne rfl (n270.ne rfl (n268.ne rfl (n265.ne rfl (n264.ne rfl (n263.ne rfl (n262.ne rfl (n261.ne rfl (n247.ne rfl (n246.ne rfl (n244.ne rfl (n241.ne rfl (n240.ne rfl (n239.ne rfl (n238.ne rfl (n237.ne rfl (n223.ne rfl (n222.ne rfl (n220.ne rfl n217.at_))))))))))))))))))))))))))))))))))
  refine sv n319.ok rfl (wgT rfl (yl 2 false rfl n319.at_) rfl) rfl (o_mv e320) (fun an321 n321 => ?_)
  refine sv n321.ok rfl (wgT rfl (yl 2 false rfl (n321.ne rfl n319.at_)) rfl) rfl (o_neq (b := false) n321.at_ ev_const (by decide)) (fun an322 n322 => ?_)
  refine sv n322.ok rfl (wn _ rfl) rfl (o_pkF (n322.ne rfl (n321.ne rfl n319.at_)) n322.at_) (fun an323 n323 => ?_)
  refine sv n323.ok rfl (wn _ rfl) rfl (o_mv n323.at_) (fun an324 n324 => ?_)
  have e325 := n324.ne rfl (n323.ne rfl (n322.ne rfl (n321.ne rfl (n319.ne rfl (n318.ne rfl (n317.ne rfl (n313.ne rfl (n312.ne rfl (n311.ne rfl (n310.ne rfl (n309.ne rfl (n295.ne rfl (n294.ne rfl (n292.ne rfl (n289.ne rfl (n288.ne rfl (n287.ne rfl (n286.ne rfl (n285.ne rfl (n271.ne rfl (n270.ne rfl (n268.ne rfl (n265.ne rfl (n264.ne rfl (n263.ne rfl (n262.ne rfl (n261.ne rfl (n247.ne rfl (n246.ne rfl (n244.ne rfl n241.at_))))))))))))))))))))))))))))))
  refine sv n324.ok rfl (wgT rfl (yl 6 false rfl n324.at_) rfl) rfl (o_mv e325) (fun an326 n326 => ?_)
  have e327 := n326.ne rfl (n324.ne rfl (n323.ne rfl (n322.ne rfl (n321.ne rfl (n319.ne rfl (n318.ne rfl (n317.ne rfl (n313.ne rfl (n312.ne rfl (n311.ne rfl (n310.ne rfl (n309.ne rfl (n295.ne rfl (n294.ne rfl (n292.ne rfl (n289.ne rfl (n288.ne rfl (n287.ne rfl (n286.ne rfl (n285.ne rfl (n271.ne rfl (n270.ne rfl (n268.ne rfl n265.at_)))))))))))))))))))))))
  refine sv n326.ok rfl (wgT rfl (yl 6 false rfl (n326.ne rfl n324.at_)) rfl) rfl (o_mv e327) (fun an328 n328 => ?_)
  refine sv n328.ok rfl (wgT rfl (yl 6 false rfl (n328.ne rfl (n326.ne rfl n324.at_))) rfl) rfl (o_neq (b := false) (n328.ne rfl n326.at_) n328.at_ (by simp [show (dotE x y) = (dotE x y) from rfl])) (fun an329 n329 => ?_)
  have e330 := n329.ne rfl (n328.ne rfl (n326.ne rfl n324.at_))
  refine sv n329.ok rfl (wn _ rfl) rfl (o_pkF e330 n329.at_) (fun an331 n331 => ?_)
  refine sv n331.ok rfl (wn _ rfl) rfl (o_mv n331.at_) (fun an332 n332 => ?_)
  have e333 := n332.ne rfl (n331.ne rfl (n329.ne rfl (n328.ne rfl e327)))
  refine sv n332.ok rfl (wgT rfl (yl 11 false rfl n332.at_) rfl) rfl (o_mv e333) (fun an334 n334 => ?_)
  have e335 := n334.ne rfl (n332.ne rfl (n331.ne rfl (n329.ne rfl (n328.ne rfl (n326.ne rfl (n324.ne rfl (n323.ne rfl (n322.ne rfl (n321.ne rfl (n319.ne rfl (n318.ne rfl (n317.ne rfl (n313.ne rfl (n312.ne rfl (n311.ne rfl (n310.ne rfl (n309.ne rfl (n295.ne rfl (n294.ne rfl (n292.ne rfl n289.at_))))))))))))))))))))
  refine sv n334.ok rfl (wgT rfl (yl 11 false rfl (n334.ne rfl n332.at_)) rfl) rfl (o_mv e335) (fun an336 n336 => ?_)
  refine sv n336.ok rfl (wgT rfl (yl 11 false rfl (n336.ne rfl (n334.ne rfl n332.at_))) rfl) rfl (o_neq (b := false) (n336.ne rfl n334.at_) n336.at_ (by simp [show (dotE x y) = (dotE x y) from rfl])) (fun an337 n337 => ?_)
  have e338 := n337.ne rfl (n336.ne rfl (n334.ne rfl n332.at_))
  refine sv n337.ok rfl (wn _ rfl) rfl (o_pkF e338 n337.at_) (fun an339 n339 => ?_)
  refine sv n339.ok rfl (wn _ rfl) rfl (o_mv n339.at_) (fun an340 n340 => ?_)
  have e341 := n340.ne rfl (n339.ne rfl (n337.ne rfl (n336.ne rfl e335)))
  refine sv n340.ok rfl (wgT rfl (yl 16 false rfl n340.at_) rfl) rfl (o_mv e341) (fun an342 n342 => ?_)
  have e343 := n342.ne rfl (n340.ne rfl (n339.ne rfl (n337.ne rfl (n336.ne rfl (n334.ne rfl (n332.ne rfl (n331.ne rfl (n329.ne rfl (n328.ne rfl (n326.ne rfl (n324.ne rfl (n323.ne rfl (n322.ne rfl (n321.ne rfl (n319.ne rfl (n318.ne rfl (n317.ne rfl n313.at_)))))))))))))))))
  refine sv n342.ok rfl (wgT rfl (yl 16 false rfl (n342.ne rfl n340.at_)) rfl) rfl (o_mv e343) (fun an344 n344 => ?_)
  refine sv n344.ok rfl (wgT rfl (yl 16 false rfl (n344.ne rfl (n342.ne rfl n340.at_))) rfl) rfl (o_neq (b := false) (n344.ne rfl n342.at_) n344.at_ (by simp [show (dotE x y) = (dotE x y) from rfl])) (fun an345 n345 => ?_)
  have e346 := n345.ne rfl (n344.ne rfl (n342.ne rfl n340.at_))
  refine sv n345.ok rfl (wn _ rfl) rfl (o_pkF e346 n345.at_) (fun an347 n347 => ?_)
  refine sv n347.ok rfl (wn _ rfl) rfl (o_mv n347.at_) (fun an348 n348 => ?_)
  have e349 := n348.ne rfl (n347.ne rfl (n345.ne rfl (n344.ne rfl (n342.ne rfl (n340.ne rfl (n339.ne rfl (n337.ne rfl (n336.ne rfl (n334.ne rfl (n332.ne rfl (n331.ne rfl (n329.ne rfl (n328.ne rfl (n326.ne rfl (n324.ne rfl (n323.ne rfl (n322.ne rfl (n321.ne rfl (n319.ne rfl (n318.ne rfl (n317.ne rfl (n313.ne rfl (n312.ne rfl (n311.ne rfl (n310.ne rfl (n309.ne rfl (n295.ne rfl (n294.ne rfl (n292.ne rfl (n289.ne rfl n288.at_))))))))))))))))))))))))))))))
  refine sv n348.ok rfl (wgT rfl (yl 21 false rfl n348.at_) rfl) rfl (o_mv e349) (fun an350 n350 => ?_)
  have e351 := n350.ne rfl (n348.ne rfl (n347.ne rfl (n345.ne rfl (n344.ne rfl (n342.ne rfl (n340.ne rfl (n339.ne rfl (n337.ne rfl (n336.ne rfl (n334.ne rfl (n332.ne rfl (n331.ne rfl (n329.ne rfl (n328.ne rfl (n326.ne rfl (n324.ne rfl (n323.ne rfl (n322.ne rfl (n321.ne rfl (n319.ne rfl (n318.ne rfl (n317.ne rfl (n313.ne rfl (n312.ne rfl (n311.ne rfl (n310.ne rfl (n309.ne rfl (n295.ne rfl (n294.ne rfl (n292.ne rfl (n289.ne rfl (n288.ne rfl (n287.ne rfl (n286.ne rfl (n285.ne rfl (n271.ne rfl (n270.ne rfl (n268.ne rfl (n265.ne rfl (n264.ne rfl (n263.ne rfl (n262.ne rfl (n261.ne rfl (n247.ne rfl (n246.ne rfl (n244.ne rfl (n241.ne rfl n240.at_)))))))))))))))))))))))))))))))))))))))))))))))
  refine sv n350.ok rfl (wgT rfl (yl 21 false rfl (n350.ne rfl n348.at_)) rfl) rfl (o_mv e351) (fun an352 n352 => ?_)
  refine sv n352.ok rfl (wgT rfl (yl 21 false rfl (n352.ne rfl (n350.ne rfl n348.at_))) rfl) rfl (o_mv n352.at_) (fun an353 n353 => ?_)
  cases c354 : a
  · have e355 := (n353.at_).trans (congrArg Value.bool (c354))
    have e356 := n353.ne rfl (n352.ne rfl (n350.ne rfl (n348.ne rfl (n347.ne rfl (n345.ne rfl (n344.ne rfl (n342.ne rfl (n340.ne rfl (n339.ne rfl (n337.ne rfl (n336.ne rfl (n334.ne rfl (n332.ne rfl (n331.ne rfl (n329.ne rfl (n328.ne rfl (n326.ne rfl (n324.ne rfl (n323.ne rfl (n322.ne rfl (n321.ne rfl (n319.ne rfl (n318.ne rfl (n317.ne rfl (n313.ne rfl (n312.ne rfl (n311.ne rfl (n310.ne rfl (n309.ne rfl (n295.ne rfl (n294.ne rfl (n292.ne rfl (n289.ne rfl (n288.ne rfl (n287.ne rfl (n286.ne rfl (n285.ne rfl (n271.ne rfl (n270.ne rfl (n268.ne rfl (n265.ne rfl (n264.ne rfl (n263.ne rfl (n262.ne rfl (n261.ne rfl (n247.ne rfl (n246.ne rfl (n244.ne rfl (n241.ne rfl (n240.ne rfl (n239.ne rfl n238.at_)))))))))))))))))))))))))))))))))))))))))))))))))))
    have e357 := (e356).trans (congrArg Value.bool (c354))
    have e358 := ((n353.ne rfl (n352.ne rfl e351))).trans (congrArg Value.bool (c354))
    have e359 := ((n353.ne rfl n352.at_)).trans (congrArg Value.bool (c354))
    have e360 := n353.ne rfl (n352.ne rfl (n350.ne rfl (n348.ne rfl (n347.ne rfl (n345.ne rfl (n344.ne rfl (n342.ne rfl (n340.ne rfl (n339.ne rfl (n337.ne rfl (n336.ne rfl (n334.ne rfl (n332.ne rfl (n331.ne rfl (n329.ne rfl (n328.ne rfl (n326.ne rfl (n324.ne rfl (n323.ne rfl (n322.ne rfl (n321.ne rfl (n319.ne rfl (n318.ne rfl (n317.ne rfl (n313.ne rfl (n312.ne rfl (n311.ne rfl (n310.ne rfl (n309.ne rfl (n295.ne rfl (n294.ne rfl (n292.ne rfl (n289.ne rfl (n288.ne rfl (n287.ne rfl n286.at_)))))))))))))))))))))))))))))))))))
    have e361 := (e360).trans (congrArg Value.bool (show (a || b) = b by simp [c354]))
    have e362 := n353.ne rfl (n352.ne rfl (n350.ne rfl e349))
    have e363 := (e362).trans (congrArg Value.bool (show (a || b) = b by simp [c354]))
    have e364 := n353.ne rfl (n352.ne rfl (n350.ne rfl (n348.ne rfl (n347.ne rfl (n345.ne rfl (n344.ne rfl (n342.ne rfl (n340.ne rfl (n339.ne rfl (n337.ne rfl (n336.ne rfl (n334.ne rfl (n332.ne rfl (n331.ne rfl (n329.ne rfl (n328.ne rfl (n326.ne rfl (n324.ne rfl (n323.ne rfl (n322.ne rfl (n321.ne rfl (n319.ne rfl (n318.ne rfl (n317.ne rfl (n313.ne rfl (n312.ne rfl (n311.ne rfl n310.at_)))))))))))))))))))))))))))
    have e365 := (e364).trans (congrArg Value.bool (show (a && b) = false by simp [c354]))
    have e366 := n353.ne rfl (n352.ne rfl (n350.ne rfl (n348.ne rfl (n347.ne rfl (n345.ne rfl (n344.ne rfl (n342.ne rfl (n340.ne rfl (n339.ne rfl (n337.ne rfl (n336.ne rfl (n334.ne rfl (n332.ne rfl (n331.ne rfl (n329.ne rfl (n328.ne rfl (n326.ne rfl (n324.ne rfl (n323.ne rfl (n322.ne rfl (n321.ne rfl (n319.ne rfl (n318.ne rfl (n317.ne rfl (n313.ne rfl n312.at_)))))))))))))))))))))))))
    have e367 := (e366).trans (congrArg Value.bool (show (a && b) = false by simp [c354]))
    have e368 := ((n353.ne rfl (n352.ne rfl n350.at_))).trans (congrArg Value.bool (show (a || b) = b by simp [c354]))
    have e369 := n353.ne rfl (n352.ne rfl (n350.ne rfl (n348.ne rfl (n347.ne rfl (n345.ne rfl (n344.ne rfl (n342.ne rfl (n340.ne rfl (n339.ne rfl (n337.ne rfl (n336.ne rfl (n334.ne rfl (n332.ne rfl (n331.ne rfl (n329.ne rfl (n328.ne rfl (n326.ne rfl (n324.ne rfl (n323.ne rfl (n322.ne rfl (n321.ne rfl (n319.ne rfl (n318.ne rfl (n317.ne rfl (n313.ne rfl (n312.ne rfl (n311.ne rfl (n310.ne rfl (n309.ne rfl (n295.ne rfl (n294.ne rfl (n292.ne rfl (n289.ne rfl (n288.ne rfl (n287.ne rfl (n286.ne rfl (n285.ne rfl (n271.ne rfl (n270.ne rfl (n268.ne rfl (n265.ne rfl n264.at_)))))))))))))))))))))))))))))))))))))))))
    refine sv n353.ok rfl (wgT rfl (yl 24 false rfl e355) rfl) rfl (o_mv e369) (fun an370 n370 => ?_)
    have e371 := n370.ne rfl (n353.ne rfl (n352.ne rfl (n350.ne rfl n348.at_)))
    refine sv n370.ok rfl (wgT rfl (yl 21 false rfl e371) rfl) rfl (o_pkF (n370.ne rfl e355) n370.at_) (fun an372 n372 => ?_)
    refine sv n372.ok rfl (wgT rfl (yl 21 false rfl (n372.ne rfl e371)) rfl) rfl (o_neqB (b := false) (n372.ne rfl (n370.ne rfl e368)) n372.at_ (by simp) Try.underlying4) (fun an373 n373 => ?_)
    refine sv n373.ok rfl (wn _ rfl) rfl (o_pkF (n373.ne rfl (n372.ne rfl e371)) n373.at_) (fun an374 n374 => ?_)
    refine sv n374.ok rfl (wn _ rfl) rfl (o_mv n374.at_) (fun an375 n375 => ?_)
    have e376 := n375.ne rfl (n374.ne rfl (n373.ne rfl (n372.ne rfl (n370.ne rfl e367))))
    refine sv n375.ok rfl (wgT rfl (yl 29 false rfl n375.at_) rfl) rfl (o_mv e376) (fun an377 n377 => ?_)
    have e378 := n377.ne rfl (n375.ne rfl (n374.ne rfl (n373.ne rfl (n372.ne rfl (n370.ne rfl e358)))))
    refine sv n377.ok rfl (wgT rfl (yl 29 false rfl (n377.ne rfl n375.at_)) rfl) rfl (o_mv e378) (fun an379 n379 => ?_)
    refine sv n379.ok rfl (wgT rfl (yl 29 false rfl (n379.ne rfl (n377.ne rfl n375.at_))) rfl) rfl (o_mv n379.at_) (fun an380 n380 => ?_)
    refine sn n380.ok rfl (wgF rfl (yl 32 false rfl n380.at_) rfl) rfl (fun an381 n381 => ?_)
    have e382 := n381.ne rfl (n380.ne rfl (n379.ne rfl (n377.ne rfl n375.at_)))
    refine sv n381.ok rfl (wgT rfl (yl 29 false rfl e382) rfl) rfl (o_pkF (n381.ne rfl n380.at_) ev_const) (fun an383 n383 => ?_)
    have e384 := n383.ne rfl (n381.ne rfl (n380.ne rfl (n379.ne rfl n377.at_)))
    refine sv n383.ok rfl (wgT rfl (yl 29 false rfl (n383.ne rfl e382)) rfl) rfl (o_neqB (b := false) e384 n383.at_ (by simp) Try.underlying4) (fun an385 n385 => ?_)
    refine sv n385.ok rfl (wn _ rfl) rfl (o_pkF (n385.ne rfl (n383.ne rfl e382)) n385.at_) (fun an386 n386 => ?_)
    refine wpList_nil ?_
    refine th_n (hK315 _ _ ?_)
    refine wp_cond_false (n386.at_) ?_
    refine wp_skip ?_
    refine th_n (hK314 _ _ ?_)
    refine wp_seq_k (fun K387 hK387 => ?_)
    refine wp_region_lit ?_
    refine sv n386.ok rfl (wn _ rfl) rfl (o_as ev_const) (fun an388 n388 => ?_)
    refine wpList_nil ?_
    refine th_n (hK387 _ _ ?_)
    refine wp_seq_k (fun K389 hK389 => ?_)
    refine wp_seq_k (fun K390 hK390 => ?_)
    refine wp_region_lit ?_
    refine sv n388.ok rfl (wn _ rfl) rfl (o_mv ev_const) (fun an391 n391 => ?_)
    refine wpList_nil ?_
    refine th_n (hK390 _ _ ?_)
    refine wp_block ?_
    have e393 := n391.ne rfl (n388.ne rfl (n386.ne rfl (n385.ne rfl (n383.ne rfl (n381.ne rfl (n380.ne rfl (n379.ne rfl (n377.ne rfl (n375.ne rfl (n374.ne rfl (n373.ne rfl (n372.ne rfl (n370.ne rfl (n353.ne rfl (n352.ne rfl (n350.ne rfl (n348.ne rfl (n347.ne rfl (n345.ne rfl (n344.ne rfl (n342.ne rfl (n340.ne rfl (n339.ne rfl (n337.ne rfl (n336.ne rfl (n334.ne rfl (n332.ne rfl (n331.ne rfl (n329.ne rfl (n328.ne rfl (n326.ne rfl (n324.ne rfl (n323.ne rfl (n322.ne rfl (n321.ne rfl (n319.ne rfl (n318.ne rfl (n317.ne rfl (n313.ne rfl (n312.ne rfl (n311.ne rfl (n310.ne rfl (n309.ne rfl (n295.ne rfl (n294.ne rfl (n292.ne rfl (n289.ne rfl (n288.ne rfl (n287.ne rfl (n286.ne rfl (n285.ne rfl (n271.ne rfl (n270.ne rfl (n268.ne rfl (n265.ne rfl (n264.ne rfl (n263.ne rfl (n262.ne rfl (n261.ne rfl (n247.ne rfl (n246.ne rfl (n244.ne rfl (n241.ne rfl (n240.ne rfl (n239.ne rfl (n238.ne rfl (n237.ne rfl (n223.ne rfl (n222.ne rfl (n220.ne rfl (n217.ne rfl (n181.ne rfl (n180.ne rfl (n179.ne rfl (n178.ne rfl (n164.ne rfl (n163.ne rfl (n161.ne rfl (n158.ne rfl (n128.ne rfl (n127.ne rfl (n126.ne rfl (n125.ne rfl (n113.ne rfl (n112.ne rfl (n111.ne rfl (n77.ne rfl (n63.ne rfl (n54.ne rfl (n53.ne rfl (n44.ne rfl (n43.ne rfl (n40.ne rfl (n39.ne rfl (n38.ne rfl (n36.ne rfl (n35.ne rfl (n34.ne rfl (n32.ne rfl (n31.ne rfl (n30.ne rfl (n29.ne rfl (n28.ne rfl (n22.ne rfl (n21.ne rfl (n20.ne rfl (n12.ne rfl n8.at_)))))))))))))))))))))))))))))))))))))))))))))))))))))))))))))))))))))))))))))))))))))))))))))))))))))))))))
    have e394 := n391.ne rfl (n388.ne rfl (n386.ne rfl (n385.ne rfl (n383.ne rfl (n381.ne rfl (n380.ne rfl (n379.ne rfl (n377.ne rfl (n375.ne rfl (n374.ne rfl (n373.ne rfl (n372.ne rfl (n370.ne rfl (n353.ne rfl (n352.ne rfl (n350.ne rfl (n348.ne rfl (n347.ne rfl (n345.ne rfl (n344.ne rfl (n342.ne rfl (n340.ne rfl (n339.ne rfl (n337.ne rfl (n336.ne rfl (n334.ne rfl (n332.ne rfl (n331.ne rfl (n329.ne rfl (n328.ne rfl (n326.ne rfl (n324.ne rfl (n323.ne rfl (n322.ne rfl (n321.ne rfl (n319.ne rfl (n318.ne rfl (n317.ne rfl (n313.ne rfl (n312.ne rfl (n311.ne rfl (n310.ne rfl (n309.ne rfl (n295.ne rfl (n294.ne rfl (n292.ne rfl (n289.ne rfl (n288.ne rfl (n287.ne rfl (n286.ne rfl (n285.ne rfl (n271.ne rfl (n270.ne rfl (n268.ne rfl (n265.ne rfl (n264.ne rfl (n263.ne rfl (n262.ne rfl (n261.ne rfl (n247.ne rfl (n246.ne rfl (n244.ne rfl (n241.ne rfl (n240.ne rfl (n239.ne rfl (n238.ne rfl (n237.ne rfl (n223.ne rfl (n222.ne rfl (n220.ne rfl e219))))))))))))))))))))))))))))))))))))))))))))))))))))))))))))))))))))))
    have e395 := n391.ne rfl (n388.ne rfl (n386.ne rfl (n385.ne rfl (n383.ne rfl (n381.ne rfl (n380.ne rfl (n379.ne rfl (n377.ne rfl (n375.ne rfl (n374.ne rfl (n373.ne rfl (n372.ne rfl (n370.ne rfl (n353.ne rfl (n352.ne rfl (n350.ne rfl (n348.ne rfl (n347.ne rfl (n345.ne rfl (n344.ne rfl (n342.ne rfl (n340.ne rfl (n339.ne rfl (n337.ne rfl (n336.ne rfl (n334.ne rfl (n332.ne rfl (n331.ne rfl (n329.ne rfl (n328.ne rfl (n326.ne rfl (n324.ne rfl (n323.ne rfl (n322.ne rfl (n321.ne rfl (n319.ne rfl (n318.ne rfl (n317.ne rfl (n313.ne rfl (n312.ne rfl (n311.ne rfl (n310.ne rfl (n309.ne rfl (n295.ne rfl (n294.ne rfl (n292.ne rfl (n289.ne rfl (n288.ne rfl (n287.ne rfl (n286.ne rfl (n285.ne rfl (n271.ne rfl (n270.ne rfl (n268.ne rfl (n265.ne rfl (n264.ne rfl (n263.ne rfl (n262.ne rfl (n261.ne rfl (n247.ne rfl (n246.ne rfl (n244.ne rfl e243))))))))))))))))))))))))))))))))))))))))))))))))))))))))))))))
    refine lp (fun (nL : Nat) (aL : Act) (wL : World) => ∃ i : Nat, ∃ u : Bool, nL = 5 - i ∧ Ok 161 aL ∧ Gr w wL ∧ (aL.eval (.tmp 6) = .bool false) ∧ (aL.eval (.tmp 9) = .pointer (some ⟨b64, 0, none⟩)) ∧ (aL.eval (.tmp 10) = .pointer (some ⟨b78, 0, none⟩)) ∧ (aL.eval (.tmp 23) = .bool u) ∧ (aL.eval (.tmp 120) = .int .i64 (i : Int)) ∧ (Bk wL b64 #[.slice vaq1 ((ints (formV (setD L1))).length) vcq1, .slice maq1 ((pairs (formM (setD L1))).length) mcq1] 25) ∧ (Bk wL b78 #[.slice vaq2 ((ints (formV (setD L2))).length) vcq2, .slice maq2 ((pairs (formM (setD L2))).length) mcq2] 25) ∧ (Gr w45 wL) ∧ (Gr w55 wL) ∧ (Gr w114 wL) ∧ (Gr w165 wL) ∧ (i ≤ 5) ∧ (u = true ↔ upTo (setD L1) (setD L2) i 1)) _ ⟨0, true, rfl, n391.ok, G298, e393, e394, e395, (n391.ne rfl n388.at_), n391.at_, B301, B302, A305, A306, A307, A308, by omega, up_zero _ _⟩ ?_
    rintro m396 aI392 w398 ⟨i, u, hmI392, okI392, GI392, s6I392, s9I392, s10I392, s23I392, s120I392, kb64I392, kb78I392, xanch50I392, xanch61I392, xanch123I392, xanch176I392, hiI392, huI392⟩ KI392 hKI392
    refine wp_seq_k (fun K399 hK399 => ?_)
    refine wp_region_lit ?_
    refine sv okI392 rfl (wn _ rfl) rfl (o_ltI s120I392 ev_const) (fun an400 n400 => ?_)
    refine wpList_nil ?_
    refine th_n (hK399 _ _ ?_)
    refine wp_seq_k (fun K401 hK401 => ?_)
    by_cases c402 : (i : Int) < 5
    · refine wp_cond_true ((n400.at_).trans (congrArg Value.bool (decide_eq_true c402))) ?_
      refine wp_skip ?_
      refine th_n (hK401 _ _ ?_)
      refine wp_seq_k (fun K403 hK403 => ?_)
      refine wp_block ?_
      refine wp_seq_k (fun K404 hK404 => ?_)
      refine wp_region_lit ?_
      refine sv n400.ok rfl (wn _ rfl) rfl (o_mv (n400.ne rfl s120I392)) (fun an405 n405 => ?_)
      refine sv n405.ok rfl (wn _ rfl) rfl (o_as n405.at_) (fun an406 n406 => ?_)
      refine wpList_nil ?_
      refine th_n (hK404 _ _ ?_)
      refine wp_seq_k (fun K407 hK407 => ?_)
      refine wp_region_lit ?_
      refine sv n406.ok rfl (wn _ rfl) rfl (o_as ev_const) (fun an408 n408 => ?_)
      refine wpList_nil ?_
      refine th_n (hK407 _ _ ?_)
      refine wp_block ?_
      have e410 := n408.ne rfl (n406.ne rfl (n405.ne rfl (n400.ne rfl s6I392)))
      have e411 := n408.ne rfl (n406.ne rfl (n405.ne rfl (n400.ne rfl s9I392)))
      have e412 := n408.ne rfl (n406.ne rfl (n405.ne rfl (n400.ne rfl s10I392)))
      have e413 := n408.ne rfl (n406.ne rfl (n405.ne rfl (n400.ne rfl s23I392)))
      have e414 := n408.ne rfl (n406.ne rfl (n405.ne rfl (n400.ne rfl s120I392)))
      refine lp (fun (nL : Nat) (aL : Act) (wL : World) => ∃ j : Nat, ∃ z : Bool, nL = 13 - j ∧ Ok 161 aL ∧ Gr w wL ∧ (aL.eval (.tmp 6) = .bool false) ∧ (aL.eval (.tmp 9) = .pointer (some ⟨b64, 0, none⟩)) ∧ (aL.eval (.tmp 10) = .pointer (some ⟨b78, 0, none⟩)) ∧ (aL.eval (.tmp 23) = .bool z) ∧ (aL.eval (.tmp 24) = .int .i64 (i : Int)) ∧ (aL.eval (.tmp 25) = .int .i64 (j : Int)) ∧ (aL.eval (.tmp 120) = .int .i64 (i : Int)) ∧ (Bk wL b64 #[.slice vaq1 ((ints (formV (setD L1))).length) vcq1, .slice maq1 ((pairs (formM (setD L1))).length) mcq1] 25) ∧ (Bk wL b78 #[.slice vaq2 ((ints (formV (setD L2))).length) vcq2, .slice maq2 ((pairs (formM (setD L2))).length) mcq2] 25) ∧ (Gr w45 wL) ∧ (Gr w55 wL) ∧ (Gr w114 wL) ∧ (Gr w165 wL) ∧ (1 ≤ j ∧ j ≤ 13) ∧ (z = true ↔ upTo (setD L1) (setD L2) i j)) _ ⟨1, u, rfl, n408.ok, GI392, e410, e411, e412, e413, (n408.ne rfl n406.at_), n408.at_, e414, kb64I392, kb78I392, xanch50I392, xanch61I392, xanch123I392, xanch176I392, by omega, huI392⟩ ?_
      rintro m415 aI409 w417 ⟨j, z, hmI409, okI409, GI409, s6I409, s9I409, s10I409, s23I409, s24I409, s25I409, s120I409, kb64I409, kb78I409, xanch50I409, xanch61I409, xanch123I409, xanch176I409, hjI409, hzI409⟩ KI409 hKI409
      refine wp_seq_k (fun K418 hK418 => ?_)
      refine wp_seq_k (fun K419 hK419 => ?_)
      refine wp_region_lit ?_
      refine sv okI409 rfl (wn _ rfl) rfl (o_mv s25I409) (fun an420 n420 => ?_)
      refine sv n420.ok rfl (wn _ rfl) rfl (o_leI n420.at_ ev_const) (fun an421 n421 => ?_)
      refine wpList_nil ?_
      refine th_n (hK419 _ _ ?_)
      by_cases c422 : (j : Int) ≤ 12
      · refine wp_cond_true ((n421.at_).trans (congrArg Value.bool (decide_eq_true c422))) ?_
        refine wp_skip ?_
        refine th_n (hK418 _ _ ?_)
        refine wp_seq_k (fun K423 hK423 => ?_)
        refine wp_block ?_
        refine wp_seq_k (fun K424 hK424 => ?_)
        refine wp_region_lit ?_
        refine sv n421.ok rfl (wn _ rfl) rfl (o_ldR (n421.ne rfl (n420.ne rfl s9I409)) kb64I409 Try.underlying25 rfl (by kernel_rfl)) (fun an425 n425 => ?_)
        have e426 := n425.ne rfl (n421.ne rfl (n420.ne rfl s24I409))
        refine sv n425.ok rfl (wn _ rfl) rfl (o_mv e426) (fun an427 n427 => ?_)
        have e428 := n427.ne rfl (n425.ne rfl (n421.ne rfl (n420.ne rfl s25I409)))
        refine sv n427.ok rfl (wn _ rfl) rfl (o_mv e428) (fun an429 n429 => ?_)
        refine sv n429.ok rfl (wn _ rfl) rfl (o_bd (cells := #[.int .i64 (i : Int), .int .i64 (j : Int)]) (vs := [(0, .int .i64 (i : Int)), (1, .int .i64 (j : Int))]) (by simp [(n429.ne rfl n427.at_), n429.at_, ev_const]) (by kernel_rfl)) (fun an430 n430 => ?_)
        have e431 := n430.ne rfl (n429.ne rfl (n427.ne rfl n425.at_))
        refine sc n430.ok rfl (wn _ rfl) rfl (o_f2 Try.func10 rfl rfl rfl e431 n430.at_) (shasN _ _ i j w417 (hkq1.gr xanch50I409) (Sm.set L1) ⟨by omega, by omega, by omega⟩) ?_
        rintro _ w433 ⟨rfl, g434⟩
        refine ⟨_, rfl, fun an432 n432 => ?_⟩
        have G435 := GI409.trans g434
        have B436 := kb64I409.gr g434
        have B437 := kb78I409.gr g434
        have A438 := xanch50I409.trans g434
        have A439 := xanch61I409.trans g434
        have A440 := xanch123I409.trans g434
        have A441 := xanch176I409.trans g434
        refine sv n432.ok rfl (wn _ rfl) rfl (o_mv n432.at_) (fun an442 n442 => ?_)
        refine sv n442.ok rfl (wn _ rfl) rfl (o_ex n442.at_ rfl) (fun an443 n443 => ?_)
        refine sv n443.ok rfl (wn _ rfl) rfl (o_ex (n443.ne rfl n442.at_) rfl) (fun an444 n444 => ?_)
        refine sv n444.ok rfl (wn _ rfl) rfl (o_as (n444.ne rfl n443.at_)) (fun an445 n445 => ?_)
        refine sv n445.ok rfl (wn _ rfl) rfl (o_as (n445.ne rfl n444.at_)) (fun an446 n446 => ?_)
        refine wpList_nil ?_
        refine th_n (hK424 _ _ ?_)
        refine wp_seq_k (fun K447 hK447 => ?_)
        refine wp_region_lit ?_
        have e448 := n446.ne rfl (n445.ne rfl (n444.ne rfl (n443.ne rfl (n442.ne rfl (n432.ne rfl (n430.ne rfl (n429.ne rfl (n427.ne rfl (n425.ne rfl (n421.ne rfl (n420.ne rfl s10I409)))))))))))
        refine sv n446.ok rfl (wn _ rfl) rfl (o_ldR e448 B437 Try.underlying25 rfl (by kernel_rfl)) (fun an449 n449 => ?_)
        have e450 := n449.ne rfl (n446.ne rfl (n445.ne rfl (n444.ne rfl (n443.ne rfl (n442.ne rfl (n432.ne rfl (n430.ne rfl (n429.ne rfl (n427.ne rfl e426)))))))))
        refine sv n449.ok rfl (wn _ rfl) rfl (o_mv e450) (fun an451 n451 => ?_)
        have e452 := n451.ne rfl (n449.ne rfl (n446.ne rfl (n445.ne rfl (n444.ne rfl (n443.ne rfl (n442.ne rfl (n432.ne rfl (n430.ne rfl (n429.ne rfl e428)))))))))
        refine sv n451.ok rfl (wn _ rfl) rfl (o_mv e452) (fun an453 n453 => ?_)
        refine sv n453.ok rfl (wn _ rfl) rfl (o_bd (cells := #[.int .i64 (i : Int), .int .i64 (j : Int)]) (vs := [(0, .int .i64 (i : Int)), (1, .int .i64 (j : Int))]) (by simp [(n453.ne rfl n451.at_), n453.at_, ev_const]) (by kernel_rfl)) (fun an454 n454 => ?_)
        have e455 := n454.ne rfl (n453.ne rfl (n451.ne rfl n449.at_))
        refine sc n454.ok rfl (wn _ rfl) rfl (o_f2 Try.func10 rfl rfl rfl e455 n454.at_) (shasN _ _ i j w433 (hkq2.gr A439) (Sm.set L2) ⟨by omega, by omega, by omega⟩) ?_
        rintro _ w457 ⟨rfl, g458⟩
        refine ⟨_, rfl, fun an456 n456 => ?_⟩
        have G459 := G435.trans g458
        have B460 := B436.gr g458
        have B461 := B437.gr g458
        have A462 := A438.trans g458
        have A463 := A439.trans g458
        have A464 := A440.trans g458
        have A465 := A441.trans g458
        refine sv n456.ok rfl (wn _ rfl) rfl (o_mv n456.at_) (fun an466 n466 => ?_)
        refine sv n466.ok rfl (wn _ rfl) rfl (o_ex n466.at_ rfl) (fun an467 n467 => ?_)
        refine sv n467.ok rfl (wn _ rfl) rfl (o_ex (n467.ne rfl n466.at_) rfl) (fun an468 n468 => ?_)
        refine sv n468.ok rfl (wn _ rfl) rfl (o_as (n468.ne rfl n467.at_)) (fun an469 n469 => ?_)
        refine sv n469.ok rfl (wn _ rfl) rfl (o_as (n469.ne rfl n468.at_)) (fun an470 n470 => ?_)
        refine wpList_nil ?_
        refine th_n (hK447 _ _ ?_)
        refine wp_seq_k (fun K471 hK471 => ?_)
        refine wp_seq_k (fun K472 hK472 => ?_)
        refine wp_region_lit ?_
        have e473 := n470.ne rfl (n469.ne rfl (n468.ne rfl (n467.ne rfl (n466.ne rfl (n456.ne rfl (n454.ne rfl (n453.ne rfl (n451.ne rfl (n449.ne rfl n446.at_)))))))))
        refine sv n470.ok rfl (wn _ rfl) rfl (o_mv e473) (fun an474 n474 => ?_)
        refine sv n474.ok rfl (wn _ rfl) rfl (o_neq (b := false) n474.at_ ev_const (by decide)) (fun an475 n475 => ?_)
        refine sv n475.ok rfl (wn _ rfl) rfl (o_mv n475.at_) (fun an476 n476 => ?_)
        have e477 := n476.ne rfl (n475.ne rfl (n474.ne rfl n470.at_))
        refine sv n476.ok rfl (wgT rfl (yl 2 false rfl n476.at_) rfl) rfl (o_mv e477) (fun an478 n478 => ?_)
        refine sv n478.ok rfl (wgT rfl (yl 2 false rfl (n478.ne rfl n476.at_)) rfl) rfl (o_neq (b := false) n478.at_ ev_const (by decide)) (fun an479 n479 => ?_)
        refine sv n479.ok rfl (wn _ rfl) rfl (o_pkF (n479.ne rfl (n478.ne rfl n476.at_)) n479.at_) (fun an480 n480 => ?_)
        refine wpList_nil ?_
        refine th_n (hK472 _ _ ?_)
        refine wp_cond_false (n480.at_) ?_
        refine wp_skip ?_
        refine th_n (hK471 _ _ ?_)
        refine wp_region_lit ?_
        have e481 := n480.ne rfl (n479.ne rfl (n478.ne rfl (n476.ne rfl (n475.ne rfl (n474.ne rfl (n470.ne rfl (n469.ne rfl (n468.ne rfl (n467.ne rfl (n466.ne rfl (n456.ne rfl (n454.ne rfl (n453.ne rfl (n451.ne rfl (n449.ne rfl (n446.ne rfl (n445.ne rfl (n444.ne rfl (n443.ne rfl (n442.ne rfl (n432.ne rfl (n430.ne rfl (n429.ne rfl (n427.ne rfl (n425.ne rfl (n421.ne rfl (n420.ne rfl s23I409)))))))))))))))))))))))))))
        refine sv n480.ok rfl (wn _ rfl) rfl (o_mv e481) (fun an482 n482 => ?_)
        refine sv n482.ok rfl (wn _ rfl) rfl (o_mv n482.at_) (fun an483 n483 => ?_)
        cases c484 : z
        · have e485 := (n483.at_).trans (congrArg Value.bool (c484))
          have e486 := ((n483.ne rfl (n482.ne rfl e481))).trans (congrArg Value.bool (c484))
          have e487 := ((n483.ne rfl n482.at_)).trans (congrArg Value.bool (c484))
          refine sn n483.ok rfl (wgF rfl (yl 1 false rfl e485) rfl) rfl (fun an488 n488 => ?_)
          refine sn n488.ok rfl (wgF rfl (yl 1 false rfl (n488.ne rfl e485)) rfl) rfl (fun an489 n489 => ?_)
          refine sn n489.ok rfl (wgF rfl (yl 1 false rfl (n489.ne rfl (n488.ne rfl e485))) rfl) rfl (fun an490 n490 => ?_)
          have e491 := n490.ne rfl (n489.ne rfl (n488.ne rfl e485))
          refine sv n490.ok rfl (wn _ rfl) rfl (o_pkF e491 ev_const) (fun an492 n492 => ?_)
          refine sv n492.ok rfl (wn _ rfl) rfl (o_as n492.at_) (fun an493 n493 => ?_)
          refine wpList_nil ?_
          refine ib_n ?_
          refine th_n (hK423 _ _ ?_)
          refine wp_region_lit ?_
          have e494 := n493.ne rfl (n492.ne rfl (n490.ne rfl (n489.ne rfl (n488.ne rfl (n483.ne rfl (n482.ne rfl (n480.ne rfl (n479.ne rfl (n478.ne rfl (n476.ne rfl (n475.ne rfl (n474.ne rfl (n470.ne rfl (n469.ne rfl (n468.ne rfl (n467.ne rfl (n466.ne rfl (n456.ne rfl (n454.ne rfl (n453.ne rfl e452))))))))))))))))))))
          refine sv n493.ok rfl (wn _ rfl) rfl (o_mv e494) (fun an495 n495 => ?_)
          refine sv n495.ok rfl (wn _ rfl) rfl (o_add (r := ((j + 1 : Nat) : Int)) n495.at_ ev_const (by omega) (by omega)) (fun an496 n496 => ?_)
          refine sv n496.ok rfl (wn _ rfl) rfl (o_as n496.at_) (fun an497 n497 => ?_)
          refine wpList_nil ?_
          have e498 := n497.ne rfl (n496.ne rfl (n495.ne rfl (n493.ne rfl (n492.ne rfl (n490.ne rfl (n489.ne rfl (n488.ne rfl (n483.ne rfl (n482.ne rfl (n480.ne rfl (n479.ne rfl (n478.ne rfl (n476.ne rfl (n475.ne rfl (n474.ne rfl (n470.ne rfl (n469.ne rfl (n468.ne rfl (n467.ne rfl (n466.ne rfl (n456.ne rfl (n454.ne rfl (n453.ne rfl (n451.ne rfl (n449.ne rfl (n446.ne rfl (n445.ne rfl (n444.ne rfl (n443.ne rfl (n442.ne rfl (n432.ne rfl (n430.ne rfl (n429.ne rfl (n427.ne rfl (n425.ne rfl (n421.ne rfl (n420.ne rfl s6I409)))))))))))))))))))))))))))))))))))))
          have e499 := n497.ne rfl (n496.ne rfl (n495.ne rfl (n493.ne rfl (n492.ne rfl (n490.ne rfl (n489.ne rfl (n488.ne rfl (n483.ne rfl (n482.ne rfl (n480.ne rfl (n479.ne rfl (n478.ne rfl (n476.ne rfl (n475.ne rfl (n474.ne rfl (n470.ne rfl (n469.ne rfl (n468.ne rfl (n467.ne rfl (n466.ne rfl (n456.ne rfl (n454.ne rfl (n453.ne rfl (n451.ne rfl (n449.ne rfl (n446.ne rfl (n445.ne rfl (n444.ne rfl (n443.ne rfl (n442.ne rfl (n432.ne rfl (n430.ne rfl (n429.ne rfl (n427.ne rfl (n425.ne rfl (n421.ne rfl (n420.ne rfl s9I409)))))))))))))))))))))))))))))))))))))
          have e500 := n497.ne rfl (n496.ne rfl (n495.ne rfl (n493.ne rfl (n492.ne rfl (n490.ne rfl (n489.ne rfl (n488.ne rfl (n483.ne rfl (n482.ne rfl (n480.ne rfl (n479.ne rfl (n478.ne rfl (n476.ne rfl (n475.ne rfl (n474.ne rfl (n470.ne rfl (n469.ne rfl (n468.ne rfl (n467.ne rfl (n466.ne rfl (n456.ne rfl (n454.ne rfl (n453.ne rfl (n451.ne rfl (n449.ne rfl e448)))))))))))))))))))))))))
          have e501 := n497.ne rfl (n496.ne rfl (n495.ne rfl n493.at_))
          have e502 := n497.ne rfl (n496.ne rfl (n495.ne rfl (n493.ne rfl (n492.ne rfl (n490.ne rfl (n489.ne rfl (n488.ne rfl (n483.ne rfl (n482.ne rfl (n480.ne rfl (n479.ne rfl (n478.ne rfl (n476.ne rfl (n475.ne rfl (n474.ne rfl (n470.ne rfl (n469.ne rfl (n468.ne rfl (n467.ne rfl (n466.ne rfl (n456.ne rfl (n454.ne rfl (n453.ne rfl (n451.ne rfl e450))))))))))))))))))))))))
          have e503 := n497.ne rfl (n496.ne rfl (n495.ne rfl (n493.ne rfl (n492.ne rfl (n490.ne rfl (n489.ne rfl (n488.ne rfl (n483.ne rfl (n482.ne rfl (n480.ne rfl (n479.ne rfl (n478.ne rfl (n476.ne rfl (n475.ne rfl (n474.ne rfl (n470.ne rfl (n469.ne rfl (n468.ne rfl (n467.ne rfl (n466.ne rfl (n456.ne rfl (n454.ne rfl (n453.ne rfl (n451.ne rfl (n449.ne rfl (n446.ne rfl (n445.ne rfl (n444.ne rfl (n443.ne rfl (n442.ne rfl (n432.ne rfl (n430.ne rfl (n429.ne rfl (n427.ne rfl (n425.ne rfl (n421.ne rfl (n420.ne rfl s120I409)))))))))))))))))))))))))))))))))))))
          exact th_n (hKI409 _ _ _ (by omega) ⟨j + 1, false, rfl, n497.ok, G459, e498, e499, e500, e501, e502, n497.at_, e503, B460, B461, A462, A463, A464, A465, by omega, up_F hzI409 c484⟩)
        · have e504 := (n483.at_).trans (congrArg Value.bool (c484))
          have e505 := ((n483.ne rfl (n482.ne rfl e481))).trans (congrArg Value.bool (c484))
          have e506 := ((n483.ne rfl n482.at_)).trans (congrArg Value.bool (c484))
          have e507 := n483.ne rfl (n482.ne rfl (n480.ne rfl (n479.ne rfl (n478.ne rfl (n476.ne rfl (n475.ne rfl (n474.ne rfl (n470.ne rfl (n469.ne rfl (n468.ne rfl (n467.ne rfl (n466.ne rfl (n456.ne rfl (n454.ne rfl (n453.ne rfl (n451.ne rfl (n449.ne rfl (n446.ne rfl n445.at_))))))))))))))))))
          refine sv n483.ok rfl (wgT rfl (yl 1 true rfl e504) rfl) rfl (o_mv e507) (fun an508 n508 => ?_)
          have e509 := n508.ne rfl (n483.ne rfl (n482.ne rfl (n480.ne rfl (n479.ne rfl (n478.ne rfl (n476.ne rfl (n475.ne rfl (n474.ne rfl (n470.ne rfl n469.at_)))))))))
          refine sv n508.ok rfl (wgT rfl (yl 1 true rfl (n508.ne rfl e504)) rfl) rfl (o_mv e509) (fun an510 n510 => ?_)
          refine sv n510.ok rfl (wgT rfl (yl 1 true rfl (n510.ne rfl (n508.ne rfl e504))) rfl) rfl (o_eqB (n510.ne rfl n508.at_) n510.at_ rfl Try.underlying4) (fun an511 n511 => ?_)
          have e512 := n511.ne rfl (n510.ne rfl (n508.ne rfl e504))
          refine sv n511.ok rfl (wn _ rfl) rfl (o_pkT e512 n511.at_) (fun an513 n513 => ?_)
          refine sv n513.ok rfl (wn _ rfl) rfl (o_as n513.at_) (fun an514 n514 => ?_)
          refine wpList_nil ?_
          refine ib_n ?_
          refine th_n (hK423 _ _ ?_)
          refine wp_region_lit ?_
          have e515 := n514.ne rfl (n513.ne rfl (n511.ne rfl (n510.ne rfl (n508.ne rfl (n483.ne rfl (n482.ne rfl (n480.ne rfl (n479.ne rfl (n478.ne rfl (n476.ne rfl (n475.ne rfl (n474.ne rfl (n470.ne rfl (n469.ne rfl (n468.ne rfl (n467.ne rfl (n466.ne rfl (n456.ne rfl (n454.ne rfl (n453.ne rfl e452))))))))))))))))))))
          refine sv n514.ok rfl (wn _ rfl) rfl (o_mv e515) (fun an516 n516 => ?_)
          refine sv n516.ok rfl (wn _ rfl) rfl (o_add (r := ((j + 1 : Nat) : Int)) n516.at_ ev_const (by omega) (by omega)) (fun an517 n517 => ?_)
          refine sv n517.ok rfl (wn _ rfl) rfl (o_as n517.at_) (fun an518 n518 => ?_)
          refine wpList_nil ?_
          have e519 := n518.ne rfl (n517.ne rfl (n516.ne rfl (n514.ne rfl (n513.ne rfl (n511.ne rfl (n510.ne rfl (n508.ne rfl (n483.ne rfl (n482.ne rfl (n480.ne rfl (n479.ne rfl (n478.ne rfl (n476.ne rfl (n475.ne rfl (n474.ne rfl (n470.ne rfl (n469.ne rfl (n468.ne rfl (n467.ne rfl (n466.ne rfl (n456.ne rfl (n454.ne rfl (n453.ne rfl (n451.ne rfl (n449.ne rfl (n446.ne rfl (n445.ne rfl (n444.ne rfl (n443.ne rfl (n442.ne rfl (n432.ne rfl (n430.ne rfl (n429.ne rfl (n427.ne rfl (n425.ne rfl (n421.ne rfl (n420.ne rfl s6I409)))))))))))))))))))))))))))))))))))))
          have e520 := n518.ne rfl (n517.ne rfl (n516.ne rfl (n514.ne rfl (n513.ne rfl (n511.ne rfl (n510.ne rfl (n508.ne rfl (n483.ne rfl (n482.ne rfl (n480.ne rfl (n479.ne rfl (n478.ne rfl (n476.ne rfl (n475.ne rfl (n474.ne rfl (n470.ne rfl (n469.ne rfl (n468.ne rfl (n467.ne rfl (n466.ne rfl (n456.ne rfl (n454.ne rfl (n453.ne rfl (n451.ne rfl (n449.ne rfl (n446.ne rfl (n445.ne rfl (n444.ne rfl (n443.ne rfl (n442.ne rfl (n432.ne rfl (n430.ne rfl (n429.ne rfl (n427.ne rfl (n425.ne rfl (n421.ne rfl (n420.ne rfl s9I409)))))))))))))))))))))))))))))))))))))
          have e521 := n518.ne rfl (n517.ne rfl (n516.ne rfl (n514.ne rfl (n513.ne rfl (n511.ne rfl (n510.ne rfl (n508.ne rfl (n483.ne rfl (n482.ne rfl (n480.ne rfl (n479.ne rfl (n478.ne rfl (n476.ne rfl (n475.ne rfl (n474.ne rfl (n470.ne rfl (n469.ne rfl (n468.ne rfl (n467.ne rfl (n466.ne rfl (n456.ne rfl (n454.ne rfl (n453.ne rfl (n451.ne rfl (n449.ne rfl e448)))))))))))))))))))))))))
          have e522 := n518.ne rfl (n517.ne rfl (n516.ne rfl n514.at_))
          have e523 := n518.ne rfl (n517.ne rfl (n516.ne rfl (n514.ne rfl (n513.ne rfl (n511.ne rfl (n510.ne rfl (n508.ne rfl (n483.ne rfl (n482.ne rfl (n480.ne rfl (n479.ne rfl (n478.ne rfl (n476.ne rfl (n475.ne rfl (n474.ne rfl (n470.ne rfl (n469.ne rfl (n468.ne rfl (n467.ne rfl (n466.ne rfl (n456.ne rfl (n454.ne rfl (n453.ne rfl (n451.ne rfl e450))))))))))))))))))))))))
          have e524 := n518.ne rfl (n517.ne rfl (n516.ne rfl (n514.ne rfl (n513.ne rfl (n511.ne rfl (n510.ne rfl (n508.ne rfl (n483.ne rfl (n482.ne rfl (n480.ne rfl (n479.ne rfl (n478.ne rfl (n476.ne rfl (n475.ne rfl (n474.ne rfl (n470.ne rfl (n469.ne rfl (n468.ne rfl (n467.ne rfl (n466.ne rfl (n456.ne rfl (n454.ne rfl (n453.ne rfl (n451.ne rfl (n449.ne rfl (n446.ne rfl (n445.ne rfl (n444.ne rfl (n443.ne rfl (n442.ne rfl (n432.ne rfl (n430.ne rfl (n429.ne rfl (n427.ne rfl (n425.ne rfl (n421.ne rfl (n420.ne rfl s120I409)))))))))))))))))))))))))))))))))))))
          exact th_n (hKI409 _ _ _ (by omega) ⟨j + 1, ((setD L1 i j) == (setD L2 i j)), rfl, n518.ok, G459, e519, e520, e521, e522, e523, n518.at_, e524, B460, B461, A462, A463, A464, A465, by omega, up_T hzI409 c484 (by omega) (by omega)⟩)
      · refine wp_cond_false ((n421.at_).trans (congrArg Value.bool (decide_eq_false c422))) ?_
        refine wp_exit ?_
        refine th_x ?_
        refine th_x ?_
        refine ib_x ?_
        refine ib_n ?_
        refine th_n (hK403 _ _ ?_)
        refine wp_region_lit ?_
        refine sv n421.ok rfl (wn _ rfl) rfl (o_add (r := ((i + 1 : Nat) : Int)) (n421.ne rfl (n420.ne rfl s120I409)) ev_const (by omega) (by omega)) (fun an525 n525 => ?_)
        refine sv n525.ok rfl (wn _ rfl) rfl (o_mv n525.at_) (fun an526 n526 => ?_)
        refine wpList_nil ?_
        have e527 := n526.ne rfl (n525.ne rfl (n421.ne rfl (n420.ne rfl s6I409)))
        have e528 := n526.ne rfl (n525.ne rfl (n421.ne rfl (n420.ne rfl s9I409)))
        have e529 := n526.ne rfl (n525.ne rfl (n421.ne rfl (n420.ne rfl s10I409)))
        have e530 := n526.ne rfl (n525.ne rfl (n421.ne rfl (n420.ne rfl s23I409)))
        exact th_n (hKI392 _ _ _ (by omega) ⟨i + 1, z, rfl, n526.ok, GI409, e527, e528, e529, e530, n526.at_, kb64I409, kb78I409, xanch50I409, xanch61I409, xanch123I409, xanch176I409, by omega, up_next (by omega) hzI409⟩)
    · refine wp_cond_false ((n400.at_).trans (congrArg Value.bool (decide_eq_false c402))) ?_
      refine wp_exit ?_
      refine th_x ?_
      refine th_x ?_
      refine ib_x ?_
      refine th_n (hK389 _ _ ?_)
      refine wp_seq_k (fun K531 hK531 => ?_)
      refine wp_region_lit ?_
      refine sv n400.ok rfl (wn _ rfl) rfl (o_mv (n400.ne rfl s23I392)) (fun an532 n532 => ?_)
      refine sv n532.ok rfl (wn _ rfl) rfl (o_ldR (n532.ne rfl (n400.ne rfl s9I392)) kb64I392 Try.underlying25 rfl (by kernel_rfl)) (fun an533 n533 => ?_)
      have e534 := n533.ne rfl (n532.ne rfl (n400.ne rfl s10I392))
      refine sv n533.ok rfl (wn _ rfl) rfl (o_ldR e534 kb78I392 Try.underlying25 rfl (by kernel_rfl)) (fun an535 n535 => ?_)
      refine sc n535.ok rfl (wn _ rfl) rfl (o_f2 Try.func17 rfl rfl rfl (n535.ne rfl n533.at_) n535.at_) (ssameB (b := u) _ _ _ _ w398 (hkq1.gr xanch50I392) (hkq2.gr xanch61I392) (Sm.set L1) (up_end (Sm.set L1) (Sm.set L2) (by omega) huI392)) ?_
      rintro _ w537 ⟨rfl, g538⟩
      refine ⟨_, rfl, fun an536 n536 => ?_⟩
      have G539 := GI392.trans g538
      have B540 := kb64I392.gr g538
      have B541 := kb78I392.gr g538
      have A542 := xanch50I392.trans g538
      have A543 := xanch61I392.trans g538
      have A544 := xanch123I392.trans g538
      have A545 := xanch176I392.trans g538
      have e546 := n536.ne rfl (n535.ne rfl (n533.ne rfl n532.at_))
      refine sv n536.ok rfl (wn _ rfl) rfl (o_eqB (b := true) e546 n536.at_ (by simp) Try.underlying4) (fun an547 n547 => ?_)
      refine sv n547.ok rfl (wn _ rfl) rfl (o_as n547.at_) (fun an548 n548 => ?_)
      refine wpList_nil ?_
      refine th_n (hK531 _ _ ?_)
      refine wp_ret ?_
      exact ret1 n548.ok rfl (n548.at_) ⟨rfl, G539⟩
  · have e549 := (n353.at_).trans (congrArg Value.bool (c354))
    have e550 := n353.ne rfl (n352.ne rfl (n350.ne rfl (n348.ne rfl (n347.ne rfl (n345.ne rfl (n344.ne rfl (n342.ne rfl (n340.ne rfl (n339.ne rfl (n337.ne rfl (n336.ne rfl (n334.ne rfl (n332.ne rfl (n331.ne rfl (n329.ne rfl (n328.ne rfl (n326.ne rfl (n324.ne rfl (n323.ne rfl (n322.ne rfl (n321.ne rfl (n319.ne rfl (n318.ne rfl (n317.ne rfl (n313.ne rfl (n312.ne rfl (n311.ne rfl (n310.ne rfl (n309.ne rfl (n295.ne rfl (n294.ne rfl (n292.ne rfl (n289.ne rfl (n288.ne rfl (n287.ne rfl (n286.ne rfl (n285.ne rfl (n271.ne rfl (n270.ne rfl (n268.ne rfl (n265.ne rfl (n264.ne rfl (n263.ne rfl (n262.ne rfl (n261.ne rfl (n247.ne rfl (n246.ne rfl (n244.ne rfl (n241.ne rfl (n240.ne rfl (n239.ne rfl n238.at_)))))))))))))))))))))))))))))))))))))))))))))))))))
    have e551 := (e550).trans (congrArg Value.bool (c354))
    have e552 := ((n353.ne rfl (n352.ne rfl e351))).trans (congrArg Value.bool (c354))
    have e553 := ((n353.ne rfl n352.at_)).trans (congrArg Value.bool (c354))
    have e554 := n353.ne rfl (n352.ne rfl (n350.ne rfl (n348.ne rfl (n347.ne rfl (n345.ne rfl (n344.ne rfl (n342.ne rfl (n340.ne rfl (n339.ne rfl (n337.ne rfl (n336.ne rfl (n334.ne rfl (n332.ne rfl (n331.ne rfl (n329.ne rfl (n328.ne rfl (n326.ne rfl (n324.ne rfl (n323.ne rfl (n322.ne rfl (n321.ne rfl (n319.ne rfl (n318.ne rfl (n317.ne rfl (n313.ne rfl (n312.ne rfl (n311.ne rfl (n310.ne rfl (n309.ne rfl (n295.ne rfl (n294.ne rfl (n292.ne rfl (n289.ne rfl (n288.ne rfl (n287.ne rfl n286.at_)))))))))))))))))))))))))))))))))))
    have e555 := (e554).trans (congrArg Value.bool (show (a || b) = true by simp [c354]))
    have e556 := n353.ne rfl (n352.ne rfl (n350.ne rfl e349))
    have e557 := (e556).trans (congrArg Value.bool (show (a || b) = true by simp [c354]))
    have e558 := n353.ne rfl (n352.ne rfl (n350.ne rfl (n348.ne rfl (n347.ne rfl (n345.ne rfl (n344.ne rfl (n342.ne rfl (n340.ne rfl (n339.ne rfl (n337.ne rfl (n336.ne rfl (n334.ne rfl (n332.ne rfl (n331.ne rfl (n329.ne rfl (n328.ne rfl (n326.ne rfl (n324.ne rfl (n323.ne rfl (n322.ne rfl (n321.ne rfl (n319.ne rfl (n318.ne rfl (n317.ne rfl (n313.ne rfl (n312.ne rfl (n311.ne rfl n310.at_)))))))))))))))))))))))))))
    have e559 := (e558).trans (congrArg Value.bool (show (a && b) = b by simp [c354]))
    have e560 := n353.ne rfl (n352.ne rfl (n350.ne rfl (n348.ne rfl (n347.ne rfl (n345.ne rfl (n344.ne rfl (n342.ne rfl (n340.ne rfl (n339.ne rfl (n337.ne rfl (n336.ne rfl (n334.ne rfl (n332.ne rfl (n331.ne rfl (n329.ne rfl (n328.ne rfl (n326.ne rfl (n324.ne rfl (n323.ne rfl (n322.ne rfl (n321.ne rfl (n319.ne rfl (n318.ne rfl (n317.ne rfl (n313.ne rfl n312.at_)))))))))))))))))))))))))
    have e561 := (e560).trans (congrArg Value.bool (show (a && b) = b by simp [c354]))
    have e562 := ((n353.ne rfl (n352.ne rfl n350.at_))).trans (congrArg Value.bool (show (a || b) = true by simp [c354]))
    refine sn n353.ok rfl (wgF rfl (yl 24 true rfl e549) rfl) rfl (fun an563 n563 => ?_)
    have e564 := n563.ne rfl (n353.ne rfl (n352.ne rfl (n350.ne rfl n348.at_)))
    refine sv n563.ok rfl (wgT rfl (yl 21 false rfl e564) rfl) rfl (o_pkT (n563.ne rfl e549) ev_const) (fun an565 n565 => ?_)
    refine sv n565.ok rfl (wgT rfl (yl 21 false rfl (n565.ne rfl e564)) rfl) rfl (o_neqB (b := false) (n565.ne rfl (n563.ne rfl e562)) n565.at_ (by simp) Try.underlying4) (fun an566 n566 => ?_)
    refine sv n566.ok rfl (wn _ rfl) rfl (o_pkF (n566.ne rfl (n565.ne rfl e564)) n566.at_) (fun an567 n567 => ?_)
    refine sv n567.ok rfl (wn _ rfl) rfl (o_mv n567.at_) (fun an568 n568 => ?_)
    have e569 := n568.ne rfl (n567.ne rfl (n566.ne rfl (n565.ne rfl (n563.ne rfl e561))))
    refine sv n568.ok rfl (wgT rfl (yl 29 false rfl n568.at_) rfl) rfl (o_mv e569) (fun an570 n570 => ?_)
    have e571 := n570.ne rfl (n568.ne rfl (n567.ne rfl (n566.ne rfl (n565.ne rfl (n563.ne rfl e552)))))
    refine sv n570.ok rfl (wgT rfl (yl 29 false rfl (n570.ne rfl n568.at_)) rfl) rfl (o_mv e571) (fun an572 n572 => ?_)
    refine sv n572.ok rfl (wgT rfl (yl 29 false rfl (n572.ne rfl (n570.ne rfl n568.at_))) rfl) rfl (o_mv n572.at_) (fun an573 n573 => ?_)
    have e574 := n573.ne rfl (n572.ne rfl (n570.ne rfl (n568.ne rfl (n567.ne rfl (n566.ne rfl (n565.ne rfl (n563.ne rfl (n353.ne rfl (n352.ne rfl (n350.ne rfl (n348.ne rfl (n347.ne rfl (n345.ne rfl (n344.ne rfl (n342.ne rfl (n340.ne rfl (n339.ne rfl (n337.ne rfl (n336.ne rfl (n334.ne rfl (n332.ne rfl (n331.ne rfl (n329.ne rfl (n328.ne rfl (n326.ne rfl (n324.ne rfl (n323.ne rfl (n322.ne rfl (n321.ne rfl (n319.ne rfl (n318.ne rfl (n317.ne rfl (n313.ne rfl (n312.ne rfl (n311.ne rfl (n310.ne rfl (n309.ne rfl (n295.ne rfl (n294.ne rfl (n292.ne rfl (n289.ne rfl (n288.ne rfl (n287.ne rfl (n286.ne rfl (n285.ne rfl (n271.ne rfl (n270.ne rfl (n268.ne rfl (n265.ne rfl n264.at_)))))))))))))))))))))))))))))))))))))))))))))))))
    refine sv n573.ok rfl (wgT rfl (yl 32 true rfl n573.at_) rfl) rfl (o_mv e574) (fun an575 n575 => ?_)
    have e576 := n575.ne rfl (n573.ne rfl (n572.ne rfl (n570.ne rfl n568.at_)))
    refine sv n575.ok rfl (wgT rfl (yl 29 false rfl e576) rfl) rfl (o_pkT (n575.ne rfl n573.at_) n575.at_) (fun an577 n577 => ?_)
    have e578 := n577.ne rfl (n575.ne rfl (n573.ne rfl (n572.ne rfl n570.at_)))
    refine sv n577.ok rfl (wgT rfl (yl 29 false rfl (n577.ne rfl e576)) rfl) rfl (o_neqB (b := false) e578 n577.at_ (by simp) Try.underlying4) (fun an579 n579 => ?_)
    refine sv n579.ok rfl (wn _ rfl) rfl (o_pkF (n579.ne rfl (n577.ne rfl e576)) n579.at_) (fun an580 n580 => ?_)
    refine wpList_nil ?_
    refine th_n (hK315 _ _ ?_)
    refine wp_cond_false (n580.at_) ?_
    refine wp_skip ?_
    refine th_n (hK314 _ _ ?_)
    refine wp_seq_k (fun K581 hK581 => ?_)
    refine wp_region_lit ?_
    refine sv n580.ok rfl (wn _ rfl) rfl (o_as ev_const) (fun an582 n582 => ?_)
    refine wpList_nil ?_
    refine th_n (hK581 _ _ ?_)
    refine wp_seq_k (fun K583 hK583 => ?_)
    refine wp_seq_k (fun K584 hK584 => ?_)
    refine wp_region_lit ?_
    refine sv n582.ok rfl (wn _ rfl) rfl (o_mv ev_const) (fun an585 n585 => ?_)
    refine wpList_nil ?_
    refine th_n (hK584 _ _ ?_)
    refine wp_block ?_
    have e587 := n585.ne rfl (n582.ne rfl (n580.ne rfl (n579.ne rfl (n577.ne rfl (n575.ne rfl (n573.ne rfl (n572.ne rfl (n570.ne rfl (n568.ne rfl (n567.ne rfl (n566.ne rfl (n565.ne rfl (n563.ne rfl (n353.ne rfl (n352.ne rfl (n350.ne rfl (n348.ne rfl (n347.ne rfl (n345.ne rfl (n344.ne rfl (n342.ne rfl (n340.ne rfl (n339.ne rfl (n337.ne rfl (n336.ne rfl (n334.ne rfl (n332.ne rfl (n331.ne rfl (n329.ne rfl (n328.ne rfl (n326.ne rfl (n324.ne rfl (n323.ne rfl (n322.ne rfl (n321.ne rfl (n319.ne rfl (n318.ne rfl (n317.ne rfl (n313.ne rfl (n312.ne rfl (n311.ne rfl (n310.ne rfl (n309.ne rfl (n295.ne rfl (n294.ne rfl (n292.ne rfl (n289.ne rfl (n288.ne rfl (n287.ne rfl (n286.ne rfl (n285.ne rfl (n271.ne rfl (n270.ne rfl (n268.ne rfl (n265.ne rfl (n264.ne rfl (n263.ne rfl (n262.ne rfl (n261.ne rfl (n247.ne rfl (n246.ne rfl (n244.ne rfl (n241.ne rfl (n240.ne rfl (n239.ne rfl (n238.ne rfl (n237.ne rfl (n223.ne rfl (n222.ne rfl (n220.ne rfl (n217.ne rfl (n181.ne rfl (n180.ne rfl (n179.ne rfl (n178.ne rfl (n164.ne rfl (n163.ne rfl (n161.ne rfl (n158.ne rfl (n128.ne rfl (n127.ne rfl (n126.ne rfl (n125.ne rfl (n113.ne rfl (n112.ne rfl (n111.ne rfl (n77.ne rfl (n63.ne rfl (n54.ne rfl (n53.ne rfl (n44.ne rfl (n43.ne rfl (n40.ne rfl (n39.ne rfl (n38.ne rfl (n36.ne rfl (n35.ne rfl (n34.ne rfl (n32.ne rfl (n31.ne rfl (n30.ne rfl (n29.ne rfl (n28.ne rfl (n22.ne rfl (n21.ne rfl (n20.ne rfl (n12.ne rfl n8.at_)))))))))))))))))))))))))))))))))))))))))))))))))))))))))))))))))))))))))))))))))))))))))))))))))))))))))))
    have e588 := n585.ne rfl (n582.ne rfl (n580.ne rfl (n579.ne rfl (n577.ne rfl (n575.ne rfl (n573.ne rfl (n572.ne rfl (n570.ne rfl (n568.ne rfl (n567.ne rfl (n566.ne rfl (n565.ne rfl (n563.ne rfl (n353.ne rfl (n352.ne rfl (n350.ne rfl (n348.ne rfl (n347.ne rfl (n345.ne rfl (n344.ne rfl (n342.ne rfl (n340.ne rfl (n339.ne rfl (n337.ne rfl (n336.ne rfl (n334.ne rfl (n332.ne rfl (n331.ne rfl (n329.ne rfl (n328.ne rfl (n326.ne rfl (n324.ne rfl (n323.ne rfl (n322.ne rfl (n321.ne rfl (n319.ne rfl (n318.ne rfl (n317.ne rfl (n313.ne rfl (n312.ne rfl (n311.ne rfl (n310.ne rfl (n309.ne rfl (n295.ne rfl (n294.ne rfl (n292.ne rfl (n289.ne rfl (n288.ne rfl (n287.ne rfl (n286.ne rfl (n285.ne rfl (n271.ne rfl (n270.ne rfl (n268.ne rfl (n265.ne rfl (n264.ne rfl (n263.ne rfl (n262.ne rfl (n261.ne rfl (n247.ne rfl (n246.ne rfl (n244.ne rfl (n241.ne rfl (n240.ne rfl (n239.ne rfl (n238.ne rfl (n237.ne rfl (n223.ne rfl (n222.ne rfl (n220.ne rfl e219))))))))))))))))))))))))))))))))))))))))))))))))))))))))))))))))))))))
    have e589 := n585.ne rfl (n582.ne rfl (n580.ne rfl (n579.ne rfl (n577.ne rfl (n575.ne rfl (n573.ne rfl (n572.ne rfl (n570.ne rfl (n568.ne rfl (n567.ne rfl (n566.ne rfl (n565.ne rfl (n563.ne rfl (n353.ne rfl (n352.ne rfl (n350.ne rfl (n348.ne rfl (n347.ne rfl (n345.ne rfl (n344.ne rfl (n342.ne rfl (n340.ne rfl (n339.ne rfl (n337.ne rfl (n336.ne rfl (n334.ne rfl (n332.ne rfl (n331.ne rfl (n329.ne rfl (n328.ne rfl (n326.ne rfl (n324.ne rfl (n323.ne rfl (n322.ne rfl (n321.ne rfl (n319.ne rfl (n318.ne rfl (n317.ne rfl (n313.ne rfl (n312.ne rfl (n311.ne rfl (n310.ne rfl (n309.ne rfl (n295.ne rfl (n294.ne rfl (n292.ne rfl (n289.ne rfl (n288.ne rfl (n287.ne rfl (n286.ne rfl (n285.ne rfl (n271.ne rfl (n270.ne rfl (n268.ne rfl (n265.ne rfl (n264.ne rfl (n263.ne rfl (n262.ne rfl (n261.ne rfl (n247.ne rfl (n246.ne rfl (n244.ne rfl e243))))))))))))))))))))))))))))))))))))))))))))))))))))))))))))))
    refine lp (fun (nL : Nat) (aL : Act) (wL : World) => ∃ i : Nat, ∃ u : Bool, nL = 5 - i ∧ Ok 161 aL ∧ Gr w wL ∧ (aL.eval (.tmp 6) = .bool false) ∧ (aL.eval (.tmp 9) = .pointer (some ⟨b64, 0, none⟩)) ∧ (aL.eval (.tmp 10) = .pointer (some ⟨b78, 0, none⟩)) ∧ (aL.eval (.tmp 23) = .bool u) ∧ (aL.eval (.tmp 120) = .int .i64 (i : Int)) ∧ (Bk wL b64 #[.slice vaq1 ((ints (formV (setD L1))).length) vcq1, .slice maq1 ((pairs (formM (setD L1))).length) mcq1] 25) ∧ (Bk wL b78 #[.slice vaq2 ((ints (formV (setD L2))).length) vcq2, .slice maq2 ((pairs (formM (setD L2))).length) mcq2] 25) ∧ (Gr w45 wL) ∧ (Gr w55 wL) ∧ (Gr w114 wL) ∧ (Gr w165 wL) ∧ (i ≤ 5) ∧ (u = true ↔ upTo (setD L1) (setD L2) i 1)) _ ⟨0, true, rfl, n585.ok, G298, e587, e588, e589, (n585.ne rfl n582.at_), n585.at_, B301, B302, A305, A306, A307, A308, by omega, up_zero _ _⟩ ?_
    rintro m590 aI586 w592 ⟨i, u, hmI586, okI586, GI586, s6I586, s9I586, s10I586, s23I586, s120I586, kb64I586, kb78I586, xanch50I586, xanch61I586, xanch123I586, xanch176I586, hiI586, huI586⟩ KI586 hKI586
    refine wp_seq_k (fun K593 hK593 => ?_)
    refine wp_region_lit ?_
    refine sv okI586 rfl (wn _ rfl) rfl (o_ltI s120I586 ev_const) (fun an594 n594 => ?_)
    refine wpList_nil ?_
    refine th_n (hK593 _ _ ?_)
    refine wp_seq_k (fun K595 hK595 => ?_)
    by_cases c596 : (i : Int) < 5
    · refine wp_cond_true ((n594.at_).trans (congrArg Value.bool (decide_eq_true c596))) ?_
      refine wp_skip ?_
      refine th_n (hK595 _ _ ?_)
      refine wp_seq_k (fun K597 hK597 => ?_)
      refine wp_block ?_
      refine wp_seq_k (fun K598 hK598 => ?_)
      refine wp_region_lit ?_
      refine sv n594.ok rfl (wn _ rfl) rfl (o_mv (n594.ne rfl s120I586)) (fun an599 n599 => ?_)
      refine sv n599.ok rfl (wn _ rfl) rfl (o_as n599.at_) (fun an600 n600 => ?_)
      refine wpList_nil ?_
      refine th_n (hK598 _ _ ?_)
      refine wp_seq_k (fun K601 hK601 => ?_)
      refine wp_region_lit ?_
      refine sv n600.ok rfl (wn _ rfl) rfl (o_as ev_const) (fun an602 n602 => ?_)
      refine wpList_nil ?_
      refine th_n (hK601 _ _ ?_)
      refine wp_block ?_
      have e604 := n602.ne rfl (n600.ne rfl (n599.ne rfl (n594.ne rfl s6I586)))
      have e605 := n602.ne rfl (n600.ne rfl (n599.ne rfl (n594.ne rfl s9I586)))
      have e606 := n602.ne rfl (n600.ne rfl (n599.ne rfl (n594.ne rfl s10I586)))
      have e607 := n602.ne rfl (n600.ne rfl (n599.ne rfl (n594.ne rfl s23I586)))
      have e608 := n602.ne rfl (n600.ne rfl (n599.ne rfl (n594.ne rfl s120I586)))
      refine lp (fun (nL : Nat) (aL : Act) (wL : World) => ∃ j : Nat, ∃ z : Bool, nL = 13 - j ∧ Ok 161 aL ∧ Gr w wL ∧ (aL.eval (.tmp 6) = .bool false) ∧ (aL.eval (.tmp 9) = .pointer (some ⟨b64, 0, none⟩)) ∧ (aL.eval (.tmp 10) = .pointer (some ⟨b78, 0, none⟩)) ∧ (aL.eval (.tmp 23) = .bool z) ∧ (aL.eval (.tmp 24) = .int .i64 (i : Int)) ∧ (aL.eval (.tmp 25) = .int .i64 (j : Int)) ∧ (aL.eval (.tmp 120) = .int .i64 (i : Int)) ∧ (Bk wL b64 #[.slice vaq1 ((ints (formV (setD L1))).length) vcq1, .slice maq1 ((pairs (formM (setD L1))).length) mcq1] 25) ∧ (Bk wL b78 #[.slice vaq2 ((ints (formV (setD L2))).length) vcq2, .slice maq2 ((pairs (formM (setD L2))).length) mcq2] 25) ∧ (Gr w45 wL) ∧ (Gr w55 wL) ∧ (Gr w114 wL) ∧ (Gr w165 wL) ∧ (1 ≤ j ∧ j ≤ 13) ∧ (z = true ↔ upTo (setD L1) (setD L2) i j)) _ ⟨1, u, rfl, n602.ok, GI586, e604, e605, e606, e607, (n602.ne rfl n600.at_), n602.at_, e608, kb64I586, kb78I586, xanch50I586, xanch61I586, xanch123I586, xanch176I586, by omega, huI586⟩ ?_
      rintro m609 aI603 w611 ⟨j, z, hmI603, okI603, GI603, s6I603, s9I603, s10I603, s23I603, s24I603, s25I603, s120I603, kb64I603, kb78I603, xanch50I603, xanch61I603, xanch123I603, xanch176I603, hjI603, hzI603⟩ KI603 hKI603
      refine wp_seq_k (fun K612 hK612 => ?_)
      refine wp_seq_k (fun K613 hK613 => ?_)
      refine wp_region_lit ?_
      refine sv okI603 rfl (wn _ rfl) rfl (o_mv s25I603) (fun an614 n614 => ?_)
      refine sv n614.ok rfl (wn _ rfl) rfl (o_leI n614.at_ ev_const) (fun an615 n615 => ?_)
      refine wpList_nil ?_
      refine th_n (hK613 _ _ ?_)
      by_cases c616 : (j : Int) ≤ 12
      · refine wp_cond_true ((n615.at_).trans (congrArg Value.bool (decide_eq_true c616))) ?_
        refine wp_skip ?_
        refine th_n (hK612 _ _ ?_)
        refine wp_seq_k (fun K617 hK617 => ?_)
        refine wp_block ?_
        refine wp_seq_k (fun K618 hK618 => ?_)
        refine wp_region_lit ?_
        refine sv n615.ok rfl (wn _ rfl) rfl (o_ldR (n615.ne rfl (n614.ne rfl s9I603)) kb64I603 Try.underlying25 rfl (by kernel_rfl)) (fun an619 n619 => ?_)
        have e620 := n619.ne rfl (n615.ne rfl (n614.ne rfl s24I603))
        refine sv n619.ok rfl (wn _ rfl) rfl (o_mv e620) (fun an621 n621 => ?_)
        have e622 := n621.ne rfl (n619.ne rfl (n615.ne rfl (n614.ne rfl s25I603)))
        refine sv n621.ok rfl (wn _ rfl) rfl (o_mv e622) (fun an623 n623 => ?_)
        refine sv n623.ok rfl (wn _ rfl) rfl (o_bd (cells := #[.int .i64 (i : Int), .int .i64 (j : Int)]) (vs := [(0, .int .i64 (i : Int)), (1, .int .i64 (j : Int))]) (by simp [(n623.ne rfl n621.at_), n623.at_, ev_const]) (by kernel_rfl)) (fun an624 n624 => ?_)
        have e625 := n624.ne rfl (n623.ne rfl (n621.ne rfl n619.at_))
        refine sc n624.ok rfl (wn _ rfl) rfl (o_f2 Try.func10 rfl rfl rfl e625 n624.at_) (shasN _ _ i j w611 (hkq1.gr xanch50I603) (Sm.set L1) ⟨by omega, by omega, by omega⟩) ?_
        rintro _ w627 ⟨rfl, g628⟩
        refine ⟨_, rfl, fun an626 n626 => ?_⟩
        have G629 := GI603.trans g628
        have B630 := kb64I603.gr g628
        have B631 := kb78I603.gr g628
        have A632 := xanch50I603.trans g628
        have A633 := xanch61I603.trans g628
        have A634 := xanch123I603.trans g628
        have A635 := xanch176I603.trans g628
        refine sv n626.ok rfl (wn _ rfl) rfl (o_mv n626.at_) (fun an636 n636 => ?_)
        refine sv n636.ok rfl (wn _ rfl) rfl (o_ex n636.at_ rfl) (fun an637 n637 => ?_)
        refine sv n637.ok rfl (wn _ rfl) rfl (o_ex (n637.ne rfl n636.at_) rfl) (fun an638 n638 => ?_)
        refine sv n638.ok rfl (wn _ rfl) rfl (o_as (n638.ne rfl n637.at_)) (fun an639 n639 => ?_)
        refine sv n639.ok rfl (wn _ rfl) rfl (o_as (n639.ne rfl n638.at_)) (fun an640 n640 => ?_)
        refine wpList_nil ?_
        refine th_n (hK618 _ _ ?_)
        refine wp_seq_k (fun K641 hK641 => ?_)
        refine wp_region_lit ?_
        have e642 := n640.ne rfl (n639.ne rfl (n638.ne rfl (n637.ne rfl (n636.ne rfl (n626.ne rfl (n624.ne rfl (n623.ne rfl (n621.ne rfl (n619.ne rfl (n615.ne rfl (n614.ne rfl s10I603)))))))))))
        refine sv n640.ok rfl (wn _ rfl) rfl (o_ldR e642 B631 Try.underlying25 rfl (by kernel_rfl)) (fun an643 n643 => ?_)
        have e644 := n643.ne rfl (n640.ne rfl (n639.ne rfl (n638.ne rfl (n637.ne rfl (n636.ne rfl (n626.ne rfl (n624.ne rfl (n623.ne rfl (n621.ne rfl e620)))))))))
        refine sv n643.ok rfl (wn _ rfl) rfl (o_mv e644) (fun an645 n645 => ?_)
        have e646 := n645.ne rfl (n643.ne rfl (n640.ne rfl (n639.ne rfl (n638.ne rfl (n637.ne rfl (n636.ne rfl (n626.ne rfl (n624.ne rfl (n623.ne rfl e622)))))))))
        refine sv n645.ok rfl (wn _ rfl) rfl (o_mv e646) (fun an647 n647 => ?_)
        refine sv n647.ok rfl (wn _ rfl) rfl (o_bd (cells := #[.int .i64 (i : Int), .int .i64 (j : Int)]) (vs := [(0, .int .i64 (i : Int)), (1, .int .i64 (j : Int))]) (by simp [(n647.ne rfl n645.at_), n647.at_, ev_const]) (by kernel_rfl)) (fun an648 n648 => ?_)
        have e649 := n648.ne rfl (n647.ne rfl (n645.ne rfl n643.at_))
        refine sc n648.ok rfl (wn _ rfl) rfl (o_f2 Try.func10 rfl rfl rfl e649 n648.at_) (shasN _ _ i j w627 (hkq2.gr A633) (Sm.set L2) ⟨by omega, by omega, by omega⟩) ?_
        rintro _ w651 ⟨rfl, g652⟩
        refine ⟨_, rfl, fun an650 n650 => ?_⟩
        have G653 := G629.trans g652
        have B654 := B630.gr g652
        have B655 := B631.gr g652
        have A656 := A632.trans g652
        have A657 := A633.trans g652
        have A658 := A634.trans g652
        have A659 := A635.trans g652
        refine sv n650.ok rfl (wn _ rfl) rfl (o_mv n650.at_) (fun an660 n660 => ?_)
        refine sv n660.ok rfl (wn _ rfl) rfl (o_ex n660.at_ rfl) (fun an661 n661 => ?_)
        refine sv n661.ok rfl (wn _ rfl) rfl (o_ex (n661.ne rfl n660.at_) rfl) (fun an662 n662 => ?_)
        refine sv n662.ok rfl (wn _ rfl) rfl (o_as (n662.ne rfl n661.at_)) (fun an663 n663 => ?_)
        refine sv n663.ok rfl (wn _ rfl) rfl (o_as (n663.ne rfl n662.at_)) (fun an664 n664 => ?_)
        refine wpList_nil ?_
        refine th_n (hK641 _ _ ?_)
        refine wp_seq_k (fun K665 hK665 => ?_)
        refine wp_seq_k (fun K666 hK666 => ?_)
        refine wp_region_lit ?_
        have e667 := n664.ne rfl (n663.ne rfl (n662.ne rfl (n661.ne rfl (n660.ne rfl (n650.ne rfl (n648.ne rfl (n647.ne rfl (n645.ne rfl (n643.ne rfl n640.at_)))))))))
        refine sv n664.ok rfl (wn _ rfl) rfl (o_mv e667) (fun an668 n668 => ?_)
        refine sv n668.ok rfl (wn _ rfl) rfl (o_neq (b := false) n668.at_ ev_const (by decide)) (fun an669 n669 => ?_)
        refine sv n669.ok rfl (wn _ rfl) rfl (o_mv n669.at_) (fun an670 n670 => ?_)
        have e671 := n670.ne rfl (n669.ne rfl (n668.ne rfl n664.at_))
        refine sv n670.ok rfl (wgT rfl (yl 2 false rfl n670.at_) rfl) rfl (o_mv e671) (fun an672 n672 => ?_)
        refine sv n672.ok rfl (wgT rfl (yl 2 false rfl (n672.ne rfl n670.at_)) rfl) rfl (o_neq (b := false) n672.at_ ev_const (by decide)) (fun an673 n673 => ?_)
        refine sv n673.ok rfl (wn _ rfl) rfl (o_pkF (n673.ne rfl (n672.ne rfl n670.at_)) n673.at_) (fun an674 n674 => ?_)
        refine wpList_nil ?_
        refine th_n (hK666 _ _ ?_)
        refine wp_cond_false (n674.at_) ?_
        refine wp_skip ?_
        refine th_n (hK665 _ _ ?_)
        refine wp_region_lit ?_
        have e675 := n674.ne rfl (n673.ne rfl (n672.ne rfl (n670.ne rfl (n669.ne rfl (n668.ne rfl (n664.ne rfl (n663.ne rfl (n662.ne rfl (n661.ne rfl (n660.ne rfl (n650.ne rfl (n648.ne rfl (n647.ne rfl (n645.ne rfl (n643.ne rfl (n640.ne rfl (n639.ne rfl (n638.ne rfl (n637.ne rfl (n636.ne rfl (n626.ne rfl (n624.ne rfl (n623.ne rfl (n621.ne rfl (n619.ne rfl (n615.ne rfl (n614.ne rfl s23I603)))))))))))))))))))))))))))
        refine sv n674.ok rfl (wn _ rfl) rfl (o_mv e675) (fun an676 n676 => ?_)
        refine sv n676.ok rfl (wn _ rfl) rfl (o_mv n676.at_) (fun an677 n677 => ?_)
        cases c678 : z
        · have e679 := (n677.at_).trans (congrArg Value.bool (c678))
          have e680 := ((n677.ne rfl (n676.ne rfl e675))).trans (congrArg Value.bool (c678))
          have e681 := ((n677.ne rfl n676.at_)).trans (congrArg Value.bool (c678))
          refine sn n677.ok rfl (wgF rfl (yl 1 false rfl e679) rfl) rfl (fun an682 n682 => ?_)
          refine sn n682.ok rfl (wgF rfl (yl 1 false rfl (n682.ne rfl e679)) rfl) rfl (fun an683 n683 => ?_)
          refine sn n683.ok rfl (wgF rfl (yl 1 false rfl (n683.ne rfl (n682.ne rfl e679))) rfl) rfl (fun an684 n684 => ?_)
          have e685 := n684.ne rfl (n683.ne rfl (n682.ne rfl e679))
          refine sv n684.ok rfl (wn _ rfl) rfl (o_pkF e685 ev_const) (fun an686 n686 => ?_)
          refine sv n686.ok rfl (wn _ rfl) rfl (o_as n686.at_) (fun an687 n687 => ?_)
          refine wpList_nil ?_
          refine ib_n ?_
          refine th_n (hK617 _ _ ?_)
          refine wp_region_lit ?_
          have e688 := n687.ne rfl (n686.ne rfl (n684.ne rfl (n683.ne rfl (n682.ne rfl (n677.ne rfl (n676.ne rfl (n674.ne rfl (n673.ne rfl (n672.ne rfl (n670.ne rfl (n669.ne rfl (n668.ne rfl (n664.ne rfl (n663.ne rfl (n662.ne rfl (n661.ne rfl (n660.ne rfl (n650.ne rfl (n648.ne rfl (n647.ne rfl e646))))))))))))))))))))
          refine sv n687.ok rfl (wn _ rfl) rfl (o_mv e688) (fun an689 n689 => ?_)
          refine sv n689.ok rfl (wn _ rfl) rfl (o_add (r := ((j + 1 : Nat) : Int)) n689.at_ ev_const (by omega) (by omega)) (fun an690 n690 => ?_)
          refine sv n690.ok rfl (wn _ rfl) rfl (o_as n690.at_) (fun an691 n691 => ?_)
          refine wpList_nil ?_
          have e692 := n691.ne rfl (n690.ne rfl (n689.ne rfl (n687.ne rfl (n686.ne rfl (n684.ne rfl (n683.ne rfl (n682.ne rfl (n677.ne rfl (n676.ne rfl (n674.ne rfl (n673.ne rfl (n672.ne rfl (n670.ne rfl (n669.ne rfl (n668.ne rfl (n664.ne rfl (n663.ne rfl (n662.ne rfl (n661.ne rfl (n660.ne rfl (n650.ne rfl (n648.ne rfl (n647.ne rfl (n645.ne rfl (n643.ne rfl (n640.ne rfl (n639.ne rfl (n638.ne rfl (n637.ne rfl (n636.ne rfl (n626.ne rfl (n624.ne rfl (n623.ne rfl (n621.ne rfl (n619.ne rfl (n615.ne rfl (n614.ne rfl s6I603)))))))))))))))))))))))))))))))))))))
          have e693 := n691.ne rfl (n690.ne rfl (n689.ne rfl (n687.ne rfl (n686.ne rfl (n684.ne rfl (n683.ne rfl (n682.ne rfl (n677.ne rfl (n676.ne rfl (n674.ne rfl (n673.ne rfl (n672.ne rfl (n670.ne rfl (n669.ne rfl (n668.ne rfl (n664.ne rfl (n663.ne rfl (n662.ne rfl (n661.ne rfl (n660.ne rfl (n650.ne rfl (n648.ne rfl (n647.ne rfl (n645.ne rfl (n643.ne rfl (n640.ne rfl (n639.ne rfl (n638.ne rfl (n637.ne rfl (n636.ne rfl (n626.ne rfl (n624.ne rfl (n623.ne rfl (n621.ne rfl (n619.ne rfl (n615.ne rfl (n614.ne rfl s9I603)))))))))))))))))))))))))))))))))))))
          have e694 := n691.ne rfl (n690.ne rfl (n689.ne rfl (n687.ne rfl (n686.ne rfl (n684.ne rfl (n683.ne rfl (n682.ne rfl (n677.ne rfl (n676.ne rfl (n674.ne rfl (n673.ne rfl (n672.ne rfl (n670.ne rfl (n669.ne rfl (n668.ne rfl (n664.ne rfl (n663.ne rfl (n662.ne rfl (n661.ne rfl (n660.ne rfl (n650.ne rfl (n648.ne rfl (n647.ne rfl (n645.ne rfl (n643.ne rfl e642)))))))))))))))))))))))))
          have e695 := n691.ne rfl (n690.ne rfl (n689.ne rfl n687.at_))
          have e696 := n691.ne rfl (n690.ne rfl (n689.ne rfl (n687.ne rfl (n686.ne rfl (n684.ne rfl (n683.ne rfl (n682.ne rfl (n677.ne rfl (n676.ne rfl (n674.ne rfl (n673.ne rfl (n672.ne rfl (n670.ne rfl (n669.ne rfl (n668.ne rfl (n664.ne rfl (n663.ne rfl (n662.ne rfl (n661.ne rfl (n660.ne rfl (n650.ne rfl (n648.ne rfl (n647.ne rfl (n645.ne rfl e644))))))))))))))))))))))))
          have e697 := n691.ne rfl (n690.ne rfl (n689.ne rfl (n687.ne rfl (n686.ne rfl (n684.ne rfl (n683.ne rfl (n682.ne rfl (n677.ne rfl (n676.ne rfl (n674.ne rfl (n673.ne rfl (n672.ne rfl (n670.ne rfl (n669.ne rfl (n668.ne rfl (n664.ne rfl (n663.ne rfl (n662.ne rfl (n661.ne rfl (n660.ne rfl (n650.ne rfl (n648.ne rfl (n647.ne rfl (n645.ne rfl (n643.ne rfl (n640.ne rfl (n639.ne rfl (n638.ne rfl (n637.ne rfl (n636.ne rfl (n626.ne rfl (n624.ne rfl (n623.ne rfl (n621.ne rfl (n619.ne rfl (n615.ne rfl (n614.ne rfl s120I603)))))))))))))))))))))))))))))))))))))
          exact th_n (hKI603 _ _ _ (by omega) ⟨j + 1, false, rfl, n691.ok, G653, e692, e693, e694, e695, e696, n691.at_, e697, B654, B655, A656, A657, A658, A659, by omega, up_F hzI603 c678⟩)
        · have e698 := (n677.at_).trans (congrArg Value.bool (c678))
          have e699 := ((n677.ne rfl (n676.ne rfl e675))).trans (congrArg Value.bool (c678))
          have e700 := ((n677.ne rfl n676.at_)).trans (congrArg Value.bool (c678))
          have e701 := n677.ne rfl (n676.ne rfl (n674.ne rfl (n673.ne rfl (n672.ne rfl (n670.ne rfl (n669.ne rfl (n668.ne rfl (n664.ne rfl (n663.ne rfl (n662.ne rfl (n661.ne rfl (n660.ne rfl (n650.ne rfl (n648.ne rfl (n647.ne rfl (n645.ne rfl (n643.ne rfl (n640.ne rfl n639.at_))))))))))))))))))
          refine sv n677.ok rfl (wgT rfl (yl 1 true rfl e698) rfl) rfl (o_mv e701) (fun an702 n702 => ?_)
          have e703 := n702.ne rfl (n677.ne rfl (n676.ne rfl (n674.ne rfl (n673.ne rfl (n672.ne rfl (n670.ne rfl (n669.ne rfl (n668.ne rfl (n664.ne rfl n663.at_)))))))))
          refine sv n702.ok rfl (wgT rfl (yl 1 true rfl (n702.ne rfl e698)) rfl) rfl (o_mv e703) (fun an704 n704 => ?_)
          refine sv n704.ok rfl (wgT rfl (yl 1 true rfl (n704.ne rfl (n702.ne rfl e698))) rfl) rfl (o_eqB (n704.ne rfl n702.at_) n704.at_ rfl Try.underlying4) (fun an705 n705 => ?_)
          have e706 := n705.ne rfl (n704.ne rfl (n702.ne rfl e698))
          refine sv n705.ok rfl (wn _ rfl) rfl (o_pkT e706 n705.at_) (fun an707 n707 => ?_)
          refine sv n707.ok rfl (wn _ rfl) rfl (o_as n707.at_) (fun an708 n708 => ?_)
          refine wpList_nil ?_
          refine ib_n ?_
          refine th_n (hK617 _ _ ?_)
          refine wp_region_lit ?_
          have e709 := n708.ne rfl (n707.ne rfl (n705.ne rfl (n704.ne rfl (n702.ne rfl (n677.ne rfl (n676.ne rfl (n674.ne rfl (n673.ne rfl (n672.ne rfl (n670.ne rfl (n669.ne rfl (n668.ne rfl (n664.ne rfl (n663.ne rfl (n662.ne rfl (n661.ne rfl (n660.ne rfl (n650.ne rfl (n648.ne rfl (n647.ne rfl e646))))))))))))))))))))
          refine sv n708.ok rfl (wn _ rfl) rfl (o_mv e709) (fun an710 n710 => ?_)
          refine sv n710.ok rfl (wn _ rfl) rfl (o_add (r := ((j + 1 : Nat) : Int)) n710.at_ ev_const (by omega) (by omega)) (fun an711 n711 => ?_)
          refine sv n711.ok rfl (wn _ rfl) rfl (o_as n711.at_) (fun an712 n712 => ?_)
          refine wpList_nil ?_
          have e713 := n712.ne rfl (n711.ne rfl (n710.ne rfl (n708.ne rfl (n707.ne rfl (n705.ne rfl (n704.ne rfl (n702.ne rfl (n677.ne rfl (n676.ne rfl (n674.ne rfl (n673.ne rfl (n672.ne rfl (n670.ne rfl (n669.ne rfl (n668.ne rfl (n664.ne rfl (n663.ne rfl (n662.ne rfl (n661.ne rfl (n660.ne rfl (n650.ne rfl (n648.ne rfl (n647.ne rfl (n645.ne rfl (n643.ne rfl (n640.ne rfl (n639.ne rfl (n638.ne rfl (n637.ne rfl (n636.ne rfl (n626.ne rfl (n624.ne rfl (n623.ne rfl (n621.ne rfl (n619.ne rfl (n615.ne rfl (n614.ne rfl s6I603)))))))))))))))))))))))))))))))))))))
          have e714 := n712.ne rfl (n711.ne rfl (n710.ne rfl (n708.ne rfl (n707.ne rfl (n705.ne rfl (n704.ne rfl (n702.ne rfl (n677.ne rfl (n676.ne rfl (n674.ne rfl (n673.ne rfl (n672.ne rfl (n670.ne rfl (n669.ne rfl (n668.ne rfl (n664.ne rfl (n663.ne rfl (n662.ne rfl (n661.ne rfl (n660.ne rfl (n650.ne rfl (n648.ne rfl (n647.ne rfl (n645.ne rfl (n643.ne rfl (n640.ne rfl (n639.ne rfl (n638.ne rfl (n637.ne rfl (n636.ne rfl (n626.ne rfl (n624.ne rfl (n623.ne rfl (n621.ne rfl (n619.ne rfl (n615.ne rfl (n614.ne rfl s9I603)))))))))))))))))))))))))))))))))))))
          have e715 := n712.ne rfl (n711.ne rfl (n710.ne rfl (n708.ne rfl (n707.ne rfl (n705.ne rfl (n704.ne rfl (n702.ne rfl (n677.ne rfl (n676.ne rfl (n674.ne rfl (n673.ne rfl (n672.ne rfl (n670.ne rfl (n669.ne rfl (n668.ne rfl (n664.ne rfl (n663.ne rfl (n662.ne rfl (n661.ne rfl (n660.ne rfl (n650.ne rfl (n648.ne rfl (n647.ne rfl (n645.ne rfl (n643.ne rfl e642)))))))))))))))))))))))))
          have e716 := n712.ne rfl (n711.ne rfl (n710.ne rfl n708.at_))
          have e717 := n712.ne rfl (n711.ne rfl (n710.ne rfl (n708.ne rfl (n707.ne rfl (n705.ne rfl (n704.ne rfl (n702.ne rfl (n677.ne rfl (n676.ne rfl (n674.ne rfl (n673.ne rfl (n672.ne rfl (n670.ne rfl (n669.ne rfl (n668.ne rfl (n664.ne rfl (n663.ne rfl (n662.ne rfl (n661.ne rfl (n660.ne rfl (n650.ne rfl (n648.ne rfl (n647.ne rfl (n645.ne rfl e644))))))))))))))))))))))))
          have e718 := n712.ne rfl (n711.ne rfl (n710.ne rfl (n708.ne rfl (n707.ne rfl (n705.ne rfl (n704.ne rfl (n702.ne rfl (n677.ne rfl (n676.ne rfl (n674.ne rfl (n673.ne rfl (n672.ne rfl (n670.ne rfl (n669.ne rfl (n668.ne rfl (n664.ne rfl (n663.ne rfl (n662.ne rfl (n661.ne rfl (n660.ne rfl (n650.ne rfl (n648.ne rfl (n647.ne rfl (n645.ne rfl (n643.ne rfl (n640.ne rfl (n639.ne rfl (n638.ne rfl (n637.ne rfl (n636.ne rfl (n626.ne rfl (n624.ne rfl (n623.ne rfl (n621.ne rfl (n619.ne rfl (n615.ne rfl (n614.ne rfl s120I603)))))))))))))))))))))))))))))))))))))
          exact th_n (hKI603 _ _ _ (by omega) ⟨j + 1, ((setD L1 i j) == (setD L2 i j)), rfl, n712.ok, G653, e713, e714, e715, e716, e717, n712.at_, e718, B654, B655, A656, A657, A658, A659, by omega, up_T hzI603 c678 (by omega) (by omega)⟩)
      · refine wp_cond_false ((n615.at_).trans (congrArg Value.bool (decide_eq_false c616))) ?_
        refine wp_exit ?_
        refine th_x ?_
        refine th_x ?_
        refine ib_x ?_
        refine ib_n ?_
        refine th_n (hK597 _ _ ?_)
        refine wp_region_lit ?_
        refine sv n615.ok rfl (wn _ rfl) rfl (o_add (r := ((i + 1 : Nat) : Int)) (n615.ne rfl (n614.ne rfl s120I603)) ev_const (by omega) (by omega)) (fun an719 n719 => ?_)
        refine sv n719.ok rfl (wn _ rfl) rfl (o_mv n719.at_) (fun an720 n720 => ?_)
        refine wpList_nil ?_
        have e721 := n720.ne rfl (n719.ne rfl (n615.ne rfl (n614.ne rfl s6I603)))
        have e722 := n720.ne rfl (n719.ne rfl (n615.ne rfl (n614.ne rfl s9I603)))
        have e723 := n720.ne rfl (n719.ne rfl (n615.ne rfl (n614.ne rfl s10I603)))
        have e724 := n720.ne rfl (n719.ne rfl (n615.ne rfl (n614.ne rfl s23I603)))
        exact th_n (hKI586 _ _ _ (by omega) ⟨i + 1, z, rfl, n720.ok, GI603, e721, e722, e723, e724, n720.at_, kb64I603, kb78I603, xanch50I603, xanch61I603, xanch123I603, xanch176I603, by omega, up_next (by omega) hzI603⟩)
    · refine wp_cond_false ((n594.at_).trans (congrArg Value.bool (decide_eq_false c596))) ?_
      refine wp_exit ?_
      refine th_x ?_
      refine th_x ?_
      refine ib_x ?_
      refine th_n (hK583 _ _ ?_)
      refine wp_seq_k (fun K725 hK725 => ?_)
      refine wp_region_lit ?_
      refine sv n594.ok rfl (wn _ rfl) rfl (o_mv (n594.ne rfl s23I586)) (fun an726 n726 => ?_)
      refine sv n726.ok rfl (wn _ rfl) rfl (o_ldR (n726.ne rfl (n594.ne rfl s9I586)) kb64I586 Try.underlying25 rfl (by kernel_rfl)) (fun an727 n727 => ?_)
      have e728 := n727.ne rfl (n726.ne rfl (n594.ne rfl s10I586))
      refine sv n727.ok rfl (wn _ rfl) rfl (o_ldR e728 kb78I586 Try.underlying25 rfl (by kernel_rfl)) (fun an729 n729 => ?_)
      refine sc n729.ok rfl (wn _ rfl) rfl (o_f2 Try.func17 rfl rfl rfl (n729.ne rfl n727.at_) n729.at_) (ssameB (b := u) _ _ _ _ w592 (hkq1.gr xanch50I586) (hkq2.gr xanch61I586) (Sm.set L1) (up_end (Sm.set L1) (Sm.set L2) (by omega) huI586)) ?_
      rintro _ w731 ⟨rfl, g732⟩
      refine ⟨_, rfl, fun an730 n730 => ?_⟩
      have G733 := GI586.trans g732
      have B734 := kb64I586.gr g732
      have B735 := kb78I586.gr g732
      have A736 := xanch50I586.trans g732
      have A737 := xanch61I586.trans g732
      have A738 := xanch123I586.trans g732
      have A739 := xanch176I586.trans g732
      have e740 := n730.ne rfl (n729.ne rfl (n727.ne rfl n726.at_))
      refine sv n730.ok rfl (wn _ rfl) rfl (o_eqB (b := true) e740 n730.at_ (by simp) Try.underlying4) (fun an741 n741 => ?_)
      refine sv n741.ok rfl (wn _ rfl) rfl (o_as n741.at_) (fun an742 n742 => ?_)
      refine wpList_nil ?_
      refine th_n (hK725 _ _ ?_)
      refine wp_ret ?_
      exact ret1 n742.ok rfl (n742.at_) ⟨rfl, G733⟩
theorem knowDots_walk (v1 v2 : Value) (x y : Int) (L1 L2 : List (List Int)) (w : World) (h1 : RdLL w v1 L1) (h2 : RdLL w v2 L2) : Calls Try.prog 9 #[v1, v2, .agg #[.int .i64 x, .int .i64 y]] w fun e w' => e = .returned (.bool true) ∧ Gr w w' :=
  knowDots_w v1 v2 L1 L2 x y _ _ rfl rfl w h1 h2
end Go.Proofs.Ytgmoedjdfjloiaa
