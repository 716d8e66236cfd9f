/- The walk of KnowLattice. -/
import Derived.Test.YtgmoedjdfjloiaaKmF
set_option linter.unusedVariables false
set_option linter.unusedSimpArgs false
namespace Go.Proofs.Ytgmoedjdfjloiaa
open Go.RowKit Rm Gx
set_option maxHeartbeats 8000000 in
set_option maxRecDepth 100000 in
theorem knowLattice_walk (v1 v2 v3 : Value) (L1 L2 L3 : List (List Int)) (w : World) (h1 : RdLL w v1 L1) (h2 : RdLL w v2 L2) (h3 : RdLL w v3 L3) :
    Calls Try.prog 5 #[v1, v2, v3] w fun e w' => e = .returned (.bool true) ∧ Gr w w' := by
  refine enter (N := 151) Try.func5 rfl rfl rfl (fun a0 ok0 h0 => ?_)
  have e0_0 : a0.eval (.tmp 0) = v1 := h0 0 _ rfl
  have e0_1 : a0.eval (.tmp 1) = v2 := h0 1 _ rfl
  have e0_2 : a0.eval (.tmp 2) = v3 := h0 2 _ rfl
  clear h0
  have G0 := Gr.refl w
  refine wp_seq_k (fun K1 hK1 => ?_)
  refine wp_region_lit ?_
  refine sv ok0 rfl (wn _ rfl) rfl (o_as ev_const) (fun an2 n2 => ?_)
  refine wpList_nil ?_
  refine th_n (hK1 _ _ ?_)
  refine wp_seq_k (fun K3 hK3 => ?_)
  refine wp_seq_k (fun K4 hK4 => ?_)
  refine wp_region_lit ?_
  refine sc n2.ok rfl (wn _ rfl) rfl (o_f0 Try.func28 rfl rfl rfl ) (knowBegun_any w) ?_
  rintro _ w6 ⟨rfl, g7⟩
  refine ⟨_, rfl, fun an5 n5 => ?_⟩
  have G8 := G0.trans g7
  refine sv n5.ok rfl (wn _ rfl) rfl (o_not n5.at_ rfl) (fun an9 n9 => ?_)
  refine wpList_nil ?_
  refine th_n (hK4 _ _ ?_)
  refine wp_cond_false (n9.at_) ?_
  refine wp_skip ?_
  refine th_n (hK3 _ _ ?_)
  refine wp_seq_k (fun K10 hK10 => ?_)
  refine wp_region_lit ?_
  have e11 := n9.ne rfl (n5.ne rfl (n2.ne rfl e0_0))
  refine sv n9.ok rfl (wn _ rfl) rfl (o_mv e11) (fun an12 n12 => ?_)
  refine sc n12.ok rfl (wn _ rfl) rfl (o_f1 Try.func29 rfl rfl rfl n12.at_) (setK v1 L1 w6 (h1.gr G8)) ?_
  rintro _ w14 ⟨kq1, rfl, hkq1, g15⟩
  obtain ⟨vaq1, vcq1, maq1, mcq1, rfl⟩ := hkq1.form
  refine ⟨_, rfl, fun an13 n13 => ?_⟩
  have G16 := G8.trans g15
  have A18 := Gr.refl w14
  have e19 := n13.ne rfl (n12.ne rfl (n9.ne rfl (n5.ne rfl (n2.ne rfl e0_1))))
  refine sv n13.ok rfl (wn _ rfl) rfl (o_mv e19) (fun an20 n20 => ?_)
  refine sc n20.ok rfl (wn _ rfl) rfl (o_f1 Try.func29 rfl rfl rfl n20.at_) (setK v2 L2 w14 (h2.gr G16)) ?_
  rintro _ w22 ⟨kq2, rfl, hkq2, g23⟩
  obtain ⟨vaq2, vcq2, maq2, mcq2, rfl⟩ := hkq2.form
  refine ⟨_, rfl, fun an21 n21 => ?_⟩
  have G24 := G16.trans g23
  have A25 := A18.trans g23
  have A27 := Gr.refl w22
  have e28 := n21.ne rfl (n20.ne rfl (n13.ne rfl (n12.ne rfl (n9.ne rfl (n5.ne rfl (n2.ne rfl e0_2))))))
  refine sv n21.ok rfl (wn _ rfl) rfl (o_mv e28) (fun an29 n29 => ?_)
  refine sc n29.ok rfl (wn _ rfl) rfl (o_f1 Try.func29 rfl rfl rfl n29.at_) (setK v3 L3 w22 (h3.gr G24)) ?_
  rintro _ w31 ⟨kq3, rfl, hkq3, g32⟩
  obtain ⟨vaq3, vcq3, maq3, mcq3, rfl⟩ := hkq3.form
  refine ⟨_, rfl, fun an30 n30 => ?_⟩
  have G33 := G24.trans g32
  have A34 := A25.trans g32
  have A35 := A27.trans g32
  have A37 := Gr.refl w31
  refine sal (cs := #[.slice none 0 0, .slice none 0 0]) n30.ok rfl (wn _ rfl) rfl (o_al (z := .agg #[.slice none 0 0, .slice none 0 0]) (by kernel_rfl)) (fun an38 w40 b39 W41 n38 => ?_)
  have l42 : w.heap.size ≤ b39 := by rw [W41.eq]; exact G33.size
  have l43 : w14.heap.size ≤ b39 := by rw [W41.eq]; exact A34.size
  have l44 : w22.heap.size ≤ b39 := by rw [W41.eq]; exact A35.size
  have l45 : w31.heap.size ≤ b39 := by rw [W41.eq]; exact A37.size
  have G46 := G33.trans W41.gr
  have A47 := A34.trans W41.gr
  have A48 := A35.trans W41.gr
  have A49 := A37.trans W41.gr
  refine sal (cs := #[.slice none 0 0, .slice none 0 0]) n38.ok rfl (wn _ rfl) rfl (o_al (z := .agg #[.slice none 0 0, .slice none 0 0]) (by kernel_rfl)) (fun an50 w52 b51 W53 n50 => ?_)
  have l54 : b39 < b51 := by rw [W53.eq]; exact W41.bk.lt
  have l55 : w.heap.size ≤ b51 := by rw [W53.eq]; exact G46.size
  have l56 : w14.heap.size ≤ b51 := by rw [W53.eq]; exact A47.size
  have l57 : w22.heap.size ≤ b51 := by rw [W53.eq]; exact A48.size
  have l58 : w31.heap.size ≤ b51 := by rw [W53.eq]; exact A49.size
  have G59 := G46.trans W53.gr
  have B60 := W41.bk.gr W53.gr
  have A61 := A47.trans W53.gr
  have A62 := A48.trans W53.gr
  have A63 := A49.trans W53.gr
  refine sal (cs := #[.slice none 0 0, .slice none 0 0]) n50.ok rfl (wn _ rfl) rfl (o_al (z := .agg #[.slice none 0 0, .slice none 0 0]) (by kernel_rfl)) (fun an64 w66 b65 W67 n64 => ?_)
  have l68 : b39 < b65 := by rw [W67.eq]; exact B60.lt
  have l69 : b51 < b65 := by rw [W67.eq]; exact W53.bk.lt
  have l70 : w.heap.size ≤ b65 := by rw [W67.eq]; exact G59.size
  have l71 : w14.heap.size ≤ b65 := by rw [W67.eq]; exact A61.size
  have l72 : w22.heap.size ≤ b65 := by rw [W67.eq]; exact A62.size
  have l73 : w31.heap.size ≤ b65 := by rw [W67.eq]; exact A63.size
  have G74 := G59.trans W67.gr
  have B75 := B60.gr W67.gr
  have B76 := W53.bk.gr W67.gr
  have A77 := A61.trans W67.gr
  have A78 := A62.trans W67.gr
  have A79 := A63.trans W67.gr
  have e80 := n64.ne rfl (n50.ne rfl (n38.ne rfl (n30.ne rfl (n29.ne rfl (n21.ne rfl (n20.ne rfl n13.at_))))))
  refine ssR rfl (wn _ rfl) (o_stR (n64.ne rfl (n50.ne rfl n38.at_)) e80 B75 (by kernel_rfl) rfl (by simp [Value.oneCell'])) B75 (fun w81 u82 u82b => ?_)
  have G83 : Gr w w81 := Below.upd G74 l42 u82
  have B84 := B76.upd u82 (Nat.ne_of_gt l54)
  have B85 := W67.bk.upd u82 (Nat.ne_of_gt l68)
  have A86 : Gr w14 w81 := Below.upd A77 l43 u82
  have A87 : Gr w22 w81 := Below.upd A78 l44 u82
  have A88 : Gr w31 w81 := Below.upd A79 l45 u82
  have e89 := n64.ne rfl (n50.ne rfl (n38.ne rfl (n30.ne rfl (n29.ne rfl n21.at_))))
  refine ssR rfl (wn _ rfl) (o_stR (n64.ne rfl n50.at_) e89 B84 (by kernel_rfl) rfl (by simp [Value.oneCell'])) B84 (fun w90 u91 u91b => ?_)
  have G92 : Gr w w90 := Below.upd G83 l55 u91
  have B93 := u82b.upd u91 (Nat.ne_of_lt l54)
  have B94 := B85.upd u91 (Nat.ne_of_gt l69)
  have A95 : Gr w14 w90 := Below.upd A86 l56 u91
  have A96 : Gr w22 w90 := Below.upd A87 l57 u91
  have A97 : Gr w31 w90 := Below.upd A88 l58 u91
  have e98 := n64.ne rfl (n50.ne rfl (n38.ne rfl n30.at_))
  refine ssR rfl (wn _ rfl) (o_stR n64.at_ e98 B94 (by kernel_rfl) rfl (by simp [Value.oneCell'])) B94 (fun w99 u100 u100b => ?_)
  have G101 : Gr w w99 := Below.upd G92 l70 u100
  have B102 := B93.upd u100 (Nat.ne_of_lt l68)
  have B103 := u91b.upd u100 (Nat.ne_of_lt l69)
  have A104 : Gr w14 w99 := Below.upd A95 l71 u100
  have A105 : Gr w22 w99 := Below.upd A96 l72 u100
  have A106 : Gr w31 w99 := Below.upd A97 l73 u100
  refine wpList_nil ?_
  refine th_n (hK10 _ _ ?_)
  refine wp_seq_k (fun K107 hK107 => ?_)
  refine wp_region_lit ?_
  refine sv n64.ok rfl (wn _ rfl) rfl (o_ldR (n64.ne rfl (n50.ne rfl n38.at_)) B102 Try.underlying25 rfl (by kernel_rfl)) (fun an108 n108 => ?_)
  refine sv n108.ok rfl (wn _ rfl) rfl (o_ldR (n108.ne rfl (n64.ne rfl n50.at_)) B103 Try.underlying25 rfl (by kernel_rfl)) (fun an109 n109 => ?_)
  refine sc n109.ok rfl (wn _ rfl) rfl (o_f2 Try.func23 rfl rfl rfl (n109.ne rfl n108.at_) n109.at_) (sjoin _ _ _ _ w99 (hkq1.gr A104) (hkq2.gr A105) (Sm.set L1) (Sm.set L2)) ?_
  rintro _ w111 ⟨kk1, rfl, hkk1, g112⟩
  obtain ⟨vak1, vck1, mak1, mck1, rfl⟩ := hkk1.form
  refine ⟨_, rfl, fun an110 n110 => ?_⟩
  have G113 := G101.trans g112
  have B114 := B102.gr g112
  have B115 := B103.gr g112
  have B116 := u100b.gr g112
  have A117 := A104.trans g112
  have A118 := A105.trans g112
  have A119 := A106.trans g112
  have A121 := Gr.refl w111
  refine sv n110.ok rfl (wn _ rfl) rfl (o_mv n110.at_) (fun an122 n122 => ?_)
  refine sv n122.ok rfl (wn _ rfl) rfl (o_ex n122.at_ rfl) (fun an123 n123 => ?_)
  refine sv n123.ok rfl (wn _ rfl) rfl (o_ex (n123.ne rfl n122.at_) rfl) (fun an124 n124 => ?_)
  refine sal (cs := #[.slice none 0 0, .slice none 0 0]) n124.ok rfl (wn _ rfl) rfl (o_al (z := .agg #[.slice none 0 0, .slice none 0 0]) (by kernel_rfl)) (fun an125 w127 b126 W128 n125 => ?_)
  have l129 : b39 < b126 := by rw [W128.eq]; exact B114.lt
  have l130 : b51 < b126 := by rw [W128.eq]; exact B115.lt
  have l131 : b65 < b126 := by rw [W128.eq]; exact B116.lt
  have l132 : w.heap.size ≤ b126 := by rw [W128.eq]; exact G113.size
  have l133 : w14.heap.size ≤ b126 := by rw [W128.eq]; exact A117.size
  have l134 : w22.heap.size ≤ b126 := by rw [W128.eq]; exact A118.size
  have l135 : w31.heap.size ≤ b126 := by rw [W128.eq]; exact A119.size
  have l136 : w111.heap.size ≤ b126 := by rw [W128.eq]; exact A121.size
  have G137 := G113.trans W128.gr
  have B138 := B114.gr W128.gr
  have B139 := B115.gr W128.gr
  have B140 := B116.gr W128.gr
  have A141 := A117.trans W128.gr
  have A142 := A118.trans W128.gr
  have A143 := A119.trans W128.gr
  have A144 := A121.trans W128.gr
  refine ssR rfl (wn _ rfl) (o_stR n125.at_ (n125.ne rfl (n124.ne rfl n123.at_)) W128.bk (by kernel_rfl) rfl (by simp [Value.oneCell'])) W128.bk (fun w145 u146 u146b => ?_)
  have G147 : Gr w w145 := Below.upd G137 l132 u146
  have B148 := B138.upd u146 (Nat.ne_of_lt l129)
  have B149 := B139.upd u146 (Nat.ne_of_lt l130)
  have B150 := B140.upd u146 (Nat.ne_of_lt l131)
  have A151 : Gr w14 w145 := Below.upd A141 l133 u146
  have A152 : Gr w22 w145 := Below.upd A142 l134 u146
  have A153 : Gr w31 w145 := Below.upd A143 l135 u146
  have A154 : Gr w111 w145 := Below.upd A144 l136 u146
  refine sv n125.ok rfl (wn _ rfl) rfl (o_as (n125.ne rfl n124.at_)) (fun an155 n155 => ?_)
  refine wpList_nil ?_
  refine th_n (hK107 _ _ ?_)
  refine wp_seq_k (fun K156 hK156 => ?_)
  refine wp_region_lit ?_
  have e157 := n155.ne rfl (n125.ne rfl (n124.ne rfl (n123.ne rfl (n122.ne rfl (n110.ne rfl (n109.ne rfl (n108.ne rfl (n64.ne rfl n50.at_))))))))
  refine sv n155.ok rfl (wn _ rfl) rfl (o_ldR e157 B149 Try.underlying25 rfl (by kernel_rfl)) (fun an158 n158 => ?_)
  have e159 := n158.ne rfl (n155.ne rfl (n125.ne rfl (n124.ne rfl (n123.ne rfl (n122.ne rfl (n110.ne rfl (n109.ne rfl (n108.ne rfl (n64.ne rfl (n50.ne rfl n38.at_))))))))))
  refine sv n158.ok rfl (wn _ rfl) rfl (o_ldR e159 B148 Try.underlying25 rfl (by kernel_rfl)) (fun an160 n160 => ?_)
  refine sc n160.ok rfl (wn _ rfl) rfl (o_f2 Try.func23 rfl rfl rfl (n160.ne rfl n158.at_) n160.at_) (sjoin _ _ _ _ w145 (hkq2.gr A152) (hkq1.gr A151) (Sm.set L2) (Sm.set L1)) ?_
  rintro _ w162 ⟨kk2, rfl, hkk2, g163⟩
  obtain ⟨vak2, vck2, mak2, mck2, rfl⟩ := hkk2.form
  refine ⟨_, rfl, fun an161 n161 => ?_⟩
  have G164 := G147.trans g163
  have B165 := B148.gr g163
  have B166 := B149.gr g163
  have B167 := B150.gr g163
  have B168 := u146b.gr g163
  have A169 := A151.trans g163
  have A170 := A152.trans g163
  have A171 := A153.trans g163
  have A172 := A154.trans g163
  have A174 := Gr.refl w162
  refine sv n161.ok rfl (wn _ rfl) rfl (o_mv n161.at_) (fun an175 n175 => ?_)
  refine sv n175.ok rfl (wn _ rfl) rfl (o_ex n175.at_ rfl) (fun an176 n176 => ?_)
  refine sv n176.ok rfl (wn _ rfl) rfl (o_ex (n176.ne rfl n175.at_) rfl) (fun an177 n177 => ?_)
  refine sal (cs := #[.slice none 0 0, .slice none 0 0]) n177.ok rfl (wn _ rfl) rfl (o_al (z := .agg #[.slice none 0 0, .slice none 0 0]) (by kernel_rfl)) (fun an178 w180 b179 W181 n178 => ?_)
  have l182 : b39 < b179 := by rw [W181.eq]; exact B165.lt
  have l183 : b51 < b179 := by rw [W181.eq]; exact B166.lt
  have l184 : b65 < b179 := by rw [W181.eq]; exact B167.lt
  have l185 : b126 < b179 := by rw [W181.eq]; exact B168.lt
  have l186 : w.heap.size ≤ b179 := by rw [W181.eq]; exact G164.size
  have l187 : w14.heap.size ≤ b179 := by rw [W181.eq]; exact A169.size
  have l188 : w22.heap.size ≤ b179 := by rw [W181.eq]; exact A170.size
  have l189 : w31.heap.size ≤ b179 := by rw [W181.eq]; exact A171.size
  have l190 : w111.heap.size ≤ b179 := by rw [W181.eq]; exact A172.size
  have l191 : w162.heap.size ≤ b179 := by rw [W181.eq]; exact A174.size
  have G192 := G164.trans W181.gr
  have B193 := B165.gr W181.gr
  have B194 := B166.gr W181.gr
  have B195 := B167.gr W181.gr
  have B196 := B168.gr W181.gr
  have A197 := A169.trans W181.gr
  have A198 := A170.trans W181.gr
  have A199 := A171.trans W181.gr
  have A200 := A172.trans W181.gr
  have A201 := A174.trans W181.gr
  refine ssR rfl (wn _ rfl) (o_stR n178.at_ (n178.ne rfl (n177.ne rfl n176.at_)) W181.bk (by kernel_rfl) rfl (by simp [Value.oneCell'])) W181.bk (fun w202 u203 u203b => ?_)
  have G204 : Gr w w202 := Below.upd G192 l186 u203
  have B205 := B193.upd u203 (Nat.ne_of_lt l182)
  have B206 := B194.upd u203 (Nat.ne_of_lt l183)
  have B207 := B195.upd u203 (Nat.ne_of_lt l184)
  have B208 := B196.upd u203 (Nat.ne_of_lt l185)
  have A209 : Gr w14 w202 := Below.upd A197 l187 u203
  have A210 : Gr w22 w202 := Below.upd A198 l188 u203
  have A211 : Gr w31 w202 := Below.upd A199 l189 u203
  have A212 : Gr w111 w202 := Below.upd A200 l190 u203
  have A213 : Gr w162 w202 := Below.upd A201 l191 u203
  refine sv n178.ok rfl (wn _ rfl) rfl (o_as (n178.ne rfl n177.at_)) (fun an214 n214 => ?_)
  refine wpList_nil ?_
  refine th_n (hK156 _ _ ?_)
  refine wp_seq_k (fun K215 hK215 => ?_)
  refine wp_region_lit ?_
  have e216 := n214.ne rfl (n178.ne rfl (n177.ne rfl (n176.ne rfl (n175.ne rfl (n161.ne rfl (n160.ne rfl (n158.ne rfl (n155.ne rfl n125.at_))))))))
  refine sv n214.ok rfl (wn _ rfl) rfl (o_ldR e216 B208 Try.underlying25 rfl (by kernel_rfl)) (fun an217 n217 => ?_)
  have e218 := n217.ne rfl (n214.ne rfl (n178.ne rfl (n177.ne rfl (n176.ne rfl (n175.ne rfl (n161.ne rfl (n160.ne rfl (n158.ne rfl (n155.ne rfl (n125.ne rfl (n124.ne rfl (n123.ne rfl (n122.ne rfl (n110.ne rfl (n109.ne rfl (n108.ne rfl n64.at_))))))))))))))))
  refine sv n217.ok rfl (wn _ rfl) rfl (o_ldR e218 B207 Try.underlying25 rfl (by kernel_rfl)) (fun an219 n219 => ?_)
  refine sc n219.ok rfl (wn _ rfl) rfl (o_f2 Try.func23 rfl rfl rfl (n219.ne rfl n217.at_) n219.at_) (sjoin _ _ _ _ w202 (hkk1.gr A212) (hkq3.gr A211) ((Sm.set L1).or (Sm.set L2)) (Sm.set L3)) ?_
  rintro _ w221 ⟨kk3, rfl, hkk3, g222⟩
  obtain ⟨vak3, vck3, mak3, mck3, rfl⟩ := hkk3.form
  refine ⟨_, rfl, fun an220 n220 => ?_⟩
  have G223 := G204.trans g222
  have B224 := B205.gr g222
  have B225 := B206.gr g222
  have B226 := B207.gr g222
  have B227 := B208.gr g222
  have B228 := u203b.gr g222
  have A229 := A209.trans g222
  have A230 := A210.trans g222
  have A231 := A211.trans g222
  have A232 := A212.trans g222
  have A233 := A213.trans g222
  have A235 := Gr.refl w221
  refine sv n220.ok rfl (wn _ rfl) rfl (o_mv n220.at_) (fun an236 n236 => ?_)
  refine sv n236.ok rfl (wn _ rfl) rfl (o_ex n236.at_ rfl) (fun an237 n237 => ?_)
  refine sv n237.ok rfl (wn _ rfl) rfl (o_ex (n237.ne rfl n236.at_) rfl) (fun an238 n238 => ?_)
  refine sal (cs := #[.slice none 0 0, .slice none 0 0]) n238.ok rfl (wn _ rfl) rfl (o_al (z := .agg #[.slice none 0 0, .slice none 0 0]) (by kernel_rfl)) (fun an239 w241 b240 W242 n239 => ?_)
  have l243 : b39 < b240 := by rw [W242.eq]; exact B224.lt
  have l244 : b51 < b240 := by rw [W242.eq]; exact B225.lt
  have l245 : b65 < b240 := by rw [W242.eq]; exact B226.lt
  have l246 : b126 < b240 := by rw [W242.eq]; exact B227.lt
  have l247 : b179 < b240 := by rw [W242.eq]; exact B228.lt
  have l248 : w.heap.size ≤ b240 := by rw [W242.eq]; exact G223.size
  have l249 : w14.heap.size ≤ b240 := by rw [W242.eq]; exact A229.size
  have l250 : w22.heap.size ≤ b240 := by rw [W242.eq]; exact A230.size
  have l251 : w31.heap.size ≤ b240 := by rw [W242.eq]; exact A231.size
  have l252 : w111.heap.size ≤ b240 := by rw [W242.eq]; exact A232.size
  have l253 : w162.heap.size ≤ b240 := by rw [W242.eq]; exact A233.size
  have l254 : w221.heap.size ≤ b240 := by rw [W242.eq]; exact A235.size
  have G255 := G223.trans W242.gr
  have B256 := B224.gr W242.gr
  have B257 := B225.gr W242.gr
  have B258 := B226.gr W242.gr
  have B259 := B227.gr W242.gr
  have B260 := B228.gr W242.gr
  have A261 := A229.trans W242.gr
  have A262 := A230.trans W242.gr
  have A263 := A231.trans W242.gr
  have A264 := A232.trans W242.gr
  have A265 := A233.trans W242.gr
  have A266 := A235.trans W242.gr
  refine ssR rfl (wn _ rfl) (o_stR n239.at_ (n239.ne rfl (n238.ne rfl n237.at_)) W242.bk (by kernel_rfl) rfl (by simp [Value.oneCell'])) W242.bk (fun w267 u268 u268b => ?_)
  have G269 : Gr w w267 := Below.upd G255 l248 u268
  have B270 := B256.upd u268 (Nat.ne_of_lt l243)
  have B271 := B257.upd u268 (Nat.ne_of_lt l244)
  have B272 := B258.upd u268 (Nat.ne_of_lt l245)
  have B273 := B259.upd u268 (Nat.ne_of_lt l246)
  have B274 := B260.upd u268 (Nat.ne_of_lt l247)
  have A275 : Gr w14 w267 := Below.upd A261 l249 u268
  have A276 : Gr w22 w267 := Below.upd A262 l250 u268
  have A277 : Gr w31 w267 := Below.upd A263 l251 u268
  have A278 : Gr w111 w267 := Below.upd A264 l252 u268
  have A279 : Gr w162 w267 := Below.upd A265 l253 u268
  have A280 : Gr w221 w267 := Below.upd A266 l254 u268
  refine sv n239.ok rfl (wn _ rfl) rfl (o_as (n239.ne rfl n238.at_)) (fun an281 n281 => ?_)
  refine wpList_nil ?_
  refine th_n (hK215 _ _ ?_)
  refine wp_seq_k (fun K282 hK282 => ?_)
  refine wp_region_lit ?_
  have e283 := n281.ne rfl (n239.ne rfl (n238.ne rfl (n237.ne rfl (n236.ne rfl (n220.ne rfl (n219.ne rfl (n217.ne rfl (n214.ne rfl (n178.ne rfl (n177.ne rfl (n176.ne rfl (n175.ne rfl (n161.ne rfl (n160.ne rfl (n158.ne rfl e157)))))))))))))))
  refine sv n281.ok rfl (wn _ rfl) rfl (o_ldR e283 B271 Try.underlying25 rfl (by kernel_rfl)) (fun an284 n284 => ?_)
  have e285 := n284.ne rfl (n281.ne rfl (n239.ne rfl (n238.ne rfl (n237.ne rfl (n236.ne rfl (n220.ne rfl (n219.ne rfl e218)))))))
  refine sv n284.ok rfl (wn _ rfl) rfl (o_ldR e285 B272 Try.underlying25 rfl (by kernel_rfl)) (fun an286 n286 => ?_)
  refine sc n286.ok rfl (wn _ rfl) rfl (o_f2 Try.func23 rfl rfl rfl (n286.ne rfl n284.at_) n286.at_) (sjoin _ _ _ _ w267 (hkq2.gr A276) (hkq3.gr A277) (Sm.set L2) (Sm.set L3)) ?_
  rintro _ w288 ⟨kk4, rfl, hkk4, g289⟩
  obtain ⟨vak4, vck4, mak4, mck4, rfl⟩ := hkk4.form
  refine ⟨_, rfl, fun an287 n287 => ?_⟩
  have G290 := G269.trans g289
  have B291 := B270.gr g289
  have B292 := B271.gr g289
  have B293 := B272.gr g289
  have B294 := B273.gr g289
  have B295 := B274.gr g289
  have B296 := u268b.gr g289
  have A297 := A275.trans g289
  have A298 := A276.trans g289
  have A299 := A277.trans g289
  have A300 := A278.trans g289
  have A301 := A279.trans g289
  have A302 := A280.trans g289
  have A304 := Gr.refl w288
  refine sv n287.ok rfl (wn _ rfl) rfl (o_mv n287.at_) (fun an305 n305 => ?_)
  refine sv n305.ok rfl (wn _ rfl) rfl (o_ex n305.at_ rfl) (fun an306 n306 => ?_)
  refine sv n306.ok rfl (wn _ rfl) rfl (o_ex (n306.ne rfl n305.at_) rfl) (fun an307 n307 => ?_)
  refine sal (cs := #[.slice none 0 0, .slice none 0 0]) n307.ok rfl (wn _ rfl) rfl (o_al (z := .agg #[.slice none 0 0, .slice none 0 0]) (by kernel_rfl)) (fun an308 w310 b309 W311 n308 => ?_)
  have l312 : b39 < b309 := by rw [W311.eq]; exact B291.lt
  have l313 : b51 < b309 := by rw [W311.eq]; exact B292.lt
  have l314 : b65 < b309 := by rw [W311.eq]; exact B293.lt
  have l315 : b126 < b309 := by rw [W311.eq]; exact B294.lt
  have l316 : b179 < b309 := by rw [W311.eq]; exact B295.lt
  have l317 : b240 < b309 := by rw [W311.eq]; exact B296.lt
  have l318 : w.heap.size ≤ b309 := by rw [W311.eq]; exact G290.size
  have l319 : w14.heap.size ≤ b309 := by rw [W311.eq]; exact A297.size
  have l320 : w22.heap.size ≤ b309 := by rw [W311.eq]; exact A298.size
  have l321 : w31.heap.size ≤ b309 := by rw [W311.eq]; exact A299.size
  have l322 : w111.heap.size ≤ b309 := by rw [W311.eq]; exact A300.size
  have l323 : w162.heap.size ≤ b309 := by rw [W311.eq]; exact A301.size
  have l324 : w221.heap.size ≤ b309 := by rw [W311.eq]; exact A302.size
  have l325 : w288.heap.size ≤ b309 := by rw [W311.eq]; exact A304.size
  have G326 := G290.trans W311.gr
  have B327 := B291.gr W311.gr
  have B328 := B292.gr W311.gr
  have B329 := B293.gr W311.gr
  have B330 := B294.gr W311.gr
  have B331 := B295.gr W311.gr
  have B332 := B296.gr W311.gr
  have A333 := A297.trans W311.gr
  have A334 := A298.trans W311.gr
  have A335 := A299.trans W311.gr
  have A336 := A300.trans W311.gr
  have A337 := A301.trans W311.gr
  have A338 := A302.trans W311.gr
  have A339 := A304.trans W311.gr
  refine ssR rfl (wn _ rfl) (o_stR n308.at_ (n308.ne rfl (n307.ne rfl n306.at_)) W311.bk (by kernel_rfl) rfl (by simp [Value.oneCell'])) W311.bk (fun w340 u341 u341b => ?_)
  have G342 : Gr w w340 := Below.upd G326 l318 u341
  have B343 := B327.upd u341 (Nat.ne_of_lt l312)
  have B344 := B328.upd u341 (Nat.ne_of_lt l313)
  have B345 := B329.upd u341 (Nat.ne_of_lt l314)
  have B346 := B330.upd u341 (Nat.ne_of_lt l315)
  have B347 := B331.upd u341 (Nat.ne_of_lt l316)
  have B348 := B332.upd u341 (Nat.ne_of_lt l317)
  have A349 : Gr w14 w340 := Below.upd A333 l319 u341
  have A350 : Gr w22 w340 := Below.upd A334 l320 u341
  have A351 : Gr w31 w340 := Below.upd A335 l321 u341
  have A352 : Gr w111 w340 := Below.upd A336 l322 u341
  have A353 : Gr w162 w340 := Below.upd A337 l323 u341
  have A354 : Gr w221 w340 := Below.upd A338 l324 u341
  have A355 : Gr w288 w340 := Below.upd A339 l325 u341
  refine sv n308.ok rfl (wn _ rfl) rfl (o_as (n308.ne rfl n307.at_)) (fun an356 n356 => ?_)
  refine wpList_nil ?_
  refine th_n (hK282 _ _ ?_)
  refine wp_seq_k (fun K357 hK357 => ?_)
  refine wp_region_lit ?_
  have e358 := n356.ne rfl (n308.ne rfl (n307.ne rfl (n306.ne rfl (n305.ne rfl (n287.ne rfl (n286.ne rfl (n284.ne rfl (n281.ne rfl (n239.ne rfl (n238.ne rfl (n237.ne rfl (n236.ne rfl (n220.ne rfl (n219.ne rfl (n217.ne rfl (n214.ne rfl (n178.ne rfl (n177.ne rfl (n176.ne rfl (n175.ne rfl (n161.ne rfl (n160.ne rfl e159))))))))))))))))))))))
  refine sv n356.ok rfl (wn _ rfl) rfl (o_ldR e358 B343 Try.underlying25 rfl (by kernel_rfl)) (fun an359 n359 => ?_)
  refine sv n359.ok rfl (wn _ rfl) rfl (o_ldR (n359.ne rfl (n356.ne rfl n308.at_)) u341b Try.underlying25 rfl (by kernel_rfl)) (fun an360 n360 => ?_)
  refine sc n360.ok rfl (wn _ rfl) rfl (o_f2 Try.func23 rfl rfl rfl (n360.ne rfl n359.at_) n360.at_) (sjoin _ _ _ _ w340 (hkq1.gr A349) (hkk4.gr A355) (Sm.set L1) ((Sm.set L2).or (Sm.set L3))) ?_
  rintro _ w362 ⟨kk5, rfl, hkk5, g363⟩
  obtain ⟨vak5, vck5, mak5, mck5, rfl⟩ := hkk5.form
  refine ⟨_, rfl, fun an361 n361 => ?_⟩
  have G364 := G342.trans g363
  have B365 := B343.gr g363
  have B366 := B344.gr g363
  have B367 := B345.gr g363
  have B368 := B346.gr g363
  have B369 := B347.gr g363
  have B370 := B348.gr g363
  have B371 := u341b.gr g363
  have A372 := A349.trans g363
  have A373 := A350.trans g363
  have A374 := A351.trans g363
  have A375 := A352.trans g363
  have A376 := A353.trans g363
  have A377 := A354.trans g363
  have A378 := A355.trans g363
  have A380 := Gr.refl w362
  refine sv n361.ok rfl (wn _ rfl) rfl (o_mv n361.at_) (fun an381 n381 => ?_)
  refine sv n381.ok rfl (wn _ rfl) rfl (o_ex n381.at_ rfl) (fun an382 n382 => ?_)
  refine sv n382.ok rfl (wn _ rfl) rfl (o_ex (n382.ne rfl n381.at_) rfl) (fun an383 n383 => ?_)
  refine sal (cs := #[.slice none 0 0, .slice none 0 0]) n383.ok rfl (wn _ rfl) rfl (o_al (z := .agg #[.slice none 0 0, .slice none 0 0]) (by kernel_rfl)) (fun an384 w386 b385 W387 n384 => ?_)
  have l388 : b39 < b385 := by rw [W387.eq]; exact B365.lt
  have l389 : b51 < b385 := by rw [W387.eq]; exact B366.lt
  have l390 : b65 < b385 := by rw [W387.eq]; exact B367.lt
  have l391 : b126 < b385 := by rw [W387.eq]; exact B368.lt
  have l392 : b179 < b385 := by rw [W387.eq]; exact B369.lt
  have l393 : b240 < b385 := by rw [W387.eq]; exact B370.lt
  have l394 : b309 < b385 := by rw [W387.eq]; exact B371.lt
  have l395 : w.heap.size ≤ b385 := by rw [W387.eq]; exact G364.size
  have l396 : w14.heap.size ≤ b385 := by rw [W387.eq]; exact A372.size
  have l397 : w22.heap.size ≤ b385 := by rw [W387.eq]; exact A373.size
  have l398 : w31.heap.size ≤ b385 := by rw [W387.eq]; exact A374.size
  have l399 : w111.heap.size ≤ b385 := by rw [W387.eq]; exact A375.size
  have l400 : w162.heap.size ≤ b385 := by rw [W387.eq]; exact A376.size
  have l401 : w221.heap.size ≤ b385 := by rw [W387.eq]; exact A377.size
  have l402 : w288.heap.size ≤ b385 := by rw [W387.eq]; exact A378.size
  have l403 : w362.heap.size ≤ b385 := by rw [W387.eq]; exact A380.size
  have G404 := G364.trans W387.gr
  have B405 := B365.gr W387.gr
  have B406 := B366.gr W387.gr
  have B407 := B367.gr W387.gr
  have B408 := B368.gr W387.gr
  have B409 := B369.gr W387.gr
  have B410 := B370.gr W387.gr
  have B411 := B371.gr W387.gr
  have A412 := A372.trans W387.gr
  have A413 := A373.trans W387.gr
  have A414 := A374.trans W387.gr
  have A415 := A375.trans W387.gr
  have A416 := A376.trans W387.gr
  have A417 := A377.trans W387.gr
  have A418 := A378.trans W387.gr
  have A419 := A380.trans W387.gr
  refine ssR rfl (wn _ rfl) (o_stR n384.at_ (n384.ne rfl (n383.ne rfl n382.at_)) W387.bk (by kernel_rfl) rfl (by simp [Value.oneCell'])) W387.bk (fun w420 u421 u421b => ?_)
  have G422 : Gr w w420 := Below.upd G404 l395 u421
  have B423 := B405.upd u421 (Nat.ne_of_lt l388)
  have B424 := B406.upd u421 (Nat.ne_of_lt l389)
  have B425 := B407.upd u421 (Nat.ne_of_lt l390)
  have B426 := B408.upd u421 (Nat.ne_of_lt l391)
  have B427 := B409.upd u421 (Nat.ne_of_lt l392)
  have B428 := B410.upd u421 (Nat.ne_of_lt l393)
  have B429 := B411.upd u421 (Nat.ne_of_lt l394)
  have A430 : Gr w14 w420 := Below.upd A412 l396 u421
  have A431 : Gr w22 w420 := Below.upd A413 l397 u421
  have A432 : Gr w31 w420 := Below.upd A414 l398 u421
  have A433 : Gr w111 w420 := Below.upd A415 l399 u421
  have A434 : Gr w162 w420 := Below.upd A416 l400 u421
  have A435 : Gr w221 w420 := Below.upd A417 l401 u421
  have A436 : Gr w288 w420 := Below.upd A418 l402 u421
  have A437 : Gr w362 w420 := Below.upd A419 l403 u421
  refine sv n384.ok rfl (wn _ rfl) rfl (o_as (n384.ne rfl n383.at_)) (fun an438 n438 => ?_)
  refine wpList_nil ?_
  refine th_n (hK357 _ _ ?_)
  refine wp_seq_k (fun K439 hK439 => ?_)
  refine wp_region_lit ?_
  have e440 := n438.ne rfl (n384.ne rfl (n383.ne rfl (n382.ne rfl (n381.ne rfl (n361.ne rfl (n360.ne rfl (n359.ne rfl e358)))))))
  refine sv n438.ok rfl (wn _ rfl) rfl (o_ldR e440 B423 Try.underlying25 rfl (by kernel_rfl)) (fun an441 n441 => ?_)
  have e442 := n441.ne rfl (n438.ne rfl (n384.ne rfl (n383.ne rfl (n382.ne rfl (n381.ne rfl (n361.ne rfl (n360.ne rfl (n359.ne rfl (n356.ne rfl n308.at_)))))))))
  refine sv n441.ok rfl (wn _ rfl) rfl (o_ldR e442 B429 Try.underlying25 rfl (by kernel_rfl)) (fun an443 n443 => ?_)
  refine sc n443.ok rfl (wn _ rfl) rfl (o_f2 Try.func24 rfl rfl rfl (n443.ne rfl n441.at_) n443.at_) (smeet _ _ _ _ w420 (hkq1.gr A430) (hkk4.gr A436) (Sm.set L1) ((Sm.set L2).or (Sm.set L3))) ?_
  rintro _ w445 ⟨kk6, rfl, hkk6, g446⟩
  obtain ⟨vak6, vck6, mak6, mck6, rfl⟩ := hkk6.form
  refine ⟨_, rfl, fun an444 n444 => ?_⟩
  have G447 := G422.trans g446
  have B448 := B423.gr g446
  have B449 := B424.gr g446
  have B450 := B425.gr g446
  have B451 := B426.gr g446
  have B452 := B427.gr g446
  have B453 := B428.gr g446
  have B454 := B429.gr g446
  have B455 := u421b.gr g446
  have A456 := A430.trans g446
  have A457 := A431.trans g446
  have A458 := A432.trans g446
  have A459 := A433.trans g446
  have A460 := A434.trans g446
  have A461 := A435.trans g446
  have A462 := A436.trans g446
  have A463 := A437.trans g446
  have A465 := Gr.refl w445
  refine sv n444.ok rfl (wn _ rfl) rfl (o_mv n444.at_) (fun an466 n466 => ?_)
  refine sv n466.ok rfl (wn _ rfl) rfl (o_ex n466.at_ rfl) (fun an467 n467 => ?_)
  refine sv n467.ok rfl (wn _ rfl) rfl (o_ex (n467.ne rfl n466.at_) rfl) (fun an468 n468 => ?_)
  refine sal (cs := #[.slice none 0 0, .slice none 0 0]) n468.ok rfl (wn _ rfl) rfl (o_al (z := .agg #[.slice none 0 0, .slice none 0 0]) (by kernel_rfl)) (fun an469 w471 b470 W472 n469 => ?_)
  have l473 : b39 < b470 := by rw [W472.eq]; exact B448.lt
  have l474 : b51 < b470 := by rw [W472.eq]; exact B449.lt
  have l475 : b65 < b470 := by rw [W472.eq]; exact B450.lt
  have l476 : b126 < b470 := by rw [W472.eq]; exact B451.lt
  have l477 : b179 < b470 := by rw [W472.eq]; exact B452.lt
  have l478 : b240 < b470 := by rw [W472.eq]; exact B453.lt
  have l479 : b309 < b470 := by rw [W472.eq]; exact B454.lt
  have l480 : b385 < b470 := by rw [W472.eq]; exact B455.lt
  have l481 : w.heap.size ≤ b470 := by rw [W472.eq]; exact G447.size
  have l482 : w14.heap.size ≤ b470 := by rw [W472.eq]; exact A456.size
  have l483 : w22.heap.size ≤ b470 := by rw [W472.eq]; exact A457.size
  have l484 : w31.heap.size ≤ b470 := by rw [W472.eq]; exact A458.size
  have l485 : w111.heap.size ≤ b470 := by rw [W472.eq]; exact A459.size
  have l486 : w162.heap.size ≤ b470 := by rw [W472.eq]; exact A460.size
  have l487 : w221.heap.size ≤ b470 := by rw [W472.eq]; exact A461.size
  have l488 : w288.heap.size ≤ b470 := by rw [W472.eq]; exact A462.size
  have l489 : w362.heap.size ≤ b470 := by rw [W472.eq]; exact A463.size
  have l490 : w445.heap.size ≤ b470 := by rw [W472.eq]; exact A465.size
  have G491 := G447.trans W472.gr
  have B492 := B448.gr W472.gr
  have B493 := B449.gr W472.gr
  have B494 := B450.gr W472.gr
  have B495 := B451.gr W472.gr
  have B496 := B452.gr W472.gr
  have B497 := B453.gr W472.gr
  have B498 := B454.gr W472.gr
  have B499 := B455.gr W472.gr
  have A500 := A456.trans W472.gr
  have A501 := A457.trans W472.gr
  have A502 := A458.trans W472.gr
  have A503 := A459.trans W472.gr
  have A504 := A460.trans W472.gr
  have A505 := A461.trans W472.gr
  have A506 := A462.trans W472.gr
  have A507 := A463.trans W472.gr
  have A508 := A465.trans W472.gr
  refine ssR rfl (wn _ rfl) (o_stR n469.at_ (n469.ne rfl (n468.ne rfl n467.at_)) W472.bk (by kernel_rfl) rfl (by simp [Value.oneCell'])) W472.bk (fun w509 u510 u510b => ?_)
  have G511 : Gr w w509 := Below.upd G491 l481 u510
  have B512 := B492.upd u510 (Nat.ne_of_lt l473)
  have B513 := B493.upd u510 (Nat.ne_of_lt l474)
  have B514 := B494.upd u510 (Nat.ne_of_lt l475)
  have B515 := B495.upd u510 (Nat.ne_of_lt l476)
  have B516 := B496.upd u510 (Nat.ne_of_lt l477)
  have B517 := B497.upd u510 (Nat.ne_of_lt l478)
  have B518 := B498.upd u510 (Nat.ne_of_lt l479)
  have B519 := B499.upd u510 (Nat.ne_of_lt l480)
  have A520 : Gr w14 w509 := Below.upd A500 l482 u510
  have A521 : Gr w22 w509 := Below.upd A501 l483 u510
  have A522 : Gr w31 w509 := Below.upd A502 l484 u510
  have A523 : Gr w111 w509 := Below.upd A503 l485 u510
  have A524 : Gr w162 w509 := Below.upd A504 l486 u510
  have A525 : Gr w221 w509 := Below.upd A505 l487 u510
  have A526 : Gr w288 w509 := Below.upd A506 l488 u510
  have A527 : Gr w362 w509 := Below.upd A507 l489 u510
  have A528 : Gr w445 w509 := Below.upd A508 l490 u510
  refine sv n469.ok rfl (wn _ rfl) rfl (o_as (n469.ne rfl n468.at_)) (fun an529 n529 => ?_)
  refine wpList_nil ?_
  refine th_n (hK439 _ _ ?_)
  refine wp_seq_k (fun K530 hK530 => ?_)
  refine wp_region_lit ?_
  have e531 := n529.ne rfl (n469.ne rfl (n468.ne rfl (n467.ne rfl (n466.ne rfl (n444.ne rfl (n443.ne rfl (n441.ne rfl e440)))))))
  refine sv n529.ok rfl (wn _ rfl) rfl (o_ldR e531 B512 Try.underlying25 rfl (by kernel_rfl)) (fun an532 n532 => ?_)
  have e533 := n532.ne rfl (n529.ne rfl (n469.ne rfl (n468.ne rfl (n467.ne rfl (n466.ne rfl (n444.ne rfl (n443.ne rfl (n441.ne rfl (n438.ne rfl (n384.ne rfl (n383.ne rfl (n382.ne rfl (n381.ne rfl (n361.ne rfl (n360.ne rfl (n359.ne rfl (n356.ne rfl (n308.ne rfl (n307.ne rfl (n306.ne rfl (n305.ne rfl (n287.ne rfl (n286.ne rfl (n284.ne rfl e283))))))))))))))))))))))))
  refine sv n532.ok rfl (wn _ rfl) rfl (o_ldR e533 B513 Try.underlying25 rfl (by kernel_rfl)) (fun an534 n534 => ?_)
  refine sc n534.ok rfl (wn _ rfl) rfl (o_f2 Try.func24 rfl rfl rfl (n534.ne rfl n532.at_) n534.at_) (smeet _ _ _ _ w509 (hkq1.gr A520) (hkq2.gr A521) (Sm.set L1) (Sm.set L2)) ?_
  rintro _ w536 ⟨kk7, rfl, hkk7, g537⟩
  obtain ⟨vak7, vck7, mak7, mck7, rfl⟩ := hkk7.form
  refine ⟨_, rfl, fun an535 n535 => ?_⟩
  have G538 := G511.trans g537
  have B539 := B512.gr g537
  have B540 := B513.gr g537
  have B541 := B514.gr g537
  have B542 := B515.gr g537
  have B543 := B516.gr g537
  have B544 := B517.gr g537
  have B545 := B518.gr g537
  have B546 := B519.gr g537
  have B547 := u510b.gr g537
  have A548 := A520.trans g537
  have A549 := A521.trans g537
  have A550 := A522.trans g537
  have A551 := A523.trans g537
  have A552 := A524.trans g537
  have A553 := A525.trans g537
  have A554 := A526.trans g537
  have A555 := A527.trans g537
  have A556 := A528.trans g537
  have A558 := Gr.refl w536
  refine sv n535.ok rfl (wn _ rfl) rfl (o_mv n535.at_) (fun an559 n559 => ?_)
  refine sv n559.ok rfl (wn _ rfl) rfl (o_ex n559.at_ rfl) (fun an560 n560 => ?_)
  refine sv n560.ok rfl (wn _ rfl) rfl (o_ex (n560.ne rfl n559.at_) rfl) (fun an561 n561 => ?_)
  refine sal (cs := #[.slice none 0 0, .slice none 0 0]) n561.ok rfl (wn _ rfl) rfl (o_al (z := .agg #[.slice none 0 0, .slice none 0 0]) (by kernel_rfl)) (fun an562 w564 b563 W565 n562 => ?_)
  have l566 : b39 < b563 := by rw [W565.eq]; exact B539.lt
  have l567 : b51 < b563 := by rw [W565.eq]; exact B540.lt
  have l568 : b65 < b563 := by rw [W565.eq]; exact B541.lt
  have l569 : b126 < b563 := by rw [W565.eq]; exact B542.lt
  have l570 : b179 < b563 := by rw [W565.eq]; exact B543.lt
  have l571 : b240 < b563 := by rw [W565.eq]; exact B544.lt
  have l572 : b309 < b563 := by rw [W565.eq]; exact B545.lt
  have l573 : b385 < b563 := by rw [W565.eq]; exact B546.lt
  have l574 : b470 < b563 := by rw [W565.eq]; exact B547.lt
  have l575 : w.heap.size ≤ b563 := by rw [W565.eq]; exact G538.size
  have l576 : w14.heap.size ≤ b563 := by rw [W565.eq]; exact A548.size
  have l577 : w22.heap.size ≤ b563 := by rw [W565.eq]; exact A549.size
  have l578 : w31.heap.size ≤ b563 := by rw [W565.eq]; exact A550.size
  have l579 : w111.heap.size ≤ b563 := by rw [W565.eq]; exact A551.size
  have l580 : w162.heap.size ≤ b563 := by rw [W565.eq]; exact A552.size
  have l581 : w221.heap.size ≤ b563 := by rw [W565.eq]; exact A553.size
  have l582 : w288.heap.size ≤ b563 := by rw [W565.eq]; exact A554.size
  have l583 : w362.heap.size ≤ b563 := by rw [W565.eq]; exact A555.size
  have l584 : w445.heap.size ≤ b563 := by rw [W565.eq]; exact A556.size
  have l585 : w536.heap.size ≤ b563 := by rw [W565.eq]; exact A558.size
  have G586 := G538.trans W565.gr
  have B587 := B539.gr W565.gr
  have B588 := B540.gr W565.gr
  have B589 := B541.gr W565.gr
  have B590 := B542.gr W565.gr
  have B591 := B543.gr W565.gr
  have B592 := B544.gr W565.gr
  have B593 := B545.gr W565.gr
  have B594 := B546.gr W565.gr
  have B595 := B547.gr W565.gr
  have A596 := A548.trans W565.gr
  have A597 := A549.trans W565.gr
  have A598 := A550.trans W565.gr
  have A599 := A551.trans W565.gr
  have A600 := A552.trans W565.gr
  have A601 := A553.trans W565.gr
  have A602 := A554.trans W565.gr
  have A603 := A555.trans W565.gr
  have A604 := A556.trans W565.gr
  have A605 := A558.trans W565.gr
  refine ssR rfl (wn _ rfl) (o_stR n562.at_ (n562.ne rfl (n561.ne rfl n560.at_)) W565.bk (by kernel_rfl) rfl (by simp [Value.oneCell'])) W565.bk (fun w606 u607 u607b => ?_)
  have G608 : Gr w w606 := Below.upd G586 l575 u607
  have B609 := B587.upd u607 (Nat.ne_of_lt l566)
  have B610 := B588.upd u607 (Nat.ne_of_lt l567)
  have B611 := B589.upd u607 (Nat.ne_of_lt l568)
  have B612 := B590.upd u607 (Nat.ne_of_lt l569)
  have B613 := B591.upd u607 (Nat.ne_of_lt l570)
  have B614 := B592.upd u607 (Nat.ne_of_lt l571)
  have B615 := B593.upd u607 (Nat.ne_of_lt l572)
  have B616 := B594.upd u607 (Nat.ne_of_lt l573)
  have B617 := B595.upd u607 (Nat.ne_of_lt l574)
  have A618 : Gr w14 w606 := Below.upd A596 l576 u607
  have A619 : Gr w22 w606 := Below.upd A597 l577 u607
  have A620 : Gr w31 w606 := Below.upd A598 l578 u607
  have A621 : Gr w111 w606 := Below.upd A599 l579 u607
  have A622 : Gr w162 w606 := Below.upd A600 l580 u607
  have A623 : Gr w221 w606 := Below.upd A601 l581 u607
  have A624 : Gr w288 w606 := Below.upd A602 l582 u607
  have A625 : Gr w362 w606 := Below.upd A603 l583 u607
  have A626 : Gr w445 w606 := Below.upd A604 l584 u607
  have A627 : Gr w536 w606 := Below.upd A605 l585 u607
  refine sv n562.ok rfl (wn _ rfl) rfl (o_as (n562.ne rfl n561.at_)) (fun an628 n628 => ?_)
  refine wpList_nil ?_
  refine th_n (hK530 _ _ ?_)
  refine wp_seq_k (fun K629 hK629 => ?_)
  refine wp_region_lit ?_
  have e630 := n628.ne rfl (n562.ne rfl (n561.ne rfl (n560.ne rfl (n559.ne rfl (n535.ne rfl (n534.ne rfl (n532.ne rfl e531)))))))
  refine sv n628.ok rfl (wn _ rfl) rfl (o_ldR e630 B609 Try.underlying25 rfl (by kernel_rfl)) (fun an631 n631 => ?_)
  have e632 := n631.ne rfl (n628.ne rfl (n562.ne rfl (n561.ne rfl (n560.ne rfl (n559.ne rfl (n535.ne rfl (n534.ne rfl (n532.ne rfl (n529.ne rfl (n469.ne rfl (n468.ne rfl (n467.ne rfl (n466.ne rfl (n444.ne rfl (n443.ne rfl (n441.ne rfl (n438.ne rfl (n384.ne rfl (n383.ne rfl (n382.ne rfl (n381.ne rfl (n361.ne rfl (n360.ne rfl (n359.ne rfl (n356.ne rfl (n308.ne rfl (n307.ne rfl (n306.ne rfl (n305.ne rfl (n287.ne rfl (n286.ne rfl e285)))))))))))))))))))))))))))))))
  refine sv n631.ok rfl (wn _ rfl) rfl (o_ldR e632 B611 Try.underlying25 rfl (by kernel_rfl)) (fun an633 n633 => ?_)
  refine sc n633.ok rfl (wn _ rfl) rfl (o_f2 Try.func24 rfl rfl rfl (n633.ne rfl n631.at_) n633.at_) (smeet _ _ _ _ w606 (hkq1.gr A618) (hkq3.gr A620) (Sm.set L1) (Sm.set L3)) ?_
  rintro _ w635 ⟨kk8, rfl, hkk8, g636⟩
  obtain ⟨vak8, vck8, mak8, mck8, rfl⟩ := hkk8.form
  refine ⟨_, rfl, fun an634 n634 => ?_⟩
  have G637 := G608.trans g636
  have B638 := B609.gr g636
  have B639 := B610.gr g636
  have B640 := B611.gr g636
  have B641 := B612.gr g636
  have B642 := B613.gr g636
  have B643 := B614.gr g636
  have B644 := B615.gr g636
  have B645 := B616.gr g636
  have B646 := B617.gr g636
  have B647 := u607b.gr g636
  have A648 := A618.trans g636
  have A649 := A619.trans g636
  have A650 := A620.trans g636
  have A651 := A621.trans g636
  have A652 := A622.trans g636
  have A653 := A623.trans g636
  have A654 := A624.trans g636
  have A655 := A625.trans g636
  have A656 := A626.trans g636
  have A657 := A627.trans g636
  have A659 := Gr.refl w635
  refine sv n634.ok rfl (wn _ rfl) rfl (o_mv n634.at_) (fun an660 n660 => ?_)
  refine sv n660.ok rfl (wn _ rfl) rfl (o_ex n660.at_ rfl) (fun an661 n661 => ?_)
  refine sv n661.ok rfl (wn _ rfl) rfl (o_ex (n661.ne rfl n660.at_) rfl) (fun an662 n662 => ?_)
  refine sal (cs := #[.slice none 0 0, .slice none 0 0]) n662.ok rfl (wn _ rfl) rfl (o_al (z := .agg #[.slice none 0 0, .slice none 0 0]) (by kernel_rfl)) (fun an663 w665 b664 W666 n663 => ?_)
  have l667 : b39 < b664 := by rw [W666.eq]; exact B638.lt
  have l668 : b51 < b664 := by rw [W666.eq]; exact B639.lt
  have l669 : b65 < b664 := by rw [W666.eq]; exact B640.lt
  have l670 : b126 < b664 := by rw [W666.eq]; exact B641.lt
  have l671 : b179 < b664 := by rw [W666.eq]; exact B642.lt
  have l672 : b240 < b664 := by rw [W666.eq]; exact B643.lt
  have l673 : b309 < b664 := by rw [W666.eq]; exact B644.lt
  have l674 : b385 < b664 := by rw [W666.eq]; exact B645.lt
  have l675 : b470 < b664 := by rw [W666.eq]; exact B646.lt
  have l676 : b563 < b664 := by rw [W666.eq]; exact B647.lt
  have l677 : w.heap.size ≤ b664 := by rw [W666.eq]; exact G637.size
  have l678 : w14.heap.size ≤ b664 := by rw [W666.eq]; exact A648.size
  have l679 : w22.heap.size ≤ b664 := by rw [W666.eq]; exact A649.size
  have l680 : w31.heap.size ≤ b664 := by rw [W666.eq]; exact A650.size
  have l681 : w111.heap.size ≤ b664 := by rw [W666.eq]; exact A651.size
  have l682 : w162.heap.size ≤ b664 := by rw [W666.eq]; exact A652.size
  have l683 : w221.heap.size ≤ b664 := by rw [W666.eq]; exact A653.size
  have l684 : w288.heap.size ≤ b664 := by rw [W666.eq]; exact A654.size
  have l685 : w362.heap.size ≤ b664 := by rw [W666.eq]; exact A655.size
  have l686 : w445.heap.size ≤ b664 := by rw [W666.eq]; exact A656.size
  have l687 : w536.heap.size ≤ b664 := by rw [W666.eq]; exact A657.size
  have l688 : w635.heap.size ≤ b664 := by rw [W666.eq]; exact A659.size
  have G689 := G637.trans W666.gr
  have B690 := B638.gr W666.gr
  have B691 := B639.gr W666.gr
  have B692 := B640.gr W666.gr
  have B693 := B641.gr W666.gr
  have B694 := B642.gr W666.gr
  have B695 := B643.gr W666.gr
  have B696 := B644.gr W666.gr
  have B697 := B645.gr W666.gr
  have B698 := B646.gr W666.gr
  have B699 := B647.gr W666.gr
  have A700 := A648.trans W666.gr
  have A701 := A649.trans W666.gr
  have A702 := A650.trans W666.gr
  have A703 := A651.trans W666.gr
  have A704 := A652.trans W666.gr
  have A705 := A653.trans W666.gr
  have A706 := A654.trans W666.gr
  have A707 := A655.trans W666.gr
  have A708 := A656.trans W666.gr
  have A709 := A657.trans W666.gr
  have A710 := A659.trans W666.gr
  refine ssR rfl (wn _ rfl) (o_stR n663.at_ (n663.ne rfl (n662.ne rfl n661.at_)) W666.bk (by kernel_rfl) rfl (by simp [Value.oneCell'])) W666.bk (fun w711 u712 u712b => ?_)
  have G713 : Gr w w711 := Below.upd G689 l677 u712
  have B714 := B690.upd u712 (Nat.ne_of_lt l667)
  have B715 := B691.upd u712 (Nat.ne_of_lt l668)
  have B716 := B692.upd u712 (Nat.ne_of_lt l669)
  have B717 := B693.upd u712 (Nat.ne_of_lt l670)
  have B718 := B694.upd u712 (Nat.ne_of_lt l671)
  have B719 := B695.upd u712 (Nat.ne_of_lt l672)
  have B720 := B696.upd u712 (Nat.ne_of_lt l673)
  have B721 := B697.upd u712 (Nat.ne_of_lt l674)
  have B722 := B698.upd u712 (Nat.ne_of_lt l675)
  have B723 := B699.upd u712 (Nat.ne_of_lt l676)
  have A724 : Gr w14 w711 := Below.upd A700 l678 u712
  have A725 : Gr w22 w711 := Below.upd A701 l679 u712
  have A726 : Gr w31 w711 := Below.upd A702 l680 u712
  have A727 : Gr w111 w711 := Below.upd A703 l681 u712
  have A728 : Gr w162 w711 := Below.upd A704 l682 u712
  have A729 : Gr w221 w711 := Below.upd A705 l683 u712
  have A730 : Gr w288 w711 := Below.upd A706 l684 u712
  have A731 : Gr w362 w711 := Below.upd A707 l685 u712
  have A732 : Gr w445 w711 := Below.upd A708 l686 u712
  have A733 : Gr w536 w711 := Below.upd A709 l687 u712
  have A734 : Gr w635 w711 := Below.upd A710 l688 u712
  refine sv n663.ok rfl (wn _ rfl) rfl (o_as (n663.ne rfl n662.at_)) (fun an735 n735 => ?_)
  refine wpList_nil ?_
  refine th_n (hK629 _ _ ?_)
  refine wp_seq_k (fun K736 hK736 => ?_)
  refine wp_region_lit ?_
  have e737 := n735.ne rfl (n663.ne rfl (n662.ne rfl (n661.ne rfl (n660.ne rfl (n634.ne rfl (n633.ne rfl (n631.ne rfl (n628.ne rfl n562.at_))))))))
  refine sv n735.ok rfl (wn _ rfl) rfl (o_ldR e737 B723 Try.underlying25 rfl (by kernel_rfl)) (fun an738 n738 => ?_)
  refine sv n738.ok rfl (wn _ rfl) rfl (o_ldR (n738.ne rfl (n735.ne rfl n663.at_)) u712b Try.underlying25 rfl (by kernel_rfl)) (fun an739 n739 => ?_)
  refine sc n739.ok rfl (wn _ rfl) rfl (o_f2 Try.func23 rfl rfl rfl (n739.ne rfl n738.at_) n739.at_) (sjoin _ _ _ _ w711 (hkk7.gr A733) (hkk8.gr A734) (Sm.and (Sm.set L1)) (Sm.and (Sm.set L1))) ?_
  rintro _ w741 ⟨kk9, rfl, hkk9, g742⟩
  obtain ⟨vak9, vck9, mak9, mck9, rfl⟩ := hkk9.form
  refine ⟨_, rfl, fun an740 n740 => ?_⟩
  have G743 := G713.trans g742
  have B744 := B714.gr g742
  have B745 := B715.gr g742
  have B746 := B716.gr g742
  have B747 := B717.gr g742
  have B748 := B718.gr g742
  have B749 := B719.gr g742
  have B750 := B720.gr g742
  have B751 := B721.gr g742
  have B752 := B722.gr g742
  have B753 := B723.gr g742
  have B754 := u712b.gr g742
  have A755 := A724.trans g742
  have A756 := A725.trans g742
  have A757 := A726.trans g742
  have A758 := A727.trans g742
  have A759 := A728.trans g742
  have A760 := A729.trans g742
  have A761 := A730.trans g742
  have A762 := A731.trans g742
  have A763 := A732.trans g742
  have A764 := A733.trans g742
  have A765 := A734.trans g742
  have A767 := Gr.refl w741
  refine sv n740.ok rfl (wn _ rfl) rfl (o_mv n740.at_) (fun an768 n768 => ?_)
  refine sv n768.ok rfl (wn _ rfl) rfl (o_ex n768.at_ rfl) (fun an769 n769 => ?_)
  refine sv n769.ok rfl (wn _ rfl) rfl (o_ex (n769.ne rfl n768.at_) rfl) (fun an770 n770 => ?_)
  refine sal (cs := #[.slice none 0 0, .slice none 0 0]) n770.ok rfl (wn _ rfl) rfl (o_al (z := .agg #[.slice none 0 0, .slice none 0 0]) (by kernel_rfl)) (fun an771 w773 b772 W774 n771 => ?_)
  have l775 : b39 < b772 := by rw [W774.eq]; exact B744.lt
  have l776 : b51 < b772 := by rw [W774.eq]; exact B745.lt
  have l777 : b65 < b772 := by rw [W774.eq]; exact B746.lt
  have l778 : b126 < b772 := by rw [W774.eq]; exact B747.lt
  have l779 : b179 < b772 := by rw [W774.eq]; exact B748.lt
  have l780 : b240 < b772 := by rw [W774.eq]; exact B749.lt
  have l781 : b309 < b772 := by rw [W774.eq]; exact B750.lt
  have l782 : b385 < b772 := by rw [W774.eq]; exact B751.lt
  have l783 : b470 < b772 := by rw [W774.eq]; exact B752.lt
  have l784 : b563 < b772 := by rw [W774.eq]; exact B753.lt
  have l785 : b664 < b772 := by rw [W774.eq]; exact B754.lt
  have l786 : w.heap.size ≤ b772 := by rw [W774.eq]; exact G743.size
  have l787 : w14.heap.size ≤ b772 := by rw [W774.eq]; exact A755.size
  have l788 : w22.heap.size ≤ b772 := by rw [W774.eq]; exact A756.size
  have l789 : w31.heap.size ≤ b772 := by rw [W774.eq]; exact A757.size
  have l790 : w111.heap.size ≤ b772 := by rw [W774.eq]; exact A758.size
  have l791 : w162.heap.size ≤ b772 := by rw [W774.eq]; exact A759.size
  have l792 : w221.heap.size ≤ b772 := by rw [W774.eq]; exact A760.size
  have l793 : w288.heap.size ≤ b772 := by rw [W774.eq]; exact A761.size
  have l794 : w362.heap.size ≤ b772 := by rw [W774.eq]; exact A762.size
  have l795 : w445.heap.size ≤ b772 := by rw [W774.eq]; exact A763.size
  have l796 : w536.heap.size ≤ b772 := by rw [W774.eq]; exact A764.size
  have l797 : w635.heap.size ≤ b772 := by rw [W774.eq]; exact A765.size
  have l798 : w741.heap.size ≤ b772 := by rw [W774.eq]; exact A767.size
  have G799 := G743.trans W774.gr
  have B800 := B744.gr W774.gr
  have B801 := B745.gr W774.gr
  have B802 := B746.gr W774.gr
  have B803 := B747.gr W774.gr
  have B804 := B748.gr W774.gr
  have B805 := B749.gr W774.gr
  have B806 := B750.gr W774.gr
  have B807 := B751.gr W774.gr
  have B808 := B752.gr W774.gr
  have B809 := B753.gr W774.gr
  have B810 := B754.gr W774.gr
  have A811 := A755.trans W774.gr
  have A812 := A756.trans W774.gr
  have A813 := A757.trans W774.gr
  have A814 := A758.trans W774.gr
  have A815 := A759.trans W774.gr
  have A816 := A760.trans W774.gr
  have A817 := A761.trans W774.gr
  have A818 := A762.trans W774.gr
  have A819 := A763.trans W774.gr
  have A820 := A764.trans W774.gr
  have A821 := A765.trans W774.gr
  have A822 := A767.trans W774.gr
  refine ssR rfl (wn _ rfl) (o_stR n771.at_ (n771.ne rfl (n770.ne rfl n769.at_)) W774.bk (by kernel_rfl) rfl (by simp [Value.oneCell'])) W774.bk (fun w823 u824 u824b => ?_)
  have G825 : Gr w w823 := Below.upd G799 l786 u824
  have B826 := B800.upd u824 (Nat.ne_of_lt l775)
  have B827 := B801.upd u824 (Nat.ne_of_lt l776)
  have B828 := B802.upd u824 (Nat.ne_of_lt l777)
  have B829 := B803.upd u824 (Nat.ne_of_lt l778)
  have B830 := B804.upd u824 (Nat.ne_of_lt l779)
  have B831 := B805.upd u824 (Nat.ne_of_lt l780)
  have B832 := B806.upd u824 (Nat.ne_of_lt l781)
  have B833 := B807.upd u824 (Nat.ne_of_lt l782)
  have B834 := B808.upd u824 (Nat.ne_of_lt l783)
  have B835 := B809.upd u824 (Nat.ne_of_lt l784)
  have B836 := B810.upd u824 (Nat.ne_of_lt l785)
  have A837 : Gr w14 w823 := Below.upd A811 l787 u824
  have A838 : Gr w22 w823 := Below.upd A812 l788 u824
  have A839 : Gr w31 w823 := Below.upd A813 l789 u824
  have A840 : Gr w111 w823 := Below.upd A814 l790 u824
  have A841 : Gr w162 w823 := Below.upd A815 l791 u824
  have A842 : Gr w221 w823 := Below.upd A816 l792 u824
  have A843 : Gr w288 w823 := Below.upd A817 l793 u824
  have A844 : Gr w362 w823 := Below.upd A818 l794 u824
  have A845 : Gr w445 w823 := Below.upd A819 l795 u824
  have A846 : Gr w536 w823 := Below.upd A820 l796 u824
  have A847 : Gr w635 w823 := Below.upd A821 l797 u824
  have A848 : Gr w741 w823 := Below.upd A822 l798 u824
  refine sv n771.ok rfl (wn _ rfl) rfl (o_as (n771.ne rfl n770.at_)) (fun an849 n849 => ?_)
  refine wpList_nil ?_
  refine th_n (hK736 _ _ ?_)
  refine wp_seq_k (fun K850 hK850 => ?_)
  refine wp_region_lit ?_
  have e851 := n849.ne rfl (n771.ne rfl (n770.ne rfl (n769.ne rfl (n768.ne rfl (n740.ne rfl (n739.ne rfl (n738.ne rfl (n735.ne rfl (n663.ne rfl (n662.ne rfl (n661.ne rfl (n660.ne rfl (n634.ne rfl (n633.ne rfl (n631.ne rfl e630)))))))))))))))
  refine sv n849.ok rfl (wn _ rfl) rfl (o_ldR e851 B826 Try.underlying25 rfl (by kernel_rfl)) (fun an852 n852 => ?_)
  have e853 := n852.ne rfl (n849.ne rfl (n771.ne rfl (n770.ne rfl (n769.ne rfl (n768.ne rfl (n740.ne rfl (n739.ne rfl (n738.ne rfl e737))))))))
  refine sv n852.ok rfl (wn _ rfl) rfl (o_ldR e853 B835 Try.underlying25 rfl (by kernel_rfl)) (fun an854 n854 => ?_)
  refine sc n854.ok rfl (wn _ rfl) rfl (o_f2 Try.func23 rfl rfl rfl (n854.ne rfl n852.at_) n854.at_) (sjoin _ _ _ _ w823 (hkq1.gr A837) (hkk7.gr A846) (Sm.set L1) (Sm.and (Sm.set L1))) ?_
  rintro _ w856 ⟨kk10, rfl, hkk10, g857⟩
  obtain ⟨vak10, vck10, mak10, mck10, rfl⟩ := hkk10.form
  refine ⟨_, rfl, fun an855 n855 => ?_⟩
  have G858 := G825.trans g857
  have B859 := B826.gr g857
  have B860 := B827.gr g857
  have B861 := B828.gr g857
  have B862 := B829.gr g857
  have B863 := B830.gr g857
  have B864 := B831.gr g857
  have B865 := B832.gr g857
  have B866 := B833.gr g857
  have B867 := B834.gr g857
  have B868 := B835.gr g857
  have B869 := B836.gr g857
  have B870 := u824b.gr g857
  have A871 := A837.trans g857
  have A872 := A838.trans g857
  have A873 := A839.trans g857
  have A874 := A840.trans g857
  have A875 := A841.trans g857
  have A876 := A842.trans g857
  have A877 := A843.trans g857
  have A878 := A844.trans g857
  have A879 := A845.trans g857
  have A880 := A846.trans g857
  have A881 := A847.trans g857
  have A882 := A848.trans g857
  have A884 := Gr.refl w856
  refine sv n855.ok rfl (wn _ rfl) rfl (o_mv n855.at_) (fun an885 n885 => ?_)
  refine sv n885.ok rfl (wn _ rfl) rfl (o_ex n885.at_ rfl) (fun an886 n886 => ?_)
  refine sv n886.ok rfl (wn _ rfl) rfl (o_ex (n886.ne rfl n885.at_) rfl) (fun an887 n887 => ?_)
  refine sal (cs := #[.slice none 0 0, .slice none 0 0]) n887.ok rfl (wn _ rfl) rfl (o_al (z := .agg #[.slice none 0 0, .slice none 0 0]) (by kernel_rfl)) (fun an888 w890 b889 W891 n888 => ?_)
  have l892 : b39 < b889 := by rw [W891.eq]; exact B859.lt
  have l893 : b51 < b889 := by rw [W891.eq]; exact B860.lt
  have l894 : b65 < b889 := by rw [W891.eq]; exact B861.lt
  have l895 : b126 < b889 := by rw [W891.eq]; exact B862.lt
  have l896 : b179 < b889 := by rw [W891.eq]; exact B863.lt
  have l897 : b240 < b889 := by rw [W891.eq]; exact B864.lt
  have l898 : b309 < b889 := by rw [W891.eq]; exact B865.lt
  have l899 : b385 < b889 := by rw [W891.eq]; exact B866.lt
  have l900 : b470 < b889 := by rw [W891.eq]; exact B867.lt
  have l901 : b563 < b889 := by rw [W891.eq]; exact B868.lt
  have l902 : b664 < b889 := by rw [W891.eq]; exact B869.lt
  have l903 : b772 < b889 := by rw [W891.eq]; exact B870.lt
  have l904 : w.heap.size ≤ b889 := by rw [W891.eq]; exact G858.size
  have l905 : w14.heap.size ≤ b889 := by rw [W891.eq]; exact A871.size
  have l906 : w22.heap.size ≤ b889 := by rw [W891.eq]; exact A872.size
  have l907 : w31.heap.size ≤ b889 := by rw [W891.eq]; exact A873.size
  have l908 : w111.heap.size ≤ b889 := by rw [W891.eq]; exact A874.size
  have l909 : w162.heap.size ≤ b889 := by rw [W891.eq]; exact A875.size
  have l910 : w221.heap.size ≤ b889 := by rw [W891.eq]; exact A876.size
  have l911 : w288.heap.size ≤ b889 := by rw [W891.eq]; exact A877.size
  have l912 : w362.heap.size ≤ b889 := by rw [W891.eq]; exact A878.size
  have l913 : w445.heap.size ≤ b889 := by rw [W891.eq]; exact A879.size
  have l914 : w536.heap.size ≤ b889 := by rw [W891.eq]; exact A880.size
  have l915 : w635.heap.size ≤ b889 := by rw [W891.eq]; exact A881.size
  have l916 : w741.heap.size ≤ b889 := by rw [W891.eq]; exact A882.size
  have l917 : w856.heap.size ≤ b889 := by rw [W891.eq]; exact A884.size
  have G918 := G858.trans W891.gr
  have B919 := B859.gr W891.gr
  have B920 := B860.gr W891.gr
  have B921 := B861.gr W891.gr
  have B922 := B862.gr W891.gr
  have B923 := B863.gr W891.gr
  have B924 := B864.gr W891.gr
  have B925 := B865.gr W891.gr
  have B926 := B866.gr W891.gr
  have B927 := B867.gr W891.gr
  have B928 := B868.gr W891.gr
  have B929 := B869.gr W891.gr
  have B930 := B870.gr W891.gr
  have A931 := A871.trans W891.gr
  have A932 := A872.trans W891.gr
  have A933 := A873.trans W891.gr
  have A934 := A874.trans W891.gr
  have A935 := A875.trans W891.gr
  have A936 := A876.trans W891.gr
  have A937 := A877.trans W891.gr
  have A938 := A878.trans W891.gr
  have A939 := A879.trans W891.gr
  have A940 := A880.trans W891.gr
  have A941 := A881.trans W891.gr
  have A942 := A882.trans W891.gr
  have A943 := A884.trans W891.gr
  refine ssR rfl (wn _ rfl) (o_stR n888.at_ (n888.ne rfl (n887.ne rfl n886.at_)) W891.bk (by kernel_rfl) rfl (by simp [Value.oneCell'])) W891.bk (fun w944 u945 u945b => ?_)
  have G946 : Gr w w944 := Below.upd G918 l904 u945
  have B947 := B919.upd u945 (Nat.ne_of_lt l892)
  have B948 := B920.upd u945 (Nat.ne_of_lt l893)
  have B949 := B921.upd u945 (Nat.ne_of_lt l894)
  have B950 := B922.upd u945 (Nat.ne_of_lt l895)
  have B951 := B923.upd u945 (Nat.ne_of_lt l896)
  have B952 := B924.upd u945 (Nat.ne_of_lt l897)
  have B953 := B925.upd u945 (Nat.ne_of_lt l898)
  have B954 := B926.upd u945 (Nat.ne_of_lt l899)
  have B955 := B927.upd u945 (Nat.ne_of_lt l900)
  have B956 := B928.upd u945 (Nat.ne_of_lt l901)
  have B957 := B929.upd u945 (Nat.ne_of_lt l902)
  have B958 := B930.upd u945 (Nat.ne_of_lt l903)
  have A959 : Gr w14 w944 := Below.upd A931 l905 u945
  have A960 : Gr w22 w944 := Below.upd A932 l906 u945
  have A961 : Gr w31 w944 := Below.upd A933 l907 u945
  have A962 : Gr w111 w944 := Below.upd A934 l908 u945
  have A963 : Gr w162 w944 := Below.upd A935 l909 u945
  have A964 : Gr w221 w944 := Below.upd A936 l910 u945
  have A965 : Gr w288 w944 := Below.upd A937 l911 u945
  have A966 : Gr w362 w944 := Below.upd A938 l912 u945
  have A967 : Gr w445 w944 := Below.upd A939 l913 u945
  have A968 : Gr w536 w944 := Below.upd A940 l914 u945
  have A969 : Gr w635 w944 := Below.upd A941 l915 u945
  have A970 : Gr w741 w944 := Below.upd A942 l916 u945
  have A971 : Gr w856 w944 := Below.upd A943 l917 u945
  refine sv n888.ok rfl (wn _ rfl) rfl (o_as (n888.ne rfl n887.at_)) (fun an972 n972 => ?_)
  refine wpList_nil ?_
  refine th_n (hK850 _ _ ?_)
  refine wp_seq_k (fun K973 hK973 => ?_)
  refine wp_region_lit ?_
  have e974 := n972.ne rfl (n888.ne rfl (n887.ne rfl (n886.ne rfl (n885.ne rfl (n855.ne rfl (n854.ne rfl (n852.ne rfl e851)))))))
  refine sv n972.ok rfl (wn _ rfl) rfl (o_ldR e974 B947 Try.underlying25 rfl (by kernel_rfl)) (fun an975 n975 => ?_)
  have e976 := n975.ne rfl (n972.ne rfl (n888.ne rfl (n887.ne rfl (n886.ne rfl (n885.ne rfl (n855.ne rfl (n854.ne rfl (n852.ne rfl (n849.ne rfl (n771.ne rfl (n770.ne rfl (n769.ne rfl (n768.ne rfl (n740.ne rfl (n739.ne rfl (n738.ne rfl (n735.ne rfl (n663.ne rfl (n662.ne rfl (n661.ne rfl (n660.ne rfl (n634.ne rfl (n633.ne rfl (n631.ne rfl (n628.ne rfl (n562.ne rfl (n561.ne rfl (n560.ne rfl (n559.ne rfl (n535.ne rfl (n534.ne rfl (n532.ne rfl (n529.ne rfl (n469.ne rfl (n468.ne rfl (n467.ne rfl (n466.ne rfl (n444.ne rfl (n443.ne rfl (n441.ne rfl (n438.ne rfl (n384.ne rfl (n383.ne rfl (n382.ne rfl (n381.ne rfl (n361.ne rfl (n360.ne rfl (n359.ne rfl (n356.ne rfl (n308.ne rfl (n307.ne rfl (n306.ne rfl (n305.ne rfl (n287.ne rfl (n286.ne rfl (n284.ne rfl (n281.ne rfl (n239.ne rfl (n238.ne rfl (n237.ne rfl (n236.ne rfl (n220.ne rfl (n219.ne rfl (n217.ne rfl e216))))))))))))))))))))))))))))))))))))))))))))))))))))))))))))))))
  refine sv n975.ok rfl (wn _ rfl) rfl (o_ldR e976 B950 Try.underlying25 rfl (by kernel_rfl)) (fun an977 n977 => ?_)
  refine sc n977.ok rfl (wn _ rfl) rfl (o_f2 Try.func24 rfl rfl rfl (n977.ne rfl n975.at_) n977.at_) (smeet _ _ _ _ w944 (hkq1.gr A959) (hkk1.gr A962) (Sm.set L1) ((Sm.set L1).or (Sm.set L2))) ?_
  rintro _ w979 ⟨kk11, rfl, hkk11, g980⟩
  obtain ⟨vak11, vck11, mak11, mck11, rfl⟩ := hkk11.form
  refine ⟨_, rfl, fun an978 n978 => ?_⟩
  have G981 := G946.trans g980
  have B982 := B947.gr g980
  have B983 := B948.gr g980
  have B984 := B949.gr g980
  have B985 := B950.gr g980
  have B986 := B951.gr g980
  have B987 := B952.gr g980
  have B988 := B953.gr g980
  have B989 := B954.gr g980
  have B990 := B955.gr g980
  have B991 := B956.gr g980
  have B992 := B957.gr g980
  have B993 := B958.gr g980
  have B994 := u945b.gr g980
  have A995 := A959.trans g980
  have A996 := A960.trans g980
  have A997 := A961.trans g980
  have A998 := A962.trans g980
  have A999 := A963.trans g980
  have A1000 := A964.trans g980
  have A1001 := A965.trans g980
  have A1002 := A966.trans g980
  have A1003 := A967.trans g980
  have A1004 := A968.trans g980
  have A1005 := A969.trans g980
  have A1006 := A970.trans g980
  have A1007 := A971.trans g980
  have A1009 := Gr.refl w979
  refine sv n978.ok rfl (wn _ rfl) rfl (o_mv n978.at_) (fun an1010 n1010 => ?_)
  refine sv n1010.ok rfl (wn _ rfl) rfl (o_ex n1010.at_ rfl) (fun an1011 n1011 => ?_)
  refine sv n1011.ok rfl (wn _ rfl) rfl (o_ex (n1011.ne rfl n1010.at_) rfl) (fun an1012 n1012 => ?_)
  refine sal (cs := #[.slice none 0 0, .slice none 0 0]) n1012.ok rfl (wn _ rfl) rfl (o_al (z := .agg #[.slice none 0 0, .slice none 0 0]) (by kernel_rfl)) (fun an1013 w1015 b1014 W1016 n1013 => ?_)
  have l1017 : b39 < b1014 := by rw [W1016.eq]; exact B982.lt
  have l1018 : b51 < b1014 := by rw [W1016.eq]; exact B983.lt
  have l1019 : b65 < b1014 := by rw [W1016.eq]; exact B984.lt
  have l1020 : b126 < b1014 := by rw [W1016.eq]; exact B985.lt
  have l1021 : b179 < b1014 := by rw [W1016.eq]; exact B986.lt
  have l1022 : b240 < b1014 := by rw [W1016.eq]; exact B987.lt
  have l1023 : b309 < b1014 := by rw [W1016.eq]; exact B988.lt
  have l1024 : b385 < b1014 := by rw [W1016.eq]; exact B989.lt
  have l1025 : b470 < b1014 := by rw [W1016.eq]; exact B990.lt
  have l1026 : b563 < b1014 := by rw [W1016.eq]; exact B991.lt
  have l1027 : b664 < b1014 := by rw [W1016.eq]; exact B992.lt
  have l1028 : b772 < b1014 := by rw [W1016.eq]; exact B993.lt
  have l1029 : b889 < b1014 := by rw [W1016.eq]; exact B994.lt
  have l1030 : w.heap.size ≤ b1014 := by rw [W1016.eq]; exact G981.size
  have l1031 : w14.heap.size ≤ b1014 := by rw [W1016.eq]; exact A995.size
  have l1032 : w22.heap.size ≤ b1014 := by rw [W1016.eq]; exact A996.size
  have l1033 : w31.heap.size ≤ b1014 := by rw [W1016.eq]; exact A997.size
  have l1034 : w111.heap.size ≤ b1014 := by rw [W1016.eq]; exact A998.size
  have l1035 : w162.heap.size ≤ b1014 := by rw [W1016.eq]; exact A999.size
  have l1036 : w221.heap.size ≤ b1014 := by rw [W1016.eq]; exact A1000.size
  have l1037 : w288.heap.size ≤ b1014 := by rw [W1016.eq]; exact A1001.size
  have l1038 : w362.heap.size ≤ b1014 := by rw [W1016.eq]; exact A1002.size
  have l1039 : w445.heap.size ≤ b1014 := by rw [W1016.eq]; exact A1003.size
  have l1040 : w536.heap.size ≤ b1014 := by rw [W1016.eq]; exact A1004.size
  have l1041 : w635.heap.size ≤ b1014 := by rw [W1016.eq]; exact A1005.size
  have l1042 : w741.heap.size ≤ b1014 := by rw [W1016.eq]; exact A1006.size
  have l1043 : w856.heap.size ≤ b1014 := by rw [W1016.eq]; exact A1007.size
  have l1044 : w979.heap.size ≤ b1014 := by rw [W1016.eq]; exact A1009.size
  have G1045 := G981.trans W1016.gr
  have B1046 := B982.gr W1016.gr
  have B1047 := B983.gr W1016.gr
  have B1048 := B984.gr W1016.gr
  have B1049 := B985.gr W1016.gr
  have B1050 := B986.gr W1016.gr
  have B1051 := B987.gr W1016.gr
  have B1052 := B988.gr W1016.gr
  have B1053 := B989.gr W1016.gr
  have B1054 := B990.gr W1016.gr
  have B1055 := B991.gr W1016.gr
  have B1056 := B992.gr W1016.gr
  have B1057 := B993.gr W1016.gr
  have B1058 := B994.gr W1016.gr
  have A1059 := A995.trans W1016.gr
  have A1060 := A996.trans W1016.gr
  have A1061 := A997.trans W1016.gr
  have A1062 := A998.trans W1016.gr
  have A1063 := A999.trans W1016.gr
  have A1064 := A1000.trans W1016.gr
  have A1065 := A1001.trans W1016.gr
  have A1066 := A1002.trans W1016.gr
  have A1067 := A1003.trans W1016.gr
  have A1068 := A1004.trans W1016.gr
  have A1069 := A1005.trans W1016.gr
  have A1070 := A1006.trans W1016.gr
  have A1071 := A1007.trans W1016.gr
  have A1072 := A1009.trans W1016.gr
  refine ssR rfl (wn _ rfl) (o_stR n1013.at_ (n1013.ne rfl (n1012.ne rfl n1011.at_)) W1016.bk (by kernel_rfl) rfl (by simp [Value.oneCell'])) W1016.bk (fun w1073 u1074 u1074b => ?_)
  have G1075 : Gr w w1073 := Below.upd G1045 l1030 u1074
  have B1076 := B1046.upd u1074 (Nat.ne_of_lt l1017)
  have B1077 := B1047.upd u1074 (Nat.ne_of_lt l1018)
  have B1078 := B1048.upd u1074 (Nat.ne_of_lt l1019)
  have B1079 := B1049.upd u1074 (Nat.ne_of_lt l1020)
  have B1080 := B1050.upd u1074 (Nat.ne_of_lt l1021)
  have B1081 := B1051.upd u1074 (Nat.ne_of_lt l1022)
  have B1082 := B1052.upd u1074 (Nat.ne_of_lt l1023)
  have B1083 := B1053.upd u1074 (Nat.ne_of_lt l1024)
  have B1084 := B1054.upd u1074 (Nat.ne_of_lt l1025)
  have B1085 := B1055.upd u1074 (Nat.ne_of_lt l1026)
  have B1086 := B1056.upd u1074 (Nat.ne_of_lt l1027)
  have B1087 := B1057.upd u1074 (Nat.ne_of_lt l1028)
  have B1088 := B1058.upd u1074 (Nat.ne_of_lt l1029)
  have A1089 : Gr w14 w1073 := Below.upd A1059 l1031 u1074
  have A1090 : Gr w22 w1073 := Below.upd A1060 l1032 u1074
  have A1091 : Gr w31 w1073 := Below.upd A1061 l1033 u1074
  have A1092 : Gr w111 w1073 := Below.upd A1062 l1034 u1074
  have A1093 : Gr w162 w1073 := Below.upd A1063 l1035 u1074
  have A1094 : Gr w221 w1073 := Below.upd A1064 l1036 u1074
  have A1095 : Gr w288 w1073 := Below.upd A1065 l1037 u1074
  have A1096 : Gr w362 w1073 := Below.upd A1066 l1038 u1074
  have A1097 : Gr w445 w1073 := Below.upd A1067 l1039 u1074
  have A1098 : Gr w536 w1073 := Below.upd A1068 l1040 u1074
  have A1099 : Gr w635 w1073 := Below.upd A1069 l1041 u1074
  have A1100 : Gr w741 w1073 := Below.upd A1070 l1042 u1074
  have A1101 : Gr w856 w1073 := Below.upd A1071 l1043 u1074
  have A1102 : Gr w979 w1073 := Below.upd A1072 l1044 u1074
  refine sv n1013.ok rfl (wn _ rfl) rfl (o_as (n1013.ne rfl n1012.at_)) (fun an1103 n1103 => ?_)
  refine wpList_nil ?_
  refine th_n (hK973 _ _ ?_)
  refine wp_seq_k (fun K1104 hK1104 => ?_)
  refine wp_seq_k (fun K1105 hK1105 => ?_)
  refine wp_region_lit ?_
  have e1106 := n1103.ne rfl (n1013.ne rfl (n1012.ne rfl (n1011.ne rfl (n1010.ne rfl (n978.ne rfl (n977.ne rfl (n975.ne rfl (n972.ne rfl (n888.ne rfl (n887.ne rfl (n886.ne rfl (n885.ne rfl (n855.ne rfl (n854.ne rfl (n852.ne rfl (n849.ne rfl (n771.ne rfl (n770.ne rfl (n769.ne rfl (n768.ne rfl (n740.ne rfl (n739.ne rfl (n738.ne rfl (n735.ne rfl (n663.ne rfl (n662.ne rfl (n661.ne rfl (n660.ne rfl (n634.ne rfl (n633.ne rfl (n631.ne rfl (n628.ne rfl (n562.ne rfl (n561.ne rfl (n560.ne rfl (n559.ne rfl (n535.ne rfl (n534.ne rfl (n532.ne rfl (n529.ne rfl (n469.ne rfl (n468.ne rfl (n467.ne rfl (n466.ne rfl (n444.ne rfl (n443.ne rfl (n441.ne rfl (n438.ne rfl (n384.ne rfl (n383.ne rfl (n382.ne rfl (n381.ne rfl (n361.ne rfl (n360.ne rfl (n359.ne rfl (n356.ne rfl (n308.ne rfl (n307.ne rfl (n306.ne rfl (n305.ne rfl (n287.ne rfl (n286.ne rfl (n284.ne rfl (n281.ne rfl (n239.ne rfl (n238.ne rfl (n237.ne rfl (n236.ne rfl (n220.ne rfl (n219.ne rfl (n217.ne rfl (n214.ne rfl (n178.ne rfl (n177.ne rfl (n176.ne rfl (n175.ne rfl (n161.ne rfl (n160.ne rfl (n158.ne rfl n155.at_)))))))))))))))))))))))))))))))))))))))))))))))))))))))))))))))))))))))))))))))
  refine sv n1103.ok rfl (wn _ rfl) rfl (o_mv e1106) (fun an1107 n1107 => ?_)
  have e1108 := n1107.ne rfl (n1103.ne rfl (n1013.ne rfl (n1012.ne rfl (n1011.ne rfl (n1010.ne rfl (n978.ne rfl (n977.ne rfl (n975.ne rfl (n972.ne rfl (n888.ne rfl (n887.ne rfl (n886.ne rfl (n885.ne rfl (n855.ne rfl (n854.ne rfl (n852.ne rfl (n849.ne rfl (n771.ne rfl (n770.ne rfl (n769.ne rfl (n768.ne rfl (n740.ne rfl (n739.ne rfl (n738.ne rfl (n735.ne rfl (n663.ne rfl (n662.ne rfl (n661.ne rfl (n660.ne rfl (n634.ne rfl (n633.ne rfl (n631.ne rfl (n628.ne rfl (n562.ne rfl (n561.ne rfl (n560.ne rfl (n559.ne rfl (n535.ne rfl (n534.ne rfl (n532.ne rfl (n529.ne rfl (n469.ne rfl (n468.ne rfl (n467.ne rfl (n466.ne rfl (n444.ne rfl (n443.ne rfl (n441.ne rfl (n438.ne rfl (n384.ne rfl (n383.ne rfl (n382.ne rfl (n381.ne rfl (n361.ne rfl (n360.ne rfl (n359.ne rfl (n356.ne rfl (n308.ne rfl (n307.ne rfl (n306.ne rfl (n305.ne rfl (n287.ne rfl (n286.ne rfl (n284.ne rfl (n281.ne rfl (n239.ne rfl (n238.ne rfl (n237.ne rfl (n236.ne rfl (n220.ne rfl (n219.ne rfl (n217.ne rfl n214.at_))))))))))))))))))))))))))))))))))))))))))))))))))))))))))))))))))))))))
  refine sv n1107.ok rfl (wn _ rfl) rfl (o_mv e1108) (fun an1109 n1109 => ?_)
  have e1110 := n1109.ne rfl (n1107.ne rfl (n1103.ne rfl (n1013.ne rfl (n1012.ne rfl (n1011.ne rfl (n1010.ne rfl (n978.ne rfl (n977.ne rfl (n975.ne rfl (n972.ne rfl (n888.ne rfl (n887.ne rfl (n886.ne rfl (n885.ne rfl (n855.ne rfl (n854.ne rfl (n852.ne rfl (n849.ne rfl (n771.ne rfl (n770.ne rfl (n769.ne rfl (n768.ne rfl (n740.ne rfl (n739.ne rfl (n738.ne rfl (n735.ne rfl (n663.ne rfl (n662.ne rfl (n661.ne rfl (n660.ne rfl (n634.ne rfl (n633.ne rfl (n631.ne rfl (n628.ne rfl (n562.ne rfl (n561.ne rfl (n560.ne rfl (n559.ne rfl (n535.ne rfl (n534.ne rfl (n532.ne rfl (n529.ne rfl (n469.ne rfl (n468.ne rfl (n467.ne rfl (n466.ne rfl (n444.ne rfl (n443.ne rfl (n441.ne rfl (n438.ne rfl (n384.ne rfl (n383.ne rfl (n382.ne rfl (n381.ne rfl (n361.ne rfl (n360.ne rfl (n359.ne rfl (n356.ne rfl (n308.ne rfl (n307.ne rfl (n306.ne rfl (n305.ne rfl (n287.ne rfl (n286.ne rfl (n284.ne rfl n281.at_)))))))))))))))))))))))))))))))))))))))))))))))))))))))))))))))))
  refine sv n1109.ok rfl (wn _ rfl) rfl (o_mv e1110) (fun an1111 n1111 => ?_)
  have e1112 := n1111.ne rfl (n1109.ne rfl (n1107.ne rfl (n1103.ne rfl (n1013.ne rfl (n1012.ne rfl (n1011.ne rfl (n1010.ne rfl (n978.ne rfl (n977.ne rfl (n975.ne rfl (n972.ne rfl (n888.ne rfl (n887.ne rfl (n886.ne rfl (n885.ne rfl (n855.ne rfl (n854.ne rfl (n852.ne rfl (n849.ne rfl (n771.ne rfl (n770.ne rfl (n769.ne rfl (n768.ne rfl (n740.ne rfl (n739.ne rfl (n738.ne rfl (n735.ne rfl (n663.ne rfl (n662.ne rfl (n661.ne rfl (n660.ne rfl (n634.ne rfl (n633.ne rfl (n631.ne rfl (n628.ne rfl (n562.ne rfl (n561.ne rfl (n560.ne rfl (n559.ne rfl (n535.ne rfl (n534.ne rfl (n532.ne rfl (n529.ne rfl (n469.ne rfl (n468.ne rfl (n467.ne rfl (n466.ne rfl (n444.ne rfl (n443.ne rfl (n441.ne rfl (n438.ne rfl (n384.ne rfl (n383.ne rfl (n382.ne rfl (n381.ne rfl (n361.ne rfl (n360.ne rfl (n359.ne rfl n356.at_))))))))))))))))))))))))))))))))))))))))))))))))))))))))))
  refine sv n1111.ok rfl (wn _ rfl) rfl (o_mv e1112) (fun an1113 n1113 => ?_)
  have e1114 := n1113.ne rfl (n1111.ne rfl (n1109.ne rfl (n1107.ne rfl (n1103.ne rfl (n1013.ne rfl (n1012.ne rfl (n1011.ne rfl (n1010.ne rfl (n978.ne rfl (n977.ne rfl (n975.ne rfl (n972.ne rfl (n888.ne rfl (n887.ne rfl (n886.ne rfl (n885.ne rfl (n855.ne rfl (n854.ne rfl (n852.ne rfl (n849.ne rfl (n771.ne rfl (n770.ne rfl (n769.ne rfl (n768.ne rfl (n740.ne rfl (n739.ne rfl (n738.ne rfl (n735.ne rfl (n663.ne rfl (n662.ne rfl (n661.ne rfl (n660.ne rfl (n634.ne rfl (n633.ne rfl (n631.ne rfl (n628.ne rfl (n562.ne rfl (n561.ne rfl (n560.ne rfl (n559.ne rfl (n535.ne rfl (n534.ne rfl (n532.ne rfl (n529.ne rfl (n469.ne rfl (n468.ne rfl (n467.ne rfl (n466.ne rfl (n444.ne rfl (n443.ne rfl (n441.ne rfl n438.at_)))))))))))))))))))))))))))))))))))))))))))))))))))
  refine sv n1113.ok rfl (wn _ rfl) rfl (o_mv e1114) (fun an1115 n1115 => ?_)
  have e1116 := n1115.ne rfl (n1113.ne rfl (n1111.ne rfl (n1109.ne rfl (n1107.ne rfl (n1103.ne rfl (n1013.ne rfl (n1012.ne rfl (n1011.ne rfl (n1010.ne rfl (n978.ne rfl (n977.ne rfl (n975.ne rfl (n972.ne rfl (n888.ne rfl (n887.ne rfl (n886.ne rfl (n885.ne rfl (n855.ne rfl (n854.ne rfl (n852.ne rfl (n849.ne rfl (n771.ne rfl (n770.ne rfl (n769.ne rfl (n768.ne rfl (n740.ne rfl (n739.ne rfl (n738.ne rfl (n735.ne rfl (n663.ne rfl (n662.ne rfl (n661.ne rfl (n660.ne rfl (n634.ne rfl (n633.ne rfl (n631.ne rfl (n628.ne rfl (n562.ne rfl (n561.ne rfl (n560.ne rfl (n559.ne rfl (n535.ne rfl (n534.ne rfl (n532.ne rfl n529.at_))))))))))))))))))))))))))))))))))))))))))))
  refine sv n1115.ok rfl (wn _ rfl) rfl (o_mv e1116) (fun an1117 n1117 => ?_)
  have e1118 := n1117.ne rfl (n1115.ne rfl (n1113.ne rfl (n1111.ne rfl (n1109.ne rfl (n1107.ne rfl (n1103.ne rfl (n1013.ne rfl (n1012.ne rfl (n1011.ne rfl (n1010.ne rfl (n978.ne rfl (n977.ne rfl (n975.ne rfl (n972.ne rfl (n888.ne rfl (n887.ne rfl (n886.ne rfl (n885.ne rfl (n855.ne rfl (n854.ne rfl (n852.ne rfl (n849.ne rfl (n771.ne rfl (n770.ne rfl (n769.ne rfl (n768.ne rfl (n740.ne rfl (n739.ne rfl (n738.ne rfl (n735.ne rfl (n663.ne rfl (n662.ne rfl (n661.ne rfl (n660.ne rfl (n634.ne rfl (n633.ne rfl (n631.ne rfl n628.at_)))))))))))))))))))))))))))))))))))))
  refine sv n1117.ok rfl (wn _ rfl) rfl (o_mv e1118) (fun an1119 n1119 => ?_)
  have e1120 := n1119.ne rfl (n1117.ne rfl (n1115.ne rfl (n1113.ne rfl (n1111.ne rfl (n1109.ne rfl (n1107.ne rfl (n1103.ne rfl (n1013.ne rfl (n1012.ne rfl (n1011.ne rfl (n1010.ne rfl (n978.ne rfl (n977.ne rfl (n975.ne rfl (n972.ne rfl (n888.ne rfl (n887.ne rfl (n886.ne rfl (n885.ne rfl (n855.ne rfl (n854.ne rfl (n852.ne rfl (n849.ne rfl (n771.ne rfl (n770.ne rfl (n769.ne rfl (n768.ne rfl (n740.ne rfl (n739.ne rfl (n738.ne rfl n735.at_))))))))))))))))))))))))))))))
  refine sv n1119.ok rfl (wn _ rfl) rfl (o_mv e1120) (fun an1121 n1121 => ?_)
  have e1122 := n1121.ne rfl (n1119.ne rfl (n1117.ne rfl (n1115.ne rfl (n1113.ne rfl (n1111.ne rfl (n1109.ne rfl (n1107.ne rfl (n1103.ne rfl (n1013.ne rfl (n1012.ne rfl (n1011.ne rfl (n1010.ne rfl (n978.ne rfl (n977.ne rfl (n975.ne rfl (n972.ne rfl (n888.ne rfl (n887.ne rfl (n886.ne rfl (n885.ne rfl (n855.ne rfl (n854.ne rfl (n852.ne rfl n849.at_)))))))))))))))))))))))
  refine sv n1121.ok rfl (wn _ rfl) rfl (o_mv e1122) (fun an1123 n1123 => ?_)
  have e1124 := n1123.ne rfl (n1121.ne rfl (n1119.ne rfl (n1117.ne rfl (n1115.ne rfl (n1113.ne rfl (n1111.ne rfl (n1109.ne rfl (n1107.ne rfl (n1103.ne rfl (n1013.ne rfl (n1012.ne rfl (n1011.ne rfl (n1010.ne rfl (n978.ne rfl (n977.ne rfl (n975.ne rfl n972.at_))))))))))))))))
  refine sv n1123.ok rfl (wn _ rfl) rfl (o_mv e1124) (fun an1125 n1125 => ?_)
  have e1126 := n1125.ne rfl (n1123.ne rfl (n1121.ne rfl (n1119.ne rfl (n1117.ne rfl (n1115.ne rfl (n1113.ne rfl (n1111.ne rfl (n1109.ne rfl (n1107.ne rfl n1103.at_)))))))))
  refine sv n1125.ok rfl (wn _ rfl) rfl (o_mv e1126) (fun an1127 n1127 => ?_)
  have e1129 := n1127.ne rfl (n1125.ne rfl (n1123.ne rfl (n1121.ne rfl (n1119.ne rfl (n1117.ne rfl (n1115.ne rfl (n1113.ne rfl (n1111.ne rfl (n1109.ne rfl n1107.at_)))))))))
  have e1130 := n1127.ne rfl (n1125.ne rfl (n1123.ne rfl (n1121.ne rfl (n1119.ne rfl (n1117.ne rfl (n1115.ne rfl (n1113.ne rfl (n1111.ne rfl n1109.at_))))))))
  have e1131 := n1127.ne rfl (n1125.ne rfl (n1123.ne rfl (n1121.ne rfl (n1119.ne rfl (n1117.ne rfl (n1115.ne rfl (n1113.ne rfl n1111.at_)))))))
  have e1132 := n1127.ne rfl (n1125.ne rfl (n1123.ne rfl (n1121.ne rfl (n1119.ne rfl (n1117.ne rfl (n1115.ne rfl n1113.at_))))))
  have e1133 := n1127.ne rfl (n1125.ne rfl (n1123.ne rfl (n1121.ne rfl (n1119.ne rfl (n1117.ne rfl n1115.at_)))))
  have e1134 := n1127.ne rfl (n1125.ne rfl (n1123.ne rfl (n1121.ne rfl (n1119.ne rfl n1117.at_))))
  have e1135 := n1127.ne rfl (n1125.ne rfl (n1123.ne rfl (n1121.ne rfl n1119.at_)))
  have e1136 := n1127.ne rfl (n1125.ne rfl (n1123.ne rfl n1121.at_))
  obtain ⟨i1128, i1128a, i1128b, i1128c⟩ := info3_of (show (Try.prog.info? 28).map (fun i => (i.zero, i.size)) = some (some (.int .i64 0), 1) by kernel_rfl)
  refine sals (cs := #[.int .i64 0, .int .i64 0, .int .i64 0, .int .i64 0, .int .i64 0, .int .i64 0, .int .i64 0, .int .i64 0, .int .i64 0, .int .i64 0, .int .i64 0]) n1127.ok rfl (wn _ rfl) rfl (o_bs (vs := [(0, .int .i64 0), (1, .int .i64 0), (2, .int .i64 0), (3, .int .i64 0), (4, .int .i64 0), (5, .int .i64 0), (6, .int .i64 0), (7, .int .i64 0), (8, .int .i64 0), (9, .int .i64 0), (10, .int .i64 0)]) (by simp [e1129, e1130, e1131, e1132, e1133, e1134, e1135, e1136, (n1127.ne rfl (n1125.ne rfl n1123.at_)), (n1127.ne rfl n1125.at_), n1127.at_, ev_const]) Try.underlying53 i1128a i1128b (by rw [i1128c]; rfl) (by rw [i1128c]; rfl) (by rw [i1128c]; kernel_rfl)) (fun an1137 w1139 b1138 W1140 n1137 => ?_)
  have l1141 : b39 < b1138 := by rw [W1140.eq]; exact B1076.lt
  have l1142 : b51 < b1138 := by rw [W1140.eq]; exact B1077.lt
  have l1143 : b65 < b1138 := by rw [W1140.eq]; exact B1078.lt
  have l1144 : b126 < b1138 := by rw [W1140.eq]; exact B1079.lt
  have l1145 : b179 < b1138 := by rw [W1140.eq]; exact B1080.lt
  have l1146 : b240 < b1138 := by rw [W1140.eq]; exact B1081.lt
  have l1147 : b309 < b1138 := by rw [W1140.eq]; exact B1082.lt
  have l1148 : b385 < b1138 := by rw [W1140.eq]; exact B1083.lt
  have l1149 : b470 < b1138 := by rw [W1140.eq]; exact B1084.lt
  have l1150 : b563 < b1138 := by rw [W1140.eq]; exact B1085.lt
  have l1151 : b664 < b1138 := by rw [W1140.eq]; exact B1086.lt
  have l1152 : b772 < b1138 := by rw [W1140.eq]; exact B1087.lt
  have l1153 : b889 < b1138 := by rw [W1140.eq]; exact B1088.lt
  have l1154 : b1014 < b1138 := by rw [W1140.eq]; exact u1074b.lt
  have l1155 : w.heap.size ≤ b1138 := by rw [W1140.eq]; exact G1075.size
  have l1156 : w14.heap.size ≤ b1138 := by rw [W1140.eq]; exact A1089.size
  have l1157 : w22.heap.size ≤ b1138 := by rw [W1140.eq]; exact A1090.size
  have l1158 : w31.heap.size ≤ b1138 := by rw [W1140.eq]; exact A1091.size
  have l1159 : w111.heap.size ≤ b1138 := by rw [W1140.eq]; exact A1092.size
  have l1160 : w162.heap.size ≤ b1138 := by rw [W1140.eq]; exact A1093.size
  have l1161 : w221.heap.size ≤ b1138 := by rw [W1140.eq]; exact A1094.size
  have l1162 : w288.heap.size ≤ b1138 := by rw [W1140.eq]; exact A1095.size
  have l1163 : w362.heap.size ≤ b1138 := by rw [W1140.eq]; exact A1096.size
  have l1164 : w445.heap.size ≤ b1138 := by rw [W1140.eq]; exact A1097.size
  have l1165 : w536.heap.size ≤ b1138 := by rw [W1140.eq]; exact A1098.size
  have l1166 : w635.heap.size ≤ b1138 := by rw [W1140.eq]; exact A1099.size
  have l1167 : w741.heap.size ≤ b1138 := by rw [W1140.eq]; exact A1100.size
  have l1168 : w856.heap.size ≤ b1138 := by rw [W1140.eq]; exact A1101.size
  have l1169 : w979.heap.size ≤ b1138 := by rw [W1140.eq]; exact A1102.size
  have G1170 := G1075.trans W1140.gr
  have B1171 := B1076.gr W1140.gr
  have B1172 := B1077.gr W1140.gr
  have B1173 := B1078.gr W1140.gr
  have B1174 := B1079.gr W1140.gr
  have B1175 := B1080.gr W1140.gr
  have B1176 := B1081.gr W1140.gr
  have B1177 := B1082.gr W1140.gr
  have B1178 := B1083.gr W1140.gr
  have B1179 := B1084.gr W1140.gr
  have B1180 := B1085.gr W1140.gr
  have B1181 := B1086.gr W1140.gr
  have B1182 := B1087.gr W1140.gr
  have B1183 := B1088.gr W1140.gr
  have B1184 := u1074b.gr W1140.gr
  have A1185 := A1089.trans W1140.gr
  have A1186 := A1090.trans W1140.gr
  have A1187 := A1091.trans W1140.gr
  have A1188 := A1092.trans W1140.gr
  have A1189 := A1093.trans W1140.gr
  have A1190 := A1094.trans W1140.gr
  have A1191 := A1095.trans W1140.gr
  have A1192 := A1096.trans W1140.gr
  have A1193 := A1097.trans W1140.gr
  have A1194 := A1098.trans W1140.gr
  have A1195 := A1099.trans W1140.gr
  have A1196 := A1100.trans W1140.gr
  have A1197 := A1101.trans W1140.gr
  have A1198 := A1102.trans W1140.gr
  refine sv n1137.ok rfl (wn _ rfl) rfl (o_len n1137.at_ Try.underlying53) (fun an1199 n1199 => ?_)
  refine sv n1199.ok rfl (wn _ rfl) rfl (o_mv ev_const) (fun an1200 n1200 => ?_)
  refine wpList_nil ?_
  refine th_n (hK1105 _ _ ?_)
  refine wp_block ?_
  have e1202 := n1200.ne rfl (n1199.ne rfl (n1137.ne rfl (n1127.ne rfl (n1125.ne rfl (n1123.ne rfl (n1121.ne rfl (n1119.ne rfl (n1117.ne rfl (n1115.ne rfl (n1113.ne rfl (n1111.ne rfl (n1109.ne rfl (n1107.ne rfl (n1103.ne rfl (n1013.ne rfl (n1012.ne rfl (n1011.ne rfl (n1010.ne rfl (n978.ne rfl (n977.ne rfl (n975.ne rfl (n972.ne rfl (n888.ne rfl (n887.ne rfl (n886.ne rfl (n885.ne rfl (n855.ne rfl (n854.ne rfl (n852.ne rfl (n849.ne rfl (n771.ne rfl (n770.ne rfl (n769.ne rfl (n768.ne rfl (n740.ne rfl (n739.ne rfl (n738.ne rfl (n735.ne rfl (n663.ne rfl (n662.ne rfl (n661.ne rfl (n660.ne rfl (n634.ne rfl (n633.ne rfl (n631.ne rfl (n628.ne rfl (n562.ne rfl (n561.ne rfl (n560.ne rfl (n559.ne rfl (n535.ne rfl (n534.ne rfl (n532.ne rfl (n529.ne rfl (n469.ne rfl (n468.ne rfl (n467.ne rfl (n466.ne rfl (n444.ne rfl (n443.ne rfl (n441.ne rfl (n438.ne rfl (n384.ne rfl (n383.ne rfl (n382.ne rfl (n381.ne rfl (n361.ne rfl (n360.ne rfl (n359.ne rfl (n356.ne rfl (n308.ne rfl (n307.ne rfl (n306.ne rfl (n305.ne rfl (n287.ne rfl (n286.ne rfl (n284.ne rfl (n281.ne rfl (n239.ne rfl (n238.ne rfl (n237.ne rfl (n236.ne rfl (n220.ne rfl (n219.ne rfl (n217.ne rfl (n214.ne rfl (n178.ne rfl (n177.ne rfl (n176.ne rfl (n175.ne rfl (n161.ne rfl (n160.ne rfl (n158.ne rfl (n155.ne rfl (n125.ne rfl (n124.ne rfl (n123.ne rfl (n122.ne rfl (n110.ne rfl (n109.ne rfl (n108.ne rfl (n64.ne rfl (n50.ne rfl (n38.ne rfl (n30.ne rfl (n29.ne rfl (n21.ne rfl (n20.ne rfl (n13.ne rfl (n12.ne rfl (n9.ne rfl (n5.ne rfl n2.at_))))))))))))))))))))))))))))))))))))))))))))))))))))))))))))))))))))))))))))))))))))))))))))))))))))))))))))))))
  have e1203 := n1200.ne rfl (n1199.ne rfl (n1137.ne rfl (n1127.ne rfl (n1125.ne rfl (n1123.ne rfl (n1121.ne rfl (n1119.ne rfl (n1117.ne rfl (n1115.ne rfl (n1113.ne rfl (n1111.ne rfl (n1109.ne rfl (n1107.ne rfl (n1103.ne rfl (n1013.ne rfl (n1012.ne rfl (n1011.ne rfl (n1010.ne rfl (n978.ne rfl (n977.ne rfl (n975.ne rfl e974)))))))))))))))))))))
  have e1204 := n1200.ne rfl (n1199.ne rfl (n1137.ne rfl (n1127.ne rfl (n1125.ne rfl (n1123.ne rfl (n1121.ne rfl (n1119.ne rfl (n1117.ne rfl (n1115.ne rfl (n1113.ne rfl (n1111.ne rfl (n1109.ne rfl (n1107.ne rfl (n1103.ne rfl (n1013.ne rfl (n1012.ne rfl (n1011.ne rfl (n1010.ne rfl (n978.ne rfl (n977.ne rfl e976))))))))))))))))))))
  have e1205 := n1200.ne rfl (n1199.ne rfl (n1137.ne rfl (n1127.ne rfl (n1125.ne rfl (n1123.ne rfl (n1121.ne rfl (n1119.ne rfl (n1117.ne rfl (n1115.ne rfl (n1113.ne rfl (n1111.ne rfl (n1109.ne rfl (n1107.ne rfl (n1103.ne rfl (n1013.ne rfl (n1012.ne rfl (n1011.ne rfl (n1010.ne rfl (n978.ne rfl (n977.ne rfl (n975.ne rfl (n972.ne rfl (n888.ne rfl (n887.ne rfl (n886.ne rfl (n885.ne rfl (n855.ne rfl (n854.ne rfl (n852.ne rfl (n849.ne rfl (n771.ne rfl (n770.ne rfl (n769.ne rfl (n768.ne rfl (n740.ne rfl (n739.ne rfl (n738.ne rfl (n735.ne rfl (n663.ne rfl (n662.ne rfl (n661.ne rfl (n660.ne rfl (n634.ne rfl (n633.ne rfl (n631.ne rfl (n628.ne rfl (n562.ne rfl (n561.ne rfl (n560.ne rfl (n559.ne rfl (n535.ne rfl (n534.ne rfl (n532.ne rfl (n529.ne rfl (n469.ne rfl (n468.ne rfl (n467.ne rfl (n466.ne rfl (n444.ne rfl (n443.ne rfl (n441.ne rfl (n438.ne rfl (n384.ne rfl (n383.ne rfl (n382.ne rfl (n381.ne rfl (n361.ne rfl (n360.ne rfl (n359.ne rfl (n356.ne rfl (n308.ne rfl (n307.ne rfl (n306.ne rfl (n305.ne rfl (n287.ne rfl (n286.ne rfl (n284.ne rfl (n281.ne rfl (n239.ne rfl (n238.ne rfl (n237.ne rfl (n236.ne rfl (n220.ne rfl (n219.ne rfl (n217.ne rfl (n214.ne rfl n178.at_))))))))))))))))))))))))))))))))))))))))))))))))))))))))))))))))))))))))))))))))))))))
  have e1206 := n1200.ne rfl (n1199.ne rfl (n1137.ne rfl (n1127.ne rfl (n1125.ne rfl (n1123.ne rfl (n1121.ne rfl (n1119.ne rfl (n1117.ne rfl (n1115.ne rfl (n1113.ne rfl (n1111.ne rfl (n1109.ne rfl (n1107.ne rfl (n1103.ne rfl (n1013.ne rfl (n1012.ne rfl (n1011.ne rfl (n1010.ne rfl (n978.ne rfl (n977.ne rfl (n975.ne rfl (n972.ne rfl (n888.ne rfl (n887.ne rfl (n886.ne rfl (n885.ne rfl (n855.ne rfl (n854.ne rfl (n852.ne rfl (n849.ne rfl (n771.ne rfl (n770.ne rfl (n769.ne rfl (n768.ne rfl (n740.ne rfl (n739.ne rfl (n738.ne rfl (n735.ne rfl (n663.ne rfl (n662.ne rfl (n661.ne rfl (n660.ne rfl (n634.ne rfl (n633.ne rfl (n631.ne rfl (n628.ne rfl (n562.ne rfl (n561.ne rfl (n560.ne rfl (n559.ne rfl (n535.ne rfl (n534.ne rfl (n532.ne rfl (n529.ne rfl (n469.ne rfl (n468.ne rfl (n467.ne rfl (n466.ne rfl (n444.ne rfl (n443.ne rfl (n441.ne rfl (n438.ne rfl (n384.ne rfl (n383.ne rfl (n382.ne rfl (n381.ne rfl (n361.ne rfl (n360.ne rfl (n359.ne rfl (n356.ne rfl (n308.ne rfl (n307.ne rfl (n306.ne rfl (n305.ne rfl (n287.ne rfl (n286.ne rfl (n284.ne rfl (n281.ne rfl n239.at_))))))))))))))))))))))))))))))))))))))))))))))))))))))))))))))))))))))))))))))
  have e1207 := n1200.ne rfl (n1199.ne rfl (n1137.ne rfl (n1127.ne rfl (n1125.ne rfl (n1123.ne rfl (n1121.ne rfl (n1119.ne rfl (n1117.ne rfl (n1115.ne rfl (n1113.ne rfl (n1111.ne rfl (n1109.ne rfl (n1107.ne rfl (n1103.ne rfl (n1013.ne rfl (n1012.ne rfl (n1011.ne rfl (n1010.ne rfl (n978.ne rfl (n977.ne rfl (n975.ne rfl (n972.ne rfl (n888.ne rfl (n887.ne rfl (n886.ne rfl (n885.ne rfl (n855.ne rfl (n854.ne rfl (n852.ne rfl (n849.ne rfl (n771.ne rfl (n770.ne rfl (n769.ne rfl (n768.ne rfl (n740.ne rfl (n739.ne rfl (n738.ne rfl (n735.ne rfl (n663.ne rfl (n662.ne rfl (n661.ne rfl (n660.ne rfl (n634.ne rfl (n633.ne rfl (n631.ne rfl (n628.ne rfl (n562.ne rfl (n561.ne rfl (n560.ne rfl (n559.ne rfl (n535.ne rfl (n534.ne rfl (n532.ne rfl (n529.ne rfl (n469.ne rfl (n468.ne rfl (n467.ne rfl (n466.ne rfl (n444.ne rfl (n443.ne rfl (n441.ne rfl (n438.ne rfl n384.at_))))))))))))))))))))))))))))))))))))))))))))))))))))))))))))))
  have e1208 := n1200.ne rfl (n1199.ne rfl (n1137.ne rfl (n1127.ne rfl (n1125.ne rfl (n1123.ne rfl (n1121.ne rfl (n1119.ne rfl (n1117.ne rfl (n1115.ne rfl (n1113.ne rfl (n1111.ne rfl (n1109.ne rfl (n1107.ne rfl (n1103.ne rfl (n1013.ne rfl (n1012.ne rfl (n1011.ne rfl (n1010.ne rfl (n978.ne rfl (n977.ne rfl (n975.ne rfl (n972.ne rfl (n888.ne rfl (n887.ne rfl (n886.ne rfl (n885.ne rfl (n855.ne rfl (n854.ne rfl (n852.ne rfl (n849.ne rfl (n771.ne rfl (n770.ne rfl (n769.ne rfl (n768.ne rfl (n740.ne rfl (n739.ne rfl (n738.ne rfl (n735.ne rfl (n663.ne rfl (n662.ne rfl (n661.ne rfl (n660.ne rfl (n634.ne rfl (n633.ne rfl (n631.ne rfl (n628.ne rfl (n562.ne rfl (n561.ne rfl (n560.ne rfl (n559.ne rfl (n535.ne rfl (n534.ne rfl (n532.ne rfl (n529.ne rfl n469.at_))))))))))))))))))))))))))))))))))))))))))))))))))))))
  have e1209 := n1200.ne rfl (n1199.ne rfl (n1137.ne rfl (n1127.ne rfl (n1125.ne rfl (n1123.ne rfl (n1121.ne rfl (n1119.ne rfl (n1117.ne rfl (n1115.ne rfl (n1113.ne rfl (n1111.ne rfl (n1109.ne rfl (n1107.ne rfl (n1103.ne rfl (n1013.ne rfl (n1012.ne rfl (n1011.ne rfl (n1010.ne rfl (n978.ne rfl (n977.ne rfl (n975.ne rfl (n972.ne rfl (n888.ne rfl (n887.ne rfl (n886.ne rfl (n885.ne rfl (n855.ne rfl (n854.ne rfl (n852.ne rfl (n849.ne rfl n771.at_))))))))))))))))))))))))))))))
  have e1210 := n1200.ne rfl (n1199.ne rfl (n1137.ne rfl (n1127.ne rfl (n1125.ne rfl (n1123.ne rfl (n1121.ne rfl (n1119.ne rfl (n1117.ne rfl (n1115.ne rfl (n1113.ne rfl (n1111.ne rfl (n1109.ne rfl (n1107.ne rfl (n1103.ne rfl (n1013.ne rfl (n1012.ne rfl (n1011.ne rfl (n1010.ne rfl (n978.ne rfl (n977.ne rfl (n975.ne rfl (n972.ne rfl n888.at_))))))))))))))))))))))
  have e1211 := n1200.ne rfl (n1199.ne rfl (n1137.ne rfl (n1127.ne rfl (n1125.ne rfl (n1123.ne rfl (n1121.ne rfl (n1119.ne rfl (n1117.ne rfl (n1115.ne rfl (n1113.ne rfl (n1111.ne rfl (n1109.ne rfl (n1107.ne rfl (n1103.ne rfl n1013.at_))))))))))))))
  refine lp (fun (nL : Nat) (aL : Act) (wL : World) => ∃ i : Nat, nL = 11 - i ∧ Ok 151 aL ∧ Gr w wL ∧ (aL.eval (.tmp 6) = .bool false) ∧ (aL.eval (.tmp 7) = .pointer (some ⟨b39, 0, none⟩)) ∧ (aL.eval (.tmp 10) = .pointer (some ⟨b126, 0, none⟩)) ∧ (aL.eval (.tmp 12) = .pointer (some ⟨b179, 0, none⟩)) ∧ (aL.eval (.tmp 14) = .pointer (some ⟨b240, 0, none⟩)) ∧ (aL.eval (.tmp 18) = .pointer (some ⟨b385, 0, none⟩)) ∧ (aL.eval (.tmp 20) = .pointer (some ⟨b470, 0, none⟩)) ∧ (aL.eval (.tmp 26) = .pointer (some ⟨b772, 0, none⟩)) ∧ (aL.eval (.tmp 28) = .pointer (some ⟨b889, 0, none⟩)) ∧ (aL.eval (.tmp 30) = .pointer (some ⟨b1014, 0, none⟩)) ∧ (aL.eval (.tmp 119) = .slice (some ⟨b1138, 0, none⟩) 11 11) ∧ (aL.eval (.tmp 120) = .int .i64 11) ∧ (aL.eval (.tmp 121) = .int .i64 (i : Int)) ∧ (Bk wL b39 #[.slice vaq1 ((ints (formV (setD L1))).length) vcq1, .slice maq1 ((pairs (formM (setD L1))).length) mcq1] 25) ∧ (Bk wL b126 #[.slice vak1 ((ints (formV (orD (setD L1) (setD L2)))).length) vck1, .slice mak1 ((pairs (formM (orD (setD L1) (setD L2)))).length) mck1] 25) ∧ (Bk wL b179 #[.slice vak2 ((ints (formV (orD (setD L2) (setD L1)))).length) vck2, .slice mak2 ((pairs (formM (orD (setD L2) (setD L1)))).length) mck2] 25) ∧ (Bk wL b240 #[.slice vak3 ((ints (formV (orD (orD (setD L1) (setD L2)) (setD L3)))).length) vck3, .slice mak3 ((pairs (formM (orD (orD (setD L1) (setD L2)) (setD L3)))).length) mck3] 25) ∧ (Bk wL b385 #[.slice vak5 ((ints (formV (orD (setD L1) (orD (setD L2) (setD L3))))).length) vck5, .slice mak5 ((pairs (formM (orD (setD L1) (orD (setD L2) (setD L3))))).length) mck5] 25) ∧ (Bk wL b470 #[.slice vak6 ((ints (formV (andD (setD L1) (orD (setD L2) (setD L3))))).length) vck6, .slice mak6 ((pairs (formM (andD (setD L1) (orD (setD L2) (setD L3))))).length) mck6] 25) ∧ (Bk wL b772 #[.slice vak9 ((ints (formV (orD (andD (setD L1) (setD L2)) (andD (setD L1) (setD L3))))).length) vck9, .slice mak9 ((pairs (formM (orD (andD (setD L1) (setD L2)) (andD (setD L1) (setD L3))))).length) mck9] 25) ∧ (Bk wL b889 #[.slice vak10 ((ints (formV (orD (setD L1) (andD (setD L1) (setD L2))))).length) vck10, .slice mak10 ((pairs (formM (orD (setD L1) (andD (setD L1) (setD L2))))).length) mck10] 25) ∧ (Bk wL b1014 #[.slice vak11 ((ints (formV (andD (setD L1) (orD (setD L1) (setD L2))))).length) vck11, .slice mak11 ((pairs (formM (andD (setD L1) (orD (setD L1) (setD L2))))).length) mck11] 25) ∧ (Bk wL b1138 #[.int .i64 0, .int .i64 0, .int .i64 0, .int .i64 0, .int .i64 0, .int .i64 0, .int .i64 0, .int .i64 0, .int .i64 0, .int .i64 0, .int .i64 0] 28) ∧ (Gr w14 wL) ∧ (Gr w22 wL) ∧ (Gr w31 wL) ∧ (Gr w111 wL) ∧ (Gr w162 wL) ∧ (Gr w221 wL) ∧ (Gr w288 wL) ∧ (Gr w362 wL) ∧ (Gr w445 wL) ∧ (Gr w536 wL) ∧ (Gr w635 wL) ∧ (Gr w741 wL) ∧ (Gr w856 wL) ∧ (Gr w979 wL) ∧ (i ≤ 11)) _ ⟨0, rfl, n1200.ok, G1170, e1202, e1203, e1204, e1205, e1206, e1207, e1208, e1209, e1210, e1211, (n1200.ne rfl (n1199.ne rfl n1137.at_)), (n1200.ne rfl n1199.at_), n1200.at_, B1171, B1174, B1175, B1176, B1178, B1179, B1182, B1183, B1184, W1140.bk, A1185, A1186, A1187, A1188, A1189, A1190, A1191, A1192, A1193, A1194, A1195, A1196, A1197, A1198, by omega⟩ ?_
  rintro m1212 aI1201 w1214 ⟨i, hmI1201, okI1201, GI1201, s6I1201, s7I1201, s10I1201, s12I1201, s14I1201, s18I1201, s20I1201, s26I1201, s28I1201, s30I1201, s119I1201, s120I1201, s121I1201, kb39I1201, kb126I1201, kb179I1201, kb240I1201, kb385I1201, kb470I1201, kb772I1201, kb889I1201, kb1014I1201, kb1138I1201, xanch17I1201, xanch26I1201, xanch36I1201, xanch120I1201, xanch173I1201, xanch234I1201, xanch303I1201, xanch379I1201, xanch464I1201, xanch557I1201, xanch658I1201, xanch766I1201, xanch883I1201, xanch1008I1201, hiI1201⟩ KI1201 hKI1201
  refine wp_seq_k (fun K1215 hK1215 => ?_)
  refine wp_region_lit ?_
  refine sv okI1201 rfl (wn _ rfl) rfl (o_ltI s121I1201 s120I1201) (fun an1216 n1216 => ?_)
  refine wpList_nil ?_
  refine th_n (hK1215 _ _ ?_)
  refine wp_seq_k (fun K1217 hK1217 => ?_)
  by_cases c1218 : (i : Int) < 11
  · refine wp_cond_true ((n1216.at_).trans (congrArg Value.bool (decide_eq_true c1218))) ?_
    refine wp_skip ?_
    refine th_n (hK1217 _ _ ?_)
    refine wp_seq_k (fun K1219 hK1219 => ?_)
    refine wp_block ?_
    refine wp_seq_k (fun K1220 hK1220 => ?_)
    refine wp_region_lit ?_
    refine sv n1216.ok rfl (wn _ rfl) rfl (o_ia (i := i) (s := 1) (n1216.ne rfl s119I1201) (n1216.ne rfl s121I1201) Try.underlying53 (by kernel_rfl) (by omega)) (fun an1221 n1221 => ?_)
    refine sv n1221.ok rfl (wn _ rfl) rfl (o_ld n1221.at_ (Try.isAgg28 _) (kb1138I1201.cell _ (by rw [Nat.zero_add, Nat.mul_one]; exact zero11 (by omega)))) (fun an1222 n1222 => ?_)
    refine sv n1222.ok rfl (wn _ rfl) rfl (o_as n1222.at_) (fun an1223 n1223 => ?_)
    refine wpList_nil ?_
    refine th_n (hK1220 _ _ ?_)
    refine wp_seq_k (fun K1224 hK1224 => ?_)
    refine wp_region_lit ?_
    refine sv n1223.ok rfl (wn _ rfl) rfl (o_mv n1223.at_) (fun an1225 n1225 => ?_)
    refine sv n1225.ok rfl (wn _ rfl) rfl (o_neq (b := false) n1225.at_ ev_const (by decide)) (fun an1226 n1226 => ?_)
    refine wpList_nil ?_
    refine th_n (hK1224 _ _ ?_)
    refine wp_cond_false (n1226.at_) ?_
    refine wp_skip ?_
    refine ib_n ?_
    refine th_n (hK1219 _ _ ?_)
    refine wp_region_lit ?_
    have e1227 := n1226.ne rfl (n1225.ne rfl (n1223.ne rfl (n1222.ne rfl (n1221.ne rfl (n1216.ne rfl s121I1201)))))
    refine sv n1226.ok rfl (wn _ rfl) rfl (o_add (r := ((i + 1 : Nat) : Int)) e1227 ev_const (by omega) (by omega)) (fun an1228 n1228 => ?_)
    refine sv n1228.ok rfl (wn _ rfl) rfl (o_mv n1228.at_) (fun an1229 n1229 => ?_)
    refine wpList_nil ?_
    have e1230 := n1229.ne rfl (n1228.ne rfl (n1226.ne rfl (n1225.ne rfl (n1223.ne rfl (n1222.ne rfl (n1221.ne rfl (n1216.ne rfl s6I1201)))))))
    have e1231 := n1229.ne rfl (n1228.ne rfl (n1226.ne rfl (n1225.ne rfl (n1223.ne rfl (n1222.ne rfl (n1221.ne rfl (n1216.ne rfl s7I1201)))))))
    have e1232 := n1229.ne rfl (n1228.ne rfl (n1226.ne rfl (n1225.ne rfl (n1223.ne rfl (n1222.ne rfl (n1221.ne rfl (n1216.ne rfl s10I1201)))))))
    have e1233 := n1229.ne rfl (n1228.ne rfl (n1226.ne rfl (n1225.ne rfl (n1223.ne rfl (n1222.ne rfl (n1221.ne rfl (n1216.ne rfl s12I1201)))))))
    have e1234 := n1229.ne rfl (n1228.ne rfl (n1226.ne rfl (n1225.ne rfl (n1223.ne rfl (n1222.ne rfl (n1221.ne rfl (n1216.ne rfl s14I1201)))))))
    have e1235 := n1229.ne rfl (n1228.ne rfl (n1226.ne rfl (n1225.ne rfl (n1223.ne rfl (n1222.ne rfl (n1221.ne rfl (n1216.ne rfl s18I1201)))))))
    have e1236 := n1229.ne rfl (n1228.ne rfl (n1226.ne rfl (n1225.ne rfl (n1223.ne rfl (n1222.ne rfl (n1221.ne rfl (n1216.ne rfl s20I1201)))))))
    have e1237 := n1229.ne rfl (n1228.ne rfl (n1226.ne rfl (n1225.ne rfl (n1223.ne rfl (n1222.ne rfl (n1221.ne rfl (n1216.ne rfl s26I1201)))))))
    have e1238 := n1229.ne rfl (n1228.ne rfl (n1226.ne rfl (n1225.ne rfl (n1223.ne rfl (n1222.ne rfl (n1221.ne rfl (n1216.ne rfl s28I1201)))))))
    have e1239 := n1229.ne rfl (n1228.ne rfl (n1226.ne rfl (n1225.ne rfl (n1223.ne rfl (n1222.ne rfl (n1221.ne rfl (n1216.ne rfl s30I1201)))))))
    have e1240 := n1229.ne rfl (n1228.ne rfl (n1226.ne rfl (n1225.ne rfl (n1223.ne rfl (n1222.ne rfl (n1221.ne rfl (n1216.ne rfl s119I1201)))))))
    have e1241 := n1229.ne rfl (n1228.ne rfl (n1226.ne rfl (n1225.ne rfl (n1223.ne rfl (n1222.ne rfl (n1221.ne rfl (n1216.ne rfl s120I1201)))))))
    exact th_n (hKI1201 _ _ _ (by omega) ⟨i + 1, rfl, n1229.ok, GI1201, e1230, e1231, e1232, e1233, e1234, e1235, e1236, e1237, e1238, e1239, e1240, e1241, n1229.at_, kb39I1201, kb126I1201, kb179I1201, kb240I1201, kb385I1201, kb470I1201, kb772I1201, kb889I1201, kb1014I1201, kb1138I1201, xanch17I1201, xanch26I1201, xanch36I1201, xanch120I1201, xanch173I1201, xanch234I1201, xanch303I1201, xanch379I1201, xanch464I1201, xanch557I1201, xanch658I1201, xanch766I1201, xanch883I1201, xanch1008I1201, by omega⟩)
  · refine wp_cond_false ((n1216.at_).trans (congrArg Value.bool (decide_eq_false c1218))) ?_
    refine wp_exit ?_
    refine th_x ?_
    refine th_x ?_
    refine ib_x ?_
    refine th_n (hK1104 _ _ ?_)
    refine wp_seq_k (fun K1242 hK1242 => ?_)
    refine wp_region_lit ?_
    refine sv n1216.ok rfl (wn _ rfl) rfl (o_ldR (n1216.ne rfl s10I1201) kb126I1201 Try.underlying25 rfl (by kernel_rfl)) (fun an1243 n1243 => ?_)
    refine sv n1243.ok rfl (wn _ rfl) rfl (o_ldR (n1243.ne rfl (n1216.ne rfl s12I1201)) kb179I1201 Try.underlying25 rfl (by kernel_rfl)) (fun an1244 n1244 => ?_)
    refine sc n1244.ok rfl (wn _ rfl) rfl (o_f2 Try.func17 rfl rfl rfl (n1244.ne rfl n1243.at_) n1244.at_) (ssame _ _ _ _ w1214 (hkk1.gr xanch120I1201) (hkk2.gr xanch173I1201) ((Sm.set L1).or (Sm.set L2)) (fun s c _ => by simp only [orD, andD]; cases setD L1 s c <;> cases setD L2 s c <;> cases setD L3 s c <;> rfl)) ?_
    rintro _ w1246 ⟨rfl, g1247⟩
    refine ⟨_, rfl, fun an1245 n1245 => ?_⟩
    have G1248 := GI1201.trans g1247
    have B1249 := kb39I1201.gr g1247
    have B1250 := kb126I1201.gr g1247
    have B1251 := kb179I1201.gr g1247
    have B1252 := kb240I1201.gr g1247
    have B1253 := kb385I1201.gr g1247
    have B1254 := kb470I1201.gr g1247
    have B1255 := kb772I1201.gr g1247
    have B1256 := kb889I1201.gr g1247
    have B1257 := kb1014I1201.gr g1247
    have B1258 := kb1138I1201.gr g1247
    have A1259 := xanch17I1201.trans g1247
    have A1260 := xanch26I1201.trans g1247
    have A1261 := xanch36I1201.trans g1247
    have A1262 := xanch120I1201.trans g1247
    have A1263 := xanch173I1201.trans g1247
    have A1264 := xanch234I1201.trans g1247
    have A1265 := xanch303I1201.trans g1247
    have A1266 := xanch379I1201.trans g1247
    have A1267 := xanch464I1201.trans g1247
    have A1268 := xanch557I1201.trans g1247
    have A1269 := xanch658I1201.trans g1247
    have A1270 := xanch766I1201.trans g1247
    have A1271 := xanch883I1201.trans g1247
    have A1272 := xanch1008I1201.trans g1247
    refine sv n1245.ok rfl (wn _ rfl) rfl (o_mv n1245.at_) (fun an1273 n1273 => ?_)
    have e1274 := n1273.ne rfl (n1245.ne rfl (n1244.ne rfl (n1243.ne rfl (n1216.ne rfl s14I1201))))
    refine sv n1273.ok rfl (wgT rfl (yl 3 true rfl n1273.at_) rfl) rfl (o_ldR e1274 B1252 Try.underlying25 rfl (by kernel_rfl)) (fun an1275 n1275 => ?_)
    have e1276 := n1275.ne rfl (n1273.ne rfl (n1245.ne rfl (n1244.ne rfl (n1243.ne rfl (n1216.ne rfl s18I1201)))))
    refine sv n1275.ok rfl (wgT rfl (yl 3 true rfl (n1275.ne rfl n1273.at_)) rfl) rfl (o_ldR e1276 B1253 Try.underlying25 rfl (by kernel_rfl)) (fun an1277 n1277 => ?_)
    refine sc n1277.ok rfl (wgT rfl (yl 3 true rfl (n1277.ne rfl (n1275.ne rfl n1273.at_))) rfl) rfl (o_f2 Try.func17 rfl rfl rfl (n1277.ne rfl n1275.at_) n1277.at_) (ssame _ _ _ _ w1246 (hkk3.gr A1264) (hkk5.gr A1266) (((Sm.set L1).or (Sm.set L2)).or (Sm.set L3)) (fun s c _ => by simp only [orD, andD]; cases setD L1 s c <;> cases setD L2 s c <;> cases setD L3 s c <;> rfl)) ?_
    rintro _ w1279 ⟨rfl, g1280⟩
    refine ⟨_, rfl, fun an1278 n1278 => ?_⟩
    have G1281 := G1248.trans g1280
    have B1282 := B1249.gr g1280
    have B1283 := B1250.gr g1280
    have B1284 := B1251.gr g1280
    have B1285 := B1252.gr g1280
    have B1286 := B1253.gr g1280
    have B1287 := B1254.gr g1280
    have B1288 := B1255.gr g1280
    have B1289 := B1256.gr g1280
    have B1290 := B1257.gr g1280
    have B1291 := B1258.gr g1280
    have A1292 := A1259.trans g1280
    have A1293 := A1260.trans g1280
    have A1294 := A1261.trans g1280
    have A1295 := A1262.trans g1280
    have A1296 := A1263.trans g1280
    have A1297 := A1264.trans g1280
    have A1298 := A1265.trans g1280
    have A1299 := A1266.trans g1280
    have A1300 := A1267.trans g1280
    have A1301 := A1268.trans g1280
    have A1302 := A1269.trans g1280
    have A1303 := A1270.trans g1280
    have A1304 := A1271.trans g1280
    have A1305 := A1272.trans g1280
    have e1306 := n1278.ne rfl (n1277.ne rfl (n1275.ne rfl n1273.at_))
    refine sv n1278.ok rfl (wn _ rfl) rfl (o_pkT e1306 n1278.at_) (fun an1307 n1307 => ?_)
    refine sv n1307.ok rfl (wn _ rfl) rfl (o_mv n1307.at_) (fun an1308 n1308 => ?_)
    have e1309 := n1308.ne rfl (n1307.ne rfl (n1278.ne rfl (n1277.ne rfl (n1275.ne rfl (n1273.ne rfl (n1245.ne rfl (n1244.ne rfl (n1243.ne rfl (n1216.ne rfl s20I1201)))))))))
    refine sv n1308.ok rfl (wgT rfl (yl 8 true rfl n1308.at_) rfl) rfl (o_ldR e1309 B1287 Try.underlying25 rfl (by kernel_rfl)) (fun an1310 n1310 => ?_)
    have e1311 := n1310.ne rfl (n1308.ne rfl (n1307.ne rfl (n1278.ne rfl (n1277.ne rfl (n1275.ne rfl (n1273.ne rfl (n1245.ne rfl (n1244.ne rfl (n1243.ne rfl (n1216.ne rfl s26I1201))))))))))
    refine sv n1310.ok rfl (wgT rfl (yl 8 true rfl (n1310.ne rfl n1308.at_)) rfl) rfl (o_ldR e1311 B1288 Try.underlying25 rfl (by kernel_rfl)) (fun an1312 n1312 => ?_)
    refine sc n1312.ok rfl (wgT rfl (yl 8 true rfl (n1312.ne rfl (n1310.ne rfl n1308.at_))) rfl) rfl (o_f2 Try.func17 rfl rfl rfl (n1312.ne rfl n1310.at_) n1312.at_) (ssame _ _ _ _ w1279 (hkk6.gr A1300) (hkk9.gr A1303) (Sm.and (Sm.set L1)) (fun s c _ => by simp only [orD, andD]; cases setD L1 s c <;> cases setD L2 s c <;> cases setD L3 s c <;> rfl)) ?_
    rintro _ w1314 ⟨rfl, g1315⟩
    refine ⟨_, rfl, fun an1313 n1313 => ?_⟩
    have G1316 := G1281.trans g1315
    have B1317 := B1282.gr g1315
    have B1318 := B1283.gr g1315
    have B1319 := B1284.gr g1315
    have B1320 := B1285.gr g1315
    have B1321 := B1286.gr g1315
    have B1322 := B1287.gr g1315
    have B1323 := B1288.gr g1315
    have B1324 := B1289.gr g1315
    have B1325 := B1290.gr g1315
    have B1326 := B1291.gr g1315
    have A1327 := A1292.trans g1315
    have A1328 := A1293.trans g1315
    have A1329 := A1294.trans g1315
    have A1330 := A1295.trans g1315
    have A1331 := A1296.trans g1315
    have A1332 := A1297.trans g1315
    have A1333 := A1298.trans g1315
    have A1334 := A1299.trans g1315
    have A1335 := A1300.trans g1315
    have A1336 := A1301.trans g1315
    have A1337 := A1302.trans g1315
    have A1338 := A1303.trans g1315
    have A1339 := A1304.trans g1315
    have A1340 := A1305.trans g1315
    have e1341 := n1313.ne rfl (n1312.ne rfl (n1310.ne rfl n1308.at_))
    refine sv n1313.ok rfl (wn _ rfl) rfl (o_pkT e1341 n1313.at_) (fun an1342 n1342 => ?_)
    refine sv n1342.ok rfl (wn _ rfl) rfl (o_mv n1342.at_) (fun an1343 n1343 => ?_)
    have e1344 := n1343.ne rfl (n1342.ne rfl (n1313.ne rfl (n1312.ne rfl (n1310.ne rfl (n1308.ne rfl (n1307.ne rfl (n1278.ne rfl (n1277.ne rfl (n1275.ne rfl (n1273.ne rfl (n1245.ne rfl (n1244.ne rfl (n1243.ne rfl (n1216.ne rfl s28I1201))))))))))))))
    refine sv n1343.ok rfl (wgT rfl (yl 13 true rfl n1343.at_) rfl) rfl (o_ldR e1344 B1324 Try.underlying25 rfl (by kernel_rfl)) (fun an1345 n1345 => ?_)
    have e1346 := n1345.ne rfl (n1343.ne rfl (n1342.ne rfl (n1313.ne rfl (n1312.ne rfl (n1310.ne rfl (n1308.ne rfl (n1307.ne rfl (n1278.ne rfl (n1277.ne rfl (n1275.ne rfl (n1273.ne rfl (n1245.ne rfl (n1244.ne rfl (n1243.ne rfl (n1216.ne rfl s7I1201)))))))))))))))
    refine sv n1345.ok rfl (wgT rfl (yl 13 true rfl (n1345.ne rfl n1343.at_)) rfl) rfl (o_ldR e1346 B1317 Try.underlying25 rfl (by kernel_rfl)) (fun an1347 n1347 => ?_)
    refine sc n1347.ok rfl (wgT rfl (yl 13 true rfl (n1347.ne rfl (n1345.ne rfl n1343.at_))) rfl) rfl (o_f2 Try.func17 rfl rfl rfl (n1347.ne rfl n1345.at_) n1347.at_) (ssame _ _ _ _ w1314 (hkk10.gr A1339) (hkq1.gr A1327) ((Sm.set L1).or (Sm.and (Sm.set L1))) (fun s c _ => by simp only [orD, andD]; cases setD L1 s c <;> cases setD L2 s c <;> cases setD L3 s c <;> rfl)) ?_
    rintro _ w1349 ⟨rfl, g1350⟩
    refine ⟨_, rfl, fun an1348 n1348 => ?_⟩
    have G1351 := G1316.trans g1350
    have B1352 := B1317.gr g1350
    have B1353 := B1318.gr g1350
    have B1354 := B1319.gr g1350
    have B1355 := B1320.gr g1350
    have B1356 := B1321.gr g1350
    have B1357 := B1322.gr g1350
    have B1358 := B1323.gr g1350
    have B1359 := B1324.gr g1350
    have B1360 := B1325.gr g1350
    have B1361 := B1326.gr g1350
    have A1362 := A1327.trans g1350
    have A1363 := A1328.trans g1350
    have A1364 := A1329.trans g1350
    have A1365 := A1330.trans g1350
    have A1366 := A1331.trans g1350
    have A1367 := A1332.trans g1350
    have A1368 := A1333.trans g1350
    have A1369 := A1334.trans g1350
    have A1370 := A1335.trans g1350
    have A1371 := A1336.trans g1350
    have A1372 := A1337.trans g1350
    have A1373 := A1338.trans g1350
    have A1374 := A1339.trans g1350
    have A1375 := A1340.trans g1350
    have e1376 := n1348.ne rfl (n1347.ne rfl (n1345.ne rfl n1343.at_))
    refine sv n1348.ok rfl (wn _ rfl) rfl (o_pkT e1376 n1348.at_) (fun an1377 n1377 => ?_)
    refine sv n1377.ok rfl (wn _ rfl) rfl (o_mv n1377.at_) (fun an1378 n1378 => ?_)
    have e1379 := n1378.ne rfl (n1377.ne rfl (n1348.ne rfl (n1347.ne rfl (n1345.ne rfl (n1343.ne rfl (n1342.ne rfl (n1313.ne rfl (n1312.ne rfl (n1310.ne rfl (n1308.ne rfl (n1307.ne rfl (n1278.ne rfl (n1277.ne rfl (n1275.ne rfl (n1273.ne rfl (n1245.ne rfl (n1244.ne rfl (n1243.ne rfl (n1216.ne rfl s30I1201)))))))))))))))))))
    refine sv n1378.ok rfl (wgT rfl (yl 18 true rfl n1378.at_) rfl) rfl (o_ldR e1379 B1360 Try.underlying25 rfl (by kernel_rfl)) (fun an1380 n1380 => ?_)
    have e1381 := n1380.ne rfl (n1378.ne rfl (n1377.ne rfl (n1348.ne rfl (n1347.ne rfl e1346))))
    refine sv n1380.ok rfl (wgT rfl (yl 18 true rfl (n1380.ne rfl n1378.at_)) rfl) rfl (o_ldR e1381 B1352 Try.underlying25 rfl (by kernel_rfl)) (fun an1382 n1382 => ?_)
    refine sc n1382.ok rfl (wgT rfl (yl 18 true rfl (n1382.ne rfl (n1380.ne rfl n1378.at_))) rfl) rfl (o_f2 Try.func17 rfl rfl rfl (n1382.ne rfl n1380.at_) n1382.at_) (ssame _ _ _ _ w1349 (hkk11.gr A1375) (hkq1.gr A1362) (Sm.and (Sm.set L1)) (fun s c _ => by simp only [orD, andD]; cases setD L1 s c <;> cases setD L2 s c <;> cases setD L3 s c <;> rfl)) ?_
    rintro _ w1384 ⟨rfl, g1385⟩
    refine ⟨_, rfl, fun an1383 n1383 => ?_⟩
    have G1386 := G1351.trans g1385
    have B1387 := B1352.gr g1385
    have B1388 := B1353.gr g1385
    have B1389 := B1354.gr g1385
    have B1390 := B1355.gr g1385
    have B1391 := B1356.gr g1385
    have B1392 := B1357.gr g1385
    have B1393 := B1358.gr g1385
    have B1394 := B1359.gr g1385
    have B1395 := B1360.gr g1385
    have B1396 := B1361.gr g1385
    have A1397 := A1362.trans g1385
    have A1398 := A1363.trans g1385
    have A1399 := A1364.trans g1385
    have A1400 := A1365.trans g1385
    have A1401 := A1366.trans g1385
    have A1402 := A1367.trans g1385
    have A1403 := A1368.trans g1385
    have A1404 := A1369.trans g1385
    have A1405 := A1370.trans g1385
    have A1406 := A1371.trans g1385
    have A1407 := A1372.trans g1385
    have A1408 := A1373.trans g1385
    have A1409 := A1374.trans g1385
    have A1410 := A1375.trans g1385
    have e1411 := n1383.ne rfl (n1382.ne rfl (n1380.ne rfl n1378.at_))
    refine sv n1383.ok rfl (wn _ rfl) rfl (o_pkT e1411 n1383.at_) (fun an1412 n1412 => ?_)
    refine sv n1412.ok rfl (wn _ rfl) rfl (o_as n1412.at_) (fun an1413 n1413 => ?_)
    refine wpList_nil ?_
    refine th_n (hK1242 _ _ ?_)
    refine wp_ret ?_
    exact ret1 n1413.ok rfl (n1413.at_) ⟨rfl, G1386⟩
end Go.Proofs.Ytgmoedjdfjloiaa
