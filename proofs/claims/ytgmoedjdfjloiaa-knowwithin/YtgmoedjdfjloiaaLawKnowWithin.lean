/- The walk of KnowWithin. -/
import Derived.Test.YtgmoedjdfjloiaaKmG
set_option linter.unusedVariables false
set_option linter.unusedSimpArgs false
namespace Go.Proofs.Ytgmoedjdfjloiaa
open Go.RowKit Rm Gx
set_option maxHeartbeats 8000000 in
set_option maxRecDepth 100000 in
theorem knowWithin_w (v1 v2 v3 : Value) (L1 L2 L3 : List (List Int)) (x y : Int) (p q r t : Bool) (hp : wS (setD L1) (setD L3) = p) (hq : wS (setD L2) (setD L3) = q) (hr : wS (setD L1) (setD L2) = r) (ht : wS (setD L2) (setD L1) = t) (w : World) (h1 : RdLL w v1 L1) (h2 : RdLL w v2 L2) (h3 : RdLL w v3 L3) :
    Calls Try.prog 7 #[v1, v2, v3, .agg #[.int .i64 (x), .int .i64 (y)]] w fun e w' => e = .returned (.bool true) ∧ Gr w w' := by
  refine enter (N := 161) Try.func7 rfl rfl rfl (fun a0 ok0 h0 => ?_)
  have e0_0 : a0.eval (.tmp 0) = v1 := h0 0 _ rfl
  have e0_1 : a0.eval (.tmp 1) = v2 := h0 1 _ rfl
  have e0_2 : a0.eval (.tmp 2) = v3 := h0 2 _ rfl
  have e0_3 : a0.eval (.tmp 3) = .agg #[.int .i64 (x), .int .i64 (y)] := h0 3 _ rfl
  clear h0
  have G0 := Gr.refl w
  have ok1 : OkV [3] [] := ⟨by simp, by simp, by simp, by simp, by simp⟩
  have ok2 : OkV [] [(0, 2)] := ⟨by simp, by simp, by simp, by simp [cv], by simp⟩
  refine wp_seq_k (fun K1 hK1 => ?_)
  refine wp_region_lit ?_
  refine sal (cs := #[.int .i64 (x), .int .i64 (y)]) ok0 rfl (wn _ rfl) rfl (o_box e0_3) (fun an2 w4 b3 W5 n2 => ?_)
  have l6 : w.heap.size ≤ b3 := by rw [W5.eq]; exact G0.size
  have G7 := G0.trans W5.gr
  refine sv n2.ok rfl (wn _ rfl) rfl (o_as ev_const) (fun an8 n8 => ?_)
  refine wpList_nil ?_
  refine th_n (hK1 _ _ ?_)
  refine wp_seq_k (fun K9 hK9 => ?_)
  refine wp_seq_k (fun K10 hK10 => ?_)
  refine wp_region_lit ?_
  refine sv n8.ok rfl (wn _ rfl) rfl (o_bd (cells := #[.int .i64 0, .int .i64 2]) (vs := [(1, .int .i64 2)]) (by simp [ev_const]) (by kernel_rfl)) (fun an11 n11 => ?_)
  obtain ⟨i12, i12a, i12b, i12c⟩ := info3_of (show (Try.prog.info? 27).map (fun i => (i.zero, i.size)) = some (some (.agg #[.int .i64 0, .int .i64 0]), 2) by kernel_rfl)
  refine sals (cs := #[.int .i64 0, .int .i64 2]) n11.ok rfl (wn _ rfl) rfl (o_bs (vs := [(0, .agg #[.int .i64 0, .int .i64 2])]) (by simp [n11.at_, ev_const]) Try.underlying23 i12a i12b (by rw [i12c]; rfl) (by rw [i12c]; rfl) (by rw [i12c]; kernel_rfl)) (fun an13 w15 b14 W16 n13 => ?_)
  have l17 : b3 < b14 := by rw [W16.eq]; exact W5.bk.lt
  have l18 : w.heap.size ≤ b14 := by rw [W16.eq]; exact G7.size
  have G19 := G7.trans W16.gr
  have B20 := W5.bk.gr W16.gr
  refine sv n13.ok rfl (wn _ rfl) rfl (o_bd (cells := #[.slice none 0 0, .slice (some ⟨b14, 0, none⟩) 1 1]) (vs := [(1, .slice (some ⟨b14, 0, none⟩) 1 1)]) (by simp [n13.at_, ev_const]) (by kernel_rfl)) (fun an21 n21 => ?_)
  obtain ⟨i22, i22a, i22b, i22c⟩ := info3_of (show (Try.prog.info? 3).map (fun i => (i.zero, i.size)) = some (some (.int .i64 0), 1) by kernel_rfl)
  refine sals (cs := #[.int .i64 3]) n21.ok rfl (wn _ rfl) rfl (o_bs (vs := [(0, .int .i64 3)]) (by simp [ev_const]) Try.underlying22 i22a i22b (by rw [i22c]; rfl) (by rw [i22c]; rfl) (by rw [i22c]; kernel_rfl)) (fun an23 w25 b24 W26 n23 => ?_)
  have l27 : b3 < b24 := by rw [W26.eq]; exact B20.lt
  have l28 : b14 < b24 := by rw [W26.eq]; exact W16.bk.lt
  have l29 : w.heap.size ≤ b24 := by rw [W26.eq]; exact G19.size
  have G30 := G19.trans W26.gr
  have B31 := B20.gr W26.gr
  have B32 := W16.bk.gr W26.gr
  refine sv n23.ok rfl (wn _ rfl) rfl (o_bd (cells := #[.slice (some ⟨b24, 0, none⟩) 1 1, .slice none 0 0]) (vs := [(0, .slice (some ⟨b24, 0, none⟩) 1 1)]) (by simp [n23.at_, ev_const]) (by kernel_rfl)) (fun an33 n33 => ?_)
  refine sc n33.ok rfl (wn _ rfl) rfl (o_f2 Try.func25 rfl rfl rfl (n33.ne rfl (n23.ne rfl n21.at_)) n33.at_) (by have h := (within_ok _ _ [] [3] [(0, 2)] [] w25 (knR_more1 B32) (knR_vec1 W26.bk) ok2 ok1 (by simp) (by simp)); rw [show withB [] [3] [(0, 2)] [] = true by decide] at h; exact h) ?_
  rintro _ w35 ⟨rfl, g36⟩
  refine ⟨_, rfl, fun an34 n34 => ?_⟩
  have G37 := G30.trans g36
  have B38 := B31.gr g36
  have B39 := B32.gr g36
  have B40 := W26.bk.gr g36
  refine sv n34.ok rfl (wn _ rfl) rfl (o_mv n34.at_) (fun an41 n41 => ?_)
  refine sv n41.ok rfl (wn _ rfl) rfl (o_ex n41.at_ rfl) (fun an42 n42 => ?_)
  refine sv n42.ok rfl (wn _ rfl) rfl (o_ex (n42.ne rfl n41.at_) rfl) (fun an43 n43 => ?_)
  refine sv n43.ok rfl (wn _ rfl) rfl (o_as (n43.ne rfl n42.at_)) (fun an44 n44 => ?_)
  refine sv n44.ok rfl (wn _ rfl) rfl (o_as (n44.ne rfl n43.at_)) (fun an45 n45 => ?_)
  refine wpList_nil ?_
  refine th_n (hK10 _ _ ?_)
  refine wp_seq_k (fun K46 hK46 => ?_)
  refine wp_region_lit ?_
  refine sv n45.ok rfl (wn _ rfl) rfl (o_mv n45.at_) (fun an47 n47 => ?_)
  refine sv n47.ok rfl (wn _ rfl) rfl (o_neq (b := false) n47.at_ ev_const (by decide)) (fun an48 n48 => ?_)
  refine sv n48.ok rfl (wn _ rfl) rfl (o_mv n48.at_) (fun an49 n49 => ?_)
  have e50 := n49.ne rfl (n48.ne rfl (n47.ne rfl (n45.ne rfl n44.at_)))
  refine sv n49.ok rfl (wgT rfl (yl 2 false rfl n49.at_) rfl) rfl (o_mv e50) (fun an51 n51 => ?_)
  refine sv n51.ok rfl (wgT rfl (yl 2 false rfl (n51.ne rfl n49.at_)) rfl) rfl (o_not n51.at_ rfl) (fun an52 n52 => ?_)
  refine sv n52.ok rfl (wn _ rfl) rfl (o_pkF (n52.ne rfl (n51.ne rfl n49.at_)) n52.at_) (fun an53 n53 => ?_)
  refine wpList_nil ?_
  refine th_n (hK46 _ _ ?_)
  refine wp_cond_false (n53.at_) ?_
  refine wp_skip ?_
  refine th_n (hK9 _ _ ?_)
  refine wp_seq_k (fun K54 hK54 => ?_)
  refine wp_region_lit ?_
  have e55 := n53.ne rfl (n52.ne rfl (n51.ne rfl (n49.ne rfl (n48.ne rfl (n47.ne rfl (n45.ne rfl (n44.ne rfl (n43.ne rfl (n42.ne rfl (n41.ne rfl (n34.ne rfl (n33.ne rfl (n23.ne rfl (n21.ne rfl (n13.ne rfl (n11.ne rfl (n8.ne rfl (n2.ne rfl e0_0))))))))))))))))))
  refine sv n53.ok rfl (wn _ rfl) rfl (o_mv e55) (fun an56 n56 => ?_)
  refine sc n56.ok rfl (wn _ rfl) rfl (o_f1 Try.func29 rfl rfl rfl n56.at_) (setK v1 L1 w35 (h1.gr G37)) ?_
  rintro _ w58 ⟨kq1, rfl, hkq1, g59⟩
  obtain ⟨vaq1, vcq1, maq1, mcq1, rfl⟩ := hkq1.form
  refine ⟨_, rfl, fun an57 n57 => ?_⟩
  have G60 := G37.trans g59
  have B61 := B38.gr g59
  have B62 := B39.gr g59
  have B63 := B40.gr g59
  have A65 := Gr.refl w58
  have e66 := n57.ne rfl (n56.ne rfl (n53.ne rfl (n52.ne rfl (n51.ne rfl (n49.ne rfl (n48.ne rfl (n47.ne rfl (n45.ne rfl (n44.ne rfl (n43.ne rfl (n42.ne rfl (n41.ne rfl (n34.ne rfl (n33.ne rfl (n23.ne rfl (n21.ne rfl (n13.ne rfl (n11.ne rfl (n8.ne rfl (n2.ne rfl e0_1))))))))))))))))))))
  refine sv n57.ok rfl (wn _ rfl) rfl (o_mv e66) (fun an67 n67 => ?_)
  refine sc n67.ok rfl (wn _ rfl) rfl (o_f1 Try.func29 rfl rfl rfl n67.at_) (setK v2 L2 w58 (h2.gr G60)) ?_
  rintro _ w69 ⟨kq2, rfl, hkq2, g70⟩
  obtain ⟨vaq2, vcq2, maq2, mcq2, rfl⟩ := hkq2.form
  refine ⟨_, rfl, fun an68 n68 => ?_⟩
  have G71 := G60.trans g70
  have B72 := B61.gr g70
  have B73 := B62.gr g70
  have B74 := B63.gr g70
  have A75 := A65.trans g70
  have A77 := Gr.refl w69
  have e78 := n68.ne rfl (n67.ne rfl (n57.ne rfl (n56.ne rfl (n53.ne rfl (n52.ne rfl (n51.ne rfl (n49.ne rfl (n48.ne rfl (n47.ne rfl (n45.ne rfl (n44.ne rfl (n43.ne rfl (n42.ne rfl (n41.ne rfl (n34.ne rfl (n33.ne rfl (n23.ne rfl (n21.ne rfl (n13.ne rfl (n11.ne rfl (n8.ne rfl (n2.ne rfl e0_2))))))))))))))))))))))
  refine sv n68.ok rfl (wn _ rfl) rfl (o_mv e78) (fun an79 n79 => ?_)
  refine sc n79.ok rfl (wn _ rfl) rfl (o_f1 Try.func29 rfl rfl rfl n79.at_) (setK v3 L3 w69 (h3.gr G71)) ?_
  rintro _ w81 ⟨kq3, rfl, hkq3, g82⟩
  obtain ⟨vaq3, vcq3, maq3, mcq3, rfl⟩ := hkq3.form
  refine ⟨_, rfl, fun an80 n80 => ?_⟩
  have G83 := G71.trans g82
  have B84 := B72.gr g82
  have B85 := B73.gr g82
  have B86 := B74.gr g82
  have A87 := A75.trans g82
  have A88 := A77.trans g82
  have A90 := Gr.refl w81
  refine sal (cs := #[.slice none 0 0, .slice none 0 0]) n80.ok rfl (wn _ rfl) rfl (o_al (z := .agg #[.slice none 0 0, .slice none 0 0]) (by kernel_rfl)) (fun an91 w93 b92 W94 n91 => ?_)
  have l95 : b3 < b92 := by rw [W94.eq]; exact B84.lt
  have l96 : b14 < b92 := by rw [W94.eq]; exact B85.lt
  have l97 : b24 < b92 := by rw [W94.eq]; exact B86.lt
  have l98 : w.heap.size ≤ b92 := by rw [W94.eq]; exact G83.size
  have l99 : w58.heap.size ≤ b92 := by rw [W94.eq]; exact A87.size
  have l100 : w69.heap.size ≤ b92 := by rw [W94.eq]; exact A88.size
  have l101 : w81.heap.size ≤ b92 := by rw [W94.eq]; exact A90.size
  have G102 := G83.trans W94.gr
  have B103 := B84.gr W94.gr
  have B104 := B85.gr W94.gr
  have B105 := B86.gr W94.gr
  have A106 := A87.trans W94.gr
  have A107 := A88.trans W94.gr
  have A108 := A90.trans W94.gr
  refine sal (cs := #[.slice none 0 0, .slice none 0 0]) n91.ok rfl (wn _ rfl) rfl (o_al (z := .agg #[.slice none 0 0, .slice none 0 0]) (by kernel_rfl)) (fun an109 w111 b110 W112 n109 => ?_)
  have l113 : b3 < b110 := by rw [W112.eq]; exact B103.lt
  have l114 : b14 < b110 := by rw [W112.eq]; exact B104.lt
  have l115 : b24 < b110 := by rw [W112.eq]; exact B105.lt
  have l116 : b92 < b110 := by rw [W112.eq]; exact W94.bk.lt
  have l117 : w.heap.size ≤ b110 := by rw [W112.eq]; exact G102.size
  have l118 : w58.heap.size ≤ b110 := by rw [W112.eq]; exact A106.size
  have l119 : w69.heap.size ≤ b110 := by rw [W112.eq]; exact A107.size
  have l120 : w81.heap.size ≤ b110 := by rw [W112.eq]; exact A108.size
  have G121 := G102.trans W112.gr
  have B122 := B103.gr W112.gr
  have B123 := B104.gr W112.gr
  have B124 := B105.gr W112.gr
  have B125 := W94.bk.gr W112.gr
  have A126 := A106.trans W112.gr
  have A127 := A107.trans W112.gr
  have A128 := A108.trans W112.gr
  refine sal (cs := #[.slice none 0 0, .slice none 0 0]) n109.ok rfl (wn _ rfl) rfl (o_al (z := .agg #[.slice none 0 0, .slice none 0 0]) (by kernel_rfl)) (fun an129 w131 b130 W132 n129 => ?_)
  have l133 : b3 < b130 := by rw [W132.eq]; exact B122.lt
  have l134 : b14 < b130 := by rw [W132.eq]; exact B123.lt
  have l135 : b24 < b130 := by rw [W132.eq]; exact B124.lt
  have l136 : b92 < b130 := by rw [W132.eq]; exact B125.lt
  have l137 : b110 < b130 := by rw [W132.eq]; exact W112.bk.lt
  have l138 : w.heap.size ≤ b130 := by rw [W132.eq]; exact G121.size
  have l139 : w58.heap.size ≤ b130 := by rw [W132.eq]; exact A126.size
  have l140 : w69.heap.size ≤ b130 := by rw [W132.eq]; exact A127.size
  have l141 : w81.heap.size ≤ b130 := by rw [W132.eq]; exact A128.size
  have G142 := G121.trans W132.gr
  have B143 := B122.gr W132.gr
  have B144 := B123.gr W132.gr
  have B145 := B124.gr W132.gr
  have B146 := B125.gr W132.gr
  have B147 := W112.bk.gr W132.gr
  have A148 := A126.trans W132.gr
  have A149 := A127.trans W132.gr
  have A150 := A128.trans W132.gr
  have e151 := n129.ne rfl (n109.ne rfl (n91.ne rfl (n80.ne rfl (n79.ne rfl (n68.ne rfl (n67.ne rfl n57.at_))))))
  refine ssR rfl (wn _ rfl) (o_stR (n129.ne rfl (n109.ne rfl n91.at_)) e151 B146 (by kernel_rfl) rfl (by simp [Value.oneCell'])) B146 (fun w152 u153 u153b => ?_)
  have G154 : Gr w w152 := Below.upd G142 l98 u153
  have B155 := B143.upd u153 (Nat.ne_of_lt l95)
  have B156 := B144.upd u153 (Nat.ne_of_lt l96)
  have B157 := B145.upd u153 (Nat.ne_of_lt l97)
  have B158 := B147.upd u153 (Nat.ne_of_gt l116)
  have B159 := W132.bk.upd u153 (Nat.ne_of_gt l136)
  have A160 : Gr w58 w152 := Below.upd A148 l99 u153
  have A161 : Gr w69 w152 := Below.upd A149 l100 u153
  have A162 : Gr w81 w152 := Below.upd A150 l101 u153
  have e163 := n129.ne rfl (n109.ne rfl (n91.ne rfl (n80.ne rfl (n79.ne rfl n68.at_))))
  refine ssR rfl (wn _ rfl) (o_stR (n129.ne rfl n109.at_) e163 B158 (by kernel_rfl) rfl (by simp [Value.oneCell'])) B158 (fun w164 u165 u165b => ?_)
  have G166 : Gr w w164 := Below.upd G154 l117 u165
  have B167 := B155.upd u165 (Nat.ne_of_lt l113)
  have B168 := B156.upd u165 (Nat.ne_of_lt l114)
  have B169 := B157.upd u165 (Nat.ne_of_lt l115)
  have B170 := u153b.upd u165 (Nat.ne_of_lt l116)
  have B171 := B159.upd u165 (Nat.ne_of_gt l137)
  have A172 : Gr w58 w164 := Below.upd A160 l118 u165
  have A173 : Gr w69 w164 := Below.upd A161 l119 u165
  have A174 : Gr w81 w164 := Below.upd A162 l120 u165
  have e175 := n129.ne rfl (n109.ne rfl (n91.ne rfl n80.at_))
  refine ssR rfl (wn _ rfl) (o_stR n129.at_ e175 B171 (by kernel_rfl) rfl (by simp [Value.oneCell'])) B171 (fun w176 u177 u177b => ?_)
  have G178 : Gr w w176 := Below.upd G166 l138 u177
  have B179 := B167.upd u177 (Nat.ne_of_lt l133)
  have B180 := B168.upd u177 (Nat.ne_of_lt l134)
  have B181 := B169.upd u177 (Nat.ne_of_lt l135)
  have B182 := B170.upd u177 (Nat.ne_of_lt l136)
  have B183 := u165b.upd u177 (Nat.ne_of_lt l137)
  have A184 : Gr w58 w176 := Below.upd A172 l139 u177
  have A185 : Gr w69 w176 := Below.upd A173 l140 u177
  have A186 : Gr w81 w176 := Below.upd A174 l141 u177
  refine wpList_nil ?_
  refine th_n (hK54 _ _ ?_)
  refine wp_seq_k (fun K187 hK187 => ?_)
  refine wp_region_lit ?_
  refine sv n129.ok rfl (wn _ rfl) rfl (o_ldR (n129.ne rfl (n109.ne rfl n91.at_)) B182 Try.underlying25 rfl (by kernel_rfl)) (fun an188 n188 => ?_)
  refine sv n188.ok rfl (wn _ rfl) rfl (o_ldR (n188.ne rfl (n129.ne rfl n109.at_)) B183 Try.underlying25 rfl (by kernel_rfl)) (fun an189 n189 => ?_)
  refine sc n189.ok rfl (wn _ rfl) rfl (o_f2 Try.func23 rfl rfl rfl (n189.ne rfl n188.at_) n189.at_) (sjoin _ _ _ _ w176 (hkq1.gr A184) (hkq2.gr A185) (Sm.set L1) (Sm.set L2)) ?_
  rintro _ w191 ⟨kk1, rfl, hkk1, g192⟩
  obtain ⟨vak1, vck1, mak1, mck1, rfl⟩ := hkk1.form
  refine ⟨_, rfl, fun an190 n190 => ?_⟩
  have G193 := G178.trans g192
  have B194 := B179.gr g192
  have B195 := B180.gr g192
  have B196 := B181.gr g192
  have B197 := B182.gr g192
  have B198 := B183.gr g192
  have B199 := u177b.gr g192
  have A200 := A184.trans g192
  have A201 := A185.trans g192
  have A202 := A186.trans g192
  have A204 := Gr.refl w191
  refine sv n190.ok rfl (wn _ rfl) rfl (o_mv n190.at_) (fun an205 n205 => ?_)
  refine sv n205.ok rfl (wn _ rfl) rfl (o_ex n205.at_ rfl) (fun an206 n206 => ?_)
  refine sv n206.ok rfl (wn _ rfl) rfl (o_ex (n206.ne rfl n205.at_) rfl) (fun an207 n207 => ?_)
  refine sal (cs := #[.slice none 0 0, .slice none 0 0]) n207.ok rfl (wn _ rfl) rfl (o_al (z := .agg #[.slice none 0 0, .slice none 0 0]) (by kernel_rfl)) (fun an208 w210 b209 W211 n208 => ?_)
  have l212 : b3 < b209 := by rw [W211.eq]; exact B194.lt
  have l213 : b14 < b209 := by rw [W211.eq]; exact B195.lt
  have l214 : b24 < b209 := by rw [W211.eq]; exact B196.lt
  have l215 : b92 < b209 := by rw [W211.eq]; exact B197.lt
  have l216 : b110 < b209 := by rw [W211.eq]; exact B198.lt
  have l217 : b130 < b209 := by rw [W211.eq]; exact B199.lt
  have l218 : w.heap.size ≤ b209 := by rw [W211.eq]; exact G193.size
  have l219 : w58.heap.size ≤ b209 := by rw [W211.eq]; exact A200.size
  have l220 : w69.heap.size ≤ b209 := by rw [W211.eq]; exact A201.size
  have l221 : w81.heap.size ≤ b209 := by rw [W211.eq]; exact A202.size
  have l222 : w191.heap.size ≤ b209 := by rw [W211.eq]; exact A204.size
  have G223 := G193.trans W211.gr
  have B224 := B194.gr W211.gr
  have B225 := B195.gr W211.gr
  have B226 := B196.gr W211.gr
  have B227 := B197.gr W211.gr
  have B228 := B198.gr W211.gr
  have B229 := B199.gr W211.gr
  have A230 := A200.trans W211.gr
  have A231 := A201.trans W211.gr
  have A232 := A202.trans W211.gr
  have A233 := A204.trans W211.gr
  refine ssR rfl (wn _ rfl) (o_stR n208.at_ (n208.ne rfl (n207.ne rfl n206.at_)) W211.bk (by kernel_rfl) rfl (by simp [Value.oneCell'])) W211.bk (fun w234 u235 u235b => ?_)
  have G236 : Gr w w234 := Below.upd G223 l218 u235
  have B237 := B224.upd u235 (Nat.ne_of_lt l212)
  have B238 := B225.upd u235 (Nat.ne_of_lt l213)
  have B239 := B226.upd u235 (Nat.ne_of_lt l214)
  have B240 := B227.upd u235 (Nat.ne_of_lt l215)
  have B241 := B228.upd u235 (Nat.ne_of_lt l216)
  have B242 := B229.upd u235 (Nat.ne_of_lt l217)
  have A243 : Gr w58 w234 := Below.upd A230 l219 u235
  have A244 : Gr w69 w234 := Below.upd A231 l220 u235
  have A245 : Gr w81 w234 := Below.upd A232 l221 u235
  have A246 : Gr w191 w234 := Below.upd A233 l222 u235
  refine sv n208.ok rfl (wn _ rfl) rfl (o_as (n208.ne rfl n207.at_)) (fun an247 n247 => ?_)
  refine wpList_nil ?_
  refine th_n (hK187 _ _ ?_)
  refine wp_seq_k (fun K248 hK248 => ?_)
  refine wp_region_lit ?_
  have e249 := n247.ne rfl (n208.ne rfl (n207.ne rfl (n206.ne rfl (n205.ne rfl (n190.ne rfl (n189.ne rfl (n188.ne rfl (n129.ne rfl (n109.ne rfl n91.at_)))))))))
  refine sv n247.ok rfl (wn _ rfl) rfl (o_ldR e249 B240 Try.underlying25 rfl (by kernel_rfl)) (fun an250 n250 => ?_)
  have e251 := n250.ne rfl (n247.ne rfl (n208.ne rfl (n207.ne rfl (n206.ne rfl (n205.ne rfl (n190.ne rfl (n189.ne rfl (n188.ne rfl n129.at_))))))))
  refine sv n250.ok rfl (wn _ rfl) rfl (o_ldR e251 B242 Try.underlying25 rfl (by kernel_rfl)) (fun an252 n252 => ?_)
  refine sc n252.ok rfl (wn _ rfl) rfl (o_f2 Try.func25 rfl rfl rfl (n252.ne rfl n250.at_) n252.at_) (swithin _ _ _ _ w234 (hkq1.gr A243) (hkq3.gr A245) (Sm.set L1) (Sm.set L3) hp) ?_
  rintro _ w254 ⟨rfl, g255⟩
  refine ⟨_, rfl, fun an253 n253 => ?_⟩
  have G256 := G236.trans g255
  have B257 := B237.gr g255
  have B258 := B238.gr g255
  have B259 := B239.gr g255
  have B260 := B240.gr g255
  have B261 := B241.gr g255
  have B262 := B242.gr g255
  have B263 := u235b.gr g255
  have A264 := A243.trans g255
  have A265 := A244.trans g255
  have A266 := A245.trans g255
  have A267 := A246.trans g255
  refine sv n253.ok rfl (wn _ rfl) rfl (o_mv n253.at_) (fun an268 n268 => ?_)
  refine sv n268.ok rfl (wn _ rfl) rfl (o_ex n268.at_ rfl) (fun an269 n269 => ?_)
  refine sv n269.ok rfl (wn _ rfl) rfl (o_ex (n269.ne rfl n268.at_) rfl) (fun an270 n270 => ?_)
  refine sv n270.ok rfl (wn _ rfl) rfl (o_as (n270.ne rfl n269.at_)) (fun an271 n271 => ?_)
  refine sv n271.ok rfl (wn _ rfl) rfl (o_as (n271.ne rfl n270.at_)) (fun an272 n272 => ?_)
  refine wpList_nil ?_
  refine th_n (hK248 _ _ ?_)
  refine wp_seq_k (fun K273 hK273 => ?_)
  refine wp_region_lit ?_
  have e274 := n272.ne rfl (n271.ne rfl (n270.ne rfl (n269.ne rfl (n268.ne rfl (n253.ne rfl (n252.ne rfl (n250.ne rfl (n247.ne rfl (n208.ne rfl (n207.ne rfl (n206.ne rfl (n205.ne rfl (n190.ne rfl (n189.ne rfl (n188.ne rfl (n129.ne rfl n109.at_))))))))))))))))
  refine sv n272.ok rfl (wn _ rfl) rfl (o_ldR e274 B261 Try.underlying25 rfl (by kernel_rfl)) (fun an275 n275 => ?_)
  have e276 := n275.ne rfl (n272.ne rfl (n271.ne rfl (n270.ne rfl (n269.ne rfl (n268.ne rfl (n253.ne rfl (n252.ne rfl e251)))))))
  refine sv n275.ok rfl (wn _ rfl) rfl (o_ldR e276 B262 Try.underlying25 rfl (by kernel_rfl)) (fun an277 n277 => ?_)
  refine sc n277.ok rfl (wn _ rfl) rfl (o_f2 Try.func25 rfl rfl rfl (n277.ne rfl n275.at_) n277.at_) (swithin _ _ _ _ w254 (hkq2.gr A265) (hkq3.gr A266) (Sm.set L2) (Sm.set L3) hq) ?_
  rintro _ w279 ⟨rfl, g280⟩
  refine ⟨_, rfl, fun an278 n278 => ?_⟩
  have G281 := G256.trans g280
  have B282 := B257.gr g280
  have B283 := B258.gr g280
  have B284 := B259.gr g280
  have B285 := B260.gr g280
  have B286 := B261.gr g280
  have B287 := B262.gr g280
  have B288 := B263.gr g280
  have A289 := A264.trans g280
  have A290 := A265.trans g280
  have A291 := A266.trans g280
  have A292 := A267.trans g280
  refine sv n278.ok rfl (wn _ rfl) rfl (o_mv n278.at_) (fun an293 n293 => ?_)
  refine sv n293.ok rfl (wn _ rfl) rfl (o_ex n293.at_ rfl) (fun an294 n294 => ?_)
  refine sv n294.ok rfl (wn _ rfl) rfl (o_ex (n294.ne rfl n293.at_) rfl) (fun an295 n295 => ?_)
  refine sv n295.ok rfl (wn _ rfl) rfl (o_as (n295.ne rfl n294.at_)) (fun an296 n296 => ?_)
  refine sv n296.ok rfl (wn _ rfl) rfl (o_as (n296.ne rfl n295.at_)) (fun an297 n297 => ?_)
  refine wpList_nil ?_
  refine th_n (hK273 _ _ ?_)
  refine wp_seq_k (fun K298 hK298 => ?_)
  refine wp_region_lit ?_
  have e299 := n297.ne rfl (n296.ne rfl (n295.ne rfl (n294.ne rfl (n293.ne rfl (n278.ne rfl (n277.ne rfl (n275.ne rfl (n272.ne rfl (n271.ne rfl (n270.ne rfl (n269.ne rfl (n268.ne rfl (n253.ne rfl (n252.ne rfl (n250.ne rfl (n247.ne rfl n208.at_))))))))))))))))
  refine sv n297.ok rfl (wn _ rfl) rfl (o_ldR e299 B288 Try.underlying25 rfl (by kernel_rfl)) (fun an300 n300 => ?_)
  have e301 := n300.ne rfl (n297.ne rfl (n296.ne rfl (n295.ne rfl (n294.ne rfl (n293.ne rfl (n278.ne rfl (n277.ne rfl e276)))))))
  refine sv n300.ok rfl (wn _ rfl) rfl (o_ldR e301 B287 Try.underlying25 rfl (by kernel_rfl)) (fun an302 n302 => ?_)
  refine sc n302.ok rfl (wn _ rfl) rfl (o_f2 Try.func25 rfl rfl rfl (n302.ne rfl n300.at_) n302.at_) (swithin _ _ _ _ w279 (hkk1.gr A292) (hkq3.gr A291) ((Sm.set L1).or (Sm.set L2)) (Sm.set L3) (by rw [wS_or, hp, hq])) ?_
  rintro _ w304 ⟨rfl, g305⟩
  refine ⟨_, rfl, fun an303 n303 => ?_⟩
  have G306 := G281.trans g305
  have B307 := B282.gr g305
  have B308 := B283.gr g305
  have B309 := B284.gr g305
  have B310 := B285.gr g305
  have B311 := B286.gr g305
  have B312 := B287.gr g305
  have B313 := B288.gr g305
  have A314 := A289.trans g305
  have A315 := A290.trans g305
  have A316 := A291.trans g305
  have A317 := A292.trans g305
  refine sv n303.ok rfl (wn _ rfl) rfl (o_mv n303.at_) (fun an318 n318 => ?_)
  refine sv n318.ok rfl (wn _ rfl) rfl (o_ex n318.at_ rfl) (fun an319 n319 => ?_)
  refine sv n319.ok rfl (wn _ rfl) rfl (o_ex (n319.ne rfl n318.at_) rfl) (fun an320 n320 => ?_)
  refine sv n320.ok rfl (wn _ rfl) rfl (o_as (n320.ne rfl n319.at_)) (fun an321 n321 => ?_)
  refine sv n321.ok rfl (wn _ rfl) rfl (o_as (n321.ne rfl n320.at_)) (fun an322 n322 => ?_)
  refine wpList_nil ?_
  refine th_n (hK298 _ _ ?_)
  refine wp_seq_k (fun K323 hK323 => ?_)
  refine wp_region_lit ?_
  have e324 := n322.ne rfl (n321.ne rfl (n320.ne rfl (n319.ne rfl (n318.ne rfl (n303.ne rfl (n302.ne rfl (n300.ne rfl (n297.ne rfl (n296.ne rfl (n295.ne rfl (n294.ne rfl (n293.ne rfl (n278.ne rfl (n277.ne rfl (n275.ne rfl (n272.ne rfl (n271.ne rfl (n270.ne rfl (n269.ne rfl (n268.ne rfl (n253.ne rfl (n252.ne rfl (n250.ne rfl e249)))))))))))))))))))))))
  refine sv n322.ok rfl (wn _ rfl) rfl (o_ldR e324 B310 Try.underlying25 rfl (by kernel_rfl)) (fun an325 n325 => ?_)
  have e326 := n325.ne rfl (n322.ne rfl (n321.ne rfl (n320.ne rfl (n319.ne rfl (n318.ne rfl (n303.ne rfl (n302.ne rfl (n300.ne rfl (n297.ne rfl (n296.ne rfl (n295.ne rfl (n294.ne rfl (n293.ne rfl (n278.ne rfl (n277.ne rfl (n275.ne rfl e274))))))))))))))))
  refine sv n325.ok rfl (wn _ rfl) rfl (o_ldR e326 B311 Try.underlying25 rfl (by kernel_rfl)) (fun an327 n327 => ?_)
  refine sc n327.ok rfl (wn _ rfl) rfl (o_f2 Try.func25 rfl rfl rfl (n327.ne rfl n325.at_) n327.at_) (swithin _ _ _ _ w304 (hkq1.gr A314) (hkq2.gr A315) (Sm.set L1) (Sm.set L2) hr) ?_
  rintro _ w329 ⟨rfl, g330⟩
  refine ⟨_, rfl, fun an328 n328 => ?_⟩
  have G331 := G306.trans g330
  have B332 := B307.gr g330
  have B333 := B308.gr g330
  have B334 := B309.gr g330
  have B335 := B310.gr g330
  have B336 := B311.gr g330
  have B337 := B312.gr g330
  have B338 := B313.gr g330
  have A339 := A314.trans g330
  have A340 := A315.trans g330
  have A341 := A316.trans g330
  have A342 := A317.trans g330
  refine sv n328.ok rfl (wn _ rfl) rfl (o_mv n328.at_) (fun an343 n343 => ?_)
  refine sv n343.ok rfl (wn _ rfl) rfl (o_ex n343.at_ rfl) (fun an344 n344 => ?_)
  refine sv n344.ok rfl (wn _ rfl) rfl (o_ex (n344.ne rfl n343.at_) rfl) (fun an345 n345 => ?_)
  refine sv n345.ok rfl (wn _ rfl) rfl (o_as (n345.ne rfl n344.at_)) (fun an346 n346 => ?_)
  refine sv n346.ok rfl (wn _ rfl) rfl (o_as (n346.ne rfl n345.at_)) (fun an347 n347 => ?_)
  refine wpList_nil ?_
  refine th_n (hK323 _ _ ?_)
  refine wp_seq_k (fun K348 hK348 => ?_)
  refine wp_region_lit ?_
  have e349 := n347.ne rfl (n346.ne rfl (n345.ne rfl (n344.ne rfl (n343.ne rfl (n328.ne rfl (n327.ne rfl e326))))))
  refine sv n347.ok rfl (wn _ rfl) rfl (o_ldR e349 B336 Try.underlying25 rfl (by kernel_rfl)) (fun an350 n350 => ?_)
  have e351 := n350.ne rfl (n347.ne rfl (n346.ne rfl (n345.ne rfl (n344.ne rfl (n343.ne rfl (n328.ne rfl (n327.ne rfl (n325.ne rfl e324))))))))
  refine sv n350.ok rfl (wn _ rfl) rfl (o_ldR e351 B335 Try.underlying25 rfl (by kernel_rfl)) (fun an352 n352 => ?_)
  refine sc n352.ok rfl (wn _ rfl) rfl (o_f2 Try.func25 rfl rfl rfl (n352.ne rfl n350.at_) n352.at_) (swithin _ _ _ _ w329 (hkq2.gr A340) (hkq1.gr A339) (Sm.set L2) (Sm.set L1) ht) ?_
  rintro _ w354 ⟨rfl, g355⟩
  refine ⟨_, rfl, fun an353 n353 => ?_⟩
  have G356 := G331.trans g355
  have B357 := B332.gr g355
  have B358 := B333.gr g355
  have B359 := B334.gr g355
  have B360 := B335.gr g355
  have B361 := B336.gr g355
  have B362 := B337.gr g355
  have B363 := B338.gr g355
  have A364 := A339.trans g355
  have A365 := A340.trans g355
  have A366 := A341.trans g355
  have A367 := A342.trans g355
  refine sv n353.ok rfl (wn _ rfl) rfl (o_mv n353.at_) (fun an368 n368 => ?_)
  refine sv n368.ok rfl (wn _ rfl) rfl (o_ex n368.at_ rfl) (fun an369 n369 => ?_)
  refine sv n369.ok rfl (wn _ rfl) rfl (o_ex (n369.ne rfl n368.at_) rfl) (fun an370 n370 => ?_)
  refine sv n370.ok rfl (wn _ rfl) rfl (o_as (n370.ne rfl n369.at_)) (fun an371 n371 => ?_)
  refine sv n371.ok rfl (wn _ rfl) rfl (o_as (n371.ne rfl n370.at_)) (fun an372 n372 => ?_)
  refine wpList_nil ?_
  refine th_n (hK348 _ _ ?_)
  refine wp_seq_k (fun K373 hK373 => ?_)
  refine wp_seq_k (fun K374 hK374 => ?_)
  refine wp_region_lit ?_
  have e375 := n372.ne rfl (n371.ne rfl (n370.ne rfl (n369.ne rfl (n368.ne rfl (n353.ne rfl (n352.ne rfl (n350.ne rfl (n347.ne rfl (n346.ne rfl (n345.ne rfl (n344.ne rfl (n343.ne rfl (n328.ne rfl (n327.ne rfl (n325.ne rfl (n322.ne rfl (n321.ne rfl (n320.ne rfl (n319.ne rfl (n318.ne rfl (n303.ne rfl (n302.ne rfl (n300.ne rfl (n297.ne rfl (n296.ne rfl (n295.ne rfl (n294.ne rfl (n293.ne rfl (n278.ne rfl (n277.ne rfl (n275.ne rfl (n272.ne rfl (n271.ne rfl (n270.ne rfl (n269.ne rfl (n268.ne rfl (n253.ne rfl (n252.ne rfl (n250.ne rfl n247.at_)))))))))))))))))))))))))))))))))))))))
  refine sv n372.ok rfl (wn _ rfl) rfl (o_mv e375) (fun an376 n376 => ?_)
  refine sv n376.ok rfl (wn _ rfl) rfl (o_neq (b := false) n376.at_ ev_const (by decide)) (fun an377 n377 => ?_)
  refine sv n377.ok rfl (wn _ rfl) rfl (o_mv n377.at_) (fun an378 n378 => ?_)
  have e379 := n378.ne rfl (n377.ne rfl (n376.ne rfl (n372.ne rfl (n371.ne rfl (n370.ne rfl (n369.ne rfl (n368.ne rfl (n353.ne rfl (n352.ne rfl (n350.ne rfl (n347.ne rfl (n346.ne rfl (n345.ne rfl (n344.ne rfl (n343.ne rfl (n328.ne rfl (n327.ne rfl (n325.ne rfl (n322.ne rfl (n321.ne rfl (n320.ne rfl (n319.ne rfl (n318.ne rfl (n303.ne rfl (n302.ne rfl (n300.ne rfl (n297.ne rfl (n296.ne rfl (n295.ne rfl (n294.ne rfl (n293.ne rfl (n278.ne rfl (n277.ne rfl (n275.ne rfl n272.at_))))))))))))))))))))))))))))))))))
  refine sv n378.ok rfl (wgT rfl (yl 2 false rfl n378.at_) rfl) rfl (o_mv e379) (fun an380 n380 => ?_)
  refine sv n380.ok rfl (wgT rfl (yl 2 false rfl (n380.ne rfl n378.at_)) rfl) rfl (o_neq (b := false) n380.at_ ev_const (by decide)) (fun an381 n381 => ?_)
  refine sv n381.ok rfl (wn _ rfl) rfl (o_pkF (n381.ne rfl (n380.ne rfl n378.at_)) n381.at_) (fun an382 n382 => ?_)
  refine sv n382.ok rfl (wn _ rfl) rfl (o_mv n382.at_) (fun an383 n383 => ?_)
  have e384 := n383.ne rfl (n382.ne rfl (n381.ne rfl (n380.ne rfl (n378.ne rfl (n377.ne rfl (n376.ne rfl (n372.ne rfl (n371.ne rfl (n370.ne rfl (n369.ne rfl (n368.ne rfl (n353.ne rfl (n352.ne rfl (n350.ne rfl (n347.ne rfl (n346.ne rfl (n345.ne rfl (n344.ne rfl (n343.ne rfl (n328.ne rfl (n327.ne rfl (n325.ne rfl (n322.ne rfl (n321.ne rfl (n320.ne rfl (n319.ne rfl (n318.ne rfl (n303.ne rfl (n302.ne rfl (n300.ne rfl n297.at_))))))))))))))))))))))))))))))
  refine sv n383.ok rfl (wgT rfl (yl 6 false rfl n383.at_) rfl) rfl (o_mv e384) (fun an385 n385 => ?_)
  refine sv n385.ok rfl (wgT rfl (yl 6 false rfl (n385.ne rfl n383.at_)) rfl) rfl (o_neq (b := false) n385.at_ ev_const (by decide)) (fun an386 n386 => ?_)
  refine sv n386.ok rfl (wn _ rfl) rfl (o_pkF (n386.ne rfl (n385.ne rfl n383.at_)) n386.at_) (fun an387 n387 => ?_)
  refine sv n387.ok rfl (wn _ rfl) rfl (o_mv n387.at_) (fun an388 n388 => ?_)
  have e389 := n388.ne rfl (n387.ne rfl (n386.ne rfl (n385.ne rfl (n383.ne rfl (n382.ne rfl (n381.ne rfl (n380.ne rfl (n378.ne rfl (n377.ne rfl (n376.ne rfl (n372.ne rfl (n371.ne rfl (n370.ne rfl (n369.ne rfl (n368.ne rfl (n353.ne rfl (n352.ne rfl (n350.ne rfl (n347.ne rfl (n346.ne rfl (n345.ne rfl (n344.ne rfl (n343.ne rfl (n328.ne rfl (n327.ne rfl (n325.ne rfl n322.at_))))))))))))))))))))))))))
  refine sv n388.ok rfl (wgT rfl (yl 10 false rfl n388.at_) rfl) rfl (o_mv e389) (fun an390 n390 => ?_)
  refine sv n390.ok rfl (wgT rfl (yl 10 false rfl (n390.ne rfl n388.at_)) rfl) rfl (o_neq (b := false) n390.at_ ev_const (by decide)) (fun an391 n391 => ?_)
  refine sv n391.ok rfl (wn _ rfl) rfl (o_pkF (n391.ne rfl (n390.ne rfl n388.at_)) n391.at_) (fun an392 n392 => ?_)
  refine sv n392.ok rfl (wn _ rfl) rfl (o_mv n392.at_) (fun an393 n393 => ?_)
  have e394 := n393.ne rfl (n392.ne rfl (n391.ne rfl (n390.ne rfl (n388.ne rfl (n387.ne rfl (n386.ne rfl (n385.ne rfl (n383.ne rfl (n382.ne rfl (n381.ne rfl (n380.ne rfl (n378.ne rfl (n377.ne rfl (n376.ne rfl (n372.ne rfl (n371.ne rfl (n370.ne rfl (n369.ne rfl (n368.ne rfl (n353.ne rfl (n352.ne rfl (n350.ne rfl n347.at_))))))))))))))))))))))
  refine sv n393.ok rfl (wgT rfl (yl 14 false rfl n393.at_) rfl) rfl (o_mv e394) (fun an395 n395 => ?_)
  refine sv n395.ok rfl (wgT rfl (yl 14 false rfl (n395.ne rfl n393.at_)) rfl) rfl (o_neq (b := false) n395.at_ ev_const (by decide)) (fun an396 n396 => ?_)
  refine sv n396.ok rfl (wn _ rfl) rfl (o_pkF (n396.ne rfl (n395.ne rfl n393.at_)) n396.at_) (fun an397 n397 => ?_)
  refine sv n397.ok rfl (wn _ rfl) rfl (o_mv n397.at_) (fun an398 n398 => ?_)
  have e399 := n398.ne rfl (n397.ne rfl (n396.ne rfl (n395.ne rfl (n393.ne rfl (n392.ne rfl (n391.ne rfl (n390.ne rfl (n388.ne rfl (n387.ne rfl (n386.ne rfl (n385.ne rfl (n383.ne rfl (n382.ne rfl (n381.ne rfl (n380.ne rfl (n378.ne rfl (n377.ne rfl (n376.ne rfl n372.at_))))))))))))))))))
  refine sv n398.ok rfl (wgT rfl (yl 18 false rfl n398.at_) rfl) rfl (o_mv e399) (fun an400 n400 => ?_)
  refine sv n400.ok rfl (wgT rfl (yl 18 false rfl (n400.ne rfl n398.at_)) rfl) rfl (o_neq (b := false) n400.at_ ev_const (by decide)) (fun an401 n401 => ?_)
  refine sv n401.ok rfl (wn _ rfl) rfl (o_pkF (n401.ne rfl (n400.ne rfl n398.at_)) n401.at_) (fun an402 n402 => ?_)
  refine sv n402.ok rfl (wn _ rfl) rfl (o_mv n402.at_) (fun an403 n403 => ?_)
  have e404 := n403.ne rfl (n402.ne rfl (n401.ne rfl (n400.ne rfl (n398.ne rfl (n397.ne rfl (n396.ne rfl (n395.ne rfl (n393.ne rfl (n392.ne rfl (n391.ne rfl (n390.ne rfl (n388.ne rfl (n387.ne rfl (n386.ne rfl (n385.ne rfl (n383.ne rfl (n382.ne rfl (n381.ne rfl (n380.ne rfl (n378.ne rfl (n377.ne rfl (n376.ne rfl (n372.ne rfl (n371.ne rfl (n370.ne rfl (n369.ne rfl (n368.ne rfl (n353.ne rfl (n352.ne rfl (n350.ne rfl (n347.ne rfl (n346.ne rfl (n345.ne rfl (n344.ne rfl (n343.ne rfl (n328.ne rfl (n327.ne rfl (n325.ne rfl (n322.ne rfl n321.at_)))))))))))))))))))))))))))))))))))))))
  refine sv n403.ok rfl (wgT rfl (yl 22 false rfl n403.at_) rfl) rfl (o_mv e404) (fun an405 n405 => ?_)
  have e406 := n405.ne rfl (n403.ne rfl (n402.ne rfl (n401.ne rfl (n400.ne rfl (n398.ne rfl (n397.ne rfl (n396.ne rfl (n395.ne rfl (n393.ne rfl (n392.ne rfl (n391.ne rfl (n390.ne rfl (n388.ne rfl (n387.ne rfl (n386.ne rfl (n385.ne rfl (n383.ne rfl (n382.ne rfl (n381.ne rfl (n380.ne rfl (n378.ne rfl (n377.ne rfl (n376.ne rfl (n372.ne rfl (n371.ne rfl (n370.ne rfl (n369.ne rfl (n368.ne rfl (n353.ne rfl (n352.ne rfl (n350.ne rfl (n347.ne rfl (n346.ne rfl (n345.ne rfl (n344.ne rfl (n343.ne rfl (n328.ne rfl (n327.ne rfl (n325.ne rfl (n322.ne rfl (n321.ne rfl (n320.ne rfl (n319.ne rfl (n318.ne rfl (n303.ne rfl (n302.ne rfl (n300.ne rfl (n297.ne rfl (n296.ne rfl (n295.ne rfl (n294.ne rfl (n293.ne rfl (n278.ne rfl (n277.ne rfl (n275.ne rfl (n272.ne rfl n271.at_))))))))))))))))))))))))))))))))))))))))))))))))))))))))
  refine sv n405.ok rfl (wgT rfl (yl 22 false rfl (n405.ne rfl n403.at_)) rfl) rfl (o_mv e406) (fun an407 n407 => ?_)
  refine sv n407.ok rfl (wgT rfl (yl 22 false rfl (n407.ne rfl (n405.ne rfl n403.at_))) rfl) rfl (o_mv n407.at_) (fun an408 n408 => ?_)
  cases c409 : p
  · have e410 := (n408.at_).trans (congrArg Value.bool (c409))
    have e411 := n408.ne rfl (n407.ne rfl (n405.ne rfl (n403.ne rfl (n402.ne rfl (n401.ne rfl (n400.ne rfl (n398.ne rfl (n397.ne rfl (n396.ne rfl (n395.ne rfl (n393.ne rfl (n392.ne rfl (n391.ne rfl (n390.ne rfl (n388.ne rfl (n387.ne rfl (n386.ne rfl (n385.ne rfl (n383.ne rfl (n382.ne rfl (n381.ne rfl (n380.ne rfl (n378.ne rfl (n377.ne rfl (n376.ne rfl (n372.ne rfl (n371.ne rfl (n370.ne rfl (n369.ne rfl (n368.ne rfl (n353.ne rfl (n352.ne rfl (n350.ne rfl (n347.ne rfl (n346.ne rfl (n345.ne rfl (n344.ne rfl (n343.ne rfl (n328.ne rfl (n327.ne rfl (n325.ne rfl (n322.ne rfl (n321.ne rfl (n320.ne rfl (n319.ne rfl (n318.ne rfl (n303.ne rfl (n302.ne rfl (n300.ne rfl (n297.ne rfl (n296.ne rfl (n295.ne rfl (n294.ne rfl (n293.ne rfl (n278.ne rfl (n277.ne rfl (n275.ne rfl (n272.ne rfl (n271.ne rfl (n270.ne rfl n269.at_))))))))))))))))))))))))))))))))))))))))))))))))))))))))))))
    have e412 := (e411).trans (congrArg Value.bool (c409))
    have e413 := ((n408.ne rfl (n407.ne rfl e406))).trans (congrArg Value.bool (c409))
    have e414 := ((n408.ne rfl n407.at_)).trans (congrArg Value.bool (c409))
    have e415 := n408.ne rfl (n407.ne rfl (n405.ne rfl (n403.ne rfl (n402.ne rfl (n401.ne rfl (n400.ne rfl (n398.ne rfl (n397.ne rfl (n396.ne rfl (n395.ne rfl (n393.ne rfl (n392.ne rfl (n391.ne rfl (n390.ne rfl (n388.ne rfl (n387.ne rfl (n386.ne rfl (n385.ne rfl (n383.ne rfl (n382.ne rfl (n381.ne rfl (n380.ne rfl (n378.ne rfl (n377.ne rfl (n376.ne rfl (n372.ne rfl (n371.ne rfl (n370.ne rfl (n369.ne rfl (n368.ne rfl (n353.ne rfl (n352.ne rfl (n350.ne rfl (n347.ne rfl (n346.ne rfl (n345.ne rfl (n344.ne rfl (n343.ne rfl (n328.ne rfl (n327.ne rfl (n325.ne rfl (n322.ne rfl (n321.ne rfl (n320.ne rfl n319.at_))))))))))))))))))))))))))))))))))))))))))))
    have e416 := (e415).trans (congrArg Value.bool (show (p && q) = false by simp [c409]))
    have e417 := n408.ne rfl (n407.ne rfl (n405.ne rfl e404))
    have e418 := (e417).trans (congrArg Value.bool (show (p && q) = false by simp [c409]))
    have e419 := ((n408.ne rfl (n407.ne rfl n405.at_))).trans (congrArg Value.bool (show (p && q) = false by simp [c409]))
    refine sn n408.ok rfl (wgF rfl (yl 25 false rfl e410) rfl) rfl (fun an420 n420 => ?_)
    have e421 := n420.ne rfl (n408.ne rfl (n407.ne rfl (n405.ne rfl n403.at_)))
    refine sv n420.ok rfl (wgT rfl (yl 22 false rfl e421) rfl) rfl (o_pkF (n420.ne rfl e410) ev_const) (fun an422 n422 => ?_)
    refine sv n422.ok rfl (wgT rfl (yl 22 false rfl (n422.ne rfl e421)) rfl) rfl (o_neqB (b := false) (n422.ne rfl (n420.ne rfl e419)) n422.at_ (by simp) Try.underlying4) (fun an423 n423 => ?_)
    refine sv n423.ok rfl (wn _ rfl) rfl (o_pkF (n423.ne rfl (n422.ne rfl e421)) n423.at_) (fun an424 n424 => ?_)
    refine sv n424.ok rfl (wn _ rfl) rfl (o_mv n424.at_) (fun an425 n425 => ?_)
    have e426 := n425.ne rfl (n424.ne rfl (n423.ne rfl (n422.ne rfl (n420.ne rfl (n408.ne rfl (n407.ne rfl (n405.ne rfl (n403.ne rfl (n402.ne rfl (n401.ne rfl (n400.ne rfl (n398.ne rfl (n397.ne rfl (n396.ne rfl (n395.ne rfl (n393.ne rfl (n392.ne rfl (n391.ne rfl (n390.ne rfl (n388.ne rfl (n387.ne rfl (n386.ne rfl (n385.ne rfl (n383.ne rfl (n382.ne rfl (n381.ne rfl (n380.ne rfl (n378.ne rfl (n377.ne rfl (n376.ne rfl (n372.ne rfl (n371.ne rfl (n370.ne rfl (n369.ne rfl (n368.ne rfl (n353.ne rfl (n352.ne rfl (n350.ne rfl (n347.ne rfl n346.at_)))))))))))))))))))))))))))))))))))))))
    refine sv n425.ok rfl (wgT rfl (yl 30 false rfl n425.at_) rfl) rfl (o_mv e426) (fun an427 n427 => ?_)
    refine sv n427.ok rfl (wgT rfl (yl 30 false rfl (n427.ne rfl n425.at_)) rfl) rfl (o_mv n427.at_) (fun an428 n428 => ?_)
    cases c429 : r
    · have e430 := (n428.at_).trans (congrArg Value.bool (c429))
      have e431 := n428.ne rfl (n427.ne rfl (n425.ne rfl (n424.ne rfl (n423.ne rfl (n422.ne rfl (n420.ne rfl (n408.ne rfl (n407.ne rfl (n405.ne rfl (n403.ne rfl (n402.ne rfl (n401.ne rfl (n400.ne rfl (n398.ne rfl (n397.ne rfl (n396.ne rfl (n395.ne rfl (n393.ne rfl (n392.ne rfl (n391.ne rfl (n390.ne rfl (n388.ne rfl (n387.ne rfl (n386.ne rfl (n385.ne rfl (n383.ne rfl (n382.ne rfl (n381.ne rfl (n380.ne rfl (n378.ne rfl (n377.ne rfl (n376.ne rfl (n372.ne rfl (n371.ne rfl (n370.ne rfl (n369.ne rfl (n368.ne rfl (n353.ne rfl (n352.ne rfl (n350.ne rfl (n347.ne rfl (n346.ne rfl (n345.ne rfl n344.at_)))))))))))))))))))))))))))))))))))))))))))
      have e432 := (e431).trans (congrArg Value.bool (c429))
      have e433 := ((n428.ne rfl (n427.ne rfl e426))).trans (congrArg Value.bool (c429))
      have e434 := ((n428.ne rfl n427.at_)).trans (congrArg Value.bool (c429))
      refine sn n428.ok rfl (wgF rfl (yl 32 false rfl e430) rfl) rfl (fun an435 n435 => ?_)
      have e436 := n435.ne rfl (n428.ne rfl (n427.ne rfl n425.at_))
      refine sv n435.ok rfl (wgT rfl (yl 30 false rfl e436) rfl) rfl (o_pkF (n435.ne rfl e430) ev_const) (fun an437 n437 => ?_)
      have e438 := n437.ne rfl (n435.ne rfl (n428.ne rfl (n427.ne rfl (n425.ne rfl (n424.ne rfl (n423.ne rfl (n422.ne rfl (n420.ne rfl (n408.ne rfl (n407.ne rfl (n405.ne rfl (n403.ne rfl (n402.ne rfl (n401.ne rfl (n400.ne rfl (n398.ne rfl (n397.ne rfl (n396.ne rfl (n395.ne rfl (n393.ne rfl (n392.ne rfl (n391.ne rfl (n390.ne rfl (n388.ne rfl (n387.ne rfl (n386.ne rfl (n385.ne rfl (n383.ne rfl (n382.ne rfl (n381.ne rfl (n380.ne rfl (n378.ne rfl (n377.ne rfl (n376.ne rfl (n372.ne rfl (n371.ne rfl (n370.ne rfl (n369.ne rfl (n368.ne rfl (n353.ne rfl (n352.ne rfl e351)))))))))))))))))))))))))))))))))))))))))
      refine sv n437.ok rfl (wgT rfl (yl 30 false rfl (n437.ne rfl e436)) rfl) rfl (o_ldR e438 B360 Try.underlying25 rfl (by kernel_rfl)) (fun an439 n439 => ?_)
      have e440 := n439.ne rfl (n437.ne rfl (n435.ne rfl (n428.ne rfl (n427.ne rfl (n425.ne rfl (n424.ne rfl (n423.ne rfl (n422.ne rfl (n420.ne rfl (n408.ne rfl (n407.ne rfl (n405.ne rfl (n403.ne rfl (n402.ne rfl (n401.ne rfl (n400.ne rfl (n398.ne rfl (n397.ne rfl (n396.ne rfl (n395.ne rfl (n393.ne rfl (n392.ne rfl (n391.ne rfl (n390.ne rfl (n388.ne rfl (n387.ne rfl (n386.ne rfl (n385.ne rfl (n383.ne rfl (n382.ne rfl (n381.ne rfl (n380.ne rfl (n378.ne rfl (n377.ne rfl (n376.ne rfl (n372.ne rfl (n371.ne rfl (n370.ne rfl (n369.ne rfl (n368.ne rfl (n353.ne rfl (n352.ne rfl (n350.ne rfl e349)))))))))))))))))))))))))))))))))))))))))))
      refine sv n439.ok rfl (wgT rfl (yl 30 false rfl (n439.ne rfl (n437.ne rfl e436))) rfl) rfl (o_ldR e440 B361 Try.underlying25 rfl (by kernel_rfl)) (fun an441 n441 => ?_)
      have e442 := n441.ne rfl (n439.ne rfl (n437.ne rfl e436))
      refine sc n441.ok rfl (wgT rfl (yl 30 false rfl e442) rfl) rfl (o_f2 Try.func17 rfl rfl rfl (n441.ne rfl n439.at_) n441.at_) (ssameB (b := false) _ _ _ _ w354 (hkq1.gr A364) (hkq2.gr A365) (Sm.set L1) (by simp [hr, ht, c409, c429])) ?_
      rintro _ w444 ⟨rfl, g445⟩
      refine ⟨_, rfl, fun an443 n443 => ?_⟩
      have G446 := G356.trans g445
      have B447 := B357.gr g445
      have B448 := B358.gr g445
      have B449 := B359.gr g445
      have B450 := B360.gr g445
      have B451 := B361.gr g445
      have B452 := B362.gr g445
      have B453 := B363.gr g445
      have A454 := A364.trans g445
      have A455 := A365.trans g445
      have A456 := A366.trans g445
      have A457 := A367.trans g445
      have e458 := n443.ne rfl (n441.ne rfl (n439.ne rfl n437.at_))
      refine sv n443.ok rfl (wgT rfl (yl 30 false rfl (n443.ne rfl e442)) rfl) rfl (o_neqB (b := false) e458 n443.at_ (by simp) Try.underlying4) (fun an459 n459 => ?_)
      refine sv n459.ok rfl (wn _ rfl) rfl (o_pkF (n459.ne rfl (n443.ne rfl e442)) n459.at_) (fun an460 n460 => ?_)
      refine sv n460.ok rfl (wn _ rfl) rfl (o_mv n460.at_) (fun an461 n461 => ?_)
      have e462 := n461.ne rfl (n460.ne rfl (n459.ne rfl (n443.ne rfl (n441.ne rfl (n439.ne rfl (n437.ne rfl (n435.ne rfl e433)))))))
      refine sv n461.ok rfl (wgT rfl (yl 40 false rfl n461.at_) rfl) rfl (o_mv e462) (fun an463 n463 => ?_)
      refine sv n463.ok rfl (wgT rfl (yl 40 false rfl (n463.ne rfl n461.at_)) rfl) rfl (o_mv n463.at_) (fun an464 n464 => ?_)
      refine sn n464.ok rfl (wgF rfl (yl 42 false rfl n464.at_) rfl) rfl (fun an465 n465 => ?_)
      have e466 := n465.ne rfl (n464.ne rfl (n463.ne rfl n461.at_))
      refine sv n465.ok rfl (wgT rfl (yl 40 false rfl e466) rfl) rfl (o_pkF (n465.ne rfl n464.at_) ev_const) (fun an467 n467 => ?_)
      refine sv n467.ok rfl (wgT rfl (yl 40 false rfl (n467.ne rfl e466)) rfl) rfl (o_mv n467.at_) (fun an468 n468 => ?_)
      refine sn n468.ok rfl (wgF rfl (yl 45 false rfl n468.at_) rfl) rfl (fun an469 n469 => ?_)
      refine sn n469.ok rfl (wgF rfl (yl 45 false rfl (n469.ne rfl n468.at_)) rfl) rfl (fun an470 n470 => ?_)
      have e471 := n470.ne rfl (n469.ne rfl (n468.ne rfl (n467.ne rfl e466)))
      refine sv n470.ok rfl (wgT rfl (yl 40 false rfl e471) rfl) rfl (o_pkF (n470.ne rfl (n469.ne rfl n468.at_)) ev_const) (fun an472 n472 => ?_)
      refine sv n472.ok rfl (wn _ rfl) rfl (o_pkF (n472.ne rfl e471) n472.at_) (fun an473 n473 => ?_)
      refine wpList_nil ?_
      refine th_n (hK374 _ _ ?_)
      refine wp_cond_false (n473.at_) ?_
      refine wp_skip ?_
      refine th_n (hK373 _ _ ?_)
      refine wp_seq_k (fun K474 hK474 => ?_)
      refine wp_region_lit ?_
      have e475 := n473.ne rfl (n472.ne rfl (n470.ne rfl (n469.ne rfl (n468.ne rfl (n467.ne rfl (n465.ne rfl (n464.ne rfl (n463.ne rfl (n461.ne rfl (n460.ne rfl (n459.ne rfl (n443.ne rfl (n441.ne rfl (n439.ne rfl e438))))))))))))))
      refine sv n473.ok rfl (wn _ rfl) rfl (o_ldR e475 B450 Try.underlying25 rfl (by kernel_rfl)) (fun an476 n476 => ?_)
      have e477 := n476.ne rfl (n473.ne rfl (n472.ne rfl (n470.ne rfl (n469.ne rfl (n468.ne rfl (n467.ne rfl (n465.ne rfl (n464.ne rfl (n463.ne rfl (n461.ne rfl (n460.ne rfl (n459.ne rfl (n443.ne rfl (n441.ne rfl (n439.ne rfl (n437.ne rfl (n435.ne rfl (n428.ne rfl (n427.ne rfl (n425.ne rfl (n424.ne rfl (n423.ne rfl (n422.ne rfl (n420.ne rfl (n408.ne rfl (n407.ne rfl (n405.ne rfl (n403.ne rfl (n402.ne rfl (n401.ne rfl (n400.ne rfl (n398.ne rfl (n397.ne rfl (n396.ne rfl (n395.ne rfl (n393.ne rfl (n392.ne rfl (n391.ne rfl (n390.ne rfl (n388.ne rfl (n387.ne rfl (n386.ne rfl (n385.ne rfl (n383.ne rfl (n382.ne rfl (n381.ne rfl (n380.ne rfl (n378.ne rfl (n377.ne rfl (n376.ne rfl (n372.ne rfl (n371.ne rfl (n370.ne rfl (n369.ne rfl (n368.ne rfl (n353.ne rfl (n352.ne rfl (n350.ne rfl (n347.ne rfl (n346.ne rfl (n345.ne rfl (n344.ne rfl (n343.ne rfl (n328.ne rfl (n327.ne rfl (n325.ne rfl (n322.ne rfl (n321.ne rfl (n320.ne rfl (n319.ne rfl (n318.ne rfl (n303.ne rfl (n302.ne rfl (n300.ne rfl (n297.ne rfl (n296.ne rfl (n295.ne rfl (n294.ne rfl (n293.ne rfl (n278.ne rfl (n277.ne rfl (n275.ne rfl (n272.ne rfl (n271.ne rfl (n270.ne rfl (n269.ne rfl (n268.ne rfl (n253.ne rfl (n252.ne rfl (n250.ne rfl (n247.ne rfl (n208.ne rfl (n207.ne rfl (n206.ne rfl (n205.ne rfl (n190.ne rfl (n189.ne rfl (n188.ne rfl (n129.ne rfl (n109.ne rfl (n91.ne rfl (n80.ne rfl (n79.ne rfl (n68.ne rfl (n67.ne rfl (n57.ne rfl (n56.ne rfl (n53.ne rfl (n52.ne rfl (n51.ne rfl (n49.ne rfl (n48.ne rfl (n47.ne rfl (n45.ne rfl (n44.ne rfl (n43.ne rfl (n42.ne rfl (n41.ne rfl (n34.ne rfl (n33.ne rfl (n23.ne rfl (n21.ne rfl (n13.ne rfl (n11.ne rfl (n8.ne rfl n2.at_)))))))))))))))))))))))))))))))))))))))))))))))))))))))))))))))))))))))))))))))))))))))))))))))))))))))))))))))))))))))))))))
      refine sv n476.ok rfl (wn _ rfl) rfl (o_ldR e477 B447 Try.underlying27 rfl (by kernel_rfl)) (fun an478 n478 => ?_)
      refine sc n478.ok rfl (wn _ rfl) rfl (o_f2 Try.func10 rfl rfl rfl (n478.ne rfl n476.at_) n478.at_) (shas _ _ x y w444 (hkq1.gr A454) (Sm.set L1)) ?_
      rintro _ w480 ⟨rfl, g481⟩
      refine ⟨_, rfl, fun an479 n479 => ?_⟩
      have G482 := G446.trans g481
      have B483 := B447.gr g481
      have B484 := B448.gr g481
      have B485 := B449.gr g481
      have B486 := B450.gr g481
      have B487 := B451.gr g481
      have B488 := B452.gr g481
      have B489 := B453.gr g481
      have A490 := A454.trans g481
      have A491 := A455.trans g481
      have A492 := A456.trans g481
      have A493 := A457.trans g481
      refine sv n479.ok rfl (wn _ rfl) rfl (o_mv n479.at_) (fun an494 n494 => ?_)
      refine sv n494.ok rfl (wn _ rfl) rfl (o_ex n494.at_ rfl) (fun an495 n495 => ?_)
      refine sv n495.ok rfl (wn _ rfl) rfl (o_ex (n495.ne rfl n494.at_) rfl) (fun an496 n496 => ?_)
      refine sv n496.ok rfl (wn _ rfl) rfl (o_as (n496.ne rfl n495.at_)) (fun an497 n497 => ?_)
      refine sv n497.ok rfl (wn _ rfl) rfl (o_as (n497.ne rfl n496.at_)) (fun an498 n498 => ?_)
      refine wpList_nil ?_
      refine th_n (hK474 _ _ ?_)
      refine wp_seq_k (fun K499 hK499 => ?_)
      refine wp_region_lit ?_
      have e500 := n498.ne rfl (n497.ne rfl (n496.ne rfl (n495.ne rfl (n494.ne rfl (n479.ne rfl (n478.ne rfl (n476.ne rfl (n473.ne rfl (n472.ne rfl (n470.ne rfl (n469.ne rfl (n468.ne rfl (n467.ne rfl (n465.ne rfl (n464.ne rfl (n463.ne rfl (n461.ne rfl (n460.ne rfl (n459.ne rfl (n443.ne rfl (n441.ne rfl (n439.ne rfl (n437.ne rfl (n435.ne rfl (n428.ne rfl (n427.ne rfl (n425.ne rfl (n424.ne rfl (n423.ne rfl (n422.ne rfl (n420.ne rfl (n408.ne rfl (n407.ne rfl (n405.ne rfl (n403.ne rfl (n402.ne rfl (n401.ne rfl (n400.ne rfl (n398.ne rfl (n397.ne rfl (n396.ne rfl (n395.ne rfl (n393.ne rfl (n392.ne rfl (n391.ne rfl (n390.ne rfl (n388.ne rfl (n387.ne rfl (n386.ne rfl (n385.ne rfl (n383.ne rfl (n382.ne rfl (n381.ne rfl (n380.ne rfl (n378.ne rfl (n377.ne rfl (n376.ne rfl (n372.ne rfl (n371.ne rfl (n370.ne rfl (n369.ne rfl (n368.ne rfl (n353.ne rfl (n352.ne rfl (n350.ne rfl (n347.ne rfl (n346.ne rfl (n345.ne rfl (n344.ne rfl (n343.ne rfl (n328.ne rfl (n327.ne rfl (n325.ne rfl (n322.ne rfl (n321.ne rfl (n320.ne rfl (n319.ne rfl (n318.ne rfl (n303.ne rfl (n302.ne rfl e301))))))))))))))))))))))))))))))))))))))))))))))))))))))))))))))))))))))))))))))))
      refine sv n498.ok rfl (wn _ rfl) rfl (o_ldR e500 B488 Try.underlying25 rfl (by kernel_rfl)) (fun an501 n501 => ?_)
      have e502 := n501.ne rfl (n498.ne rfl (n497.ne rfl (n496.ne rfl (n495.ne rfl (n494.ne rfl (n479.ne rfl (n478.ne rfl e477)))))))
      refine sv n501.ok rfl (wn _ rfl) rfl (o_ldR e502 B483 Try.underlying27 rfl (by kernel_rfl)) (fun an503 n503 => ?_)
      refine sc n503.ok rfl (wn _ rfl) rfl (o_f2 Try.func10 rfl rfl rfl (n503.ne rfl n501.at_) n503.at_) (shas _ _ x y w480 (hkq3.gr A492) (Sm.set L3)) ?_
      rintro _ w505 ⟨rfl, g506⟩
      refine ⟨_, rfl, fun an504 n504 => ?_⟩
      have G507 := G482.trans g506
      have B508 := B483.gr g506
      have B509 := B484.gr g506
      have B510 := B485.gr g506
      have B511 := B486.gr g506
      have B512 := B487.gr g506
      have B513 := B488.gr g506
      have B514 := B489.gr g506
      have A515 := A490.trans g506
      have A516 := A491.trans g506
      have A517 := A492.trans g506
      have A518 := A493.trans g506
      refine sv n504.ok rfl (wn _ rfl) rfl (o_mv n504.at_) (fun an519 n519 => ?_)
      refine sv n519.ok rfl (wn _ rfl) rfl (o_ex n519.at_ rfl) (fun an520 n520 => ?_)
      refine sv n520.ok rfl (wn _ rfl) rfl (o_ex (n520.ne rfl n519.at_) rfl) (fun an521 n521 => ?_)
      refine sv n521.ok rfl (wn _ rfl) rfl (o_as (n521.ne rfl n520.at_)) (fun an522 n522 => ?_)
      refine sv n522.ok rfl (wn _ rfl) rfl (o_as (n522.ne rfl n521.at_)) (fun an523 n523 => ?_)
      refine wpList_nil ?_
      refine th_n (hK499 _ _ ?_)
      refine wp_seq_k (fun K524 hK524 => ?_)
      refine wp_region_lit ?_
      have e525 := n523.ne rfl (n522.ne rfl (n521.ne rfl (n520.ne rfl (n519.ne rfl (n504.ne rfl (n503.ne rfl (n501.ne rfl n498.at_)))))))
      refine sv n523.ok rfl (wn _ rfl) rfl (o_mv e525) (fun an526 n526 => ?_)
      refine sv n526.ok rfl (wn _ rfl) rfl (o_mv (n526.ne rfl n523.at_)) (fun an527 n527 => ?_)
      refine sv n527.ok rfl (wn _ rfl) rfl (o_eq (n527.ne rfl n526.at_) n527.at_ (decide_eq_true rfl)) (fun an528 n528 => ?_)
      refine sv n528.ok rfl (wn _ rfl) rfl (o_mv n528.at_) (fun an529 n529 => ?_)
      have e530 := n529.ne rfl (n528.ne rfl (n527.ne rfl (n526.ne rfl (n523.ne rfl (n522.ne rfl (n521.ne rfl (n520.ne rfl (n519.ne rfl (n504.ne rfl (n503.ne rfl (n501.ne rfl (n498.ne rfl (n497.ne rfl (n496.ne rfl (n495.ne rfl (n494.ne rfl (n479.ne rfl (n478.ne rfl (n476.ne rfl (n473.ne rfl (n472.ne rfl (n470.ne rfl (n469.ne rfl (n468.ne rfl (n467.ne rfl (n465.ne rfl (n464.ne rfl (n463.ne rfl (n461.ne rfl (n460.ne rfl (n459.ne rfl (n443.ne rfl (n441.ne rfl (n439.ne rfl (n437.ne rfl (n435.ne rfl (n428.ne rfl (n427.ne rfl (n425.ne rfl (n424.ne rfl (n423.ne rfl (n422.ne rfl (n420.ne rfl e413)))))))))))))))))))))))))))))))))))))))))))
      refine sv n529.ok rfl (wgT rfl (yl 3 true rfl n529.at_) rfl) rfl (o_mv e530) (fun an531 n531 => ?_)
      refine sv n531.ok rfl (wgT rfl (yl 3 true rfl (n531.ne rfl n529.at_)) rfl) rfl (o_not n531.at_ rfl) (fun an532 n532 => ?_)
      refine sv n532.ok rfl (wgT rfl (yl 3 true rfl (n532.ne rfl (n531.ne rfl n529.at_))) rfl) rfl (o_mv n532.at_) (fun an533 n533 => ?_)
      refine sn n533.ok rfl (wgF rfl (yl 6 true rfl n533.at_) rfl) rfl (fun an534 n534 => ?_)
      refine sn n534.ok rfl (wgF rfl (yl 6 true rfl (n534.ne rfl n533.at_)) rfl) rfl (fun an535 n535 => ?_)
      have e536 := n535.ne rfl (n534.ne rfl (n533.ne rfl (n532.ne rfl (n531.ne rfl n529.at_))))
      refine sv n535.ok rfl (wgT rfl (yl 3 true rfl e536) rfl) rfl (o_pkT (n535.ne rfl (n534.ne rfl n533.at_)) ev_const) (fun an537 n537 => ?_)
      refine sv n537.ok rfl (wgT rfl (yl 3 true rfl (n537.ne rfl e536)) rfl) rfl (o_mv n537.at_) (fun an538 n538 => ?_)
      refine sn n538.ok rfl (wgF rfl (yl 10 true rfl n538.at_) rfl) rfl (fun an539 n539 => ?_)
      have e540 := n539.ne rfl (n538.ne rfl (n537.ne rfl e536))
      refine sv n539.ok rfl (wgT rfl (yl 3 true rfl e540) rfl) rfl (o_pkT (n539.ne rfl n538.at_) ev_const) (fun an541 n541 => ?_)
      refine sv n541.ok rfl (wn _ rfl) rfl (o_pkT (n541.ne rfl e540) n541.at_) (fun an542 n542 => ?_)
      refine sv n542.ok rfl (wn _ rfl) rfl (o_as n542.at_) (fun an543 n543 => ?_)
      refine wpList_nil ?_
      refine th_n (hK524 _ _ ?_)
      refine wp_ret ?_
      exact ret1 n543.ok rfl (n543.at_) ⟨rfl, G507⟩
    · have e544 := (n428.at_).trans (congrArg Value.bool (c429))
      have e545 := n428.ne rfl (n427.ne rfl (n425.ne rfl (n424.ne rfl (n423.ne rfl (n422.ne rfl (n420.ne rfl (n408.ne rfl (n407.ne rfl (n405.ne rfl (n403.ne rfl (n402.ne rfl (n401.ne rfl (n400.ne rfl (n398.ne rfl (n397.ne rfl (n396.ne rfl (n395.ne rfl (n393.ne rfl (n392.ne rfl (n391.ne rfl (n390.ne rfl (n388.ne rfl (n387.ne rfl (n386.ne rfl (n385.ne rfl (n383.ne rfl (n382.ne rfl (n381.ne rfl (n380.ne rfl (n378.ne rfl (n377.ne rfl (n376.ne rfl (n372.ne rfl (n371.ne rfl (n370.ne rfl (n369.ne rfl (n368.ne rfl (n353.ne rfl (n352.ne rfl (n350.ne rfl (n347.ne rfl (n346.ne rfl (n345.ne rfl n344.at_)))))))))))))))))))))))))))))))))))))))))))
      have e546 := (e545).trans (congrArg Value.bool (c429))
      have e547 := ((n428.ne rfl (n427.ne rfl e426))).trans (congrArg Value.bool (c429))
      have e548 := ((n428.ne rfl n427.at_)).trans (congrArg Value.bool (c429))
      have e549 := n428.ne rfl (n427.ne rfl (n425.ne rfl (n424.ne rfl (n423.ne rfl (n422.ne rfl (n420.ne rfl (n408.ne rfl (n407.ne rfl (n405.ne rfl (n403.ne rfl (n402.ne rfl (n401.ne rfl (n400.ne rfl (n398.ne rfl (n397.ne rfl (n396.ne rfl (n395.ne rfl (n393.ne rfl (n392.ne rfl (n391.ne rfl (n390.ne rfl (n388.ne rfl (n387.ne rfl (n386.ne rfl (n385.ne rfl (n383.ne rfl (n382.ne rfl (n381.ne rfl (n380.ne rfl (n378.ne rfl (n377.ne rfl (n376.ne rfl (n372.ne rfl n371.at_)))))))))))))))))))))))))))))))))
      refine sv n428.ok rfl (wgT rfl (yl 32 true rfl e544) rfl) rfl (o_mv e549) (fun an550 n550 => ?_)
      have e551 := n550.ne rfl (n428.ne rfl (n427.ne rfl n425.at_))
      refine sv n550.ok rfl (wgT rfl (yl 30 false rfl e551) rfl) rfl (o_pkT (n550.ne rfl e544) n550.at_) (fun an552 n552 => ?_)
      have e553 := n552.ne rfl (n550.ne rfl (n428.ne rfl (n427.ne rfl (n425.ne rfl (n424.ne rfl (n423.ne rfl (n422.ne rfl (n420.ne rfl (n408.ne rfl (n407.ne rfl (n405.ne rfl (n403.ne rfl (n402.ne rfl (n401.ne rfl (n400.ne rfl (n398.ne rfl (n397.ne rfl (n396.ne rfl (n395.ne rfl (n393.ne rfl (n392.ne rfl (n391.ne rfl (n390.ne rfl (n388.ne rfl (n387.ne rfl (n386.ne rfl (n385.ne rfl (n383.ne rfl (n382.ne rfl (n381.ne rfl (n380.ne rfl (n378.ne rfl (n377.ne rfl (n376.ne rfl (n372.ne rfl (n371.ne rfl (n370.ne rfl (n369.ne rfl (n368.ne rfl (n353.ne rfl (n352.ne rfl e351)))))))))))))))))))))))))))))))))))))))))
      refine sv n552.ok rfl (wgT rfl (yl 30 false rfl (n552.ne rfl e551)) rfl) rfl (o_ldR e553 B360 Try.underlying25 rfl (by kernel_rfl)) (fun an554 n554 => ?_)
      have e555 := n554.ne rfl (n552.ne rfl (n550.ne rfl (n428.ne rfl (n427.ne rfl (n425.ne rfl (n424.ne rfl (n423.ne rfl (n422.ne rfl (n420.ne rfl (n408.ne rfl (n407.ne rfl (n405.ne rfl (n403.ne rfl (n402.ne rfl (n401.ne rfl (n400.ne rfl (n398.ne rfl (n397.ne rfl (n396.ne rfl (n395.ne rfl (n393.ne rfl (n392.ne rfl (n391.ne rfl (n390.ne rfl (n388.ne rfl (n387.ne rfl (n386.ne rfl (n385.ne rfl (n383.ne rfl (n382.ne rfl (n381.ne rfl (n380.ne rfl (n378.ne rfl (n377.ne rfl (n376.ne rfl (n372.ne rfl (n371.ne rfl (n370.ne rfl (n369.ne rfl (n368.ne rfl (n353.ne rfl (n352.ne rfl (n350.ne rfl e349)))))))))))))))))))))))))))))))))))))))))))
      refine sv n554.ok rfl (wgT rfl (yl 30 false rfl (n554.ne rfl (n552.ne rfl e551))) rfl) rfl (o_ldR e555 B361 Try.underlying25 rfl (by kernel_rfl)) (fun an556 n556 => ?_)
      have e557 := n556.ne rfl (n554.ne rfl (n552.ne rfl e551))
      refine sc n556.ok rfl (wgT rfl (yl 30 false rfl e557) rfl) rfl (o_f2 Try.func17 rfl rfl rfl (n556.ne rfl n554.at_) n556.at_) (ssameB (b := t) _ _ _ _ w354 (hkq1.gr A364) (hkq2.gr A365) (Sm.set L1) (by simp [hr, ht, c409, c429])) ?_
      rintro _ w559 ⟨rfl, g560⟩
      refine ⟨_, rfl, fun an558 n558 => ?_⟩
      have G561 := G356.trans g560
      have B562 := B357.gr g560
      have B563 := B358.gr g560
      have B564 := B359.gr g560
      have B565 := B360.gr g560
      have B566 := B361.gr g560
      have B567 := B362.gr g560
      have B568 := B363.gr g560
      have A569 := A364.trans g560
      have A570 := A365.trans g560
      have A571 := A366.trans g560
      have A572 := A367.trans g560
      have e573 := n558.ne rfl (n556.ne rfl (n554.ne rfl n552.at_))
      refine sv n558.ok rfl (wgT rfl (yl 30 false rfl (n558.ne rfl e557)) rfl) rfl (o_neqB (b := false) e573 n558.at_ (by simp) Try.underlying4) (fun an574 n574 => ?_)
      refine sv n574.ok rfl (wn _ rfl) rfl (o_pkF (n574.ne rfl (n558.ne rfl e557)) n574.at_) (fun an575 n575 => ?_)
      refine sv n575.ok rfl (wn _ rfl) rfl (o_mv n575.at_) (fun an576 n576 => ?_)
      have e577 := n576.ne rfl (n575.ne rfl (n574.ne rfl (n558.ne rfl (n556.ne rfl (n554.ne rfl (n552.ne rfl (n550.ne rfl e547)))))))
      refine sv n576.ok rfl (wgT rfl (yl 40 false rfl n576.at_) rfl) rfl (o_mv e577) (fun an578 n578 => ?_)
      refine sv n578.ok rfl (wgT rfl (yl 40 false rfl (n578.ne rfl n576.at_)) rfl) rfl (o_mv n578.at_) (fun an579 n579 => ?_)
      have e580 := n579.ne rfl (n578.ne rfl (n576.ne rfl (n575.ne rfl (n574.ne rfl (n558.ne rfl (n556.ne rfl (n554.ne rfl (n552.ne rfl (n550.ne rfl (n428.ne rfl (n427.ne rfl (n425.ne rfl (n424.ne rfl (n423.ne rfl (n422.ne rfl (n420.ne rfl (n408.ne rfl (n407.ne rfl (n405.ne rfl (n403.ne rfl (n402.ne rfl (n401.ne rfl (n400.ne rfl (n398.ne rfl (n397.ne rfl (n396.ne rfl (n395.ne rfl (n393.ne rfl (n392.ne rfl (n391.ne rfl (n390.ne rfl (n388.ne rfl (n387.ne rfl (n386.ne rfl (n385.ne rfl (n383.ne rfl (n382.ne rfl (n381.ne rfl (n380.ne rfl (n378.ne rfl (n377.ne rfl (n376.ne rfl (n372.ne rfl (n371.ne rfl (n370.ne rfl (n369.ne rfl (n368.ne rfl (n353.ne rfl (n352.ne rfl (n350.ne rfl (n347.ne rfl (n346.ne rfl (n345.ne rfl (n344.ne rfl (n343.ne rfl (n328.ne rfl (n327.ne rfl (n325.ne rfl (n322.ne rfl (n321.ne rfl (n320.ne rfl (n319.ne rfl (n318.ne rfl (n303.ne rfl (n302.ne rfl (n300.ne rfl (n297.ne rfl n296.at_)))))))))))))))))))))))))))))))))))))))))))))))))))))))))))))))))))
      refine sv n579.ok rfl (wgT rfl (yl 42 true rfl n579.at_) rfl) rfl (o_mv e580) (fun an581 n581 => ?_)
      have e582 := n581.ne rfl (n579.ne rfl (n578.ne rfl n576.at_))
      refine sv n581.ok rfl (wgT rfl (yl 40 false rfl e582) rfl) rfl (o_pkT (n581.ne rfl n579.at_) n581.at_) (fun an583 n583 => ?_)
      refine sv n583.ok rfl (wgT rfl (yl 40 false rfl (n583.ne rfl e582)) rfl) rfl (o_mv n583.at_) (fun an584 n584 => ?_)
      cases c585 : q
      · have e586 := (n584.at_).trans (congrArg Value.bool (c585))
        have e587 := n584.ne rfl (n583.ne rfl (n581.ne rfl (n579.ne rfl (n578.ne rfl (n576.ne rfl (n575.ne rfl (n574.ne rfl (n558.ne rfl (n556.ne rfl (n554.ne rfl (n552.ne rfl (n550.ne rfl (n428.ne rfl (n427.ne rfl (n425.ne rfl (n424.ne rfl (n423.ne rfl (n422.ne rfl (n420.ne rfl (n408.ne rfl (n407.ne rfl (n405.ne rfl (n403.ne rfl (n402.ne rfl (n401.ne rfl (n400.ne rfl (n398.ne rfl (n397.ne rfl (n396.ne rfl (n395.ne rfl (n393.ne rfl (n392.ne rfl (n391.ne rfl (n390.ne rfl (n388.ne rfl (n387.ne rfl (n386.ne rfl (n385.ne rfl (n383.ne rfl (n382.ne rfl (n381.ne rfl (n380.ne rfl (n378.ne rfl (n377.ne rfl (n376.ne rfl (n372.ne rfl (n371.ne rfl (n370.ne rfl (n369.ne rfl (n368.ne rfl (n353.ne rfl (n352.ne rfl (n350.ne rfl (n347.ne rfl (n346.ne rfl (n345.ne rfl (n344.ne rfl (n343.ne rfl (n328.ne rfl (n327.ne rfl (n325.ne rfl (n322.ne rfl (n321.ne rfl (n320.ne rfl (n319.ne rfl (n318.ne rfl (n303.ne rfl (n302.ne rfl (n300.ne rfl (n297.ne rfl (n296.ne rfl (n295.ne rfl n294.at_))))))))))))))))))))))))))))))))))))))))))))))))))))))))))))))))))))))))
        have e588 := (e587).trans (congrArg Value.bool (c585))
        have e589 := n584.ne rfl (n583.ne rfl (n581.ne rfl e580))
        have e590 := (e589).trans (congrArg Value.bool (c585))
        have e591 := ((n584.ne rfl (n583.ne rfl n581.at_))).trans (congrArg Value.bool (c585))
        have e592 := ((n584.ne rfl n583.at_)).trans (congrArg Value.bool (c585))
        refine sn n584.ok rfl (wgF rfl (yl 45 false rfl e586) rfl) rfl (fun an593 n593 => ?_)
        refine sn n593.ok rfl (wgF rfl (yl 45 false rfl (n593.ne rfl e586)) rfl) rfl (fun an594 n594 => ?_)
        have e595 := n594.ne rfl (n593.ne rfl (n584.ne rfl (n583.ne rfl e582)))
        refine sv n594.ok rfl (wgT rfl (yl 40 false rfl e595) rfl) rfl (o_pkF (n594.ne rfl (n593.ne rfl e586)) ev_const) (fun an596 n596 => ?_)
        refine sv n596.ok rfl (wn _ rfl) rfl (o_pkF (n596.ne rfl e595) n596.at_) (fun an597 n597 => ?_)
        refine wpList_nil ?_
        refine th_n (hK374 _ _ ?_)
        refine wp_cond_false (n597.at_) ?_
        refine wp_skip ?_
        refine th_n (hK373 _ _ ?_)
        refine wp_seq_k (fun K598 hK598 => ?_)
        refine wp_region_lit ?_
        have e599 := n597.ne rfl (n596.ne rfl (n594.ne rfl (n593.ne rfl (n584.ne rfl (n583.ne rfl (n581.ne rfl (n579.ne rfl (n578.ne rfl (n576.ne rfl (n575.ne rfl (n574.ne rfl (n558.ne rfl (n556.ne rfl (n554.ne rfl e553))))))))))))))
        refine sv n597.ok rfl (wn _ rfl) rfl (o_ldR e599 B565 Try.underlying25 rfl (by kernel_rfl)) (fun an600 n600 => ?_)
        have e601 := n600.ne rfl (n597.ne rfl (n596.ne rfl (n594.ne rfl (n593.ne rfl (n584.ne rfl (n583.ne rfl (n581.ne rfl (n579.ne rfl (n578.ne rfl (n576.ne rfl (n575.ne rfl (n574.ne rfl (n558.ne rfl (n556.ne rfl (n554.ne rfl (n552.ne rfl (n550.ne rfl (n428.ne rfl (n427.ne rfl (n425.ne rfl (n424.ne rfl (n423.ne rfl (n422.ne rfl (n420.ne rfl (n408.ne rfl (n407.ne rfl (n405.ne rfl (n403.ne rfl (n402.ne rfl (n401.ne rfl (n400.ne rfl (n398.ne rfl (n397.ne rfl (n396.ne rfl (n395.ne rfl (n393.ne rfl (n392.ne rfl (n391.ne rfl (n390.ne rfl (n388.ne rfl (n387.ne rfl (n386.ne rfl (n385.ne rfl (n383.ne rfl (n382.ne rfl (n381.ne rfl (n380.ne rfl (n378.ne rfl (n377.ne rfl (n376.ne rfl (n372.ne rfl (n371.ne rfl (n370.ne rfl (n369.ne rfl (n368.ne rfl (n353.ne rfl (n352.ne rfl (n350.ne rfl (n347.ne rfl (n346.ne rfl (n345.ne rfl (n344.ne rfl (n343.ne rfl (n328.ne rfl (n327.ne rfl (n325.ne rfl (n322.ne rfl (n321.ne rfl (n320.ne rfl (n319.ne rfl (n318.ne rfl (n303.ne rfl (n302.ne rfl (n300.ne rfl (n297.ne rfl (n296.ne rfl (n295.ne rfl (n294.ne rfl (n293.ne rfl (n278.ne rfl (n277.ne rfl (n275.ne rfl (n272.ne rfl (n271.ne rfl (n270.ne rfl (n269.ne rfl (n268.ne rfl (n253.ne rfl (n252.ne rfl (n250.ne rfl (n247.ne rfl (n208.ne rfl (n207.ne rfl (n206.ne rfl (n205.ne rfl (n190.ne rfl (n189.ne rfl (n188.ne rfl (n129.ne rfl (n109.ne rfl (n91.ne rfl (n80.ne rfl (n79.ne rfl (n68.ne rfl (n67.ne rfl (n57.ne rfl (n56.ne rfl (n53.ne rfl (n52.ne rfl (n51.ne rfl (n49.ne rfl (n48.ne rfl (n47.ne rfl (n45.ne rfl (n44.ne rfl (n43.ne rfl (n42.ne rfl (n41.ne rfl (n34.ne rfl (n33.ne rfl (n23.ne rfl (n21.ne rfl (n13.ne rfl (n11.ne rfl (n8.ne rfl n2.at_)))))))))))))))))))))))))))))))))))))))))))))))))))))))))))))))))))))))))))))))))))))))))))))))))))))))))))))))))))))))))))))
        refine sv n600.ok rfl (wn _ rfl) rfl (o_ldR e601 B562 Try.underlying27 rfl (by kernel_rfl)) (fun an602 n602 => ?_)
        refine sc n602.ok rfl (wn _ rfl) rfl (o_f2 Try.func10 rfl rfl rfl (n602.ne rfl n600.at_) n602.at_) (shas _ _ x y w559 (hkq1.gr A569) (Sm.set L1)) ?_
        rintro _ w604 ⟨rfl, g605⟩
        refine ⟨_, rfl, fun an603 n603 => ?_⟩
        have G606 := G561.trans g605
        have B607 := B562.gr g605
        have B608 := B563.gr g605
        have B609 := B564.gr g605
        have B610 := B565.gr g605
        have B611 := B566.gr g605
        have B612 := B567.gr g605
        have B613 := B568.gr g605
        have A614 := A569.trans g605
        have A615 := A570.trans g605
        have A616 := A571.trans g605
        have A617 := A572.trans g605
        refine sv n603.ok rfl (wn _ rfl) rfl (o_mv n603.at_) (fun an618 n618 => ?_)
        refine sv n618.ok rfl (wn _ rfl) rfl (o_ex n618.at_ rfl) (fun an619 n619 => ?_)
        refine sv n619.ok rfl (wn _ rfl) rfl (o_ex (n619.ne rfl n618.at_) rfl) (fun an620 n620 => ?_)
        refine sv n620.ok rfl (wn _ rfl) rfl (o_as (n620.ne rfl n619.at_)) (fun an621 n621 => ?_)
        refine sv n621.ok rfl (wn _ rfl) rfl (o_as (n621.ne rfl n620.at_)) (fun an622 n622 => ?_)
        refine wpList_nil ?_
        refine th_n (hK598 _ _ ?_)
        refine wp_seq_k (fun K623 hK623 => ?_)
        refine wp_region_lit ?_
        have e624 := n622.ne rfl (n621.ne rfl (n620.ne rfl (n619.ne rfl (n618.ne rfl (n603.ne rfl (n602.ne rfl (n600.ne rfl (n597.ne rfl (n596.ne rfl (n594.ne rfl (n593.ne rfl (n584.ne rfl (n583.ne rfl (n581.ne rfl (n579.ne rfl (n578.ne rfl (n576.ne rfl (n575.ne rfl (n574.ne rfl (n558.ne rfl (n556.ne rfl (n554.ne rfl (n552.ne rfl (n550.ne rfl (n428.ne rfl (n427.ne rfl (n425.ne rfl (n424.ne rfl (n423.ne rfl (n422.ne rfl (n420.ne rfl (n408.ne rfl (n407.ne rfl (n405.ne rfl (n403.ne rfl (n402.ne rfl (n401.ne rfl (n400.ne rfl (n398.ne rfl (n397.ne rfl (n396.ne rfl (n395.ne rfl (n393.ne rfl (n392.ne rfl (n391.ne rfl (n390.ne rfl (n388.ne rfl (n387.ne rfl (n386.ne rfl (n385.ne rfl (n383.ne rfl (n382.ne rfl (n381.ne rfl (n380.ne rfl (n378.ne rfl (n377.ne rfl (n376.ne rfl (n372.ne rfl (n371.ne rfl (n370.ne rfl (n369.ne rfl (n368.ne rfl (n353.ne rfl (n352.ne rfl (n350.ne rfl (n347.ne rfl (n346.ne rfl (n345.ne rfl (n344.ne rfl (n343.ne rfl (n328.ne rfl (n327.ne rfl (n325.ne rfl (n322.ne rfl (n321.ne rfl (n320.ne rfl (n319.ne rfl (n318.ne rfl (n303.ne rfl (n302.ne rfl e301))))))))))))))))))))))))))))))))))))))))))))))))))))))))))))))))))))))))))))))))
        refine sv n622.ok rfl (wn _ rfl) rfl (o_ldR e624 B612 Try.underlying25 rfl (by kernel_rfl)) (fun an625 n625 => ?_)
        have e626 := n625.ne rfl (n622.ne rfl (n621.ne rfl (n620.ne rfl (n619.ne rfl (n618.ne rfl (n603.ne rfl (n602.ne rfl e601)))))))
        refine sv n625.ok rfl (wn _ rfl) rfl (o_ldR e626 B607 Try.underlying27 rfl (by kernel_rfl)) (fun an627 n627 => ?_)
        refine sc n627.ok rfl (wn _ rfl) rfl (o_f2 Try.func10 rfl rfl rfl (n627.ne rfl n625.at_) n627.at_) (shas _ _ x y w604 (hkq3.gr A616) (Sm.set L3)) ?_
        rintro _ w629 ⟨rfl, g630⟩
        refine ⟨_, rfl, fun an628 n628 => ?_⟩
        have G631 := G606.trans g630
        have B632 := B607.gr g630
        have B633 := B608.gr g630
        have B634 := B609.gr g630
        have B635 := B610.gr g630
        have B636 := B611.gr g630
        have B637 := B612.gr g630
        have B638 := B613.gr g630
        have A639 := A614.trans g630
        have A640 := A615.trans g630
        have A641 := A616.trans g630
        have A642 := A617.trans g630
        refine sv n628.ok rfl (wn _ rfl) rfl (o_mv n628.at_) (fun an643 n643 => ?_)
        refine sv n643.ok rfl (wn _ rfl) rfl (o_ex n643.at_ rfl) (fun an644 n644 => ?_)
        refine sv n644.ok rfl (wn _ rfl) rfl (o_ex (n644.ne rfl n643.at_) rfl) (fun an645 n645 => ?_)
        refine sv n645.ok rfl (wn _ rfl) rfl (o_as (n645.ne rfl n644.at_)) (fun an646 n646 => ?_)
        refine sv n646.ok rfl (wn _ rfl) rfl (o_as (n646.ne rfl n645.at_)) (fun an647 n647 => ?_)
        refine wpList_nil ?_
        refine th_n (hK623 _ _ ?_)
        refine wp_seq_k (fun K648 hK648 => ?_)
        refine wp_region_lit ?_
        have e649 := n647.ne rfl (n646.ne rfl (n645.ne rfl (n644.ne rfl (n643.ne rfl (n628.ne rfl (n627.ne rfl (n625.ne rfl n622.at_)))))))
        refine sv n647.ok rfl (wn _ rfl) rfl (o_mv e649) (fun an650 n650 => ?_)
        refine sv n650.ok rfl (wn _ rfl) rfl (o_mv (n650.ne rfl n647.at_)) (fun an651 n651 => ?_)
        refine sv n651.ok rfl (wn _ rfl) rfl (o_eq (n651.ne rfl n650.at_) n651.at_ (decide_eq_true rfl)) (fun an652 n652 => ?_)
        refine sv n652.ok rfl (wn _ rfl) rfl (o_mv n652.at_) (fun an653 n653 => ?_)
        have e654 := n653.ne rfl (n652.ne rfl (n651.ne rfl (n650.ne rfl (n647.ne rfl (n646.ne rfl (n645.ne rfl (n644.ne rfl (n643.ne rfl (n628.ne rfl (n627.ne rfl (n625.ne rfl (n622.ne rfl (n621.ne rfl (n620.ne rfl (n619.ne rfl (n618.ne rfl (n603.ne rfl (n602.ne rfl (n600.ne rfl (n597.ne rfl (n596.ne rfl (n594.ne rfl (n593.ne rfl (n584.ne rfl (n583.ne rfl (n581.ne rfl (n579.ne rfl (n578.ne rfl (n576.ne rfl (n575.ne rfl (n574.ne rfl (n558.ne rfl (n556.ne rfl (n554.ne rfl (n552.ne rfl (n550.ne rfl (n428.ne rfl (n427.ne rfl (n425.ne rfl (n424.ne rfl (n423.ne rfl (n422.ne rfl (n420.ne rfl e413)))))))))))))))))))))))))))))))))))))))))))
        refine sv n653.ok rfl (wgT rfl (yl 3 true rfl n653.at_) rfl) rfl (o_mv e654) (fun an655 n655 => ?_)
        refine sv n655.ok rfl (wgT rfl (yl 3 true rfl (n655.ne rfl n653.at_)) rfl) rfl (o_not n655.at_ rfl) (fun an656 n656 => ?_)
        refine sv n656.ok rfl (wgT rfl (yl 3 true rfl (n656.ne rfl (n655.ne rfl n653.at_))) rfl) rfl (o_mv n656.at_) (fun an657 n657 => ?_)
        refine sn n657.ok rfl (wgF rfl (yl 6 true rfl n657.at_) rfl) rfl (fun an658 n658 => ?_)
        refine sn n658.ok rfl (wgF rfl (yl 6 true rfl (n658.ne rfl n657.at_)) rfl) rfl (fun an659 n659 => ?_)
        have e660 := n659.ne rfl (n658.ne rfl (n657.ne rfl (n656.ne rfl (n655.ne rfl n653.at_))))
        refine sv n659.ok rfl (wgT rfl (yl 3 true rfl e660) rfl) rfl (o_pkT (n659.ne rfl (n658.ne rfl n657.at_)) ev_const) (fun an661 n661 => ?_)
        refine sv n661.ok rfl (wgT rfl (yl 3 true rfl (n661.ne rfl e660)) rfl) rfl (o_mv n661.at_) (fun an662 n662 => ?_)
        refine sn n662.ok rfl (wgF rfl (yl 10 true rfl n662.at_) rfl) rfl (fun an663 n663 => ?_)
        have e664 := n663.ne rfl (n662.ne rfl (n661.ne rfl e660))
        refine sv n663.ok rfl (wgT rfl (yl 3 true rfl e664) rfl) rfl (o_pkT (n663.ne rfl n662.at_) ev_const) (fun an665 n665 => ?_)
        refine sv n665.ok rfl (wn _ rfl) rfl (o_pkT (n665.ne rfl e664) n665.at_) (fun an666 n666 => ?_)
        refine sv n666.ok rfl (wn _ rfl) rfl (o_as n666.at_) (fun an667 n667 => ?_)
        refine wpList_nil ?_
        refine th_n (hK648 _ _ ?_)
        refine wp_ret ?_
        exact ret1 n667.ok rfl (n667.at_) ⟨rfl, G631⟩
      · have e668 := (n584.at_).trans (congrArg Value.bool (c585))
        have e669 := n584.ne rfl (n583.ne rfl (n581.ne rfl (n579.ne rfl (n578.ne rfl (n576.ne rfl (n575.ne rfl (n574.ne rfl (n558.ne rfl (n556.ne rfl (n554.ne rfl (n552.ne rfl (n550.ne rfl (n428.ne rfl (n427.ne rfl (n425.ne rfl (n424.ne rfl (n423.ne rfl (n422.ne rfl (n420.ne rfl (n408.ne rfl (n407.ne rfl (n405.ne rfl (n403.ne rfl (n402.ne rfl (n401.ne rfl (n400.ne rfl (n398.ne rfl (n397.ne rfl (n396.ne rfl (n395.ne rfl (n393.ne rfl (n392.ne rfl (n391.ne rfl (n390.ne rfl (n388.ne rfl (n387.ne rfl (n386.ne rfl (n385.ne rfl (n383.ne rfl (n382.ne rfl (n381.ne rfl (n380.ne rfl (n378.ne rfl (n377.ne rfl (n376.ne rfl (n372.ne rfl (n371.ne rfl (n370.ne rfl (n369.ne rfl (n368.ne rfl (n353.ne rfl (n352.ne rfl (n350.ne rfl (n347.ne rfl (n346.ne rfl (n345.ne rfl (n344.ne rfl (n343.ne rfl (n328.ne rfl (n327.ne rfl (n325.ne rfl (n322.ne rfl (n321.ne rfl (n320.ne rfl (n319.ne rfl (n318.ne rfl (n303.ne rfl (n302.ne rfl (n300.ne rfl (n297.ne rfl (n296.ne rfl (n295.ne rfl n294.at_))))))))))))))))))))))))))))))))))))))))))))))))))))))))))))))))))))))))
        have e670 := (e669).trans (congrArg Value.bool (c585))
        have e671 := n584.ne rfl (n583.ne rfl (n581.ne rfl e580))
        have e672 := (e671).trans (congrArg Value.bool (c585))
        have e673 := ((n584.ne rfl (n583.ne rfl n581.at_))).trans (congrArg Value.bool (c585))
        have e674 := ((n584.ne rfl n583.at_)).trans (congrArg Value.bool (c585))
        have hx := wS_trans (hr.trans c429) (hq.trans c585)
        rw [hp, c409] at hx
        cases hx
  · have e675 := (n408.at_).trans (congrArg Value.bool (c409))
    have e676 := n408.ne rfl (n407.ne rfl (n405.ne rfl (n403.ne rfl (n402.ne rfl (n401.ne rfl (n400.ne rfl (n398.ne rfl (n397.ne rfl (n396.ne rfl (n395.ne rfl (n393.ne rfl (n392.ne rfl (n391.ne rfl (n390.ne rfl (n388.ne rfl (n387.ne rfl (n386.ne rfl (n385.ne rfl (n383.ne rfl (n382.ne rfl (n381.ne rfl (n380.ne rfl (n378.ne rfl (n377.ne rfl (n376.ne rfl (n372.ne rfl (n371.ne rfl (n370.ne rfl (n369.ne rfl (n368.ne rfl (n353.ne rfl (n352.ne rfl (n350.ne rfl (n347.ne rfl (n346.ne rfl (n345.ne rfl (n344.ne rfl (n343.ne rfl (n328.ne rfl (n327.ne rfl (n325.ne rfl (n322.ne rfl (n321.ne rfl (n320.ne rfl (n319.ne rfl (n318.ne rfl (n303.ne rfl (n302.ne rfl (n300.ne rfl (n297.ne rfl (n296.ne rfl (n295.ne rfl (n294.ne rfl (n293.ne rfl (n278.ne rfl (n277.ne rfl (n275.ne rfl (n272.ne rfl (n271.ne rfl (n270.ne rfl n269.at_))))))))))))))))))))))))))))))))))))))))))))))))))))))))))))
    have e677 := (e676).trans (congrArg Value.bool (c409))
    have e678 := ((n408.ne rfl (n407.ne rfl e406))).trans (congrArg Value.bool (c409))
    have e679 := ((n408.ne rfl n407.at_)).trans (congrArg Value.bool (c409))
    have e680 := n408.ne rfl (n407.ne rfl (n405.ne rfl (n403.ne rfl (n402.ne rfl (n401.ne rfl (n400.ne rfl (n398.ne rfl (n397.ne rfl (n396.ne rfl (n395.ne rfl (n393.ne rfl (n392.ne rfl (n391.ne rfl (n390.ne rfl (n388.ne rfl (n387.ne rfl (n386.ne rfl (n385.ne rfl (n383.ne rfl (n382.ne rfl (n381.ne rfl (n380.ne rfl (n378.ne rfl (n377.ne rfl (n376.ne rfl (n372.ne rfl (n371.ne rfl (n370.ne rfl (n369.ne rfl (n368.ne rfl (n353.ne rfl (n352.ne rfl (n350.ne rfl (n347.ne rfl (n346.ne rfl (n345.ne rfl (n344.ne rfl (n343.ne rfl (n328.ne rfl (n327.ne rfl (n325.ne rfl (n322.ne rfl (n321.ne rfl (n320.ne rfl n319.at_))))))))))))))))))))))))))))))))))))))))))))
    have e681 := (e680).trans (congrArg Value.bool (show (p && q) = q by simp [c409]))
    have e682 := n408.ne rfl (n407.ne rfl (n405.ne rfl e404))
    have e683 := (e682).trans (congrArg Value.bool (show (p && q) = q by simp [c409]))
    have e684 := ((n408.ne rfl (n407.ne rfl n405.at_))).trans (congrArg Value.bool (show (p && q) = q by simp [c409]))
    have e685 := n408.ne rfl (n407.ne rfl (n405.ne rfl (n403.ne rfl (n402.ne rfl (n401.ne rfl (n400.ne rfl (n398.ne rfl (n397.ne rfl (n396.ne rfl (n395.ne rfl (n393.ne rfl (n392.ne rfl (n391.ne rfl (n390.ne rfl (n388.ne rfl (n387.ne rfl (n386.ne rfl (n385.ne rfl (n383.ne rfl (n382.ne rfl (n381.ne rfl (n380.ne rfl (n378.ne rfl (n377.ne rfl (n376.ne rfl (n372.ne rfl (n371.ne rfl (n370.ne rfl (n369.ne rfl (n368.ne rfl (n353.ne rfl (n352.ne rfl (n350.ne rfl (n347.ne rfl (n346.ne rfl (n345.ne rfl (n344.ne rfl (n343.ne rfl (n328.ne rfl (n327.ne rfl (n325.ne rfl (n322.ne rfl (n321.ne rfl (n320.ne rfl (n319.ne rfl (n318.ne rfl (n303.ne rfl (n302.ne rfl (n300.ne rfl (n297.ne rfl n296.at_))))))))))))))))))))))))))))))))))))))))))))))))))
    refine sv n408.ok rfl (wgT rfl (yl 25 true rfl e675) rfl) rfl (o_mv e685) (fun an686 n686 => ?_)
    have e687 := n686.ne rfl (n408.ne rfl (n407.ne rfl (n405.ne rfl n403.at_)))
    refine sv n686.ok rfl (wgT rfl (yl 22 false rfl e687) rfl) rfl (o_pkT (n686.ne rfl e675) n686.at_) (fun an688 n688 => ?_)
    refine sv n688.ok rfl (wgT rfl (yl 22 false rfl (n688.ne rfl e687)) rfl) rfl (o_neqB (b := false) (n688.ne rfl (n686.ne rfl e684)) n688.at_ (by simp) Try.underlying4) (fun an689 n689 => ?_)
    refine sv n689.ok rfl (wn _ rfl) rfl (o_pkF (n689.ne rfl (n688.ne rfl e687)) n689.at_) (fun an690 n690 => ?_)
    refine sv n690.ok rfl (wn _ rfl) rfl (o_mv n690.at_) (fun an691 n691 => ?_)
    have e692 := n691.ne rfl (n690.ne rfl (n689.ne rfl (n688.ne rfl (n686.ne rfl (n408.ne rfl (n407.ne rfl (n405.ne rfl (n403.ne rfl (n402.ne rfl (n401.ne rfl (n400.ne rfl (n398.ne rfl (n397.ne rfl (n396.ne rfl (n395.ne rfl (n393.ne rfl (n392.ne rfl (n391.ne rfl (n390.ne rfl (n388.ne rfl (n387.ne rfl (n386.ne rfl (n385.ne rfl (n383.ne rfl (n382.ne rfl (n381.ne rfl (n380.ne rfl (n378.ne rfl (n377.ne rfl (n376.ne rfl (n372.ne rfl (n371.ne rfl (n370.ne rfl (n369.ne rfl (n368.ne rfl (n353.ne rfl (n352.ne rfl (n350.ne rfl (n347.ne rfl n346.at_)))))))))))))))))))))))))))))))))))))))
    refine sv n691.ok rfl (wgT rfl (yl 30 false rfl n691.at_) rfl) rfl (o_mv e692) (fun an693 n693 => ?_)
    refine sv n693.ok rfl (wgT rfl (yl 30 false rfl (n693.ne rfl n691.at_)) rfl) rfl (o_mv n693.at_) (fun an694 n694 => ?_)
    cases c695 : r
    · have e696 := (n694.at_).trans (congrArg Value.bool (c695))
      have e697 := n694.ne rfl (n693.ne rfl (n691.ne rfl (n690.ne rfl (n689.ne rfl (n688.ne rfl (n686.ne rfl (n408.ne rfl (n407.ne rfl (n405.ne rfl (n403.ne rfl (n402.ne rfl (n401.ne rfl (n400.ne rfl (n398.ne rfl (n397.ne rfl (n396.ne rfl (n395.ne rfl (n393.ne rfl (n392.ne rfl (n391.ne rfl (n390.ne rfl (n388.ne rfl (n387.ne rfl (n386.ne rfl (n385.ne rfl (n383.ne rfl (n382.ne rfl (n381.ne rfl (n380.ne rfl (n378.ne rfl (n377.ne rfl (n376.ne rfl (n372.ne rfl (n371.ne rfl (n370.ne rfl (n369.ne rfl (n368.ne rfl (n353.ne rfl (n352.ne rfl (n350.ne rfl (n347.ne rfl (n346.ne rfl (n345.ne rfl n344.at_)))))))))))))))))))))))))))))))))))))))))))
      have e698 := (e697).trans (congrArg Value.bool (c695))
      have e699 := ((n694.ne rfl (n693.ne rfl e692))).trans (congrArg Value.bool (c695))
      have e700 := ((n694.ne rfl n693.at_)).trans (congrArg Value.bool (c695))
      refine sn n694.ok rfl (wgF rfl (yl 32 false rfl e696) rfl) rfl (fun an701 n701 => ?_)
      have e702 := n701.ne rfl (n694.ne rfl (n693.ne rfl n691.at_))
      refine sv n701.ok rfl (wgT rfl (yl 30 false rfl e702) rfl) rfl (o_pkF (n701.ne rfl e696) ev_const) (fun an703 n703 => ?_)
      have e704 := n703.ne rfl (n701.ne rfl (n694.ne rfl (n693.ne rfl (n691.ne rfl (n690.ne rfl (n689.ne rfl (n688.ne rfl (n686.ne rfl (n408.ne rfl (n407.ne rfl (n405.ne rfl (n403.ne rfl (n402.ne rfl (n401.ne rfl (n400.ne rfl (n398.ne rfl (n397.ne rfl (n396.ne rfl (n395.ne rfl (n393.ne rfl (n392.ne rfl (n391.ne rfl (n390.ne rfl (n388.ne rfl (n387.ne rfl (n386.ne rfl (n385.ne rfl (n383.ne rfl (n382.ne rfl (n381.ne rfl (n380.ne rfl (n378.ne rfl (n377.ne rfl (n376.ne rfl (n372.ne rfl (n371.ne rfl (n370.ne rfl (n369.ne rfl (n368.ne rfl (n353.ne rfl (n352.ne rfl e351)))))))))))))))))))))))))))))))))))))))))
      refine sv n703.ok rfl (wgT rfl (yl 30 false rfl (n703.ne rfl e702)) rfl) rfl (o_ldR e704 B360 Try.underlying25 rfl (by kernel_rfl)) (fun an705 n705 => ?_)
      have e706 := n705.ne rfl (n703.ne rfl (n701.ne rfl (n694.ne rfl (n693.ne rfl (n691.ne rfl (n690.ne rfl (n689.ne rfl (n688.ne rfl (n686.ne rfl (n408.ne rfl (n407.ne rfl (n405.ne rfl (n403.ne rfl (n402.ne rfl (n401.ne rfl (n400.ne rfl (n398.ne rfl (n397.ne rfl (n396.ne rfl (n395.ne rfl (n393.ne rfl (n392.ne rfl (n391.ne rfl (n390.ne rfl (n388.ne rfl (n387.ne rfl (n386.ne rfl (n385.ne rfl (n383.ne rfl (n382.ne rfl (n381.ne rfl (n380.ne rfl (n378.ne rfl (n377.ne rfl (n376.ne rfl (n372.ne rfl (n371.ne rfl (n370.ne rfl (n369.ne rfl (n368.ne rfl (n353.ne rfl (n352.ne rfl (n350.ne rfl e349)))))))))))))))))))))))))))))))))))))))))))
      refine sv n705.ok rfl (wgT rfl (yl 30 false rfl (n705.ne rfl (n703.ne rfl e702))) rfl) rfl (o_ldR e706 B361 Try.underlying25 rfl (by kernel_rfl)) (fun an707 n707 => ?_)
      have e708 := n707.ne rfl (n705.ne rfl (n703.ne rfl e702))
      refine sc n707.ok rfl (wgT rfl (yl 30 false rfl e708) rfl) rfl (o_f2 Try.func17 rfl rfl rfl (n707.ne rfl n705.at_) n707.at_) (ssameB (b := false) _ _ _ _ w354 (hkq1.gr A364) (hkq2.gr A365) (Sm.set L1) (by simp [hr, ht, c409, c695])) ?_
      rintro _ w710 ⟨rfl, g711⟩
      refine ⟨_, rfl, fun an709 n709 => ?_⟩
      have G712 := G356.trans g711
      have B713 := B357.gr g711
      have B714 := B358.gr g711
      have B715 := B359.gr g711
      have B716 := B360.gr g711
      have B717 := B361.gr g711
      have B718 := B362.gr g711
      have B719 := B363.gr g711
      have A720 := A364.trans g711
      have A721 := A365.trans g711
      have A722 := A366.trans g711
      have A723 := A367.trans g711
      have e724 := n709.ne rfl (n707.ne rfl (n705.ne rfl n703.at_))
      refine sv n709.ok rfl (wgT rfl (yl 30 false rfl (n709.ne rfl e708)) rfl) rfl (o_neqB (b := false) e724 n709.at_ (by simp) Try.underlying4) (fun an725 n725 => ?_)
      refine sv n725.ok rfl (wn _ rfl) rfl (o_pkF (n725.ne rfl (n709.ne rfl e708)) n725.at_) (fun an726 n726 => ?_)
      refine sv n726.ok rfl (wn _ rfl) rfl (o_mv n726.at_) (fun an727 n727 => ?_)
      have e728 := n727.ne rfl (n726.ne rfl (n725.ne rfl (n709.ne rfl (n707.ne rfl (n705.ne rfl (n703.ne rfl (n701.ne rfl e699)))))))
      refine sv n727.ok rfl (wgT rfl (yl 40 false rfl n727.at_) rfl) rfl (o_mv e728) (fun an729 n729 => ?_)
      refine sv n729.ok rfl (wgT rfl (yl 40 false rfl (n729.ne rfl n727.at_)) rfl) rfl (o_mv n729.at_) (fun an730 n730 => ?_)
      refine sn n730.ok rfl (wgF rfl (yl 42 false rfl n730.at_) rfl) rfl (fun an731 n731 => ?_)
      have e732 := n731.ne rfl (n730.ne rfl (n729.ne rfl n727.at_))
      refine sv n731.ok rfl (wgT rfl (yl 40 false rfl e732) rfl) rfl (o_pkF (n731.ne rfl n730.at_) ev_const) (fun an733 n733 => ?_)
      refine sv n733.ok rfl (wgT rfl (yl 40 false rfl (n733.ne rfl e732)) rfl) rfl (o_mv n733.at_) (fun an734 n734 => ?_)
      refine sn n734.ok rfl (wgF rfl (yl 45 false rfl n734.at_) rfl) rfl (fun an735 n735 => ?_)
      refine sn n735.ok rfl (wgF rfl (yl 45 false rfl (n735.ne rfl n734.at_)) rfl) rfl (fun an736 n736 => ?_)
      have e737 := n736.ne rfl (n735.ne rfl (n734.ne rfl (n733.ne rfl e732)))
      refine sv n736.ok rfl (wgT rfl (yl 40 false rfl e737) rfl) rfl (o_pkF (n736.ne rfl (n735.ne rfl n734.at_)) ev_const) (fun an738 n738 => ?_)
      refine sv n738.ok rfl (wn _ rfl) rfl (o_pkF (n738.ne rfl e737) n738.at_) (fun an739 n739 => ?_)
      refine wpList_nil ?_
      refine th_n (hK374 _ _ ?_)
      refine wp_cond_false (n739.at_) ?_
      refine wp_skip ?_
      refine th_n (hK373 _ _ ?_)
      refine wp_seq_k (fun K740 hK740 => ?_)
      refine wp_region_lit ?_
      have e741 := n739.ne rfl (n738.ne rfl (n736.ne rfl (n735.ne rfl (n734.ne rfl (n733.ne rfl (n731.ne rfl (n730.ne rfl (n729.ne rfl (n727.ne rfl (n726.ne rfl (n725.ne rfl (n709.ne rfl (n707.ne rfl (n705.ne rfl e704))))))))))))))
      refine sv n739.ok rfl (wn _ rfl) rfl (o_ldR e741 B716 Try.underlying25 rfl (by kernel_rfl)) (fun an742 n742 => ?_)
      have e743 := n742.ne rfl (n739.ne rfl (n738.ne rfl (n736.ne rfl (n735.ne rfl (n734.ne rfl (n733.ne rfl (n731.ne rfl (n730.ne rfl (n729.ne rfl (n727.ne rfl (n726.ne rfl (n725.ne rfl (n709.ne rfl (n707.ne rfl (n705.ne rfl (n703.ne rfl (n701.ne rfl (n694.ne rfl (n693.ne rfl (n691.ne rfl (n690.ne rfl (n689.ne rfl (n688.ne rfl (n686.ne rfl (n408.ne rfl (n407.ne rfl (n405.ne rfl (n403.ne rfl (n402.ne rfl (n401.ne rfl (n400.ne rfl (n398.ne rfl (n397.ne rfl (n396.ne rfl (n395.ne rfl (n393.ne rfl (n392.ne rfl (n391.ne rfl (n390.ne rfl (n388.ne rfl (n387.ne rfl (n386.ne rfl (n385.ne rfl (n383.ne rfl (n382.ne rfl (n381.ne rfl (n380.ne rfl (n378.ne rfl (n377.ne rfl (n376.ne rfl (n372.ne rfl (n371.ne rfl (n370.ne rfl (n369.ne rfl (n368.ne rfl (n353.ne rfl (n352.ne rfl (n350.ne rfl (n347.ne rfl (n346.ne rfl (n345.ne rfl (n344.ne rfl (n343.ne rfl (n328.ne rfl (n327.ne rfl (n325.ne rfl (n322.ne rfl (n321.ne rfl (n320.ne rfl (n319.ne rfl (n318.ne rfl (n303.ne rfl (n302.ne rfl (n300.ne rfl (n297.ne rfl (n296.ne rfl (n295.ne rfl (n294.ne rfl (n293.ne rfl (n278.ne rfl (n277.ne rfl (n275.ne rfl (n272.ne rfl (n271.ne rfl (n270.ne rfl (n269.ne rfl (n268.ne rfl (n253.ne rfl (n252.ne rfl (n250.ne rfl (n247.ne rfl (n208.ne rfl (n207.ne rfl (n206.ne rfl (n205.ne rfl (n190.ne rfl (n189.ne rfl (n188.ne rfl (n129.ne rfl (n109.ne rfl (n91.ne rfl (n80.ne rfl (n79.ne rfl (n68.ne rfl (n67.ne rfl (n57.ne rfl (n56.ne rfl (n53.ne rfl (n52.ne rfl (n51.ne rfl (n49.ne rfl (n48.ne rfl (n47.ne rfl (n45.ne rfl (n44.ne rfl (n43.ne rfl (n42.ne rfl (n41.ne rfl (n34.ne rfl (n33.ne rfl (n23.ne rfl (n21.ne rfl (n13.ne rfl (n11.ne rfl (n8.ne rfl n2.at_)))))))))))))))))))))))))))))))))))))))))))))))))))))))))))))))))))))))))))))))))))))))))))))))))))))))))))))))))))))))))))))
      refine sv n742.ok rfl (wn _ rfl) rfl (o_ldR e743 B713 Try.underlying27 rfl (by kernel_rfl)) (fun an744 n744 => ?_)
      refine sc n744.ok rfl (wn _ rfl) rfl (o_f2 Try.func10 rfl rfl rfl (n744.ne rfl n742.at_) n744.at_) (shas _ _ x y w710 (hkq1.gr A720) (Sm.set L1)) ?_
      rintro _ w746 ⟨rfl, g747⟩
      refine ⟨_, rfl, fun an745 n745 => ?_⟩
      have G748 := G712.trans g747
      have B749 := B713.gr g747
      have B750 := B714.gr g747
      have B751 := B715.gr g747
      have B752 := B716.gr g747
      have B753 := B717.gr g747
      have B754 := B718.gr g747
      have B755 := B719.gr g747
      have A756 := A720.trans g747
      have A757 := A721.trans g747
      have A758 := A722.trans g747
      have A759 := A723.trans g747
      refine sv n745.ok rfl (wn _ rfl) rfl (o_mv n745.at_) (fun an760 n760 => ?_)
      refine sv n760.ok rfl (wn _ rfl) rfl (o_ex n760.at_ rfl) (fun an761 n761 => ?_)
      refine sv n761.ok rfl (wn _ rfl) rfl (o_ex (n761.ne rfl n760.at_) rfl) (fun an762 n762 => ?_)
      refine sv n762.ok rfl (wn _ rfl) rfl (o_as (n762.ne rfl n761.at_)) (fun an763 n763 => ?_)
      refine sv n763.ok rfl (wn _ rfl) rfl (o_as (n763.ne rfl n762.at_)) (fun an764 n764 => ?_)
      refine wpList_nil ?_
      refine th_n (hK740 _ _ ?_)
      refine wp_seq_k (fun K765 hK765 => ?_)
      refine wp_region_lit ?_
      have e766 := n764.ne rfl (n763.ne rfl (n762.ne rfl (n761.ne rfl (n760.ne rfl (n745.ne rfl (n744.ne rfl (n742.ne rfl (n739.ne rfl (n738.ne rfl (n736.ne rfl (n735.ne rfl (n734.ne rfl (n733.ne rfl (n731.ne rfl (n730.ne rfl (n729.ne rfl (n727.ne rfl (n726.ne rfl (n725.ne rfl (n709.ne rfl (n707.ne rfl (n705.ne rfl (n703.ne rfl (n701.ne rfl (n694.ne rfl (n693.ne rfl (n691.ne rfl (n690.ne rfl (n689.ne rfl (n688.ne rfl (n686.ne rfl (n408.ne rfl (n407.ne rfl (n405.ne rfl (n403.ne rfl (n402.ne rfl (n401.ne rfl (n400.ne rfl (n398.ne rfl (n397.ne rfl (n396.ne rfl (n395.ne rfl (n393.ne rfl (n392.ne rfl (n391.ne rfl (n390.ne rfl (n388.ne rfl (n387.ne rfl (n386.ne rfl (n385.ne rfl (n383.ne rfl (n382.ne rfl (n381.ne rfl (n380.ne rfl (n378.ne rfl (n377.ne rfl (n376.ne rfl (n372.ne rfl (n371.ne rfl (n370.ne rfl (n369.ne rfl (n368.ne rfl (n353.ne rfl (n352.ne rfl (n350.ne rfl (n347.ne rfl (n346.ne rfl (n345.ne rfl (n344.ne rfl (n343.ne rfl (n328.ne rfl (n327.ne rfl (n325.ne rfl (n322.ne rfl (n321.ne rfl (n320.ne rfl (n319.ne rfl (n318.ne rfl (n303.ne rfl (n302.ne rfl e301))))))))))))))))))))))))))))))))))))))))))))))))))))))))))))))))))))))))))))))))
      refine sv n764.ok rfl (wn _ rfl) rfl (o_ldR e766 B754 Try.underlying25 rfl (by kernel_rfl)) (fun an767 n767 => ?_)
      have e768 := n767.ne rfl (n764.ne rfl (n763.ne rfl (n762.ne rfl (n761.ne rfl (n760.ne rfl (n745.ne rfl (n744.ne rfl e743)))))))
      refine sv n767.ok rfl (wn _ rfl) rfl (o_ldR e768 B749 Try.underlying27 rfl (by kernel_rfl)) (fun an769 n769 => ?_)
      refine sc n769.ok rfl (wn _ rfl) rfl (o_f2 Try.func10 rfl rfl rfl (n769.ne rfl n767.at_) n769.at_) (shas _ _ x y w746 (hkq3.gr A758) (Sm.set L3)) ?_
      rintro _ w771 ⟨rfl, g772⟩
      refine ⟨_, rfl, fun an770 n770 => ?_⟩
      have G773 := G748.trans g772
      have B774 := B749.gr g772
      have B775 := B750.gr g772
      have B776 := B751.gr g772
      have B777 := B752.gr g772
      have B778 := B753.gr g772
      have B779 := B754.gr g772
      have B780 := B755.gr g772
      have A781 := A756.trans g772
      have A782 := A757.trans g772
      have A783 := A758.trans g772
      have A784 := A759.trans g772
      refine sv n770.ok rfl (wn _ rfl) rfl (o_mv n770.at_) (fun an785 n785 => ?_)
      refine sv n785.ok rfl (wn _ rfl) rfl (o_ex n785.at_ rfl) (fun an786 n786 => ?_)
      refine sv n786.ok rfl (wn _ rfl) rfl (o_ex (n786.ne rfl n785.at_) rfl) (fun an787 n787 => ?_)
      refine sv n787.ok rfl (wn _ rfl) rfl (o_as (n787.ne rfl n786.at_)) (fun an788 n788 => ?_)
      refine sv n788.ok rfl (wn _ rfl) rfl (o_as (n788.ne rfl n787.at_)) (fun an789 n789 => ?_)
      refine wpList_nil ?_
      refine th_n (hK765 _ _ ?_)
      refine wp_seq_k (fun K790 hK790 => ?_)
      refine wp_region_lit ?_
      have e791 := n789.ne rfl (n788.ne rfl (n787.ne rfl (n786.ne rfl (n785.ne rfl (n770.ne rfl (n769.ne rfl (n767.ne rfl n764.at_)))))))
      refine sv n789.ok rfl (wn _ rfl) rfl (o_mv e791) (fun an792 n792 => ?_)
      refine sv n792.ok rfl (wn _ rfl) rfl (o_mv (n792.ne rfl n789.at_)) (fun an793 n793 => ?_)
      refine sv n793.ok rfl (wn _ rfl) rfl (o_eq (n793.ne rfl n792.at_) n793.at_ (decide_eq_true rfl)) (fun an794 n794 => ?_)
      refine sv n794.ok rfl (wn _ rfl) rfl (o_mv n794.at_) (fun an795 n795 => ?_)
      have e796 := n795.ne rfl (n794.ne rfl (n793.ne rfl (n792.ne rfl (n789.ne rfl (n788.ne rfl (n787.ne rfl (n786.ne rfl (n785.ne rfl (n770.ne rfl (n769.ne rfl (n767.ne rfl (n764.ne rfl (n763.ne rfl (n762.ne rfl (n761.ne rfl (n760.ne rfl (n745.ne rfl (n744.ne rfl (n742.ne rfl (n739.ne rfl (n738.ne rfl (n736.ne rfl (n735.ne rfl (n734.ne rfl (n733.ne rfl (n731.ne rfl (n730.ne rfl (n729.ne rfl (n727.ne rfl (n726.ne rfl (n725.ne rfl (n709.ne rfl (n707.ne rfl (n705.ne rfl (n703.ne rfl (n701.ne rfl (n694.ne rfl (n693.ne rfl (n691.ne rfl (n690.ne rfl (n689.ne rfl (n688.ne rfl (n686.ne rfl e678)))))))))))))))))))))))))))))))))))))))))))
      refine sv n795.ok rfl (wgT rfl (yl 3 true rfl n795.at_) rfl) rfl (o_mv e796) (fun an797 n797 => ?_)
      refine sv n797.ok rfl (wgT rfl (yl 3 true rfl (n797.ne rfl n795.at_)) rfl) rfl (o_not n797.at_ rfl) (fun an798 n798 => ?_)
      refine sv n798.ok rfl (wgT rfl (yl 3 true rfl (n798.ne rfl (n797.ne rfl n795.at_))) rfl) rfl (o_mv n798.at_) (fun an799 n799 => ?_)
      have e800 := n799.ne rfl (n798.ne rfl (n797.ne rfl (n795.ne rfl (n794.ne rfl (n793.ne rfl (n792.ne rfl (n789.ne rfl (n788.ne rfl (n787.ne rfl (n786.ne rfl (n785.ne rfl (n770.ne rfl (n769.ne rfl (n767.ne rfl (n764.ne rfl n763.at_)))))))))))))))
      refine sv n799.ok rfl (wgT rfl (yl 6 false rfl n799.at_) rfl) rfl (o_mv e800) (fun an801 n801 => ?_)
      refine sv n801.ok rfl (wgT rfl (yl 6 false rfl (n801.ne rfl n799.at_)) rfl) rfl (o_notI n801.at_) (fun an802 n802 => ?_)
      have e803 := n802.ne rfl (n801.ne rfl (n799.ne rfl (n798.ne rfl (n797.ne rfl n795.at_))))
      refine sv n802.ok rfl (wgT rfl (yl 3 true rfl e803) rfl) rfl (o_pkF (n802.ne rfl (n801.ne rfl n799.at_)) n802.at_) (fun an804 n804 => ?_)
      refine sv n804.ok rfl (wgT rfl (yl 3 true rfl (n804.ne rfl e803)) rfl) rfl (o_mv n804.at_) (fun an805 n805 => ?_)
      cases c806 : (!(hasD (setD L1) x y))
      · have e807 := (n805.at_).trans (congrArg Value.bool (c806))
        have e808 := ((n805.ne rfl (n804.ne rfl n802.at_))).trans (congrArg Value.bool (c806))
        have e809 := ((n805.ne rfl n804.at_)).trans (congrArg Value.bool (c806))
        have e810 := n805.ne rfl (n804.ne rfl (n802.ne rfl (n801.ne rfl (n799.ne rfl (n798.ne rfl (n797.ne rfl (n795.ne rfl (n794.ne rfl (n793.ne rfl (n792.ne rfl (n789.ne rfl n788.at_)))))))))))
        refine sv n805.ok rfl (wgT rfl (yl 10 false rfl e807) rfl) rfl (o_mv e810) (fun an811 n811 => ?_)
        have e812 := n811.ne rfl (n805.ne rfl (n804.ne rfl e803))
        refine sv n811.ok rfl (wgT rfl (yl 3 true rfl e812) rfl) rfl (o_pkF (n811.ne rfl e807) n811.at_) (fun an813 n813 => ?_)
        refine sv n813.ok rfl (wn _ rfl) rfl (o_pkT (n813.ne rfl e812) n813.at_) (fun an814 n814 => ?_)
        refine sv n814.ok rfl (wn _ rfl) rfl (o_as n814.at_) (fun an815 n815 => ?_)
        refine wpList_nil ?_
        refine th_n (hK790 _ _ ?_)
        refine wp_ret ?_
        exact ret1 n815.ok rfl (n815.at_) ⟨congrArg (fun b => Ending.returned (Value.bool b)) (hasD_sub (hp.trans c409) (show hasD (setD L1) x y = true by simpa using c806)), G773⟩
      · have e816 := (n805.at_).trans (congrArg Value.bool (c806))
        have e817 := ((n805.ne rfl (n804.ne rfl n802.at_))).trans (congrArg Value.bool (c806))
        have e818 := ((n805.ne rfl n804.at_)).trans (congrArg Value.bool (c806))
        refine sn n805.ok rfl (wgF rfl (yl 10 true rfl e816) rfl) rfl (fun an819 n819 => ?_)
        have e820 := n819.ne rfl (n805.ne rfl (n804.ne rfl e803))
        refine sv n819.ok rfl (wgT rfl (yl 3 true rfl e820) rfl) rfl (o_pkT (n819.ne rfl e816) ev_const) (fun an821 n821 => ?_)
        refine sv n821.ok rfl (wn _ rfl) rfl (o_pkT (n821.ne rfl e820) n821.at_) (fun an822 n822 => ?_)
        refine sv n822.ok rfl (wn _ rfl) rfl (o_as n822.at_) (fun an823 n823 => ?_)
        refine wpList_nil ?_
        refine th_n (hK790 _ _ ?_)
        refine wp_ret ?_
        exact ret1 n823.ok rfl (n823.at_) ⟨rfl, G773⟩
    · have e824 := (n694.at_).trans (congrArg Value.bool (c695))
      have e825 := n694.ne rfl (n693.ne rfl (n691.ne rfl (n690.ne rfl (n689.ne rfl (n688.ne rfl (n686.ne rfl (n408.ne rfl (n407.ne rfl (n405.ne rfl (n403.ne rfl (n402.ne rfl (n401.ne rfl (n400.ne rfl (n398.ne rfl (n397.ne rfl (n396.ne rfl (n395.ne rfl (n393.ne rfl (n392.ne rfl (n391.ne rfl (n390.ne rfl (n388.ne rfl (n387.ne rfl (n386.ne rfl (n385.ne rfl (n383.ne rfl (n382.ne rfl (n381.ne rfl (n380.ne rfl (n378.ne rfl (n377.ne rfl (n376.ne rfl (n372.ne rfl (n371.ne rfl (n370.ne rfl (n369.ne rfl (n368.ne rfl (n353.ne rfl (n352.ne rfl (n350.ne rfl (n347.ne rfl (n346.ne rfl (n345.ne rfl n344.at_)))))))))))))))))))))))))))))))))))))))))))
      have e826 := (e825).trans (congrArg Value.bool (c695))
      have e827 := ((n694.ne rfl (n693.ne rfl e692))).trans (congrArg Value.bool (c695))
      have e828 := ((n694.ne rfl n693.at_)).trans (congrArg Value.bool (c695))
      have e829 := n694.ne rfl (n693.ne rfl (n691.ne rfl (n690.ne rfl (n689.ne rfl (n688.ne rfl (n686.ne rfl (n408.ne rfl (n407.ne rfl (n405.ne rfl (n403.ne rfl (n402.ne rfl (n401.ne rfl (n400.ne rfl (n398.ne rfl (n397.ne rfl (n396.ne rfl (n395.ne rfl (n393.ne rfl (n392.ne rfl (n391.ne rfl (n390.ne rfl (n388.ne rfl (n387.ne rfl (n386.ne rfl (n385.ne rfl (n383.ne rfl (n382.ne rfl (n381.ne rfl (n380.ne rfl (n378.ne rfl (n377.ne rfl (n376.ne rfl (n372.ne rfl n371.at_)))))))))))))))))))))))))))))))))
      refine sv n694.ok rfl (wgT rfl (yl 32 true rfl e824) rfl) rfl (o_mv e829) (fun an830 n830 => ?_)
      have e831 := n830.ne rfl (n694.ne rfl (n693.ne rfl n691.at_))
      refine sv n830.ok rfl (wgT rfl (yl 30 false rfl e831) rfl) rfl (o_pkT (n830.ne rfl e824) n830.at_) (fun an832 n832 => ?_)
      have e833 := n832.ne rfl (n830.ne rfl (n694.ne rfl (n693.ne rfl (n691.ne rfl (n690.ne rfl (n689.ne rfl (n688.ne rfl (n686.ne rfl (n408.ne rfl (n407.ne rfl (n405.ne rfl (n403.ne rfl (n402.ne rfl (n401.ne rfl (n400.ne rfl (n398.ne rfl (n397.ne rfl (n396.ne rfl (n395.ne rfl (n393.ne rfl (n392.ne rfl (n391.ne rfl (n390.ne rfl (n388.ne rfl (n387.ne rfl (n386.ne rfl (n385.ne rfl (n383.ne rfl (n382.ne rfl (n381.ne rfl (n380.ne rfl (n378.ne rfl (n377.ne rfl (n376.ne rfl (n372.ne rfl (n371.ne rfl (n370.ne rfl (n369.ne rfl (n368.ne rfl (n353.ne rfl (n352.ne rfl e351)))))))))))))))))))))))))))))))))))))))))
      refine sv n832.ok rfl (wgT rfl (yl 30 false rfl (n832.ne rfl e831)) rfl) rfl (o_ldR e833 B360 Try.underlying25 rfl (by kernel_rfl)) (fun an834 n834 => ?_)
      have e835 := n834.ne rfl (n832.ne rfl (n830.ne rfl (n694.ne rfl (n693.ne rfl (n691.ne rfl (n690.ne rfl (n689.ne rfl (n688.ne rfl (n686.ne rfl (n408.ne rfl (n407.ne rfl (n405.ne rfl (n403.ne rfl (n402.ne rfl (n401.ne rfl (n400.ne rfl (n398.ne rfl (n397.ne rfl (n396.ne rfl (n395.ne rfl (n393.ne rfl (n392.ne rfl (n391.ne rfl (n390.ne rfl (n388.ne rfl (n387.ne rfl (n386.ne rfl (n385.ne rfl (n383.ne rfl (n382.ne rfl (n381.ne rfl (n380.ne rfl (n378.ne rfl (n377.ne rfl (n376.ne rfl (n372.ne rfl (n371.ne rfl (n370.ne rfl (n369.ne rfl (n368.ne rfl (n353.ne rfl (n352.ne rfl (n350.ne rfl e349)))))))))))))))))))))))))))))))))))))))))))
      refine sv n834.ok rfl (wgT rfl (yl 30 false rfl (n834.ne rfl (n832.ne rfl e831))) rfl) rfl (o_ldR e835 B361 Try.underlying25 rfl (by kernel_rfl)) (fun an836 n836 => ?_)
      have e837 := n836.ne rfl (n834.ne rfl (n832.ne rfl e831))
      refine sc n836.ok rfl (wgT rfl (yl 30 false rfl e837) rfl) rfl (o_f2 Try.func17 rfl rfl rfl (n836.ne rfl n834.at_) n836.at_) (ssameB (b := t) _ _ _ _ w354 (hkq1.gr A364) (hkq2.gr A365) (Sm.set L1) (by simp [hr, ht, c409, c695])) ?_
      rintro _ w839 ⟨rfl, g840⟩
      refine ⟨_, rfl, fun an838 n838 => ?_⟩
      have G841 := G356.trans g840
      have B842 := B357.gr g840
      have B843 := B358.gr g840
      have B844 := B359.gr g840
      have B845 := B360.gr g840
      have B846 := B361.gr g840
      have B847 := B362.gr g840
      have B848 := B363.gr g840
      have A849 := A364.trans g840
      have A850 := A365.trans g840
      have A851 := A366.trans g840
      have A852 := A367.trans g840
      have e853 := n838.ne rfl (n836.ne rfl (n834.ne rfl n832.at_))
      refine sv n838.ok rfl (wgT rfl (yl 30 false rfl (n838.ne rfl e837)) rfl) rfl (o_neqB (b := false) e853 n838.at_ (by simp) Try.underlying4) (fun an854 n854 => ?_)
      refine sv n854.ok rfl (wn _ rfl) rfl (o_pkF (n854.ne rfl (n838.ne rfl e837)) n854.at_) (fun an855 n855 => ?_)
      refine sv n855.ok rfl (wn _ rfl) rfl (o_mv n855.at_) (fun an856 n856 => ?_)
      have e857 := n856.ne rfl (n855.ne rfl (n854.ne rfl (n838.ne rfl (n836.ne rfl (n834.ne rfl (n832.ne rfl (n830.ne rfl e827)))))))
      refine sv n856.ok rfl (wgT rfl (yl 40 false rfl n856.at_) rfl) rfl (o_mv e857) (fun an858 n858 => ?_)
      refine sv n858.ok rfl (wgT rfl (yl 40 false rfl (n858.ne rfl n856.at_)) rfl) rfl (o_mv n858.at_) (fun an859 n859 => ?_)
      have e860 := n859.ne rfl (n858.ne rfl (n856.ne rfl (n855.ne rfl (n854.ne rfl (n838.ne rfl (n836.ne rfl (n834.ne rfl (n832.ne rfl (n830.ne rfl (n694.ne rfl (n693.ne rfl (n691.ne rfl (n690.ne rfl (n689.ne rfl (n688.ne rfl (n686.ne rfl e685))))))))))))))))
      refine sv n859.ok rfl (wgT rfl (yl 42 true rfl n859.at_) rfl) rfl (o_mv e860) (fun an861 n861 => ?_)
      have e862 := n861.ne rfl (n859.ne rfl (n858.ne rfl n856.at_))
      refine sv n861.ok rfl (wgT rfl (yl 40 false rfl e862) rfl) rfl (o_pkT (n861.ne rfl n859.at_) n861.at_) (fun an863 n863 => ?_)
      refine sv n863.ok rfl (wgT rfl (yl 40 false rfl (n863.ne rfl e862)) rfl) rfl (o_mv n863.at_) (fun an864 n864 => ?_)
      cases c865 : q
      · have e866 := (n864.at_).trans (congrArg Value.bool (c865))
        have e867 := n864.ne rfl (n863.ne rfl (n861.ne rfl (n859.ne rfl (n858.ne rfl (n856.ne rfl (n855.ne rfl (n854.ne rfl (n838.ne rfl (n836.ne rfl (n834.ne rfl (n832.ne rfl (n830.ne rfl (n694.ne rfl (n693.ne rfl (n691.ne rfl (n690.ne rfl (n689.ne rfl (n688.ne rfl (n686.ne rfl (n408.ne rfl (n407.ne rfl (n405.ne rfl (n403.ne rfl (n402.ne rfl (n401.ne rfl (n400.ne rfl (n398.ne rfl (n397.ne rfl (n396.ne rfl (n395.ne rfl (n393.ne rfl (n392.ne rfl (n391.ne rfl (n390.ne rfl (n388.ne rfl (n387.ne rfl (n386.ne rfl (n385.ne rfl (n383.ne rfl (n382.ne rfl (n381.ne rfl (n380.ne rfl (n378.ne rfl (n377.ne rfl (n376.ne rfl (n372.ne rfl (n371.ne rfl (n370.ne rfl (n369.ne rfl (n368.ne rfl (n353.ne rfl (n352.ne rfl (n350.ne rfl (n347.ne rfl (n346.ne rfl (n345.ne rfl (n344.ne rfl (n343.ne rfl (n328.ne rfl (n327.ne rfl (n325.ne rfl (n322.ne rfl (n321.ne rfl (n320.ne rfl (n319.ne rfl (n318.ne rfl (n303.ne rfl (n302.ne rfl (n300.ne rfl (n297.ne rfl (n296.ne rfl (n295.ne rfl n294.at_))))))))))))))))))))))))))))))))))))))))))))))))))))))))))))))))))))))))
        have e868 := (e867).trans (congrArg Value.bool (c865))
        have e869 := n864.ne rfl (n863.ne rfl (n861.ne rfl e860))
        have e870 := (e869).trans (congrArg Value.bool (c865))
        have e871 := n864.ne rfl (n863.ne rfl (n861.ne rfl (n859.ne rfl (n858.ne rfl (n856.ne rfl (n855.ne rfl (n854.ne rfl (n838.ne rfl (n836.ne rfl (n834.ne rfl (n832.ne rfl (n830.ne rfl (n694.ne rfl (n693.ne rfl (n691.ne rfl (n690.ne rfl (n689.ne rfl (n688.ne rfl n686.at_))))))))))))))))))
        have e872 := (e871).trans (congrArg Value.bool (c865))
        have e873 := n864.ne rfl (n863.ne rfl (n861.ne rfl (n859.ne rfl (n858.ne rfl (n856.ne rfl (n855.ne rfl (n854.ne rfl (n838.ne rfl (n836.ne rfl (n834.ne rfl (n832.ne rfl (n830.ne rfl (n694.ne rfl (n693.ne rfl (n691.ne rfl (n690.ne rfl (n689.ne rfl n688.at_)))))))))))))))))
        have e874 := (e873).trans (congrArg Value.bool (c865))
        have e875 := ((n864.ne rfl (n863.ne rfl n861.at_))).trans (congrArg Value.bool (c865))
        have e876 := ((n864.ne rfl n863.at_)).trans (congrArg Value.bool (c865))
        have e877 := n864.ne rfl (n863.ne rfl (n861.ne rfl (n859.ne rfl (n858.ne rfl (n856.ne rfl (n855.ne rfl (n854.ne rfl (n838.ne rfl (n836.ne rfl (n834.ne rfl (n832.ne rfl (n830.ne rfl (n694.ne rfl (n693.ne rfl (n691.ne rfl (n690.ne rfl (n689.ne rfl (n688.ne rfl (n686.ne rfl e681)))))))))))))))))))
        have e878 := (e877).trans (congrArg Value.bool (show q = false by simp [c865]))
        have e879 := n864.ne rfl (n863.ne rfl (n861.ne rfl (n859.ne rfl (n858.ne rfl (n856.ne rfl (n855.ne rfl (n854.ne rfl (n838.ne rfl (n836.ne rfl (n834.ne rfl (n832.ne rfl (n830.ne rfl (n694.ne rfl (n693.ne rfl (n691.ne rfl (n690.ne rfl (n689.ne rfl (n688.ne rfl (n686.ne rfl e683)))))))))))))))))))
        have e880 := (e879).trans (congrArg Value.bool (show q = false by simp [c865]))
        have e881 := n864.ne rfl (n863.ne rfl (n861.ne rfl (n859.ne rfl (n858.ne rfl (n856.ne rfl (n855.ne rfl (n854.ne rfl (n838.ne rfl (n836.ne rfl (n834.ne rfl (n832.ne rfl (n830.ne rfl (n694.ne rfl (n693.ne rfl (n691.ne rfl (n690.ne rfl (n689.ne rfl (n688.ne rfl (n686.ne rfl e684)))))))))))))))))))
        have e882 := (e881).trans (congrArg Value.bool (show q = false by simp [c865]))
        refine sn n864.ok rfl (wgF rfl (yl 45 false rfl e866) rfl) rfl (fun an883 n883 => ?_)
        refine sn n883.ok rfl (wgF rfl (yl 45 false rfl (n883.ne rfl e866)) rfl) rfl (fun an884 n884 => ?_)
        have e885 := n884.ne rfl (n883.ne rfl (n864.ne rfl (n863.ne rfl e862)))
        refine sv n884.ok rfl (wgT rfl (yl 40 false rfl e885) rfl) rfl (o_pkF (n884.ne rfl (n883.ne rfl e866)) ev_const) (fun an886 n886 => ?_)
        refine sv n886.ok rfl (wn _ rfl) rfl (o_pkF (n886.ne rfl e885) n886.at_) (fun an887 n887 => ?_)
        refine wpList_nil ?_
        refine th_n (hK374 _ _ ?_)
        refine wp_cond_false (n887.at_) ?_
        refine wp_skip ?_
        refine th_n (hK373 _ _ ?_)
        refine wp_seq_k (fun K888 hK888 => ?_)
        refine wp_region_lit ?_
        have e889 := n887.ne rfl (n886.ne rfl (n884.ne rfl (n883.ne rfl (n864.ne rfl (n863.ne rfl (n861.ne rfl (n859.ne rfl (n858.ne rfl (n856.ne rfl (n855.ne rfl (n854.ne rfl (n838.ne rfl (n836.ne rfl (n834.ne rfl e833))))))))))))))
        refine sv n887.ok rfl (wn _ rfl) rfl (o_ldR e889 B845 Try.underlying25 rfl (by kernel_rfl)) (fun an890 n890 => ?_)
        have e891 := n890.ne rfl (n887.ne rfl (n886.ne rfl (n884.ne rfl (n883.ne rfl (n864.ne rfl (n863.ne rfl (n861.ne rfl (n859.ne rfl (n858.ne rfl (n856.ne rfl (n855.ne rfl (n854.ne rfl (n838.ne rfl (n836.ne rfl (n834.ne rfl (n832.ne rfl (n830.ne rfl (n694.ne rfl (n693.ne rfl (n691.ne rfl (n690.ne rfl (n689.ne rfl (n688.ne rfl (n686.ne rfl (n408.ne rfl (n407.ne rfl (n405.ne rfl (n403.ne rfl (n402.ne rfl (n401.ne rfl (n400.ne rfl (n398.ne rfl (n397.ne rfl (n396.ne rfl (n395.ne rfl (n393.ne rfl (n392.ne rfl (n391.ne rfl (n390.ne rfl (n388.ne rfl (n387.ne rfl (n386.ne rfl (n385.ne rfl (n383.ne rfl (n382.ne rfl (n381.ne rfl (n380.ne rfl (n378.ne rfl (n377.ne rfl (n376.ne rfl (n372.ne rfl (n371.ne rfl (n370.ne rfl (n369.ne rfl (n368.ne rfl (n353.ne rfl (n352.ne rfl (n350.ne rfl (n347.ne rfl (n346.ne rfl (n345.ne rfl (n344.ne rfl (n343.ne rfl (n328.ne rfl (n327.ne rfl (n325.ne rfl (n322.ne rfl (n321.ne rfl (n320.ne rfl (n319.ne rfl (n318.ne rfl (n303.ne rfl (n302.ne rfl (n300.ne rfl (n297.ne rfl (n296.ne rfl (n295.ne rfl (n294.ne rfl (n293.ne rfl (n278.ne rfl (n277.ne rfl (n275.ne rfl (n272.ne rfl (n271.ne rfl (n270.ne rfl (n269.ne rfl (n268.ne rfl (n253.ne rfl (n252.ne rfl (n250.ne rfl (n247.ne rfl (n208.ne rfl (n207.ne rfl (n206.ne rfl (n205.ne rfl (n190.ne rfl (n189.ne rfl (n188.ne rfl (n129.ne rfl (n109.ne rfl (n91.ne rfl (n80.ne rfl (n79.ne rfl (n68.ne rfl (n67.ne rfl (n57.ne rfl (n56.ne rfl (n53.ne rfl (n52.ne rfl (n51.ne rfl (n49.ne rfl (n48.ne rfl (n47.ne rfl (n45.ne rfl (n44.ne rfl (n43.ne rfl (n42.ne rfl (n41.ne rfl (n34.ne rfl (n33.ne rfl (n23.ne rfl (n21.ne rfl (n13.ne rfl (n11.ne rfl (n8.ne rfl n2.at_)))))))))))))))))))))))))))))))))))))))))))))))))))))))))))))))))))))))))))))))))))))))))))))))))))))))))))))))))))))))))))))
        refine sv n890.ok rfl (wn _ rfl) rfl (o_ldR e891 B842 Try.underlying27 rfl (by kernel_rfl)) (fun an892 n892 => ?_)
        refine sc n892.ok rfl (wn _ rfl) rfl (o_f2 Try.func10 rfl rfl rfl (n892.ne rfl n890.at_) n892.at_) (shas _ _ x y w839 (hkq1.gr A849) (Sm.set L1)) ?_
        rintro _ w894 ⟨rfl, g895⟩
        refine ⟨_, rfl, fun an893 n893 => ?_⟩
        have G896 := G841.trans g895
        have B897 := B842.gr g895
        have B898 := B843.gr g895
        have B899 := B844.gr g895
        have B900 := B845.gr g895
        have B901 := B846.gr g895
        have B902 := B847.gr g895
        have B903 := B848.gr g895
        have A904 := A849.trans g895
        have A905 := A850.trans g895
        have A906 := A851.trans g895
        have A907 := A852.trans g895
        refine sv n893.ok rfl (wn _ rfl) rfl (o_mv n893.at_) (fun an908 n908 => ?_)
        refine sv n908.ok rfl (wn _ rfl) rfl (o_ex n908.at_ rfl) (fun an909 n909 => ?_)
        refine sv n909.ok rfl (wn _ rfl) rfl (o_ex (n909.ne rfl n908.at_) rfl) (fun an910 n910 => ?_)
        refine sv n910.ok rfl (wn _ rfl) rfl (o_as (n910.ne rfl n909.at_)) (fun an911 n911 => ?_)
        refine sv n911.ok rfl (wn _ rfl) rfl (o_as (n911.ne rfl n910.at_)) (fun an912 n912 => ?_)
        refine wpList_nil ?_
        refine th_n (hK888 _ _ ?_)
        refine wp_seq_k (fun K913 hK913 => ?_)
        refine wp_region_lit ?_
        have e914 := n912.ne rfl (n911.ne rfl (n910.ne rfl (n909.ne rfl (n908.ne rfl (n893.ne rfl (n892.ne rfl (n890.ne rfl (n887.ne rfl (n886.ne rfl (n884.ne rfl (n883.ne rfl (n864.ne rfl (n863.ne rfl (n861.ne rfl (n859.ne rfl (n858.ne rfl (n856.ne rfl (n855.ne rfl (n854.ne rfl (n838.ne rfl (n836.ne rfl (n834.ne rfl (n832.ne rfl (n830.ne rfl (n694.ne rfl (n693.ne rfl (n691.ne rfl (n690.ne rfl (n689.ne rfl (n688.ne rfl (n686.ne rfl (n408.ne rfl (n407.ne rfl (n405.ne rfl (n403.ne rfl (n402.ne rfl (n401.ne rfl (n400.ne rfl (n398.ne rfl (n397.ne rfl (n396.ne rfl (n395.ne rfl (n393.ne rfl (n392.ne rfl (n391.ne rfl (n390.ne rfl (n388.ne rfl (n387.ne rfl (n386.ne rfl (n385.ne rfl (n383.ne rfl (n382.ne rfl (n381.ne rfl (n380.ne rfl (n378.ne rfl (n377.ne rfl (n376.ne rfl (n372.ne rfl (n371.ne rfl (n370.ne rfl (n369.ne rfl (n368.ne rfl (n353.ne rfl (n352.ne rfl (n350.ne rfl (n347.ne rfl (n346.ne rfl (n345.ne rfl (n344.ne rfl (n343.ne rfl (n328.ne rfl (n327.ne rfl (n325.ne rfl (n322.ne rfl (n321.ne rfl (n320.ne rfl (n319.ne rfl (n318.ne rfl (n303.ne rfl (n302.ne rfl e301))))))))))))))))))))))))))))))))))))))))))))))))))))))))))))))))))))))))))))))))
        refine sv n912.ok rfl (wn _ rfl) rfl (o_ldR e914 B902 Try.underlying25 rfl (by kernel_rfl)) (fun an915 n915 => ?_)
        have e916 := n915.ne rfl (n912.ne rfl (n911.ne rfl (n910.ne rfl (n909.ne rfl (n908.ne rfl (n893.ne rfl (n892.ne rfl e891)))))))
        refine sv n915.ok rfl (wn _ rfl) rfl (o_ldR e916 B897 Try.underlying27 rfl (by kernel_rfl)) (fun an917 n917 => ?_)
        refine sc n917.ok rfl (wn _ rfl) rfl (o_f2 Try.func10 rfl rfl rfl (n917.ne rfl n915.at_) n917.at_) (shas _ _ x y w894 (hkq3.gr A906) (Sm.set L3)) ?_
        rintro _ w919 ⟨rfl, g920⟩
        refine ⟨_, rfl, fun an918 n918 => ?_⟩
        have G921 := G896.trans g920
        have B922 := B897.gr g920
        have B923 := B898.gr g920
        have B924 := B899.gr g920
        have B925 := B900.gr g920
        have B926 := B901.gr g920
        have B927 := B902.gr g920
        have B928 := B903.gr g920
        have A929 := A904.trans g920
        have A930 := A905.trans g920
        have A931 := A906.trans g920
        have A932 := A907.trans g920
        refine sv n918.ok rfl (wn _ rfl) rfl (o_mv n918.at_) (fun an933 n933 => ?_)
        refine sv n933.ok rfl (wn _ rfl) rfl (o_ex n933.at_ rfl) (fun an934 n934 => ?_)
        refine sv n934.ok rfl (wn _ rfl) rfl (o_ex (n934.ne rfl n933.at_) rfl) (fun an935 n935 => ?_)
        refine sv n935.ok rfl (wn _ rfl) rfl (o_as (n935.ne rfl n934.at_)) (fun an936 n936 => ?_)
        refine sv n936.ok rfl (wn _ rfl) rfl (o_as (n936.ne rfl n935.at_)) (fun an937 n937 => ?_)
        refine wpList_nil ?_
        refine th_n (hK913 _ _ ?_)
        refine wp_seq_k (fun K938 hK938 => ?_)
        refine wp_region_lit ?_
        have e939 := n937.ne rfl (n936.ne rfl (n935.ne rfl (n934.ne rfl (n933.ne rfl (n918.ne rfl (n917.ne rfl (n915.ne rfl n912.at_)))))))
        refine sv n937.ok rfl (wn _ rfl) rfl (o_mv e939) (fun an940 n940 => ?_)
        refine sv n940.ok rfl (wn _ rfl) rfl (o_mv (n940.ne rfl n937.at_)) (fun an941 n941 => ?_)
        refine sv n941.ok rfl (wn _ rfl) rfl (o_eq (n941.ne rfl n940.at_) n941.at_ (decide_eq_true rfl)) (fun an942 n942 => ?_)
        refine sv n942.ok rfl (wn _ rfl) rfl (o_mv n942.at_) (fun an943 n943 => ?_)
        have e944 := n943.ne rfl (n942.ne rfl (n941.ne rfl (n940.ne rfl (n937.ne rfl (n936.ne rfl (n935.ne rfl (n934.ne rfl (n933.ne rfl (n918.ne rfl (n917.ne rfl (n915.ne rfl (n912.ne rfl (n911.ne rfl (n910.ne rfl (n909.ne rfl (n908.ne rfl (n893.ne rfl (n892.ne rfl (n890.ne rfl (n887.ne rfl (n886.ne rfl (n884.ne rfl (n883.ne rfl (n864.ne rfl (n863.ne rfl (n861.ne rfl (n859.ne rfl (n858.ne rfl (n856.ne rfl (n855.ne rfl (n854.ne rfl (n838.ne rfl (n836.ne rfl (n834.ne rfl (n832.ne rfl (n830.ne rfl (n694.ne rfl (n693.ne rfl (n691.ne rfl (n690.ne rfl (n689.ne rfl (n688.ne rfl (n686.ne rfl e678)))))))))))))))))))))))))))))))))))))))))))
        refine sv n943.ok rfl (wgT rfl (yl 3 true rfl n943.at_) rfl) rfl (o_mv e944) (fun an945 n945 => ?_)
        refine sv n945.ok rfl (wgT rfl (yl 3 true rfl (n945.ne rfl n943.at_)) rfl) rfl (o_not n945.at_ rfl) (fun an946 n946 => ?_)
        refine sv n946.ok rfl (wgT rfl (yl 3 true rfl (n946.ne rfl (n945.ne rfl n943.at_))) rfl) rfl (o_mv n946.at_) (fun an947 n947 => ?_)
        have e948 := n947.ne rfl (n946.ne rfl (n945.ne rfl (n943.ne rfl (n942.ne rfl (n941.ne rfl (n940.ne rfl (n937.ne rfl (n936.ne rfl (n935.ne rfl (n934.ne rfl (n933.ne rfl (n918.ne rfl (n917.ne rfl (n915.ne rfl (n912.ne rfl n911.at_)))))))))))))))
        refine sv n947.ok rfl (wgT rfl (yl 6 false rfl n947.at_) rfl) rfl (o_mv e948) (fun an949 n949 => ?_)
        refine sv n949.ok rfl (wgT rfl (yl 6 false rfl (n949.ne rfl n947.at_)) rfl) rfl (o_notI n949.at_) (fun an950 n950 => ?_)
        have e951 := n950.ne rfl (n949.ne rfl (n947.ne rfl (n946.ne rfl (n945.ne rfl n943.at_))))
        refine sv n950.ok rfl (wgT rfl (yl 3 true rfl e951) rfl) rfl (o_pkF (n950.ne rfl (n949.ne rfl n947.at_)) n950.at_) (fun an952 n952 => ?_)
        refine sv n952.ok rfl (wgT rfl (yl 3 true rfl (n952.ne rfl e951)) rfl) rfl (o_mv n952.at_) (fun an953 n953 => ?_)
        cases c954 : (!(hasD (setD L1) x y))
        · have e955 := (n953.at_).trans (congrArg Value.bool (c954))
          have e956 := ((n953.ne rfl (n952.ne rfl n950.at_))).trans (congrArg Value.bool (c954))
          have e957 := ((n953.ne rfl n952.at_)).trans (congrArg Value.bool (c954))
          have e958 := n953.ne rfl (n952.ne rfl (n950.ne rfl (n949.ne rfl (n947.ne rfl (n946.ne rfl (n945.ne rfl (n943.ne rfl (n942.ne rfl (n941.ne rfl (n940.ne rfl (n937.ne rfl n936.at_)))))))))))
          refine sv n953.ok rfl (wgT rfl (yl 10 false rfl e955) rfl) rfl (o_mv e958) (fun an959 n959 => ?_)
          have e960 := n959.ne rfl (n953.ne rfl (n952.ne rfl e951))
          refine sv n959.ok rfl (wgT rfl (yl 3 true rfl e960) rfl) rfl (o_pkF (n959.ne rfl e955) n959.at_) (fun an961 n961 => ?_)
          refine sv n961.ok rfl (wn _ rfl) rfl (o_pkT (n961.ne rfl e960) n961.at_) (fun an962 n962 => ?_)
          refine sv n962.ok rfl (wn _ rfl) rfl (o_as n962.at_) (fun an963 n963 => ?_)
          refine wpList_nil ?_
          refine th_n (hK938 _ _ ?_)
          refine wp_ret ?_
          exact ret1 n963.ok rfl (n963.at_) ⟨congrArg (fun b => Ending.returned (Value.bool b)) (hasD_sub (hp.trans c409) (show hasD (setD L1) x y = true by simpa using c954)), G921⟩
        · have e964 := (n953.at_).trans (congrArg Value.bool (c954))
          have e965 := ((n953.ne rfl (n952.ne rfl n950.at_))).trans (congrArg Value.bool (c954))
          have e966 := ((n953.ne rfl n952.at_)).trans (congrArg Value.bool (c954))
          refine sn n953.ok rfl (wgF rfl (yl 10 true rfl e964) rfl) rfl (fun an967 n967 => ?_)
          have e968 := n967.ne rfl (n953.ne rfl (n952.ne rfl e951))
          refine sv n967.ok rfl (wgT rfl (yl 3 true rfl e968) rfl) rfl (o_pkT (n967.ne rfl e964) ev_const) (fun an969 n969 => ?_)
          refine sv n969.ok rfl (wn _ rfl) rfl (o_pkT (n969.ne rfl e968) n969.at_) (fun an970 n970 => ?_)
          refine sv n970.ok rfl (wn _ rfl) rfl (o_as n970.at_) (fun an971 n971 => ?_)
          refine wpList_nil ?_
          refine th_n (hK938 _ _ ?_)
          refine wp_ret ?_
          exact ret1 n971.ok rfl (n971.at_) ⟨rfl, G921⟩
      · have e972 := (n864.at_).trans (congrArg Value.bool (c865))
        have e973 := n864.ne rfl (n863.ne rfl (n861.ne rfl (n859.ne rfl (n858.ne rfl (n856.ne rfl (n855.ne rfl (n854.ne rfl (n838.ne rfl (n836.ne rfl (n834.ne rfl (n832.ne rfl (n830.ne rfl (n694.ne rfl (n693.ne rfl (n691.ne rfl (n690.ne rfl (n689.ne rfl (n688.ne rfl (n686.ne rfl (n408.ne rfl (n407.ne rfl (n405.ne rfl (n403.ne rfl (n402.ne rfl (n401.ne rfl (n400.ne rfl (n398.ne rfl (n397.ne rfl (n396.ne rfl (n395.ne rfl (n393.ne rfl (n392.ne rfl (n391.ne rfl (n390.ne rfl (n388.ne rfl (n387.ne rfl (n386.ne rfl (n385.ne rfl (n383.ne rfl (n382.ne rfl (n381.ne rfl (n380.ne rfl (n378.ne rfl (n377.ne rfl (n376.ne rfl (n372.ne rfl (n371.ne rfl (n370.ne rfl (n369.ne rfl (n368.ne rfl (n353.ne rfl (n352.ne rfl (n350.ne rfl (n347.ne rfl (n346.ne rfl (n345.ne rfl (n344.ne rfl (n343.ne rfl (n328.ne rfl (n327.ne rfl (n325.ne rfl (n322.ne rfl (n321.ne rfl (n320.ne rfl (n319.ne rfl (n318.ne rfl (n303.ne rfl (n302.ne rfl (n300.ne rfl (n297.ne rfl (n296.ne rfl (n295.ne rfl n294.at_))))))))))))))))))))))))))))))))))))))))))))))))))))))))))))))))))))))))
        have e974 := (e973).trans (congrArg Value.bool (c865))
        have e975 := n864.ne rfl (n863.ne rfl (n861.ne rfl e860))
        have e976 := (e975).trans (congrArg Value.bool (c865))
        have e977 := n864.ne rfl (n863.ne rfl (n861.ne rfl (n859.ne rfl (n858.ne rfl (n856.ne rfl (n855.ne rfl (n854.ne rfl (n838.ne rfl (n836.ne rfl (n834.ne rfl (n832.ne rfl (n830.ne rfl (n694.ne rfl (n693.ne rfl (n691.ne rfl (n690.ne rfl (n689.ne rfl (n688.ne rfl n686.at_))))))))))))))))))
        have e978 := (e977).trans (congrArg Value.bool (c865))
        have e979 := n864.ne rfl (n863.ne rfl (n861.ne rfl (n859.ne rfl (n858.ne rfl (n856.ne rfl (n855.ne rfl (n854.ne rfl (n838.ne rfl (n836.ne rfl (n834.ne rfl (n832.ne rfl (n830.ne rfl (n694.ne rfl (n693.ne rfl (n691.ne rfl (n690.ne rfl (n689.ne rfl n688.at_)))))))))))))))))
        have e980 := (e979).trans (congrArg Value.bool (c865))
        have e981 := ((n864.ne rfl (n863.ne rfl n861.at_))).trans (congrArg Value.bool (c865))
        have e982 := ((n864.ne rfl n863.at_)).trans (congrArg Value.bool (c865))
        have e983 := n864.ne rfl (n863.ne rfl (n861.ne rfl (n859.ne rfl (n858.ne rfl (n856.ne rfl (n855.ne rfl (n854.ne rfl (n838.ne rfl (n836.ne rfl (n834.ne rfl (n832.ne rfl (n830.ne rfl (n694.ne rfl (n693.ne rfl (n691.ne rfl (n690.ne rfl (n689.ne rfl (n688.ne rfl (n686.ne rfl e681)))))))))))))))))))
        have e984 := (e983).trans (congrArg Value.bool (show q = true by simp [c865]))
        have e985 := n864.ne rfl (n863.ne rfl (n861.ne rfl (n859.ne rfl (n858.ne rfl (n856.ne rfl (n855.ne rfl (n854.ne rfl (n838.ne rfl (n836.ne rfl (n834.ne rfl (n832.ne rfl (n830.ne rfl (n694.ne rfl (n693.ne rfl (n691.ne rfl (n690.ne rfl (n689.ne rfl (n688.ne rfl (n686.ne rfl e683)))))))))))))))))))
        have e986 := (e985).trans (congrArg Value.bool (show q = true by simp [c865]))
        have e987 := n864.ne rfl (n863.ne rfl (n861.ne rfl (n859.ne rfl (n858.ne rfl (n856.ne rfl (n855.ne rfl (n854.ne rfl (n838.ne rfl (n836.ne rfl (n834.ne rfl (n832.ne rfl (n830.ne rfl (n694.ne rfl (n693.ne rfl (n691.ne rfl (n690.ne rfl (n689.ne rfl (n688.ne rfl (n686.ne rfl e684)))))))))))))))))))
        have e988 := (e987).trans (congrArg Value.bool (show q = true by simp [c865]))
        have e989 := n864.ne rfl (n863.ne rfl (n861.ne rfl (n859.ne rfl (n858.ne rfl (n856.ne rfl (n855.ne rfl (n854.ne rfl (n838.ne rfl (n836.ne rfl (n834.ne rfl (n832.ne rfl (n830.ne rfl (n694.ne rfl (n693.ne rfl (n691.ne rfl (n690.ne rfl (n689.ne rfl (n688.ne rfl (n686.ne rfl e678)))))))))))))))))))
        refine sv n864.ok rfl (wgT rfl (yl 45 true rfl e972) rfl) rfl (o_mv e989) (fun an990 n990 => ?_)
        refine sv n990.ok rfl (wgT rfl (yl 45 true rfl (n990.ne rfl e972)) rfl) rfl (o_not n990.at_ rfl) (fun an991 n991 => ?_)
        have e992 := n991.ne rfl (n990.ne rfl (n864.ne rfl (n863.ne rfl e862)))
        refine sv n991.ok rfl (wgT rfl (yl 40 false rfl e992) rfl) rfl (o_pkT (n991.ne rfl (n990.ne rfl e972)) n991.at_) (fun an993 n993 => ?_)
        refine sv n993.ok rfl (wn _ rfl) rfl (o_pkF (n993.ne rfl e992) n993.at_) (fun an994 n994 => ?_)
        refine wpList_nil ?_
        refine th_n (hK374 _ _ ?_)
        refine wp_cond_false (n994.at_) ?_
        refine wp_skip ?_
        refine th_n (hK373 _ _ ?_)
        refine wp_seq_k (fun K995 hK995 => ?_)
        refine wp_region_lit ?_
        have e996 := n994.ne rfl (n993.ne rfl (n991.ne rfl (n990.ne rfl (n864.ne rfl (n863.ne rfl (n861.ne rfl (n859.ne rfl (n858.ne rfl (n856.ne rfl (n855.ne rfl (n854.ne rfl (n838.ne rfl (n836.ne rfl (n834.ne rfl e833))))))))))))))
        refine sv n994.ok rfl (wn _ rfl) rfl (o_ldR e996 B845 Try.underlying25 rfl (by kernel_rfl)) (fun an997 n997 => ?_)
        have e998 := n997.ne rfl (n994.ne rfl (n993.ne rfl (n991.ne rfl (n990.ne rfl (n864.ne rfl (n863.ne rfl (n861.ne rfl (n859.ne rfl (n858.ne rfl (n856.ne rfl (n855.ne rfl (n854.ne rfl (n838.ne rfl (n836.ne rfl (n834.ne rfl (n832.ne rfl (n830.ne rfl (n694.ne rfl (n693.ne rfl (n691.ne rfl (n690.ne rfl (n689.ne rfl (n688.ne rfl (n686.ne rfl (n408.ne rfl (n407.ne rfl (n405.ne rfl (n403.ne rfl (n402.ne rfl (n401.ne rfl (n400.ne rfl (n398.ne rfl (n397.ne rfl (n396.ne rfl (n395.ne rfl (n393.ne rfl (n392.ne rfl (n391.ne rfl (n390.ne rfl (n388.ne rfl (n387.ne rfl (n386.ne rfl (n385.ne rfl (n383.ne rfl (n382.ne rfl (n381.ne rfl (n380.ne rfl (n378.ne rfl (n377.ne rfl (n376.ne rfl (n372.ne rfl (n371.ne rfl (n370.ne rfl (n369.ne rfl (n368.ne rfl (n353.ne rfl (n352.ne rfl (n350.ne rfl (n347.ne rfl (n346.ne rfl (n345.ne rfl (n344.ne rfl (n343.ne rfl (n328.ne rfl (n327.ne rfl (n325.ne rfl (n322.ne rfl (n321.ne rfl (n320.ne rfl (n319.ne rfl (n318.ne rfl (n303.ne rfl (n302.ne rfl (n300.ne rfl (n297.ne rfl (n296.ne rfl (n295.ne rfl (n294.ne rfl (n293.ne rfl (n278.ne rfl (n277.ne rfl (n275.ne rfl (n272.ne rfl (n271.ne rfl (n270.ne rfl (n269.ne rfl (n268.ne rfl (n253.ne rfl (n252.ne rfl (n250.ne rfl (n247.ne rfl (n208.ne rfl (n207.ne rfl (n206.ne rfl (n205.ne rfl (n190.ne rfl (n189.ne rfl (n188.ne rfl (n129.ne rfl (n109.ne rfl (n91.ne rfl (n80.ne rfl (n79.ne rfl (n68.ne rfl (n67.ne rfl (n57.ne rfl (n56.ne rfl (n53.ne rfl (n52.ne rfl (n51.ne rfl (n49.ne rfl (n48.ne rfl (n47.ne rfl (n45.ne rfl (n44.ne rfl (n43.ne rfl (n42.ne rfl (n41.ne rfl (n34.ne rfl (n33.ne rfl (n23.ne rfl (n21.ne rfl (n13.ne rfl (n11.ne rfl (n8.ne rfl n2.at_)))))))))))))))))))))))))))))))))))))))))))))))))))))))))))))))))))))))))))))))))))))))))))))))))))))))))))))))))))))))))))))
        refine sv n997.ok rfl (wn _ rfl) rfl (o_ldR e998 B842 Try.underlying27 rfl (by kernel_rfl)) (fun an999 n999 => ?_)
        refine sc n999.ok rfl (wn _ rfl) rfl (o_f2 Try.func10 rfl rfl rfl (n999.ne rfl n997.at_) n999.at_) (shas _ _ x y w839 (hkq1.gr A849) (Sm.set L1)) ?_
        rintro _ w1001 ⟨rfl, g1002⟩
        refine ⟨_, rfl, fun an1000 n1000 => ?_⟩
        have G1003 := G841.trans g1002
        have B1004 := B842.gr g1002
        have B1005 := B843.gr g1002
        have B1006 := B844.gr g1002
        have B1007 := B845.gr g1002
        have B1008 := B846.gr g1002
        have B1009 := B847.gr g1002
        have B1010 := B848.gr g1002
        have A1011 := A849.trans g1002
        have A1012 := A850.trans g1002
        have A1013 := A851.trans g1002
        have A1014 := A852.trans g1002
        refine sv n1000.ok rfl (wn _ rfl) rfl (o_mv n1000.at_) (fun an1015 n1015 => ?_)
        refine sv n1015.ok rfl (wn _ rfl) rfl (o_ex n1015.at_ rfl) (fun an1016 n1016 => ?_)
        refine sv n1016.ok rfl (wn _ rfl) rfl (o_ex (n1016.ne rfl n1015.at_) rfl) (fun an1017 n1017 => ?_)
        refine sv n1017.ok rfl (wn _ rfl) rfl (o_as (n1017.ne rfl n1016.at_)) (fun an1018 n1018 => ?_)
        refine sv n1018.ok rfl (wn _ rfl) rfl (o_as (n1018.ne rfl n1017.at_)) (fun an1019 n1019 => ?_)
        refine wpList_nil ?_
        refine th_n (hK995 _ _ ?_)
        refine wp_seq_k (fun K1020 hK1020 => ?_)
        refine wp_region_lit ?_
        have e1021 := n1019.ne rfl (n1018.ne rfl (n1017.ne rfl (n1016.ne rfl (n1015.ne rfl (n1000.ne rfl (n999.ne rfl (n997.ne rfl (n994.ne rfl (n993.ne rfl (n991.ne rfl (n990.ne rfl (n864.ne rfl (n863.ne rfl (n861.ne rfl (n859.ne rfl (n858.ne rfl (n856.ne rfl (n855.ne rfl (n854.ne rfl (n838.ne rfl (n836.ne rfl (n834.ne rfl (n832.ne rfl (n830.ne rfl (n694.ne rfl (n693.ne rfl (n691.ne rfl (n690.ne rfl (n689.ne rfl (n688.ne rfl (n686.ne rfl (n408.ne rfl (n407.ne rfl (n405.ne rfl (n403.ne rfl (n402.ne rfl (n401.ne rfl (n400.ne rfl (n398.ne rfl (n397.ne rfl (n396.ne rfl (n395.ne rfl (n393.ne rfl (n392.ne rfl (n391.ne rfl (n390.ne rfl (n388.ne rfl (n387.ne rfl (n386.ne rfl (n385.ne rfl (n383.ne rfl (n382.ne rfl (n381.ne rfl (n380.ne rfl (n378.ne rfl (n377.ne rfl (n376.ne rfl (n372.ne rfl (n371.ne rfl (n370.ne rfl (n369.ne rfl (n368.ne rfl (n353.ne rfl (n352.ne rfl (n350.ne rfl (n347.ne rfl (n346.ne rfl (n345.ne rfl (n344.ne rfl (n343.ne rfl (n328.ne rfl (n327.ne rfl (n325.ne rfl (n322.ne rfl (n321.ne rfl (n320.ne rfl (n319.ne rfl (n318.ne rfl (n303.ne rfl (n302.ne rfl e301))))))))))))))))))))))))))))))))))))))))))))))))))))))))))))))))))))))))))))))))
        refine sv n1019.ok rfl (wn _ rfl) rfl (o_ldR e1021 B1009 Try.underlying25 rfl (by kernel_rfl)) (fun an1022 n1022 => ?_)
        have e1023 := n1022.ne rfl (n1019.ne rfl (n1018.ne rfl (n1017.ne rfl (n1016.ne rfl (n1015.ne rfl (n1000.ne rfl (n999.ne rfl e998)))))))
        refine sv n1022.ok rfl (wn _ rfl) rfl (o_ldR e1023 B1004 Try.underlying27 rfl (by kernel_rfl)) (fun an1024 n1024 => ?_)
        refine sc n1024.ok rfl (wn _ rfl) rfl (o_f2 Try.func10 rfl rfl rfl (n1024.ne rfl n1022.at_) n1024.at_) (shas _ _ x y w1001 (hkq3.gr A1013) (Sm.set L3)) ?_
        rintro _ w1026 ⟨rfl, g1027⟩
        refine ⟨_, rfl, fun an1025 n1025 => ?_⟩
        have G1028 := G1003.trans g1027
        have B1029 := B1004.gr g1027
        have B1030 := B1005.gr g1027
        have B1031 := B1006.gr g1027
        have B1032 := B1007.gr g1027
        have B1033 := B1008.gr g1027
        have B1034 := B1009.gr g1027
        have B1035 := B1010.gr g1027
        have A1036 := A1011.trans g1027
        have A1037 := A1012.trans g1027
        have A1038 := A1013.trans g1027
        have A1039 := A1014.trans g1027
        refine sv n1025.ok rfl (wn _ rfl) rfl (o_mv n1025.at_) (fun an1040 n1040 => ?_)
        refine sv n1040.ok rfl (wn _ rfl) rfl (o_ex n1040.at_ rfl) (fun an1041 n1041 => ?_)
        refine sv n1041.ok rfl (wn _ rfl) rfl (o_ex (n1041.ne rfl n1040.at_) rfl) (fun an1042 n1042 => ?_)
        refine sv n1042.ok rfl (wn _ rfl) rfl (o_as (n1042.ne rfl n1041.at_)) (fun an1043 n1043 => ?_)
        refine sv n1043.ok rfl (wn _ rfl) rfl (o_as (n1043.ne rfl n1042.at_)) (fun an1044 n1044 => ?_)
        refine wpList_nil ?_
        refine th_n (hK1020 _ _ ?_)
        refine wp_seq_k (fun K1045 hK1045 => ?_)
        refine wp_region_lit ?_
        have e1046 := n1044.ne rfl (n1043.ne rfl (n1042.ne rfl (n1041.ne rfl (n1040.ne rfl (n1025.ne rfl (n1024.ne rfl (n1022.ne rfl n1019.at_)))))))
        refine sv n1044.ok rfl (wn _ rfl) rfl (o_mv e1046) (fun an1047 n1047 => ?_)
        refine sv n1047.ok rfl (wn _ rfl) rfl (o_mv (n1047.ne rfl n1044.at_)) (fun an1048 n1048 => ?_)
        refine sv n1048.ok rfl (wn _ rfl) rfl (o_eq (n1048.ne rfl n1047.at_) n1048.at_ (decide_eq_true rfl)) (fun an1049 n1049 => ?_)
        refine sv n1049.ok rfl (wn _ rfl) rfl (o_mv n1049.at_) (fun an1050 n1050 => ?_)
        have e1051 := n1050.ne rfl (n1049.ne rfl (n1048.ne rfl (n1047.ne rfl (n1044.ne rfl (n1043.ne rfl (n1042.ne rfl (n1041.ne rfl (n1040.ne rfl (n1025.ne rfl (n1024.ne rfl (n1022.ne rfl (n1019.ne rfl (n1018.ne rfl (n1017.ne rfl (n1016.ne rfl (n1015.ne rfl (n1000.ne rfl (n999.ne rfl (n997.ne rfl (n994.ne rfl (n993.ne rfl (n991.ne rfl (n990.ne rfl e989)))))))))))))))))))))))
        refine sv n1050.ok rfl (wgT rfl (yl 3 true rfl n1050.at_) rfl) rfl (o_mv e1051) (fun an1052 n1052 => ?_)
        refine sv n1052.ok rfl (wgT rfl (yl 3 true rfl (n1052.ne rfl n1050.at_)) rfl) rfl (o_not n1052.at_ rfl) (fun an1053 n1053 => ?_)
        refine sv n1053.ok rfl (wgT rfl (yl 3 true rfl (n1053.ne rfl (n1052.ne rfl n1050.at_))) rfl) rfl (o_mv n1053.at_) (fun an1054 n1054 => ?_)
        have e1055 := n1054.ne rfl (n1053.ne rfl (n1052.ne rfl (n1050.ne rfl (n1049.ne rfl (n1048.ne rfl (n1047.ne rfl (n1044.ne rfl (n1043.ne rfl (n1042.ne rfl (n1041.ne rfl (n1040.ne rfl (n1025.ne rfl (n1024.ne rfl (n1022.ne rfl (n1019.ne rfl n1018.at_)))))))))))))))
        refine sv n1054.ok rfl (wgT rfl (yl 6 false rfl n1054.at_) rfl) rfl (o_mv e1055) (fun an1056 n1056 => ?_)
        refine sv n1056.ok rfl (wgT rfl (yl 6 false rfl (n1056.ne rfl n1054.at_)) rfl) rfl (o_notI n1056.at_) (fun an1057 n1057 => ?_)
        have e1058 := n1057.ne rfl (n1056.ne rfl (n1054.ne rfl (n1053.ne rfl (n1052.ne rfl n1050.at_))))
        refine sv n1057.ok rfl (wgT rfl (yl 3 true rfl e1058) rfl) rfl (o_pkF (n1057.ne rfl (n1056.ne rfl n1054.at_)) n1057.at_) (fun an1059 n1059 => ?_)
        refine sv n1059.ok rfl (wgT rfl (yl 3 true rfl (n1059.ne rfl e1058)) rfl) rfl (o_mv n1059.at_) (fun an1060 n1060 => ?_)
        cases c1061 : (!(hasD (setD L1) x y))
        · have e1062 := (n1060.at_).trans (congrArg Value.bool (c1061))
          have e1063 := ((n1060.ne rfl (n1059.ne rfl n1057.at_))).trans (congrArg Value.bool (c1061))
          have e1064 := ((n1060.ne rfl n1059.at_)).trans (congrArg Value.bool (c1061))
          have e1065 := n1060.ne rfl (n1059.ne rfl (n1057.ne rfl (n1056.ne rfl (n1054.ne rfl (n1053.ne rfl (n1052.ne rfl (n1050.ne rfl (n1049.ne rfl (n1048.ne rfl (n1047.ne rfl (n1044.ne rfl n1043.at_)))))))))))
          refine sv n1060.ok rfl (wgT rfl (yl 10 false rfl e1062) rfl) rfl (o_mv e1065) (fun an1066 n1066 => ?_)
          have e1067 := n1066.ne rfl (n1060.ne rfl (n1059.ne rfl e1058))
          refine sv n1066.ok rfl (wgT rfl (yl 3 true rfl e1067) rfl) rfl (o_pkF (n1066.ne rfl e1062) n1066.at_) (fun an1068 n1068 => ?_)
          refine sv n1068.ok rfl (wn _ rfl) rfl (o_pkT (n1068.ne rfl e1067) n1068.at_) (fun an1069 n1069 => ?_)
          refine sv n1069.ok rfl (wn _ rfl) rfl (o_as n1069.at_) (fun an1070 n1070 => ?_)
          refine wpList_nil ?_
          refine th_n (hK1045 _ _ ?_)
          refine wp_ret ?_
          exact ret1 n1070.ok rfl (n1070.at_) ⟨congrArg (fun b => Ending.returned (Value.bool b)) (hasD_sub (hp.trans c409) (show hasD (setD L1) x y = true by simpa using c1061)), G1028⟩
        · have e1071 := (n1060.at_).trans (congrArg Value.bool (c1061))
          have e1072 := ((n1060.ne rfl (n1059.ne rfl n1057.at_))).trans (congrArg Value.bool (c1061))
          have e1073 := ((n1060.ne rfl n1059.at_)).trans (congrArg Value.bool (c1061))
          refine sn n1060.ok rfl (wgF rfl (yl 10 true rfl e1071) rfl) rfl (fun an1074 n1074 => ?_)
          have e1075 := n1074.ne rfl (n1060.ne rfl (n1059.ne rfl e1058))
          refine sv n1074.ok rfl (wgT rfl (yl 3 true rfl e1075) rfl) rfl (o_pkT (n1074.ne rfl e1071) ev_const) (fun an1076 n1076 => ?_)
          refine sv n1076.ok rfl (wn _ rfl) rfl (o_pkT (n1076.ne rfl e1075) n1076.at_) (fun an1077 n1077 => ?_)
          refine sv n1077.ok rfl (wn _ rfl) rfl (o_as n1077.at_) (fun an1078 n1078 => ?_)
          refine wpList_nil ?_
          refine th_n (hK1045 _ _ ?_)
          refine wp_ret ?_
          exact ret1 n1078.ok rfl (n1078.at_) ⟨rfl, G1028⟩
theorem knowWithin_walk (v1 v2 v3 : Value) (x y : Int) (L1 L2 L3 : List (List Int)) (w : World) (h1 : RdLL w v1 L1) (h2 : RdLL w v2 L2) (h3 : RdLL w v3 L3) : Calls Try.prog 7 #[v1, v2, v3, .agg #[.int .i64 x, .int .i64 y]] w fun e w' => e = .returned (.bool true) ∧ Gr w w' :=
  knowWithin_w v1 v2 v3 L1 L2 L3 x y _ _ _ _ rfl rfl rfl rfl w h1 h2 h3
end Go.Proofs.Ytgmoedjdfjloiaa
