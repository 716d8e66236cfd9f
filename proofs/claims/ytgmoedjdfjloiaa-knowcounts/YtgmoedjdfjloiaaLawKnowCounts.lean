/- The walk of KnowCounts. -/
import Derived.Test.YtgmoedjdfjloiaaKmI
set_option linter.unusedVariables false
set_option linter.unusedSimpArgs false
namespace Go.Proofs.Ytgmoedjdfjloiaa
open Go.RowKit Rm Gx
set_option maxHeartbeats 8000000 in
set_option maxRecDepth 100000 in
theorem knowCounts_w (v2 : Value) (va : Option Addr) (vc : Nat) (L1 L2 : List (List Int)) (hvc : L1.length ≤ vc) (k x y : Int) (a : Bool) (ha : hasD (setD L1) x y = a) (w : World) (h2 : RdLL w v2 L2) (hL : L1 ≠ [] → ∃ b off, va = some ⟨b, off, none⟩ ∧ b < w.heap.size ∧ ∀ i x, L1[i]? = some x → ∃ ua uc, w.cell? ⟨b, off + i * 1, none⟩ = some (.slice ua x.length uc) ∧ RdI1 w ua x) :
    Calls Try.prog 6 #[.slice va L1.length vc, v2, .int .i64 (k), .agg #[.int .i64 (x), .int .i64 (y)]] w fun e w' => e = .returned (.bool true) ∧ Gr w w' := by
  refine enter (N := 236) Try.func6 rfl rfl rfl (fun a0 ok0 h0 => ?_)
  have e0_0 : a0.eval (.tmp 0) = .slice va L1.length vc := h0 0 _ rfl
  have e0_1 : a0.eval (.tmp 1) = v2 := h0 1 _ rfl
  have e0_2 : a0.eval (.tmp 2) = .int .i64 (k) := h0 2 _ rfl
  have e0_3 : a0.eval (.tmp 3) = .agg #[.int .i64 (x), .int .i64 (y)] := h0 3 _ rfl
  clear h0
  have G0 := Gr.refl w
  have hs1 := Sm.set L1
  have hs2 := Sm.set L2
  have hcnt := cntF_or hs1 hs2
  have hc1 := cntF_le hs1
  have hc2 := cntF_le hs2
  have hc3 := cntF_le (hs1.or hs2)
  have hc4 := cntF_le (Sm.and (E := setD L2) hs1)
  refine wp_seq_k (fun K1 hK1 => ?_)
  refine wp_region_lit ?_
  refine sal (cs := #[.int .i64 (x), .int .i64 (y)]) ok0 rfl (wn _ rfl) rfl (o_box e0_3) (fun an2 w4 b3 W5 n2 => ?_)
  have l6 : w.heap.size ≤ b3 := by rw [W5.eq]; exact G0.size
  have G7 := G0.trans W5.gr
  refine sv n2.ok rfl (wn _ rfl) rfl (o_as ev_const) (fun an8 n8 => ?_)
  refine wpList_nil ?_
  refine th_n (hK1 _ _ ?_)
  refine wp_seq_k (fun K9 hK9 => ?_)
  refine wp_seq_k (fun K10 hK10 => ?_)
  refine wp_region_lit ?_
  refine sc n8.ok rfl (wn _ rfl) rfl (o_f0 Try.func28 rfl rfl rfl ) (knowBegun_any w4) ?_
  rintro _ w12 ⟨rfl, g13⟩
  refine ⟨_, rfl, fun an11 n11 => ?_⟩
  have G14 := G7.trans g13
  have B15 := W5.bk.gr g13
  refine sv n11.ok rfl (wn _ rfl) rfl (o_not n11.at_ rfl) (fun an16 n16 => ?_)
  refine wpList_nil ?_
  refine th_n (hK10 _ _ ?_)
  refine wp_cond_false (n16.at_) ?_
  refine wp_skip ?_
  refine th_n (hK9 _ _ ?_)
  refine wp_seq_k (fun K17 hK17 => ?_)
  refine wp_region_lit ?_
  have e18 := n16.ne rfl (n11.ne rfl (n8.ne rfl (n2.ne rfl e0_0)))
  refine sv n16.ok rfl (wn _ rfl) rfl (o_mv e18) (fun an19 n19 => ?_)
  refine sc n19.ok rfl (wn _ rfl) rfl (o_f1 Try.func29 rfl rfl rfl n19.at_) (setK _ L1 w12 (RdLL.gr ⟨va, vc, rfl, hvc, hL⟩ G14)) ?_
  rintro _ w21 ⟨kq1, rfl, hkq1, g22⟩
  obtain ⟨vaq1, vcq1, maq1, mcq1, rfl⟩ := hkq1.form
  refine ⟨_, rfl, fun an20 n20 => ?_⟩
  have G23 := G14.trans g22
  have B24 := B15.gr g22
  have A26 := Gr.refl w21
  have e27 := n20.ne rfl (n19.ne rfl (n16.ne rfl (n11.ne rfl (n8.ne rfl (n2.ne rfl e0_1)))))
  refine sv n20.ok rfl (wn _ rfl) rfl (o_mv e27) (fun an28 n28 => ?_)
  refine sc n28.ok rfl (wn _ rfl) rfl (o_f1 Try.func29 rfl rfl rfl n28.at_) (setK v2 L2 w21 (h2.gr G23)) ?_
  rintro _ w30 ⟨kq2, rfl, hkq2, g31⟩
  obtain ⟨vaq2, vcq2, maq2, mcq2, rfl⟩ := hkq2.form
  refine ⟨_, rfl, fun an29 n29 => ?_⟩
  have G32 := G23.trans g31
  have B33 := B24.gr g31
  have A34 := A26.trans g31
  have A36 := Gr.refl w30
  refine sal (cs := #[.slice none 0 0, .slice none 0 0]) n29.ok rfl (wn _ rfl) rfl (o_al (z := .agg #[.slice none 0 0, .slice none 0 0]) (by kernel_rfl)) (fun an37 w39 b38 W40 n37 => ?_)
  have l41 : b3 < b38 := by rw [W40.eq]; exact B33.lt
  have l42 : w.heap.size ≤ b38 := by rw [W40.eq]; exact G32.size
  have l43 : w21.heap.size ≤ b38 := by rw [W40.eq]; exact A34.size
  have l44 : w30.heap.size ≤ b38 := by rw [W40.eq]; exact A36.size
  have G45 := G32.trans W40.gr
  have B46 := B33.gr W40.gr
  have A47 := A34.trans W40.gr
  have A48 := A36.trans W40.gr
  refine sal (cs := #[.slice none 0 0, .slice none 0 0]) n37.ok rfl (wn _ rfl) rfl (o_al (z := .agg #[.slice none 0 0, .slice none 0 0]) (by kernel_rfl)) (fun an49 w51 b50 W52 n49 => ?_)
  have l53 : b3 < b50 := by rw [W52.eq]; exact B46.lt
  have l54 : b38 < b50 := by rw [W52.eq]; exact W40.bk.lt
  have l55 : w.heap.size ≤ b50 := by rw [W52.eq]; exact G45.size
  have l56 : w21.heap.size ≤ b50 := by rw [W52.eq]; exact A47.size
  have l57 : w30.heap.size ≤ b50 := by rw [W52.eq]; exact A48.size
  have G58 := G45.trans W52.gr
  have B59 := B46.gr W52.gr
  have B60 := W40.bk.gr W52.gr
  have A61 := A47.trans W52.gr
  have A62 := A48.trans W52.gr
  have e63 := n49.ne rfl (n37.ne rfl (n29.ne rfl (n28.ne rfl n20.at_)))
  refine ssR rfl (wn _ rfl) (o_stR (n49.ne rfl n37.at_) e63 B60 (by kernel_rfl) rfl (by simp [Value.oneCell'])) B60 (fun w64 u65 u65b => ?_)
  have G66 : Gr w w64 := Below.upd G58 l42 u65
  have B67 := B59.upd u65 (Nat.ne_of_lt l41)
  have B68 := W52.bk.upd u65 (Nat.ne_of_gt l54)
  have A69 : Gr w21 w64 := Below.upd A61 l43 u65
  have A70 : Gr w30 w64 := Below.upd A62 l44 u65
  refine ssR rfl (wn _ rfl) (o_stR n49.at_ (n49.ne rfl (n37.ne rfl n29.at_)) B68 (by kernel_rfl) rfl (by simp [Value.oneCell'])) B68 (fun w71 u72 u72b => ?_)
  have G73 : Gr w w71 := Below.upd G66 l55 u72
  have B74 := B67.upd u72 (Nat.ne_of_lt l53)
  have B75 := u65b.upd u72 (Nat.ne_of_lt l54)
  have A76 : Gr w21 w71 := Below.upd A69 l56 u72
  have A77 : Gr w30 w71 := Below.upd A70 l57 u72
  refine wpList_nil ?_
  refine th_n (hK17 _ _ ?_)
  refine wp_seq_k (fun K78 hK78 => ?_)
  refine wp_region_lit ?_
  refine sv n49.ok rfl (wn _ rfl) rfl (o_ldR (n49.ne rfl n37.at_) B75 Try.underlying25 rfl (by kernel_rfl)) (fun an79 n79 => ?_)
  refine sv n79.ok rfl (wn _ rfl) rfl (o_ldR (n79.ne rfl n49.at_) u72b Try.underlying25 rfl (by kernel_rfl)) (fun an80 n80 => ?_)
  refine sc n80.ok rfl (wn _ rfl) rfl (o_f2 Try.func23 rfl rfl rfl (n80.ne rfl n79.at_) n80.at_) (sjoin _ _ _ _ w71 (hkq1.gr A76) (hkq2.gr A77) hs1 hs2) ?_
  rintro _ w82 ⟨kk1, rfl, hkk1, g83⟩
  obtain ⟨vak1, vck1, mak1, mck1, rfl⟩ := hkk1.form
  refine ⟨_, rfl, fun an81 n81 => ?_⟩
  have G84 := G73.trans g83
  have B85 := B74.gr g83
  have B86 := B75.gr g83
  have B87 := u72b.gr g83
  have A88 := A76.trans g83
  have A89 := A77.trans g83
  have A91 := Gr.refl w82
  refine sv n81.ok rfl (wn _ rfl) rfl (o_mv n81.at_) (fun an92 n92 => ?_)
  refine sv n92.ok rfl (wn _ rfl) rfl (o_ex n92.at_ rfl) (fun an93 n93 => ?_)
  refine sv n93.ok rfl (wn _ rfl) rfl (o_ex (n93.ne rfl n92.at_) rfl) (fun an94 n94 => ?_)
  refine sal (cs := #[.slice none 0 0, .slice none 0 0]) n94.ok rfl (wn _ rfl) rfl (o_al (z := .agg #[.slice none 0 0, .slice none 0 0]) (by kernel_rfl)) (fun an95 w97 b96 W98 n95 => ?_)
  have l99 : b3 < b96 := by rw [W98.eq]; exact B85.lt
  have l100 : b38 < b96 := by rw [W98.eq]; exact B86.lt
  have l101 : b50 < b96 := by rw [W98.eq]; exact B87.lt
  have l102 : w.heap.size ≤ b96 := by rw [W98.eq]; exact G84.size
  have l103 : w21.heap.size ≤ b96 := by rw [W98.eq]; exact A88.size
  have l104 : w30.heap.size ≤ b96 := by rw [W98.eq]; exact A89.size
  have l105 : w82.heap.size ≤ b96 := by rw [W98.eq]; exact A91.size
  have G106 := G84.trans W98.gr
  have B107 := B85.gr W98.gr
  have B108 := B86.gr W98.gr
  have B109 := B87.gr W98.gr
  have A110 := A88.trans W98.gr
  have A111 := A89.trans W98.gr
  have A112 := A91.trans W98.gr
  refine ssR rfl (wn _ rfl) (o_stR n95.at_ (n95.ne rfl (n94.ne rfl n93.at_)) W98.bk (by kernel_rfl) rfl (by simp [Value.oneCell'])) W98.bk (fun w113 u114 u114b => ?_)
  have G115 : Gr w w113 := Below.upd G106 l102 u114
  have B116 := B107.upd u114 (Nat.ne_of_lt l99)
  have B117 := B108.upd u114 (Nat.ne_of_lt l100)
  have B118 := B109.upd u114 (Nat.ne_of_lt l101)
  have A119 : Gr w21 w113 := Below.upd A110 l103 u114
  have A120 : Gr w30 w113 := Below.upd A111 l104 u114
  have A121 : Gr w82 w113 := Below.upd A112 l105 u114
  refine sv n95.ok rfl (wn _ rfl) rfl (o_as (n95.ne rfl n94.at_)) (fun an122 n122 => ?_)
  refine wpList_nil ?_
  refine th_n (hK78 _ _ ?_)
  refine wp_seq_k (fun K123 hK123 => ?_)
  refine wp_region_lit ?_
  have e124 := n122.ne rfl (n95.ne rfl (n94.ne rfl (n93.ne rfl (n92.ne rfl (n81.ne rfl (n80.ne rfl (n79.ne rfl (n49.ne rfl n37.at_))))))))
  refine sv n122.ok rfl (wn _ rfl) rfl (o_ldR e124 B117 Try.underlying25 rfl (by kernel_rfl)) (fun an125 n125 => ?_)
  have e126 := n125.ne rfl (n122.ne rfl (n95.ne rfl (n94.ne rfl (n93.ne rfl (n92.ne rfl (n81.ne rfl (n80.ne rfl (n79.ne rfl n49.at_))))))))
  refine sv n125.ok rfl (wn _ rfl) rfl (o_ldR e126 B118 Try.underlying25 rfl (by kernel_rfl)) (fun an127 n127 => ?_)
  refine sc n127.ok rfl (wn _ rfl) rfl (o_f2 Try.func24 rfl rfl rfl (n127.ne rfl n125.at_) n127.at_) (smeet _ _ _ _ w113 (hkq1.gr A119) (hkq2.gr A120) hs1 hs2) ?_
  rintro _ w129 ⟨kk2, rfl, hkk2, g130⟩
  obtain ⟨vak2, vck2, mak2, mck2, rfl⟩ := hkk2.form
  refine ⟨_, rfl, fun an128 n128 => ?_⟩
  have G131 := G115.trans g130
  have B132 := B116.gr g130
  have B133 := B117.gr g130
  have B134 := B118.gr g130
  have B135 := u114b.gr g130
  have A136 := A119.trans g130
  have A137 := A120.trans g130
  have A138 := A121.trans g130
  have A140 := Gr.refl w129
  refine sv n128.ok rfl (wn _ rfl) rfl (o_mv n128.at_) (fun an141 n141 => ?_)
  refine sv n141.ok rfl (wn _ rfl) rfl (o_ex n141.at_ rfl) (fun an142 n142 => ?_)
  refine sv n142.ok rfl (wn _ rfl) rfl (o_ex (n142.ne rfl n141.at_) rfl) (fun an143 n143 => ?_)
  refine sal (cs := #[.slice none 0 0, .slice none 0 0]) n143.ok rfl (wn _ rfl) rfl (o_al (z := .agg #[.slice none 0 0, .slice none 0 0]) (by kernel_rfl)) (fun an144 w146 b145 W147 n144 => ?_)
  have l148 : b3 < b145 := by rw [W147.eq]; exact B132.lt
  have l149 : b38 < b145 := by rw [W147.eq]; exact B133.lt
  have l150 : b50 < b145 := by rw [W147.eq]; exact B134.lt
  have l151 : b96 < b145 := by rw [W147.eq]; exact B135.lt
  have l152 : w.heap.size ≤ b145 := by rw [W147.eq]; exact G131.size
  have l153 : w21.heap.size ≤ b145 := by rw [W147.eq]; exact A136.size
  have l154 : w30.heap.size ≤ b145 := by rw [W147.eq]; exact A137.size
  have l155 : w82.heap.size ≤ b145 := by rw [W147.eq]; exact A138.size
  have l156 : w129.heap.size ≤ b145 := by rw [W147.eq]; exact A140.size
  have G157 := G131.trans W147.gr
  have B158 := B132.gr W147.gr
  have B159 := B133.gr W147.gr
  have B160 := B134.gr W147.gr
  have B161 := B135.gr W147.gr
  have A162 := A136.trans W147.gr
  have A163 := A137.trans W147.gr
  have A164 := A138.trans W147.gr
  have A165 := A140.trans W147.gr
  refine ssR rfl (wn _ rfl) (o_stR n144.at_ (n144.ne rfl (n143.ne rfl n142.at_)) W147.bk (by kernel_rfl) rfl (by simp [Value.oneCell'])) W147.bk (fun w166 u167 u167b => ?_)
  have G168 : Gr w w166 := Below.upd G157 l152 u167
  have B169 := B158.upd u167 (Nat.ne_of_lt l148)
  have B170 := B159.upd u167 (Nat.ne_of_lt l149)
  have B171 := B160.upd u167 (Nat.ne_of_lt l150)
  have B172 := B161.upd u167 (Nat.ne_of_lt l151)
  have A173 : Gr w21 w166 := Below.upd A162 l153 u167
  have A174 : Gr w30 w166 := Below.upd A163 l154 u167
  have A175 : Gr w82 w166 := Below.upd A164 l155 u167
  have A176 : Gr w129 w166 := Below.upd A165 l156 u167
  refine sv n144.ok rfl (wn _ rfl) rfl (o_as (n144.ne rfl n143.at_)) (fun an177 n177 => ?_)
  refine wpList_nil ?_
  refine th_n (hK123 _ _ ?_)
  refine wp_seq_k (fun K178 hK178 => ?_)
  refine wp_region_lit ?_
  have e179 := n177.ne rfl (n144.ne rfl (n143.ne rfl (n142.ne rfl (n141.ne rfl (n128.ne rfl (n127.ne rfl (n125.ne rfl e124)))))))
  refine sv n177.ok rfl (wn _ rfl) rfl (o_ldR e179 B170 Try.underlying25 rfl (by kernel_rfl)) (fun an180 n180 => ?_)
  refine sc n180.ok rfl (wn _ rfl) rfl (o_f1 Try.func12 rfl rfl rfl n180.at_) (scount _ _ w166 (hkq1.gr A173) (Sm.sn hs1)) ?_
  rintro _ w182 ⟨rfl, g183⟩
  refine ⟨_, rfl, fun an181 n181 => ?_⟩
  have G184 := G168.trans g183
  have B185 := B169.gr g183
  have B186 := B170.gr g183
  have B187 := B171.gr g183
  have B188 := B172.gr g183
  have B189 := u167b.gr g183
  have A190 := A173.trans g183
  have A191 := A174.trans g183
  have A192 := A175.trans g183
  have A193 := A176.trans g183
  refine sv n181.ok rfl (wn _ rfl) rfl (o_mv n181.at_) (fun an194 n194 => ?_)
  refine sv n194.ok rfl (wn _ rfl) rfl (o_ex n194.at_ rfl) (fun an195 n195 => ?_)
  refine sv n195.ok rfl (wn _ rfl) rfl (o_ex (n195.ne rfl n194.at_) rfl) (fun an196 n196 => ?_)
  refine sv n196.ok rfl (wn _ rfl) rfl (o_as (n196.ne rfl n195.at_)) (fun an197 n197 => ?_)
  refine sv n197.ok rfl (wn _ rfl) rfl (o_as (n197.ne rfl n196.at_)) (fun an198 n198 => ?_)
  refine wpList_nil ?_
  refine th_n (hK178 _ _ ?_)
  refine wp_seq_k (fun K199 hK199 => ?_)
  refine wp_region_lit ?_
  have e200 := n198.ne rfl (n197.ne rfl (n196.ne rfl (n195.ne rfl (n194.ne rfl (n181.ne rfl (n180.ne rfl (n177.ne rfl (n144.ne rfl (n143.ne rfl (n142.ne rfl (n141.ne rfl (n128.ne rfl (n127.ne rfl e126)))))))))))))
  refine sv n198.ok rfl (wn _ rfl) rfl (o_ldR e200 B187 Try.underlying25 rfl (by kernel_rfl)) (fun an201 n201 => ?_)
  refine sc n201.ok rfl (wn _ rfl) rfl (o_f1 Try.func12 rfl rfl rfl n201.at_) (scount _ _ w182 (hkq2.gr A191) (Sm.sn hs2)) ?_
  rintro _ w203 ⟨rfl, g204⟩
  refine ⟨_, rfl, fun an202 n202 => ?_⟩
  have G205 := G184.trans g204
  have B206 := B185.gr g204
  have B207 := B186.gr g204
  have B208 := B187.gr g204
  have B209 := B188.gr g204
  have B210 := B189.gr g204
  have A211 := A190.trans g204
  have A212 := A191.trans g204
  have A213 := A192.trans g204
  have A214 := A193.trans g204
  refine sv n202.ok rfl (wn _ rfl) rfl (o_mv n202.at_) (fun an215 n215 => ?_)
  refine sv n215.ok rfl (wn _ rfl) rfl (o_ex n215.at_ rfl) (fun an216 n216 => ?_)
  refine sv n216.ok rfl (wn _ rfl) rfl (o_ex (n216.ne rfl n215.at_) rfl) (fun an217 n217 => ?_)
  refine sv n217.ok rfl (wn _ rfl) rfl (o_as (n217.ne rfl n216.at_)) (fun an218 n218 => ?_)
  refine sv n218.ok rfl (wn _ rfl) rfl (o_as (n218.ne rfl n217.at_)) (fun an219 n219 => ?_)
  refine wpList_nil ?_
  refine th_n (hK199 _ _ ?_)
  refine wp_seq_k (fun K220 hK220 => ?_)
  refine wp_region_lit ?_
  have e221 := n219.ne rfl (n218.ne rfl (n217.ne rfl (n216.ne rfl (n215.ne rfl (n202.ne rfl (n201.ne rfl (n198.ne rfl (n197.ne rfl (n196.ne rfl (n195.ne rfl (n194.ne rfl (n181.ne rfl (n180.ne rfl (n177.ne rfl (n144.ne rfl (n143.ne rfl (n142.ne rfl (n141.ne rfl (n128.ne rfl (n127.ne rfl (n125.ne rfl (n122.ne rfl n95.at_))))))))))))))))))))))
  refine sv n219.ok rfl (wn _ rfl) rfl (o_ldR e221 B209 Try.underlying25 rfl (by kernel_rfl)) (fun an222 n222 => ?_)
  refine sc n222.ok rfl (wn _ rfl) rfl (o_f1 Try.func12 rfl rfl rfl n222.at_) (scount _ _ w203 (hkk1.gr A213) (Sm.sn (hs1.or hs2))) ?_
  rintro _ w224 ⟨rfl, g225⟩
  refine ⟨_, rfl, fun an223 n223 => ?_⟩
  have G226 := G205.trans g225
  have B227 := B206.gr g225
  have B228 := B207.gr g225
  have B229 := B208.gr g225
  have B230 := B209.gr g225
  have B231 := B210.gr g225
  have A232 := A211.trans g225
  have A233 := A212.trans g225
  have A234 := A213.trans g225
  have A235 := A214.trans g225
  refine sv n223.ok rfl (wn _ rfl) rfl (o_mv n223.at_) (fun an236 n236 => ?_)
  refine sv n236.ok rfl (wn _ rfl) rfl (o_ex n236.at_ rfl) (fun an237 n237 => ?_)
  refine sv n237.ok rfl (wn _ rfl) rfl (o_ex (n237.ne rfl n236.at_) rfl) (fun an238 n238 => ?_)
  refine sv n238.ok rfl (wn _ rfl) rfl (o_as (n238.ne rfl n237.at_)) (fun an239 n239 => ?_)
  refine sv n239.ok rfl (wn _ rfl) rfl (o_as (n239.ne rfl n238.at_)) (fun an240 n240 => ?_)
  refine wpList_nil ?_
  refine th_n (hK220 _ _ ?_)
  refine wp_seq_k (fun K241 hK241 => ?_)
  refine wp_region_lit ?_
  have e242 := n240.ne rfl (n239.ne rfl (n238.ne rfl (n237.ne rfl (n236.ne rfl (n223.ne rfl (n222.ne rfl (n219.ne rfl (n218.ne rfl (n217.ne rfl (n216.ne rfl (n215.ne rfl (n202.ne rfl (n201.ne rfl (n198.ne rfl (n197.ne rfl (n196.ne rfl (n195.ne rfl (n194.ne rfl (n181.ne rfl (n180.ne rfl (n177.ne rfl n144.at_)))))))))))))))))))))
  refine sv n240.ok rfl (wn _ rfl) rfl (o_ldR e242 B231 Try.underlying25 rfl (by kernel_rfl)) (fun an243 n243 => ?_)
  refine sc n243.ok rfl (wn _ rfl) rfl (o_f1 Try.func12 rfl rfl rfl n243.at_) (scount _ _ w224 (hkk2.gr A235) (Sm.sn (Sm.and hs1))) ?_
  rintro _ w245 ⟨rfl, g246⟩
  refine ⟨_, rfl, fun an244 n244 => ?_⟩
  have G247 := G226.trans g246
  have B248 := B227.gr g246
  have B249 := B228.gr g246
  have B250 := B229.gr g246
  have B251 := B230.gr g246
  have B252 := B231.gr g246
  have A253 := A232.trans g246
  have A254 := A233.trans g246
  have A255 := A234.trans g246
  have A256 := A235.trans g246
  refine sv n244.ok rfl (wn _ rfl) rfl (o_mv n244.at_) (fun an257 n257 => ?_)
  refine sv n257.ok rfl (wn _ rfl) rfl (o_ex n257.at_ rfl) (fun an258 n258 => ?_)
  refine sv n258.ok rfl (wn _ rfl) rfl (o_ex (n258.ne rfl n257.at_) rfl) (fun an259 n259 => ?_)
  refine sv n259.ok rfl (wn _ rfl) rfl (o_as (n259.ne rfl n258.at_)) (fun an260 n260 => ?_)
  refine sv n260.ok rfl (wn _ rfl) rfl (o_as (n260.ne rfl n259.at_)) (fun an261 n261 => ?_)
  refine wpList_nil ?_
  refine th_n (hK241 _ _ ?_)
  refine wp_seq_k (fun K262 hK262 => ?_)
  refine wp_seq_k (fun K263 hK263 => ?_)
  refine wp_region_lit ?_
  have e264 := n261.ne rfl (n260.ne rfl (n259.ne rfl (n258.ne rfl (n257.ne rfl (n244.ne rfl (n243.ne rfl (n240.ne rfl (n239.ne rfl (n238.ne rfl (n237.ne rfl (n236.ne rfl (n223.ne rfl (n222.ne rfl (n219.ne rfl (n218.ne rfl (n217.ne rfl (n216.ne rfl (n215.ne rfl (n202.ne rfl (n201.ne rfl (n198.ne rfl (n197.ne rfl (n196.ne rfl (n195.ne rfl (n194.ne rfl (n181.ne rfl (n180.ne rfl (n177.ne rfl (n144.ne rfl (n143.ne rfl (n142.ne rfl (n141.ne rfl (n128.ne rfl (n127.ne rfl (n125.ne rfl n122.at_)))))))))))))))))))))))))))))))))))
  refine sv n261.ok rfl (wn _ rfl) rfl (o_mv e264) (fun an265 n265 => ?_)
  refine sv n265.ok rfl (wn _ rfl) rfl (o_neq (b := false) n265.at_ ev_const (by decide)) (fun an266 n266 => ?_)
  refine sv n266.ok rfl (wn _ rfl) rfl (o_mv n266.at_) (fun an267 n267 => ?_)
  have e268 := n267.ne rfl (n266.ne rfl (n265.ne rfl (n261.ne rfl (n260.ne rfl (n259.ne rfl (n258.ne rfl (n257.ne rfl (n244.ne rfl (n243.ne rfl (n240.ne rfl (n239.ne rfl (n238.ne rfl (n237.ne rfl (n236.ne rfl (n223.ne rfl (n222.ne rfl (n219.ne rfl (n218.ne rfl (n217.ne rfl (n216.ne rfl (n215.ne rfl (n202.ne rfl (n201.ne rfl (n198.ne rfl (n197.ne rfl (n196.ne rfl (n195.ne rfl (n194.ne rfl (n181.ne rfl (n180.ne rfl n177.at_))))))))))))))))))))))))))))))
  refine sv n267.ok rfl (wgT rfl (yl 2 false rfl n267.at_) rfl) rfl (o_mv e268) (fun an269 n269 => ?_)
  refine sv n269.ok rfl (wgT rfl (yl 2 false rfl (n269.ne rfl n267.at_)) rfl) rfl (o_neq (b := false) n269.at_ ev_const (by decide)) (fun an270 n270 => ?_)
  refine sv n270.ok rfl (wn _ rfl) rfl (o_pkF (n270.ne rfl (n269.ne rfl n267.at_)) n270.at_) (fun an271 n271 => ?_)
  refine sv n271.ok rfl (wn _ rfl) rfl (o_mv n271.at_) (fun an272 n272 => ?_)
  have e273 := n272.ne rfl (n271.ne rfl (n270.ne rfl (n269.ne rfl (n267.ne rfl (n266.ne rfl (n265.ne rfl (n261.ne rfl (n260.ne rfl (n259.ne rfl (n258.ne rfl (n257.ne rfl (n244.ne rfl (n243.ne rfl (n240.ne rfl (n239.ne rfl (n238.ne rfl (n237.ne rfl (n236.ne rfl (n223.ne rfl (n222.ne rfl (n219.ne rfl (n218.ne rfl (n217.ne rfl (n216.ne rfl (n215.ne rfl (n202.ne rfl (n201.ne rfl n198.at_)))))))))))))))))))))))))))
  refine sv n272.ok rfl (wgT rfl (yl 6 false rfl n272.at_) rfl) rfl (o_mv e273) (fun an274 n274 => ?_)
  refine sv n274.ok rfl (wgT rfl (yl 6 false rfl (n274.ne rfl n272.at_)) rfl) rfl (o_neq (b := false) n274.at_ ev_const (by decide)) (fun an275 n275 => ?_)
  refine sv n275.ok rfl (wn _ rfl) rfl (o_pkF (n275.ne rfl (n274.ne rfl n272.at_)) n275.at_) (fun an276 n276 => ?_)
  refine sv n276.ok rfl (wn _ rfl) rfl (o_mv n276.at_) (fun an277 n277 => ?_)
  have e278 := n277.ne rfl (n276.ne rfl (n275.ne rfl (n274.ne rfl (n272.ne rfl (n271.ne rfl (n270.ne rfl (n269.ne rfl (n267.ne rfl (n266.ne rfl (n265.ne rfl (n261.ne rfl (n260.ne rfl (n259.ne rfl (n258.ne rfl (n257.ne rfl (n244.ne rfl (n243.ne rfl (n240.ne rfl (n239.ne rfl (n238.ne rfl (n237.ne rfl (n236.ne rfl (n223.ne rfl (n222.ne rfl n219.at_))))))))))))))))))))))))
  refine sv n277.ok rfl (wgT rfl (yl 10 false rfl n277.at_) rfl) rfl (o_mv e278) (fun an279 n279 => ?_)
  refine sv n279.ok rfl (wgT rfl (yl 10 false rfl (n279.ne rfl n277.at_)) rfl) rfl (o_neq (b := false) n279.at_ ev_const (by decide)) (fun an280 n280 => ?_)
  refine sv n280.ok rfl (wn _ rfl) rfl (o_pkF (n280.ne rfl (n279.ne rfl n277.at_)) n280.at_) (fun an281 n281 => ?_)
  refine sv n281.ok rfl (wn _ rfl) rfl (o_mv n281.at_) (fun an282 n282 => ?_)
  have e283 := n282.ne rfl (n281.ne rfl (n280.ne rfl (n279.ne rfl (n277.ne rfl (n276.ne rfl (n275.ne rfl (n274.ne rfl (n272.ne rfl (n271.ne rfl (n270.ne rfl (n269.ne rfl (n267.ne rfl (n266.ne rfl (n265.ne rfl (n261.ne rfl (n260.ne rfl (n259.ne rfl (n258.ne rfl (n257.ne rfl (n244.ne rfl (n243.ne rfl n240.at_)))))))))))))))))))))
  refine sv n282.ok rfl (wgT rfl (yl 14 false rfl n282.at_) rfl) rfl (o_mv e283) (fun an284 n284 => ?_)
  refine sv n284.ok rfl (wgT rfl (yl 14 false rfl (n284.ne rfl n282.at_)) rfl) rfl (o_neq (b := false) n284.at_ ev_const (by decide)) (fun an285 n285 => ?_)
  refine sv n285.ok rfl (wn _ rfl) rfl (o_pkF (n285.ne rfl (n284.ne rfl n282.at_)) n285.at_) (fun an286 n286 => ?_)
  refine sv n286.ok rfl (wn _ rfl) rfl (o_mv n286.at_) (fun an287 n287 => ?_)
  have e288 := n287.ne rfl (n286.ne rfl (n285.ne rfl (n284.ne rfl (n282.ne rfl (n281.ne rfl (n280.ne rfl (n279.ne rfl (n277.ne rfl (n276.ne rfl (n275.ne rfl (n274.ne rfl (n272.ne rfl (n271.ne rfl (n270.ne rfl (n269.ne rfl (n267.ne rfl (n266.ne rfl (n265.ne rfl n261.at_))))))))))))))))))
  refine sv n287.ok rfl (wgT rfl (yl 18 false rfl n287.at_) rfl) rfl (o_mv e288) (fun an289 n289 => ?_)
  refine sv n289.ok rfl (wgT rfl (yl 18 false rfl (n289.ne rfl n287.at_)) rfl) rfl (o_neq (b := false) n289.at_ ev_const (by decide)) (fun an290 n290 => ?_)
  refine sv n290.ok rfl (wn _ rfl) rfl (o_pkF (n290.ne rfl (n289.ne rfl n287.at_)) n290.at_) (fun an291 n291 => ?_)
  refine sv n291.ok rfl (wn _ rfl) rfl (o_mv n291.at_) (fun an292 n292 => ?_)
  have e293 := n292.ne rfl (n291.ne rfl (n290.ne rfl (n289.ne rfl (n287.ne rfl (n286.ne rfl (n285.ne rfl (n284.ne rfl (n282.ne rfl (n281.ne rfl (n280.ne rfl (n279.ne rfl (n277.ne rfl (n276.ne rfl (n275.ne rfl (n274.ne rfl (n272.ne rfl (n271.ne rfl (n270.ne rfl (n269.ne rfl (n267.ne rfl (n266.ne rfl (n265.ne rfl (n261.ne rfl (n260.ne rfl (n259.ne rfl (n258.ne rfl (n257.ne rfl (n244.ne rfl (n243.ne rfl (n240.ne rfl (n239.ne rfl (n238.ne rfl (n237.ne rfl (n236.ne rfl (n223.ne rfl (n222.ne rfl (n219.ne rfl (n218.ne rfl (n217.ne rfl (n216.ne rfl (n215.ne rfl (n202.ne rfl (n201.ne rfl (n198.ne rfl n197.at_))))))))))))))))))))))))))))))))))))))))))))
  refine sv n292.ok rfl (wgT rfl (yl 22 false rfl n292.at_) rfl) rfl (o_mv e293) (fun an294 n294 => ?_)
  have e295 := n294.ne rfl (n292.ne rfl (n291.ne rfl (n290.ne rfl (n289.ne rfl (n287.ne rfl (n286.ne rfl (n285.ne rfl (n284.ne rfl (n282.ne rfl (n281.ne rfl (n280.ne rfl (n279.ne rfl (n277.ne rfl (n276.ne rfl (n275.ne rfl (n274.ne rfl (n272.ne rfl (n271.ne rfl (n270.ne rfl (n269.ne rfl (n267.ne rfl (n266.ne rfl (n265.ne rfl (n261.ne rfl (n260.ne rfl (n259.ne rfl (n258.ne rfl (n257.ne rfl (n244.ne rfl (n243.ne rfl (n240.ne rfl (n239.ne rfl (n238.ne rfl (n237.ne rfl (n236.ne rfl (n223.ne rfl (n222.ne rfl (n219.ne rfl n218.at_))))))))))))))))))))))))))))))))))))))
  refine sv n294.ok rfl (wgT rfl (yl 22 false rfl (n294.ne rfl n292.at_)) rfl) rfl (o_mv e295) (fun an296 n296 => ?_)
  refine sv n296.ok rfl (wgT rfl (yl 22 false rfl (n296.ne rfl (n294.ne rfl n292.at_))) rfl) rfl (o_add (r := (((cntF (setD L1)) + (cntF (setD L2)) : Nat) : Int)) (n296.ne rfl n294.at_) n296.at_ (by omega) (by omega)) (fun an297 n297 => ?_)
  have e298 := n297.ne rfl (n296.ne rfl (n294.ne rfl n292.at_))
  have e299 := n297.ne rfl (n296.ne rfl (n294.ne rfl (n292.ne rfl (n291.ne rfl (n290.ne rfl (n289.ne rfl (n287.ne rfl (n286.ne rfl (n285.ne rfl (n284.ne rfl (n282.ne rfl (n281.ne rfl (n280.ne rfl (n279.ne rfl (n277.ne rfl (n276.ne rfl (n275.ne rfl (n274.ne rfl (n272.ne rfl (n271.ne rfl (n270.ne rfl (n269.ne rfl (n267.ne rfl (n266.ne rfl (n265.ne rfl (n261.ne rfl (n260.ne rfl (n259.ne rfl (n258.ne rfl (n257.ne rfl (n244.ne rfl (n243.ne rfl (n240.ne rfl n239.at_)))))))))))))))))))))))))))))))))
  refine sv n297.ok rfl (wgT rfl (yl 22 false rfl e298) rfl) rfl (o_mv e299) (fun an300 n300 => ?_)
  have e301 := n300.ne rfl (n297.ne rfl (n296.ne rfl (n294.ne rfl (n292.ne rfl (n291.ne rfl (n290.ne rfl (n289.ne rfl (n287.ne rfl (n286.ne rfl (n285.ne rfl (n284.ne rfl (n282.ne rfl (n281.ne rfl (n280.ne rfl (n279.ne rfl (n277.ne rfl (n276.ne rfl (n275.ne rfl (n274.ne rfl (n272.ne rfl (n271.ne rfl (n270.ne rfl (n269.ne rfl (n267.ne rfl (n266.ne rfl (n265.ne rfl (n261.ne rfl n260.at_)))))))))))))))))))))))))))
  refine sv n300.ok rfl (wgT rfl (yl 22 false rfl (n300.ne rfl e298)) rfl) rfl (o_mv e301) (fun an302 n302 => ?_)
  refine sv n302.ok rfl (wgT rfl (yl 22 false rfl (n302.ne rfl (n300.ne rfl e298))) rfl) rfl (o_add (r := (((cntF (orD (setD L1) (setD L2))) + (cntF (andD (setD L1) (setD L2))) : Nat) : Int)) (n302.ne rfl n300.at_) n302.at_ (by omega) (by omega)) (fun an303 n303 => ?_)
  have e304 := n303.ne rfl (n302.ne rfl (n300.ne rfl e298))
  have e305 := n303.ne rfl (n302.ne rfl (n300.ne rfl n297.at_))
  refine sv n303.ok rfl (wgT rfl (yl 22 false rfl e304) rfl) rfl (o_neq (b := false) e305 n303.at_ (by simp; omega)) (fun an306 n306 => ?_)
  refine sv n306.ok rfl (wn _ rfl) rfl (o_pkF (n306.ne rfl e304) n306.at_) (fun an307 n307 => ?_)
  refine wpList_nil ?_
  refine th_n (hK263 _ _ ?_)
  refine wp_cond_false (n307.at_) ?_
  refine wp_skip ?_
  refine th_n (hK262 _ _ ?_)
  refine wp_seq_k (fun K308 hK308 => ?_)
  refine wp_region_lit ?_
  refine sal (cs := #[.slice none 0 0, .slice none 0 0]) n307.ok rfl (wn _ rfl) rfl (o_al (z := .agg #[.slice none 0 0, .slice none 0 0]) (by kernel_rfl)) (fun an309 w311 b310 W312 n309 => ?_)
  have l313 : b3 < b310 := by rw [W312.eq]; exact B248.lt
  have l314 : b38 < b310 := by rw [W312.eq]; exact B249.lt
  have l315 : b50 < b310 := by rw [W312.eq]; exact B250.lt
  have l316 : b96 < b310 := by rw [W312.eq]; exact B251.lt
  have l317 : b145 < b310 := by rw [W312.eq]; exact B252.lt
  have l318 : w.heap.size ≤ b310 := by rw [W312.eq]; exact G247.size
  have l319 : w21.heap.size ≤ b310 := by rw [W312.eq]; exact A253.size
  have l320 : w30.heap.size ≤ b310 := by rw [W312.eq]; exact A254.size
  have l321 : w82.heap.size ≤ b310 := by rw [W312.eq]; exact A255.size
  have l322 : w129.heap.size ≤ b310 := by rw [W312.eq]; exact A256.size
  have G323 := G247.trans W312.gr
  have B324 := B248.gr W312.gr
  have B325 := B249.gr W312.gr
  have B326 := B250.gr W312.gr
  have B327 := B251.gr W312.gr
  have B328 := B252.gr W312.gr
  have A329 := A253.trans W312.gr
  have A330 := A254.trans W312.gr
  have A331 := A255.trans W312.gr
  have A332 := A256.trans W312.gr
  refine sal (cs := #[.slice none 0 0, .slice none 0 0]) n309.ok rfl (wn _ rfl) rfl (o_al (z := .agg #[.slice none 0 0, .slice none 0 0]) (by kernel_rfl)) (fun an333 w335 b334 W336 n333 => ?_)
  have l337 : b3 < b334 := by rw [W336.eq]; exact B324.lt
  have l338 : b38 < b334 := by rw [W336.eq]; exact B325.lt
  have l339 : b50 < b334 := by rw [W336.eq]; exact B326.lt
  have l340 : b96 < b334 := by rw [W336.eq]; exact B327.lt
  have l341 : b145 < b334 := by rw [W336.eq]; exact B328.lt
  have l342 : b310 < b334 := by rw [W336.eq]; exact W312.bk.lt
  have l343 : w.heap.size ≤ b334 := by rw [W336.eq]; exact G323.size
  have l344 : w21.heap.size ≤ b334 := by rw [W336.eq]; exact A329.size
  have l345 : w30.heap.size ≤ b334 := by rw [W336.eq]; exact A330.size
  have l346 : w82.heap.size ≤ b334 := by rw [W336.eq]; exact A331.size
  have l347 : w129.heap.size ≤ b334 := by rw [W336.eq]; exact A332.size
  have G348 := G323.trans W336.gr
  have B349 := B324.gr W336.gr
  have B350 := B325.gr W336.gr
  have B351 := B326.gr W336.gr
  have B352 := B327.gr W336.gr
  have B353 := B328.gr W336.gr
  have B354 := W312.bk.gr W336.gr
  have A355 := A329.trans W336.gr
  have A356 := A330.trans W336.gr
  have A357 := A331.trans W336.gr
  have A358 := A332.trans W336.gr
  refine wpList_nil ?_
  refine th_n (hK308 _ _ ?_)
  refine wp_seq_k (fun K359 hK359 => ?_)
  refine wp_region_lit ?_
  have e360 := n333.ne rfl (n309.ne rfl (n307.ne rfl (n306.ne rfl (n303.ne rfl (n302.ne rfl (n300.ne rfl (n297.ne rfl (n296.ne rfl (n294.ne rfl (n292.ne rfl (n291.ne rfl (n290.ne rfl (n289.ne rfl (n287.ne rfl (n286.ne rfl (n285.ne rfl (n284.ne rfl (n282.ne rfl (n281.ne rfl (n280.ne rfl (n279.ne rfl (n277.ne rfl (n276.ne rfl (n275.ne rfl (n274.ne rfl (n272.ne rfl (n271.ne rfl (n270.ne rfl (n269.ne rfl (n267.ne rfl (n266.ne rfl (n265.ne rfl (n261.ne rfl (n260.ne rfl (n259.ne rfl (n258.ne rfl (n257.ne rfl (n244.ne rfl (n243.ne rfl (n240.ne rfl (n239.ne rfl (n238.ne rfl (n237.ne rfl (n236.ne rfl (n223.ne rfl (n222.ne rfl (n219.ne rfl (n218.ne rfl (n217.ne rfl (n216.ne rfl (n215.ne rfl (n202.ne rfl (n201.ne rfl (n198.ne rfl (n197.ne rfl (n196.ne rfl (n195.ne rfl (n194.ne rfl (n181.ne rfl (n180.ne rfl (n177.ne rfl (n144.ne rfl (n143.ne rfl (n142.ne rfl (n141.ne rfl (n128.ne rfl (n127.ne rfl (n125.ne rfl (n122.ne rfl (n95.ne rfl (n94.ne rfl (n93.ne rfl (n92.ne rfl (n81.ne rfl (n80.ne rfl (n79.ne rfl (n49.ne rfl (n37.ne rfl (n29.ne rfl (n28.ne rfl (n20.ne rfl (n19.ne rfl e18))))))))))))))))))))))))))))))))))))))))))))))))))))))))))))))))))))))))))))))))))
  refine sv n333.ok rfl (wn _ rfl) rfl (o_mv e360) (fun an361 n361 => ?_)
  refine sv n361.ok rfl (wn _ rfl) rfl (o_mv (n361.ne rfl e360)) (fun an362 n362 => ?_)
  refine sv n362.ok rfl (wn _ rfl) rfl (o_len n362.at_ Try.underlying50) (fun an363 n363 => ?_)
  refine sv n363.ok rfl (wn _ rfl) rfl (o_min n363.at_ ev_const (nmin_int _ _)) (fun an364 n364 => ?_)
  have e365 := n364.ne rfl (n363.ne rfl (n362.ne rfl n361.at_))
  refine sv n364.ok rfl (wn _ rfl) rfl (o_cut (k := min (L1.length) (40)) (s := 1) e365 n364.at_ Try.underlying50 (by kernel_rfl) (by omega)) (fun an366 n366 => ?_)
  refine sv n366.ok rfl (wn _ rfl) rfl (o_as n366.at_) (fun an367 n367 => ?_)
  refine wpList_nil ?_
  refine th_n (hK359 _ _ ?_)
  refine wp_seq_k (fun K368 hK368 => ?_)
  refine wp_seq_k (fun K369 hK369 => ?_)
  refine wp_region_lit ?_
  refine sv n367.ok rfl (wn _ rfl) rfl (o_mv n367.at_) (fun an370 n370 => ?_)
  refine sv n370.ok rfl (wn _ rfl) rfl (o_len n370.at_ Try.underlying50) (fun an371 n371 => ?_)
  refine sv n371.ok rfl (wn _ rfl) rfl (o_mv ev_const) (fun an372 n372 => ?_)
  refine wpList_nil ?_
  refine th_n (hK369 _ _ ?_)
  refine wp_block ?_
  have e374 := n372.ne rfl (n371.ne rfl (n370.ne rfl n367.at_))
  have e375 := n372.ne rfl (n371.ne rfl (n370.ne rfl (n367.ne rfl (n366.ne rfl (n364.ne rfl (n363.ne rfl (n362.ne rfl (n361.ne rfl (n333.ne rfl (n309.ne rfl (n307.ne rfl (n306.ne rfl (n303.ne rfl (n302.ne rfl (n300.ne rfl (n297.ne rfl (n296.ne rfl (n294.ne rfl (n292.ne rfl (n291.ne rfl (n290.ne rfl (n289.ne rfl (n287.ne rfl (n286.ne rfl (n285.ne rfl (n284.ne rfl (n282.ne rfl (n281.ne rfl (n280.ne rfl (n279.ne rfl (n277.ne rfl (n276.ne rfl (n275.ne rfl (n274.ne rfl (n272.ne rfl (n271.ne rfl (n270.ne rfl (n269.ne rfl (n267.ne rfl (n266.ne rfl (n265.ne rfl (n261.ne rfl (n260.ne rfl (n259.ne rfl (n258.ne rfl (n257.ne rfl (n244.ne rfl (n243.ne rfl (n240.ne rfl (n239.ne rfl (n238.ne rfl (n237.ne rfl (n236.ne rfl (n223.ne rfl (n222.ne rfl (n219.ne rfl (n218.ne rfl (n217.ne rfl (n216.ne rfl (n215.ne rfl (n202.ne rfl (n201.ne rfl (n198.ne rfl (n197.ne rfl (n196.ne rfl (n195.ne rfl (n194.ne rfl (n181.ne rfl (n180.ne rfl (n177.ne rfl (n144.ne rfl (n143.ne rfl (n142.ne rfl (n141.ne rfl (n128.ne rfl (n127.ne rfl (n125.ne rfl (n122.ne rfl (n95.ne rfl (n94.ne rfl (n93.ne rfl (n92.ne rfl (n81.ne rfl (n80.ne rfl (n79.ne rfl (n49.ne rfl (n37.ne rfl (n29.ne rfl (n28.ne rfl (n20.ne rfl (n19.ne rfl (n16.ne rfl (n11.ne rfl (n8.ne rfl (n2.ne rfl e0_2)))))))))))))))))))))))))))))))))))))))))))))))))))))))))))))))))))))))))))))))))))))))))))))))
  have e376 := n372.ne rfl (n371.ne rfl (n370.ne rfl (n367.ne rfl (n366.ne rfl (n364.ne rfl (n363.ne rfl (n362.ne rfl (n361.ne rfl (n333.ne rfl (n309.ne rfl (n307.ne rfl (n306.ne rfl (n303.ne rfl (n302.ne rfl (n300.ne rfl (n297.ne rfl (n296.ne rfl (n294.ne rfl (n292.ne rfl (n291.ne rfl (n290.ne rfl (n289.ne rfl (n287.ne rfl (n286.ne rfl (n285.ne rfl (n284.ne rfl (n282.ne rfl (n281.ne rfl (n280.ne rfl (n279.ne rfl (n277.ne rfl (n276.ne rfl (n275.ne rfl (n274.ne rfl (n272.ne rfl (n271.ne rfl (n270.ne rfl (n269.ne rfl (n267.ne rfl (n266.ne rfl (n265.ne rfl (n261.ne rfl (n260.ne rfl (n259.ne rfl (n258.ne rfl (n257.ne rfl (n244.ne rfl (n243.ne rfl (n240.ne rfl (n239.ne rfl (n238.ne rfl (n237.ne rfl (n236.ne rfl (n223.ne rfl (n222.ne rfl (n219.ne rfl (n218.ne rfl (n217.ne rfl (n216.ne rfl (n215.ne rfl (n202.ne rfl (n201.ne rfl (n198.ne rfl (n197.ne rfl (n196.ne rfl (n195.ne rfl (n194.ne rfl (n181.ne rfl (n180.ne rfl (n177.ne rfl (n144.ne rfl (n143.ne rfl (n142.ne rfl (n141.ne rfl (n128.ne rfl (n127.ne rfl (n125.ne rfl (n122.ne rfl (n95.ne rfl (n94.ne rfl (n93.ne rfl (n92.ne rfl (n81.ne rfl (n80.ne rfl (n79.ne rfl (n49.ne rfl (n37.ne rfl (n29.ne rfl (n28.ne rfl (n20.ne rfl (n19.ne rfl (n16.ne rfl (n11.ne rfl (n8.ne rfl n2.at_))))))))))))))))))))))))))))))))))))))))))))))))))))))))))))))))))))))))))))))))))))))))))))))
  have e377 := n372.ne rfl (n371.ne rfl (n370.ne rfl (n367.ne rfl (n366.ne rfl (n364.ne rfl (n363.ne rfl (n362.ne rfl (n361.ne rfl (n333.ne rfl (n309.ne rfl (n307.ne rfl (n306.ne rfl (n303.ne rfl (n302.ne rfl (n300.ne rfl (n297.ne rfl (n296.ne rfl (n294.ne rfl (n292.ne rfl (n291.ne rfl (n290.ne rfl (n289.ne rfl (n287.ne rfl (n286.ne rfl (n285.ne rfl (n284.ne rfl (n282.ne rfl (n281.ne rfl (n280.ne rfl (n279.ne rfl (n277.ne rfl (n276.ne rfl (n275.ne rfl (n274.ne rfl (n272.ne rfl (n271.ne rfl (n270.ne rfl (n269.ne rfl (n267.ne rfl (n266.ne rfl (n265.ne rfl (n261.ne rfl (n260.ne rfl (n259.ne rfl (n258.ne rfl (n257.ne rfl (n244.ne rfl (n243.ne rfl (n240.ne rfl (n239.ne rfl (n238.ne rfl (n237.ne rfl (n236.ne rfl (n223.ne rfl (n222.ne rfl (n219.ne rfl (n218.ne rfl (n217.ne rfl (n216.ne rfl (n215.ne rfl (n202.ne rfl (n201.ne rfl (n198.ne rfl (n197.ne rfl (n196.ne rfl (n195.ne rfl (n194.ne rfl (n181.ne rfl (n180.ne rfl (n177.ne rfl (n144.ne rfl (n143.ne rfl (n142.ne rfl (n141.ne rfl (n128.ne rfl (n127.ne rfl (n125.ne rfl (n122.ne rfl (n95.ne rfl (n94.ne rfl (n93.ne rfl (n92.ne rfl (n81.ne rfl (n80.ne rfl (n79.ne rfl (n49.ne rfl (n37.ne rfl (n29.ne rfl (n28.ne rfl (n20.ne rfl (n19.ne rfl (n16.ne rfl (n11.ne rfl n8.at_)))))))))))))))))))))))))))))))))))))))))))))))))))))))))))))))))))))))))))))))))))))))))))))
  have e378 := n372.ne rfl (n371.ne rfl (n370.ne rfl (n367.ne rfl (n366.ne rfl (n364.ne rfl (n363.ne rfl (n362.ne rfl (n361.ne rfl (n333.ne rfl (n309.ne rfl (n307.ne rfl (n306.ne rfl (n303.ne rfl (n302.ne rfl (n300.ne rfl (n297.ne rfl (n296.ne rfl (n294.ne rfl (n292.ne rfl (n291.ne rfl (n290.ne rfl (n289.ne rfl (n287.ne rfl (n286.ne rfl (n285.ne rfl (n284.ne rfl (n282.ne rfl (n281.ne rfl (n280.ne rfl (n279.ne rfl (n277.ne rfl (n276.ne rfl (n275.ne rfl (n274.ne rfl (n272.ne rfl (n271.ne rfl (n270.ne rfl (n269.ne rfl (n267.ne rfl (n266.ne rfl (n265.ne rfl (n261.ne rfl (n260.ne rfl (n259.ne rfl (n258.ne rfl (n257.ne rfl (n244.ne rfl (n243.ne rfl (n240.ne rfl (n239.ne rfl (n238.ne rfl (n237.ne rfl (n236.ne rfl (n223.ne rfl (n222.ne rfl (n219.ne rfl (n218.ne rfl (n217.ne rfl (n216.ne rfl (n215.ne rfl (n202.ne rfl (n201.ne rfl (n198.ne rfl (n197.ne rfl (n196.ne rfl (n195.ne rfl (n194.ne rfl (n181.ne rfl (n180.ne rfl e179)))))))))))))))))))))))))))))))))))))))))))))))))))))))))))))))))))))
  have e379 := n372.ne rfl (n371.ne rfl (n370.ne rfl (n367.ne rfl (n366.ne rfl (n364.ne rfl (n363.ne rfl (n362.ne rfl (n361.ne rfl (n333.ne rfl (n309.ne rfl (n307.ne rfl (n306.ne rfl (n303.ne rfl (n302.ne rfl (n300.ne rfl (n297.ne rfl (n296.ne rfl (n294.ne rfl e293))))))))))))))))))
  have e380 := n372.ne rfl (n371.ne rfl (n370.ne rfl (n367.ne rfl (n366.ne rfl (n364.ne rfl (n363.ne rfl (n362.ne rfl (n361.ne rfl (n333.ne rfl n309.at_)))))))))
  have e381 := n372.ne rfl (n371.ne rfl (n370.ne rfl (n367.ne rfl (n366.ne rfl (n364.ne rfl (n363.ne rfl (n362.ne rfl (n361.ne rfl n333.at_))))))))
  refine lp (fun (nL : Nat) (aL : Act) (wL : World) => ∃ i : Nat, ∃ p1 : Option Addr, ∃ pn1 : Nat, ∃ pc1 : Nat, ∃ q1 : Option Addr, ∃ qn1 : Nat, ∃ qc1 : Nat, ∃ p2 : Option Addr, ∃ pn2 : Nat, ∃ pc2 : Nat, ∃ q2 : Option Addr, ∃ qn2 : Nat, ∃ qc2 : Nat, nL = min L1.length 40 - i ∧ Ok 236 aL ∧ Gr w wL ∧ (aL.eval (.tmp 0) = .slice va (min (L1.length) (40)) vc) ∧ (aL.eval (.tmp 2) = .int .i64 (k)) ∧ (aL.eval (.tmp 7) = .pointer (some ⟨b3, 0, none⟩)) ∧ (aL.eval (.tmp 8) = .bool false) ∧ (aL.eval (.tmp 9) = .pointer (some ⟨b38, 0, none⟩)) ∧ (aL.eval (.tmp 15) = .int .i64 ((cntF (setD L1) : Nat) : Int)) ∧ (aL.eval (.tmp 23) = .pointer (some ⟨b310, 0, none⟩)) ∧ (aL.eval (.tmp 24) = .pointer (some ⟨b334, 0, none⟩)) ∧ (aL.eval (.tmp 109) = .int .i64 ((min (L1.length) (40) : Nat) : Int)) ∧ (aL.eval (.tmp 110) = .int .i64 (i : Int)) ∧ (Bk wL b3 #[.int .i64 (x), .int .i64 (y)] 27) ∧ (Bk wL b38 #[.slice vaq1 ((ints (formV (setD L1))).length) vcq1, .slice maq1 ((pairs (formM (setD L1))).length) mcq1] 25) ∧ (Bk wL b310 #[.slice p1 pn1 pc1, .slice q1 qn1 qc1] 25) ∧ (Bk wL b334 #[.slice p2 pn2 pc2, .slice q2 qn2 qc2] 25) ∧ (KnS b310 b334 wL (.agg #[.slice p1 pn1 pc1, .slice q1 qn1 qc1]) (accD (L1.take i))) ∧ (KnS b310 b334 wL (.agg #[.slice p2 pn2 pc2, .slice q2 qn2 qc2]) (accD (rot L1 (wi k (min L1.length 40)) (min L1.length 40) i))) ∧ (Gr w21 wL) ∧ (Gr w30 wL) ∧ (Gr w82 wL) ∧ (Gr w129 wL) ∧ (i ≤ min L1.length 40)) _ ⟨0, none, 0, 0, none, 0, 0, none, 0, 0, none, 0, 0, rfl, n372.ok, G348, e374, e375, e376, e377, e378, e379, e380, e381, (n372.ne rfl n371.at_), n372.at_, B349, B350, B354, W336.bk, (knS_acc b310 b334 w335), (knS_acc b310 b334 w335), A355, A356, A357, A358, by omega⟩ ?_
  rintro m382 aI373 w384 ⟨i, p1, pn1, pc1, q1, qn1, qc1, p2, pn2, pc2, q2, qn2, qc2, hmI373, okI373, GI373, s0I373, s2I373, s7I373, s8I373, s9I373, s15I373, s23I373, s24I373, s109I373, s110I373, kb3I373, kb38I373, kb310I373, kb334I373, fP1I373, fP2I373, xanch25I373, xanch35I373, xanch90I373, xanch139I373, hiI373⟩ KI373 hKI373
  refine wp_seq_k (fun K385 hK385 => ?_)
  refine wp_region_lit ?_
  refine sv okI373 rfl (wn _ rfl) rfl (o_ltI s110I373 s109I373) (fun an386 n386 => ?_)
  refine wpList_nil ?_
  refine th_n (hK385 _ _ ?_)
  refine wp_seq_k (fun K387 hK387 => ?_)
  by_cases c388 : (i : Int) < ((min (L1.length) (40) : Nat) : Int)
  · refine wp_cond_true ((n386.at_).trans (congrArg Value.bool (decide_eq_true c388))) ?_
    refine wp_skip ?_
    refine th_n (hK387 _ _ ?_)
    refine wp_seq_k (fun K389 hK389 => ?_)
    refine wp_block ?_
    refine wp_seq_k (fun K390 hK390 => ?_)
    refine wp_region_lit ?_
    refine sv n386.ok rfl (wn _ rfl) rfl (o_mv (n386.ne rfl s110I373)) (fun an391 n391 => ?_)
    refine sv n391.ok rfl (wn _ rfl) rfl (o_as n391.at_) (fun an392 n392 => ?_)
    refine wpList_nil ?_
    refine th_n (hK390 _ _ ?_)
    refine wp_seq_k (fun K393 hK393 => ?_)
    refine wp_region_lit ?_
    refine sv n392.ok rfl (wn _ rfl) rfl (o_as ev_const) (fun an394 n394 => ?_)
    refine sv n394.ok rfl (wn _ rfl) rfl (o_as ev_const) (fun an395 n395 => ?_)
    refine wpList_nil ?_
    refine th_n (hK393 _ _ ?_)
    refine wp_seq_k (fun K396 hK396 => ?_)
    refine reg_start (N := 236) (m := 18) (by kernel_rfl) (fun R3970 => ?_)
    have e398 := n395.ne rfl (n394.ne rfl (n392.ne rfl (n391.ne rfl (n386.ne rfl s0I373))))
    have R3971 := R3970.snoc (n' := 1) rfl (fun vJ _ => vJ = .slice va (min (L1.length) (40)) vc) rfl (fun _ _ _ _ h => h) (fun aS wS pS => by
        exact Does.val (wn _ rfl) (o_mv ((pS.old 0 rfl).trans e398)) (Gr.refl _) rfl rfl)
    have R3972 := R3971.snoc (n' := 2) rfl (fun vJ _ => vJ = .int .i64 (i : Int)) rfl (fun _ _ _ _ h => h) (fun aS wS pS => by
        exact Does.val (wn _ rfl) (o_mv ((pS.old 25 rfl).trans (n395.ne rfl (n394.ne rfl n392.at_)))) (Gr.refl _) rfl rfl)
    have h399l : i < List.length L1 := by omega
    obtain ⟨bh399, fh399, h399a, h399b, h399c⟩ := hL (ne_nil_of_lt h399l)
    obtain ⟨xh399, h399x⟩ : ∃ x, L1[i]? = some x := ⟨_, List.getElem?_eq_getElem h399l⟩
    obtain ⟨uh399, vh399, h399d, h399e⟩ := h399c _ _ h399x
    have R3973 := R3972.snoc (n' := 3) rfl (fun vJ _ => vJ = .pointer (some ⟨bh399, fh399 + i * 1, none⟩)) rfl (fun _ _ _ _ h => h) (fun aS wS pS => by
        have eR397_0 : aS.eval (.tmp 113) = .slice va (min (L1.length) (40)) vc := pS.pre 0 rfl
        have eR397_1 : aS.eval (.tmp 114) = .int .i64 (i : Int) := pS.pre 1 rfl
        exact Does.val (wn _ rfl) (o_iaV (i := i) (s := 1) h399a (eR397_0) (eR397_1) Try.underlying50 (by kernel_rfl) (by omega)) (Gr.refl _) rfl rfl)
    have R3974 := R3973.snoc (n' := 4) rfl (fun vJ _ => vJ = .slice uh399 xh399.length vh399) rfl (fun _ _ _ _ h => h) (fun aS wS pS => by
        have eR397_2 : aS.eval (.tmp 115) = .pointer (some ⟨bh399, fh399 + i * 1, none⟩) := pS.pre 2 rfl
        exact Does.val (wn _ rfl) (o_ld (eR397_2) (Try.isAgg22 _) ((Below.cell (GI373.trans (gr_drew pS.gr)) h399b).trans h399d)) (Gr.refl _) rfl rfl)
    have R3975 := R3974.snoc (n' := 5) rfl (fun vJ _ => vJ = .slice va (min (L1.length) (40)) vc) rfl (fun _ _ _ _ h => h) (fun aS wS pS => by
        exact Does.val (wn _ rfl) (o_mv ((pS.old 0 rfl).trans e398)) (Gr.refl _) rfl rfl)
    have R3976 := R3975.snoc (n' := 6) rfl (fun vJ _ => vJ = .int .i64 (i : Int)) rfl (fun _ _ _ _ h => h) (fun aS wS pS => by
        exact Does.val (wn _ rfl) (o_mv ((pS.old 25 rfl).trans (n395.ne rfl (n394.ne rfl n392.at_)))) (Gr.refl _) rfl rfl)
    have e400 := n395.ne rfl (n394.ne rfl (n392.ne rfl (n391.ne rfl (n386.ne rfl s2I373))))
    have R3977 := R3976.snoc (n' := 7) rfl (fun vJ _ => vJ = .int .i64 (k)) rfl (fun _ _ _ _ h => h) (fun aS wS pS => by
        exact Does.val (wn _ rfl) (o_mv ((pS.old 2 rfl).trans e400)) (Gr.refl _) rfl rfl)
    have R3978 := R3977.snoc (n' := 8) rfl (fun vJ _ => vJ = .slice va (min (L1.length) (40)) vc) rfl (fun _ _ _ _ h => h) (fun aS wS pS => by
        exact Does.val (wn _ rfl) (o_mv ((pS.old 0 rfl).trans e398)) (Gr.refl _) rfl rfl)
    have R3979 := R3978.snoc (n' := 9) rfl (fun vJ _ => vJ = .int .i64 ((min (L1.length) (40) : Nat) : Int)) rfl (fun _ _ _ _ h => h) (fun aS wS pS => by
        have eR397_7 : aS.eval (.tmp 120) = .slice va (min (L1.length) (40)) vc := pS.pre 7 rfl
        exact Does.val (wn _ rfl) (o_len (eR397_7) Try.underlying50) (Gr.refl _) rfl rfl)
    have hw401 := wi_lt k (min (L1.length) (40)) (by omega)
    have R39710 := R3979.snoc (n' := 10) rfl (fun vJ _ => vJ = .int .i64 ((wi k (min (L1.length) (40)) : Nat) : Int)) rfl (fun _ _ _ _ h => h) (fun aS wS pS => by
        have eR397_6 : aS.eval (.tmp 119) = .int .i64 (k) := pS.pre 6 rfl
        have eR397_8 : aS.eval (.tmp 121) = .int .i64 ((min (L1.length) (40) : Nat) : Int) := pS.pre 8 rfl
        exact Does.call (wn _ rfl) (o_f2 Try.func30 rfl rfl rfl (eR397_6) (eR397_8)) (kwithin_any k (min (L1.length) (40)) (by omega) (by omega) wS) (by rintro _ w2 ⟨rfl, g⟩; exact ⟨_, rfl, g, rfl⟩) rfl)
    have R39711 := R39710.snoc (n' := 11) rfl (fun vJ _ => vJ = .int .i64 ((i + (wi k (min (L1.length) (40))) : Nat) : Int)) rfl (fun _ _ _ _ h => h) (fun aS wS pS => by
        have eR397_5 : aS.eval (.tmp 118) = .int .i64 (i : Int) := pS.pre 5 rfl
        have eR397_9 : aS.eval (.tmp 122) = .int .i64 ((wi k (min (L1.length) (40)) : Nat) : Int) := pS.pre 9 rfl
        exact Does.val (wn _ rfl) (o_add (r := ((i + (wi k (min (L1.length) (40))) : Nat) : Int)) (eR397_5) (eR397_9) (by omega) (by omega)) (Gr.refl _) rfl rfl)
    have R39712 := R39711.snoc (n' := 12) rfl (fun vJ _ => vJ = .slice va (min (L1.length) (40)) vc) rfl (fun _ _ _ _ h => h) (fun aS wS pS => by
        exact Does.val (wn _ rfl) (o_mv ((pS.old 0 rfl).trans e398)) (Gr.refl _) rfl rfl)
    have R39713 := R39712.snoc (n' := 13) rfl (fun vJ _ => vJ = .int .i64 ((min (L1.length) (40) : Nat) : Int)) rfl (fun _ _ _ _ h => h) (fun aS wS pS => by
        have eR397_11 : aS.eval (.tmp 124) = .slice va (min (L1.length) (40)) vc := pS.pre 11 rfl
        exact Does.val (wn _ rfl) (o_len (eR397_11) Try.underlying50) (Gr.refl _) rfl rfl)
    obtain ⟨m, hm⟩ : ∃ m, (i + (wi k (min (L1.length) (40)))) % (min (L1.length) (40)) = m := ⟨_, rfl⟩
    have hml : m < min (L1.length) (40) := hm ▸ Nat.mod_lt _ (by omega)
    have R39714 := R39713.snoc (n' := 14) rfl (fun vJ _ => vJ = .int .i64 (m : Int)) rfl (fun _ _ _ _ h => h) (fun aS wS pS => by
        have eR397_10 : aS.eval (.tmp 123) = .int .i64 ((i + (wi k (min (L1.length) (40))) : Nat) : Int) := pS.pre 10 rfl
        have eR397_12 : aS.eval (.tmp 125) = .int .i64 ((min (L1.length) (40) : Nat) : Int) := pS.pre 12 rfl
        exact Does.val (wn _ rfl) (o_rem (i := i + (wi k (min (L1.length) (40)))) (j := min (L1.length) (40)) (eR397_10) (eR397_12) (by omega) hm) (Gr.refl _) rfl rfl)
    have h402l : m < List.length L1 := by omega
    obtain ⟨bh402, fh402, h402a, h402b, h402c⟩ := hL (ne_nil_of_lt h402l)
    obtain ⟨xh402, h402x⟩ : ∃ x, L1[m]? = some x := ⟨_, List.getElem?_eq_getElem h402l⟩
    obtain ⟨uh402, vh402, h402d, h402e⟩ := h402c _ _ h402x
    have R39715 := R39714.snoc (n' := 15) rfl (fun vJ _ => vJ = .pointer (some ⟨bh402, fh402 + m * 1, none⟩)) rfl (fun _ _ _ _ h => h) (fun aS wS pS => by
        have eR397_4 : aS.eval (.tmp 117) = .slice va (min (L1.length) (40)) vc := pS.pre 4 rfl
        have eR397_13 : aS.eval (.tmp 126) = .int .i64 (m : Int) := pS.pre 13 rfl
        exact Does.val (wn _ rfl) (o_iaV (i := m) (s := 1) h402a (eR397_4) (eR397_13) Try.underlying50 (by kernel_rfl) (by omega)) (Gr.refl _) rfl rfl)
    have R39716 := R39715.snoc (n' := 16) rfl (fun vJ _ => vJ = .slice uh402 xh402.length vh402) rfl (fun _ _ _ _ h => h) (fun aS wS pS => by
        have eR397_14 : aS.eval (.tmp 127) = .pointer (some ⟨bh402, fh402 + m * 1, none⟩) := pS.pre 14 rfl
        exact Does.val (wn _ rfl) (o_ld (eR397_14) (Try.isAgg22 _) ((Below.cell (GI373.trans (gr_drew pS.gr)) h402b).trans h402d)) (Gr.refl _) rfl rfl)
    have R39717 := R39716.snoc (n' := 17) rfl (fun vJ _ => vJ = .slice uh399 xh399.length vh399) rfl (fun _ _ _ _ h => h) (fun aS wS pS => by
        have eR397_3 : aS.eval (.tmp 116) = .slice uh399 xh399.length vh399 := pS.pre 3 rfl
        exact Does.val (wn _ rfl) (o_as (eR397_3)) (Gr.refl _) rfl rfl)
    have R39718 := R39717.snoc (n' := 18) rfl (fun vJ _ => vJ = .slice uh402 xh402.length vh402) rfl (fun _ _ _ _ h => h) (fun aS wS pS => by
        have eR397_15 : aS.eval (.tmp 128) = .slice uh402 xh402.length vh402 := pS.pre 15 rfl
        exact Does.val (wn _ rfl) (o_as (eR397_15)) (Gr.refl _) rfl rfl)
    refine R39718.run (k := 0) (L := #[true, true, true, true, true, true, true, true, true, true, true, true, true, true, true, true, true, true]) (by kernel_rfl) (by kernel_rfl) (by kernel_rfl) n395.ok (by kernel_rfl) (by kernel_rfl) (fun ap404 w405 p404 => ?_)
    have g406 := gr_drew p404.gr
    have G407 := GI373.trans g406
    have B408 := kb3I373.gr g406
    have B409 := kb38I373.gr g406
    have B410 := kb310I373.gr g406
    have B411 := kb334I373.gr g406
    have A412 := xanch25I373.trans g406
    have A413 := xanch35I373.trans g406
    have A414 := xanch90I373.trans g406
    have A415 := xanch139I373.trans g406
    have F416 := fP1I373.gr g406
    have F417 := fP2I373.gr g406
    refine wpAny_done (by kernel_rfl) ?_ _
    refine th_n (hK396 _ _ ?_)
    refine wp_seq_k (fun K418 hK418 => ?_)
    refine wp_seq_k (fun K419 hK419 => ?_)
    refine wp_region_lit ?_
    have ep404_16 : ap404.eval (.tmp 28) = .slice uh399 xh399.length vh399 := p404.js 16 rfl
    refine sv p404.ok rfl (wn _ rfl) rfl (o_mv ep404_16) (fun an420 n420 => ?_)
    refine sv n420.ok rfl (wn _ rfl) rfl (o_len n420.at_ Try.underlying22) (fun an421 n421 => ?_)
    refine sv n421.ok rfl (wn _ rfl) rfl (o_gtI n421.at_ ev_const) (fun an422 n422 => ?_)
    refine wpList_nil ?_
    refine th_n (hK419 _ _ ?_)
    by_cases c423 : (1 : Int) < ((xh399.length : Nat) : Int)
    · refine wp_cond_true ((n422.at_).trans (congrArg Value.bool (decide_eq_true c423))) ?_
      refine wp_seq_k (fun K424 hK424 => ?_)
      refine reg_start (N := 236) (m := 12) (by kernel_rfl) (fun R4250 => ?_)
      have e426 := n422.ne rfl (n421.ne rfl (n420.ne rfl ((p404.old 23 rfl).trans (n395.ne rfl (n394.ne rfl (n392.ne rfl (n391.ne rfl (n386.ne rfl s23I373))))))))
      have R4251 := R4250.snoc (n' := 1) rfl (fun vJ _ => vJ = .agg #[.slice p1 pn1 pc1, .slice q1 qn1 qc1]) rfl (fun _ _ _ _ h => h) (fun aS wS pS => by
          exact Does.val (wn _ rfl) (o_ldR ((pS.old 23 rfl).trans e426) (Bk.gr B410 (gr_drew pS.gr)) Try.underlying25 rfl (by kernel_rfl)) (Gr.refl _) rfl rfl)
      have e427 := n422.ne rfl (n421.ne rfl (n420.ne rfl ep404_16))
      have R4252 := R4251.snoc (n' := 2) rfl (fun vJ _ => vJ = .slice uh399 xh399.length vh399) rfl (fun _ _ _ _ h => h) (fun aS wS pS => by
          exact Does.val (wn _ rfl) (o_mv ((pS.old 28 rfl).trans e427)) (Gr.refl _) rfl rfl)
      have h428l : 0 < List.length xh399 := by omega
      obtain ⟨bh428, fh428, h428a, h428b, h428c⟩ := h399e (ne_nil_of_lt h428l)
      obtain ⟨xh428, h428x⟩ : ∃ x, xh399[0]? = some x := ⟨_, List.getElem?_eq_getElem h428l⟩
      have R4253 := R4252.snoc (n' := 3) rfl (fun vJ _ => vJ = .pointer (some ⟨bh428, fh428 + 0 * 1, none⟩)) rfl (fun _ _ _ _ h => h) (fun aS wS pS => by
          have eR425_1 : aS.eval (.tmp 134) = .slice uh399 xh399.length vh399 := pS.pre 1 rfl
          exact Does.val (wn _ rfl) (o_iaV (i := 0) (s := 1) h428a (eR425_1) ev_const Try.underlying22 (by kernel_rfl) h428l) (Gr.refl _) rfl rfl)
      have R4254 := R4253.snoc (n' := 4) rfl (fun vJ _ => vJ = .int .i64 (xh428)) rfl (fun _ _ _ _ h => h) (fun aS wS pS => by
          have eR425_2 : aS.eval (.tmp 135) = .pointer (some ⟨bh428, fh428 + 0 * 1, none⟩) := pS.pre 2 rfl
          exact Does.val (wn _ rfl) (o_ld (eR425_2) (Try.isAgg3 _) ((Below.cell (G407.trans (gr_drew pS.gr)) h428b).trans (h428c _ _ h428x))) (Gr.refl _) rfl rfl)
      have hw429 := wi_lt xh428 (5) (by omega)
      have R4255 := R4254.snoc (n' := 5) rfl (fun vJ _ => vJ = .int .i64 ((wi xh428 (5) : Nat) : Int)) rfl (fun _ _ _ _ h => h) (fun aS wS pS => by
          have eR425_3 : aS.eval (.tmp 136) = .int .i64 (xh428) := pS.pre 3 rfl
          exact Does.call (wn _ rfl) (o_f2 Try.func30 rfl rfl rfl (eR425_3) ev_const) (kwithin_any xh428 (5) (by omega) (by omega) wS) (by rintro _ w2 ⟨rfl, g⟩; exact ⟨_, rfl, g, rfl⟩) rfl)
      have R4256 := R4255.snoc (n' := 6) rfl (fun vJ _ => vJ = .slice uh399 xh399.length vh399) rfl (fun _ _ _ _ h => h) (fun aS wS pS => by
          exact Does.val (wn _ rfl) (o_mv ((pS.old 28 rfl).trans e427)) (Gr.refl _) rfl rfl)
      have h430l : 1 < List.length xh399 := by omega
      obtain ⟨bh430, fh430, h430a, h430b, h430c⟩ := h399e (ne_nil_of_lt h430l)
      obtain ⟨xh430, h430x⟩ : ∃ x, xh399[1]? = some x := ⟨_, List.getElem?_eq_getElem h430l⟩
      have R4257 := R4256.snoc (n' := 7) rfl (fun vJ _ => vJ = .pointer (some ⟨bh430, fh430 + 1 * 1, none⟩)) rfl (fun _ _ _ _ h => h) (fun aS wS pS => by
          have eR425_5 : aS.eval (.tmp 138) = .slice uh399 xh399.length vh399 := pS.pre 5 rfl
          exact Does.val (wn _ rfl) (o_iaV (i := 1) (s := 1) h430a (eR425_5) ev_const Try.underlying22 (by kernel_rfl) h430l) (Gr.refl _) rfl rfl)
      have R4258 := R4257.snoc (n' := 8) rfl (fun vJ _ => vJ = .int .i64 (xh430)) rfl (fun _ _ _ _ h => h) (fun aS wS pS => by
          have eR425_6 : aS.eval (.tmp 139) = .pointer (some ⟨bh430, fh430 + 1 * 1, none⟩) := pS.pre 6 rfl
          exact Does.val (wn _ rfl) (o_ld (eR425_6) (Try.isAgg3 _) ((Below.cell (G407.trans (gr_drew pS.gr)) h430b).trans (h430c _ _ h430x))) (Gr.refl _) rfl rfl)
      have hw431 := wi_lt xh430 (12) (by omega)
      have R4259 := R4258.snoc (n' := 9) rfl (fun vJ _ => vJ = .int .i64 ((wi xh430 (12) : Nat) : Int)) rfl (fun _ _ _ _ h => h) (fun aS wS pS => by
          have eR425_7 : aS.eval (.tmp 140) = .int .i64 (xh430) := pS.pre 7 rfl
          exact Does.call (wn _ rfl) (o_f2 Try.func30 rfl rfl rfl (eR425_7) ev_const) (kwithin_any xh430 (12) (by omega) (by omega) wS) (by rintro _ w2 ⟨rfl, g⟩; exact ⟨_, rfl, g, rfl⟩) rfl)
      have R42510 := R4259.snoc (n' := 10) rfl (fun vJ _ => vJ = .int .i64 ((1 + (wi xh430 (12)) : Nat) : Int)) rfl (fun _ _ _ _ h => h) (fun aS wS pS => by
          have eR425_8 : aS.eval (.tmp 141) = .int .i64 ((wi xh430 (12) : Nat) : Int) := pS.pre 8 rfl
          exact Does.val (wn _ rfl) (o_add (r := ((1 + (wi xh430 (12)) : Nat) : Int)) ev_const (eR425_8) (by omega) (by omega)) (Gr.refl _) rfl rfl)
      have R42511 := R42510.snoc (n' := 11) rfl (fun vJ _ => vJ = .agg #[.int .i64 ((wi xh428 (5) : Nat) : Int), .int .i64 ((1 + (wi xh430 (12)) : Nat) : Int)]) rfl (fun _ _ _ _ h => h) (fun aS wS pS => by
          have eR425_4 : aS.eval (.tmp 137) = .int .i64 ((wi xh428 (5) : Nat) : Int) := pS.pre 4 rfl
          have eR425_9 : aS.eval (.tmp 142) = .int .i64 ((1 + (wi xh430 (12)) : Nat) : Int) := pS.pre 9 rfl
          exact Does.val (wn _ rfl) (o_bd (cells := #[.int .i64 ((wi xh428 (5) : Nat) : Int), .int .i64 ((1 + (wi xh430 (12)) : Nat) : Int)]) (vs := [(0, .int .i64 ((wi xh428 (5) : Nat) : Int)), (1, .int .i64 ((1 + (wi xh430 (12)) : Nat) : Int))]) (by simp [(eR425_4), (eR425_9), ev_const]) (by kernel_rfl)) (Gr.refl _) rfl rfl)
      have R42512 := R42511.snoc (n' := 12) rfl (fun vJ wJ => ∃ (vak3 : Option Addr) (vck3 : Nat) (mak3 : Option Addr) (mck3 : Nat), vJ = .tuple #[.agg #[.slice vak3 ((ints (formV (addD (accD (L1.take i)) (wi xh428 (5)) (1 + (wi xh430 (12)))))).length) vck3, .slice mak3 ((pairs (formM (addD (accD (L1.take i)) (wi xh428 (5)) (1 + (wi xh430 (12)))))).length) mck3], .int .i64 0] ∧ (KnS b310 b334 wJ (.agg #[.slice vak3 ((ints (formV (addD (accD (L1.take i)) (wi xh428 (5)) (1 + (wi xh430 (12)))))).length) vck3, .slice mak3 ((pairs (formM (addD (accD (L1.take i)) (wi xh428 (5)) (1 + (wi xh430 (12)))))).length) mck3]) (addD (accD (L1.take i)) (wi xh428 (5)) (1 + (wi xh430 (12)))))) rfl (fun _ _ _ g ⟨vak3, vck3, mak3, mck3, h, q0⟩ => ⟨vak3, vck3, mak3, mck3, h, q0.gr g⟩) (fun aS wS pS => by
          have eR425_0 : aS.eval (.tmp 133) = .agg #[.slice p1 pn1 pc1, .slice q1 qn1 qc1] := pS.pre 0 rfl
          have eR425_10 : aS.eval (.tmp 143) = .agg #[.int .i64 ((wi xh428 (5) : Nat) : Int), .int .i64 ((1 + (wi xh430 (12)) : Nat) : Int)] := pS.pre 10 rfl
          exact Does.call (wn _ rfl) (o_f2 Try.func11 rfl rfl rfl (eR425_0) (eR425_10)) (saddS (b1 := b310) (b2 := b334) _ _ (wi xh428 (5)) (1 + (wi xh430 (12))) wS (F416.gr (gr_drew pS.gr)) (accD_sm _) ⟨by omega, by omega, by omega⟩ (Bk.gr B410 (gr_drew pS.gr)).lt (Bk.gr B411 (gr_drew pS.gr)).lt) (by rintro _ w2 ⟨kk3, rfl, hkk3, g⟩; obtain ⟨vak3, vck3, mak3, mck3, rfl⟩ := hkk3.form; exact ⟨_, rfl, g, ⟨vak3, vck3, mak3, mck3, rfl, hkk3⟩⟩) rfl)
      refine R42512.run (k := 5) (L := #[true, true, true, true, true, true, true, true, true, true, true, true, false, false, false, false, false]) (by kernel_rfl) (by kernel_rfl) (by kernel_rfl) n422.ok (by kernel_rfl) (by kernel_rfl) (fun ap433 w434 p433 => ?_)
      have g435 := gr_drew p433.gr
      have G436 := G407.trans g435
      have B437 := B408.gr g435
      have B438 := B409.gr g435
      have B439 := B410.gr g435
      have B440 := B411.gr g435
      have A441 := A412.trans g435
      have A442 := A413.trans g435
      have A443 := A414.trans g435
      have A444 := A415.trans g435
      have F445 := F416.gr g435
      have F446 := F417.gr g435
      obtain ⟨vak3, vck3, mak3, mck3, ep433_11, hkk3⟩ := p433.js 11 rfl
      have ep433_11 : ap433.eval (.tmp 144) = .tuple #[.agg #[.slice vak3 ((ints (formV (addD (accD (L1.take i)) (wi xh428 (5)) (1 + (wi xh430 (12)))))).length) vck3, .slice mak3 ((pairs (formM (addD (accD (L1.take i)) (wi xh428 (5)) (1 + (wi xh430 (12)))))).length) mck3], .int .i64 0] := ep433_11
      refine t_val (i := 12) (by kernel_rfl) rfl p433.ok rfl (wn _ rfl) rfl (o_mv ep433_11) (fun an447 n447 => ?_)
      refine t_three (i0 := 13) (i1 := 14) (j := 15) (v0 := (.agg #[.slice vak3 ((ints (formV (addD (accD (L1.take i)) (wi xh428 (5)) (1 + (wi xh430 (12)))))).length) vck3, .slice mak3 ((pairs (formM (addD (accD (L1.take i)) (wi xh428 (5)) (1 + (wi xh430 (12)))))).length) mck3])) (v1 := (.int .i64 0)) (by kernel_rfl) (by kernel_rfl) (by kernel_rfl) (by kernel_rfl) (by kernel_rfl) (by kernel_rfl) (by kernel_rfl) rfl rfl rfl n447.ok rfl rfl rfl (fun _ => wn _ rfl) (fun _ => wn _ rfl) (fun _ => wn _ rfl) rfl rfl rfl rfl (fun a2 k2 => o_ex ((k2 132 rfl).trans n447.at_) rfl) (fun a2 w1 k2 => o_ex ((k2 132 rfl).trans n447.at_) rfl) (fun a2 h0 k2 => o_stR ((k2 23 rfl rfl).trans ((n447.ne rfl ((p433.old 23 rfl).trans e426)))) h0 B439 (by kernel_rfl) rfl (by simp [Value.oneCell'])) B439 (fun an448 an449 w450 n448 n449 u451 u451b => ?_)
      have G452 : Gr w w450 := Below.upd G436 l318 u451
      have B453 := B437.upd u451 (Nat.ne_of_lt l313)
      have B454 := B438.upd u451 (Nat.ne_of_lt l314)
      have B455 := B440.upd u451 (Nat.ne_of_gt l342)
      have A456 : Gr w21 w450 := Below.upd A441 l319 u451
      have A457 : Gr w30 w450 := Below.upd A442 l320 u451
      have A458 : Gr w82 w450 := Below.upd A443 l321 u451
      have A459 : Gr w129 w450 := Below.upd A444 l322 u451
      have F460 := hkk3.upd1 u451
      have F461 := F446.upd1 u451
      refine t_val (i := 16) (by kernel_rfl) rfl n449.ok rfl (wn _ rfl) rfl (o_as n449.at_) (fun an462 n462 => ?_)
      refine wpAny_done (by kernel_rfl) ?_ _
      refine th_n (hK424 _ _ ?_)
      refine wp_seq_k (fun K463 hK463 => ?_)
      refine wp_region_lit ?_
      refine sv n462.ok rfl (wn _ rfl) rfl (o_mv n462.at_) (fun an464 n464 => ?_)
      refine sv n464.ok rfl (wn _ rfl) rfl (o_neq (b := false) n464.at_ ev_const (by decide)) (fun an465 n465 => ?_)
      refine wpList_nil ?_
      refine th_n (hK463 _ _ ?_)
      refine wp_cond_false (n465.at_) ?_
      refine wp_skip ?_
      refine th_n (hK418 _ _ ?_)
      refine wp_seq_k (fun K466 hK466 => ?_)
      refine wp_region_lit ?_
      have ep404_17 : ap404.eval (.tmp 29) = .slice uh402 xh402.length vh402 := p404.js 17 rfl
      have e467 := n465.ne rfl (n464.ne rfl (n462.ne rfl (n449.ne rfl (n448.ne rfl (n447.ne rfl ((p433.old 29 rfl).trans (n422.ne rfl (n421.ne rfl (n420.ne rfl ep404_17)))))))))
      refine sv n465.ok rfl (wn _ rfl) rfl (o_mv e467) (fun an468 n468 => ?_)
      refine sv n468.ok rfl (wn _ rfl) rfl (o_len n468.at_ Try.underlying22) (fun an469 n469 => ?_)
      refine sv n469.ok rfl (wn _ rfl) rfl (o_gtI n469.at_ ev_const) (fun an470 n470 => ?_)
      refine wpList_nil ?_
      refine th_n (hK466 _ _ ?_)
      by_cases c471 : (1 : Int) < ((xh402.length : Nat) : Int)
      · refine wp_cond_true ((n470.at_).trans (congrArg Value.bool (decide_eq_true c471))) ?_
        refine wp_seq_k (fun K472 hK472 => ?_)
        refine reg_start (N := 236) (m := 12) (by kernel_rfl) (fun R4730 => ?_)
        have e474 := n470.ne rfl (n469.ne rfl (n468.ne rfl (n465.ne rfl (n464.ne rfl (n462.ne rfl (n449.ne rfl (n448.ne rfl (n447.ne rfl ((p433.old 24 rfl).trans (n422.ne rfl (n421.ne rfl (n420.ne rfl ((p404.old 24 rfl).trans (n395.ne rfl (n394.ne rfl (n392.ne rfl (n391.ne rfl (n386.ne rfl s24I373))))))))))))))))))
        have R4731 := R4730.snoc (n' := 1) rfl (fun vJ _ => vJ = .agg #[.slice p2 pn2 pc2, .slice q2 qn2 qc2]) rfl (fun _ _ _ _ h => h) (fun aS wS pS => by
            exact Does.val (wn _ rfl) (o_ldR ((pS.old 24 rfl).trans e474) (Bk.gr B455 (gr_drew pS.gr)) Try.underlying25 rfl (by kernel_rfl)) (Gr.refl _) rfl rfl)
        have e475 := n470.ne rfl (n469.ne rfl (n468.ne rfl e467))
        have R4732 := R4731.snoc (n' := 2) rfl (fun vJ _ => vJ = .slice uh402 xh402.length vh402) rfl (fun _ _ _ _ h => h) (fun aS wS pS => by
            exact Does.val (wn _ rfl) (o_mv ((pS.old 29 rfl).trans e475)) (Gr.refl _) rfl rfl)
        have h476l : 0 < List.length xh402 := by omega
        obtain ⟨bh476, fh476, h476a, h476b, h476c⟩ := h402e (ne_nil_of_lt h476l)
        obtain ⟨xh476, h476x⟩ : ∃ x, xh402[0]? = some x := ⟨_, List.getElem?_eq_getElem h476l⟩
        have R4733 := R4732.snoc (n' := 3) rfl (fun vJ _ => vJ = .pointer (some ⟨bh476, fh476 + 0 * 1, none⟩)) rfl (fun _ _ _ _ h => h) (fun aS wS pS => by
            have eR473_1 : aS.eval (.tmp 154) = .slice uh402 xh402.length vh402 := pS.pre 1 rfl
            exact Does.val (wn _ rfl) (o_iaV (i := 0) (s := 1) h476a (eR473_1) ev_const Try.underlying22 (by kernel_rfl) h476l) (Gr.refl _) rfl rfl)
        have R4734 := R4733.snoc (n' := 4) rfl (fun vJ _ => vJ = .int .i64 (xh476)) rfl (fun _ _ _ _ h => h) (fun aS wS pS => by
            have eR473_2 : aS.eval (.tmp 155) = .pointer (some ⟨bh476, fh476 + 0 * 1, none⟩) := pS.pre 2 rfl
            exact Does.val (wn _ rfl) (o_ld (eR473_2) (Try.isAgg3 _) ((Below.cell (G452.trans (gr_drew pS.gr)) h476b).trans (h476c _ _ h476x))) (Gr.refl _) rfl rfl)
        have hw477 := wi_lt xh476 (5) (by omega)
        have R4735 := R4734.snoc (n' := 5) rfl (fun vJ _ => vJ = .int .i64 ((wi xh476 (5) : Nat) : Int)) rfl (fun _ _ _ _ h => h) (fun aS wS pS => by
            have eR473_3 : aS.eval (.tmp 156) = .int .i64 (xh476) := pS.pre 3 rfl
            exact Does.call (wn _ rfl) (o_f2 Try.func30 rfl rfl rfl (eR473_3) ev_const) (kwithin_any xh476 (5) (by omega) (by omega) wS) (by rintro _ w2 ⟨rfl, g⟩; exact ⟨_, rfl, g, rfl⟩) rfl)
        have R4736 := R4735.snoc (n' := 6) rfl (fun vJ _ => vJ = .slice uh402 xh402.length vh402) rfl (fun _ _ _ _ h => h) (fun aS wS pS => by
            exact Does.val (wn _ rfl) (o_mv ((pS.old 29 rfl).trans e475)) (Gr.refl _) rfl rfl)
        have h478l : 1 < List.length xh402 := by omega
        obtain ⟨bh478, fh478, h478a, h478b, h478c⟩ := h402e (ne_nil_of_lt h478l)
        obtain ⟨xh478, h478x⟩ : ∃ x, xh402[1]? = some x := ⟨_, List.getElem?_eq_getElem h478l⟩
        have R4737 := R4736.snoc (n' := 7) rfl (fun vJ _ => vJ = .pointer (some ⟨bh478, fh478 + 1 * 1, none⟩)) rfl (fun _ _ _ _ h => h) (fun aS wS pS => by
            have eR473_5 : aS.eval (.tmp 158) = .slice uh402 xh402.length vh402 := pS.pre 5 rfl
            exact Does.val (wn _ rfl) (o_iaV (i := 1) (s := 1) h478a (eR473_5) ev_const Try.underlying22 (by kernel_rfl) h478l) (Gr.refl _) rfl rfl)
        have R4738 := R4737.snoc (n' := 8) rfl (fun vJ _ => vJ = .int .i64 (xh478)) rfl (fun _ _ _ _ h => h) (fun aS wS pS => by
            have eR473_6 : aS.eval (.tmp 159) = .pointer (some ⟨bh478, fh478 + 1 * 1, none⟩) := pS.pre 6 rfl
            exact Does.val (wn _ rfl) (o_ld (eR473_6) (Try.isAgg3 _) ((Below.cell (G452.trans (gr_drew pS.gr)) h478b).trans (h478c _ _ h478x))) (Gr.refl _) rfl rfl)
        have hw479 := wi_lt xh478 (12) (by omega)
        have R4739 := R4738.snoc (n' := 9) rfl (fun vJ _ => vJ = .int .i64 ((wi xh478 (12) : Nat) : Int)) rfl (fun _ _ _ _ h => h) (fun aS wS pS => by
            have eR473_7 : aS.eval (.tmp 160) = .int .i64 (xh478) := pS.pre 7 rfl
            exact Does.call (wn _ rfl) (o_f2 Try.func30 rfl rfl rfl (eR473_7) ev_const) (kwithin_any xh478 (12) (by omega) (by omega) wS) (by rintro _ w2 ⟨rfl, g⟩; exact ⟨_, rfl, g, rfl⟩) rfl)
        have R47310 := R4739.snoc (n' := 10) rfl (fun vJ _ => vJ = .int .i64 ((1 + (wi xh478 (12)) : Nat) : Int)) rfl (fun _ _ _ _ h => h) (fun aS wS pS => by
            have eR473_8 : aS.eval (.tmp 161) = .int .i64 ((wi xh478 (12) : Nat) : Int) := pS.pre 8 rfl
            exact Does.val (wn _ rfl) (o_add (r := ((1 + (wi xh478 (12)) : Nat) : Int)) ev_const (eR473_8) (by omega) (by omega)) (Gr.refl _) rfl rfl)
        have R47311 := R47310.snoc (n' := 11) rfl (fun vJ _ => vJ = .agg #[.int .i64 ((wi xh476 (5) : Nat) : Int), .int .i64 ((1 + (wi xh478 (12)) : Nat) : Int)]) rfl (fun _ _ _ _ h => h) (fun aS wS pS => by
            have eR473_4 : aS.eval (.tmp 157) = .int .i64 ((wi xh476 (5) : Nat) : Int) := pS.pre 4 rfl
            have eR473_9 : aS.eval (.tmp 162) = .int .i64 ((1 + (wi xh478 (12)) : Nat) : Int) := pS.pre 9 rfl
            exact Does.val (wn _ rfl) (o_bd (cells := #[.int .i64 ((wi xh476 (5) : Nat) : Int), .int .i64 ((1 + (wi xh478 (12)) : Nat) : Int)]) (vs := [(0, .int .i64 ((wi xh476 (5) : Nat) : Int)), (1, .int .i64 ((1 + (wi xh478 (12)) : Nat) : Int))]) (by simp [(eR473_4), (eR473_9), ev_const]) (by kernel_rfl)) (Gr.refl _) rfl rfl)
        have R47312 := R47311.snoc (n' := 12) rfl (fun vJ wJ => ∃ (vak4 : Option Addr) (vck4 : Nat) (mak4 : Option Addr) (mck4 : Nat), vJ = .tuple #[.agg #[.slice vak4 ((ints (formV (addD (accD (rot L1 (wi k (min L1.length 40)) (min L1.length 40) i)) (wi xh476 (5)) (1 + (wi xh478 (12)))))).length) vck4, .slice mak4 ((pairs (formM (addD (accD (rot L1 (wi k (min L1.length 40)) (min L1.length 40) i)) (wi xh476 (5)) (1 + (wi xh478 (12)))))).length) mck4], .int .i64 0] ∧ (KnS b310 b334 wJ (.agg #[.slice vak4 ((ints (formV (addD (accD (rot L1 (wi k (min L1.length 40)) (min L1.length 40) i)) (wi xh476 (5)) (1 + (wi xh478 (12)))))).length) vck4, .slice mak4 ((pairs (formM (addD (accD (rot L1 (wi k (min L1.length 40)) (min L1.length 40) i)) (wi xh476 (5)) (1 + (wi xh478 (12)))))).length) mck4]) (addD (accD (rot L1 (wi k (min L1.length 40)) (min L1.length 40) i)) (wi xh476 (5)) (1 + (wi xh478 (12)))))) rfl (fun _ _ _ g ⟨vak4, vck4, mak4, mck4, h, q0⟩ => ⟨vak4, vck4, mak4, mck4, h, q0.gr g⟩) (fun aS wS pS => by
            have eR473_0 : aS.eval (.tmp 153) = .agg #[.slice p2 pn2 pc2, .slice q2 qn2 qc2] := pS.pre 0 rfl
            have eR473_10 : aS.eval (.tmp 163) = .agg #[.int .i64 ((wi xh476 (5) : Nat) : Int), .int .i64 ((1 + (wi xh478 (12)) : Nat) : Int)] := pS.pre 10 rfl
            exact Does.call (wn _ rfl) (o_f2 Try.func11 rfl rfl rfl (eR473_0) (eR473_10)) (saddS (b1 := b310) (b2 := b334) _ _ (wi xh476 (5)) (1 + (wi xh478 (12))) wS (F461.gr (gr_drew pS.gr)) (accD_sm _) ⟨by omega, by omega, by omega⟩ (Bk.gr u451b (gr_drew pS.gr)).lt (Bk.gr B455 (gr_drew pS.gr)).lt) (by rintro _ w2 ⟨kk4, rfl, hkk4, g⟩; obtain ⟨vak4, vck4, mak4, mck4, rfl⟩ := hkk4.form; exact ⟨_, rfl, g, ⟨vak4, vck4, mak4, mck4, rfl, hkk4⟩⟩) rfl)
        refine R47312.run (k := 5) (L := #[true, true, true, true, true, true, true, true, true, true, true, true, false, false, false, false, false]) (by kernel_rfl) (by kernel_rfl) (by kernel_rfl) n470.ok (by kernel_rfl) (by kernel_rfl) (fun ap481 w482 p481 => ?_)
        have g483 := gr_drew p481.gr
        have G484 := G452.trans g483
        have B485 := B453.gr g483
        have B486 := B454.gr g483
        have B487 := u451b.gr g483
        have B488 := B455.gr g483
        have A489 := A456.trans g483
        have A490 := A457.trans g483
        have A491 := A458.trans g483
        have A492 := A459.trans g483
        have F493 := F460.gr g483
        have F494 := F461.gr g483
        obtain ⟨vak4, vck4, mak4, mck4, ep481_11, hkk4⟩ := p481.js 11 rfl
        have ep481_11 : ap481.eval (.tmp 164) = .tuple #[.agg #[.slice vak4 ((ints (formV (addD (accD (rot L1 (wi k (min L1.length 40)) (min L1.length 40) i)) (wi xh476 (5)) (1 + (wi xh478 (12)))))).length) vck4, .slice mak4 ((pairs (formM (addD (accD (rot L1 (wi k (min L1.length 40)) (min L1.length 40) i)) (wi xh476 (5)) (1 + (wi xh478 (12)))))).length) mck4], .int .i64 0] := ep481_11
        refine t_val (i := 12) (by kernel_rfl) rfl p481.ok rfl (wn _ rfl) rfl (o_mv ep481_11) (fun an495 n495 => ?_)
        refine t_three (i0 := 13) (i1 := 14) (j := 15) (v0 := (.agg #[.slice vak4 ((ints (formV (addD (accD (rot L1 (wi k (min L1.length 40)) (min L1.length 40) i)) (wi xh476 (5)) (1 + (wi xh478 (12)))))).length) vck4, .slice mak4 ((pairs (formM (addD (accD (rot L1 (wi k (min L1.length 40)) (min L1.length 40) i)) (wi xh476 (5)) (1 + (wi xh478 (12)))))).length) mck4])) (v1 := (.int .i64 0)) (by kernel_rfl) (by kernel_rfl) (by kernel_rfl) (by kernel_rfl) (by kernel_rfl) (by kernel_rfl) (by kernel_rfl) rfl rfl rfl n495.ok rfl rfl rfl (fun _ => wn _ rfl) (fun _ => wn _ rfl) (fun _ => wn _ rfl) rfl rfl rfl rfl (fun a2 k2 => o_ex ((k2 152 rfl).trans n495.at_) rfl) (fun a2 w1 k2 => o_ex ((k2 152 rfl).trans n495.at_) rfl) (fun a2 h0 k2 => o_stR ((k2 24 rfl rfl).trans ((n495.ne rfl ((p481.old 24 rfl).trans e474)))) h0 B488 (by kernel_rfl) rfl (by simp [Value.oneCell'])) B488 (fun an496 an497 w498 n496 n497 u499 u499b => ?_)
        have G500 : Gr w w498 := Below.upd G484 l343 u499
        have B501 := B485.upd u499 (Nat.ne_of_lt l337)
        have B502 := B486.upd u499 (Nat.ne_of_lt l338)
        have B503 := B487.upd u499 (Nat.ne_of_lt l342)
        have A504 : Gr w21 w498 := Below.upd A489 l344 u499
        have A505 : Gr w30 w498 := Below.upd A490 l345 u499
        have A506 : Gr w82 w498 := Below.upd A491 l346 u499
        have A507 : Gr w129 w498 := Below.upd A492 l347 u499
        have F508 := F493.upd2 u499
        have F509 := hkk4.upd2 u499
        refine t_val (i := 16) (by kernel_rfl) rfl n497.ok rfl (wn _ rfl) rfl (o_as n497.at_) (fun an510 n510 => ?_)
        refine wpAny_done (by kernel_rfl) ?_ _
        refine th_n (hK472 _ _ ?_)
        refine wp_seq_k (fun K511 hK511 => ?_)
        refine wp_region_lit ?_
        refine sv n510.ok rfl (wn _ rfl) rfl (o_mv n510.at_) (fun an512 n512 => ?_)
        refine sv n512.ok rfl (wn _ rfl) rfl (o_neq (b := false) n512.at_ ev_const (by decide)) (fun an513 n513 => ?_)
        refine wpList_nil ?_
        refine th_n (hK511 _ _ ?_)
        refine wp_cond_false (n513.at_) ?_
        refine wp_skip ?_
        refine ib_n ?_
        refine th_n (hK389 _ _ ?_)
        refine wp_region_lit ?_
        have e514 := n513.ne rfl (n512.ne rfl (n510.ne rfl (n497.ne rfl (n496.ne rfl (n495.ne rfl ((p481.old 110 rfl).trans (n470.ne rfl (n469.ne rfl (n468.ne rfl (n465.ne rfl (n464.ne rfl (n462.ne rfl (n449.ne rfl (n448.ne rfl (n447.ne rfl ((p433.old 110 rfl).trans (n422.ne rfl (n421.ne rfl (n420.ne rfl ((p404.old 110 rfl).trans (n395.ne rfl (n394.ne rfl (n392.ne rfl (n391.ne rfl (n386.ne rfl s110I373)))))))))))))))))))))))))
        refine sv n513.ok rfl (wn _ rfl) rfl (o_add (r := ((i + 1 : Nat) : Int)) e514 ev_const (by omega) (by omega)) (fun an515 n515 => ?_)
        refine sv n515.ok rfl (wn _ rfl) rfl (o_mv n515.at_) (fun an516 n516 => ?_)
        refine wpList_nil ?_
        have hnx1 := List.take_add_one (l := L1) (i := i)
        rw [h399x] at hnx1
        have hnx2 := rot_succ L1 (wi k (min L1.length 40)) (min L1.length 40) i (by rw [hm]; exact h402x)
        have e517 := n516.ne rfl (n515.ne rfl (n513.ne rfl (n512.ne rfl (n510.ne rfl (n497.ne rfl (n496.ne rfl (n495.ne rfl ((p481.old 0 rfl).trans (n470.ne rfl (n469.ne rfl (n468.ne rfl (n465.ne rfl (n464.ne rfl (n462.ne rfl (n449.ne rfl (n448.ne rfl (n447.ne rfl ((p433.old 0 rfl).trans (n422.ne rfl (n421.ne rfl (n420.ne rfl ((p404.old 0 rfl).trans e398))))))))))))))))))))))
        have e518 := n516.ne rfl (n515.ne rfl (n513.ne rfl (n512.ne rfl (n510.ne rfl (n497.ne rfl (n496.ne rfl (n495.ne rfl ((p481.old 2 rfl).trans (n470.ne rfl (n469.ne rfl (n468.ne rfl (n465.ne rfl (n464.ne rfl (n462.ne rfl (n449.ne rfl (n448.ne rfl (n447.ne rfl ((p433.old 2 rfl).trans (n422.ne rfl (n421.ne rfl (n420.ne rfl ((p404.old 2 rfl).trans e400))))))))))))))))))))))
        have e519 := n516.ne rfl (n515.ne rfl (n513.ne rfl (n512.ne rfl (n510.ne rfl (n497.ne rfl (n496.ne rfl (n495.ne rfl ((p481.old 7 rfl).trans (n470.ne rfl (n469.ne rfl (n468.ne rfl (n465.ne rfl (n464.ne rfl (n462.ne rfl (n449.ne rfl (n448.ne rfl (n447.ne rfl ((p433.old 7 rfl).trans (n422.ne rfl (n421.ne rfl (n420.ne rfl ((p404.old 7 rfl).trans (n395.ne rfl (n394.ne rfl (n392.ne rfl (n391.ne rfl (n386.ne rfl s7I373)))))))))))))))))))))))))))
        have e520 := n516.ne rfl (n515.ne rfl (n513.ne rfl (n512.ne rfl (n510.ne rfl (n497.ne rfl (n496.ne rfl (n495.ne rfl ((p481.old 8 rfl).trans (n470.ne rfl (n469.ne rfl (n468.ne rfl (n465.ne rfl (n464.ne rfl (n462.ne rfl (n449.ne rfl (n448.ne rfl (n447.ne rfl ((p433.old 8 rfl).trans (n422.ne rfl (n421.ne rfl (n420.ne rfl ((p404.old 8 rfl).trans (n395.ne rfl (n394.ne rfl (n392.ne rfl (n391.ne rfl (n386.ne rfl s8I373)))))))))))))))))))))))))))
        have e521 := n516.ne rfl (n515.ne rfl (n513.ne rfl (n512.ne rfl (n510.ne rfl (n497.ne rfl (n496.ne rfl (n495.ne rfl ((p481.old 9 rfl).trans (n470.ne rfl (n469.ne rfl (n468.ne rfl (n465.ne rfl (n464.ne rfl (n462.ne rfl (n449.ne rfl (n448.ne rfl (n447.ne rfl ((p433.old 9 rfl).trans (n422.ne rfl (n421.ne rfl (n420.ne rfl ((p404.old 9 rfl).trans (n395.ne rfl (n394.ne rfl (n392.ne rfl (n391.ne rfl (n386.ne rfl s9I373)))))))))))))))))))))))))))
        have e522 := n516.ne rfl (n515.ne rfl (n513.ne rfl (n512.ne rfl (n510.ne rfl (n497.ne rfl (n496.ne rfl (n495.ne rfl ((p481.old 15 rfl).trans (n470.ne rfl (n469.ne rfl (n468.ne rfl (n465.ne rfl (n464.ne rfl (n462.ne rfl (n449.ne rfl (n448.ne rfl (n447.ne rfl ((p433.old 15 rfl).trans (n422.ne rfl (n421.ne rfl (n420.ne rfl ((p404.old 15 rfl).trans (n395.ne rfl (n394.ne rfl (n392.ne rfl (n391.ne rfl (n386.ne rfl s15I373)))))))))))))))))))))))))))
        have e523 := n516.ne rfl (n515.ne rfl (n513.ne rfl (n512.ne rfl (n510.ne rfl (n497.ne rfl (n496.ne rfl (n495.ne rfl ((p481.old 23 rfl).trans (n470.ne rfl (n469.ne rfl (n468.ne rfl (n465.ne rfl (n464.ne rfl (n462.ne rfl (n449.ne rfl (n448.ne rfl (n447.ne rfl ((p433.old 23 rfl).trans e426))))))))))))))))))
        have e524 := n516.ne rfl (n515.ne rfl (n513.ne rfl (n512.ne rfl (n510.ne rfl (n497.ne rfl (n496.ne rfl (n495.ne rfl ((p481.old 24 rfl).trans e474))))))))
        have e525 := n516.ne rfl (n515.ne rfl (n513.ne rfl (n512.ne rfl (n510.ne rfl (n497.ne rfl (n496.ne rfl (n495.ne rfl ((p481.old 109 rfl).trans (n470.ne rfl (n469.ne rfl (n468.ne rfl (n465.ne rfl (n464.ne rfl (n462.ne rfl (n449.ne rfl (n448.ne rfl (n447.ne rfl ((p433.old 109 rfl).trans (n422.ne rfl (n421.ne rfl (n420.ne rfl ((p404.old 109 rfl).trans (n395.ne rfl (n394.ne rfl (n392.ne rfl (n391.ne rfl (n386.ne rfl s109I373)))))))))))))))))))))))))))
        exact th_n (hKI373 _ _ _ (by omega) ⟨i + 1, vak3, (ints (formV (addD (accD (L1.take i)) (wi xh428 (5)) (1 + (wi xh430 (12)))))).length, vck3, mak3, (pairs (formM (addD (accD (L1.take i)) (wi xh428 (5)) (1 + (wi xh430 (12)))))).length, mck3, vak4, (ints (formV (addD (accD (rot L1 (wi k (min L1.length 40)) (min L1.length 40) i)) (wi xh476 (5)) (1 + (wi xh478 (12)))))).length, vck4, mak4, (pairs (formM (addD (accD (rot L1 (wi k (min L1.length 40)) (min L1.length 40) i)) (wi xh476 (5)) (1 + (wi xh478 (12)))))).length, mck4, rfl, n516.ok, G500, e517, e518, e519, e520, e521, e522, e523, e524, e525, n516.at_, B501, B502, B503, u499b, (by rw [hnx1]; exact F508.congr (accD_step h428x h430x)), (by rw [hnx2]; exact F509.congr (accD_step h476x h478x)), A504, A505, A506, A507, by omega⟩)
      · refine wp_cond_false ((n470.at_).trans (congrArg Value.bool (decide_eq_false c471))) ?_
        refine wp_skip ?_
        refine ib_n ?_
        refine th_n (hK389 _ _ ?_)
        refine wp_region_lit ?_
        have e526 := n470.ne rfl (n469.ne rfl (n468.ne rfl (n465.ne rfl (n464.ne rfl (n462.ne rfl (n449.ne rfl (n448.ne rfl (n447.ne rfl ((p433.old 110 rfl).trans (n422.ne rfl (n421.ne rfl (n420.ne rfl ((p404.old 110 rfl).trans (n395.ne rfl (n394.ne rfl (n392.ne rfl (n391.ne rfl (n386.ne rfl s110I373))))))))))))))))))
        refine sv n470.ok rfl (wn _ rfl) rfl (o_add (r := ((i + 1 : Nat) : Int)) e526 ev_const (by omega) (by omega)) (fun an527 n527 => ?_)
        refine sv n527.ok rfl (wn _ rfl) rfl (o_mv n527.at_) (fun an528 n528 => ?_)
        refine wpList_nil ?_
        have hnx1 := List.take_add_one (l := L1) (i := i)
        rw [h399x] at hnx1
        have hnx2 := rot_succ L1 (wi k (min L1.length 40)) (min L1.length 40) i (by rw [hm]; exact h402x)
        have e529 := n528.ne rfl (n527.ne rfl (n470.ne rfl (n469.ne rfl (n468.ne rfl (n465.ne rfl (n464.ne rfl (n462.ne rfl (n449.ne rfl (n448.ne rfl (n447.ne rfl ((p433.old 0 rfl).trans (n422.ne rfl (n421.ne rfl (n420.ne rfl ((p404.old 0 rfl).trans e398)))))))))))))))
        have e530 := n528.ne rfl (n527.ne rfl (n470.ne rfl (n469.ne rfl (n468.ne rfl (n465.ne rfl (n464.ne rfl (n462.ne rfl (n449.ne rfl (n448.ne rfl (n447.ne rfl ((p433.old 2 rfl).trans (n422.ne rfl (n421.ne rfl (n420.ne rfl ((p404.old 2 rfl).trans e400)))))))))))))))
        have e531 := n528.ne rfl (n527.ne rfl (n470.ne rfl (n469.ne rfl (n468.ne rfl (n465.ne rfl (n464.ne rfl (n462.ne rfl (n449.ne rfl (n448.ne rfl (n447.ne rfl ((p433.old 7 rfl).trans (n422.ne rfl (n421.ne rfl (n420.ne rfl ((p404.old 7 rfl).trans (n395.ne rfl (n394.ne rfl (n392.ne rfl (n391.ne rfl (n386.ne rfl s7I373))))))))))))))))))))
        have e532 := n528.ne rfl (n527.ne rfl (n470.ne rfl (n469.ne rfl (n468.ne rfl (n465.ne rfl (n464.ne rfl (n462.ne rfl (n449.ne rfl (n448.ne rfl (n447.ne rfl ((p433.old 8 rfl).trans (n422.ne rfl (n421.ne rfl (n420.ne rfl ((p404.old 8 rfl).trans (n395.ne rfl (n394.ne rfl (n392.ne rfl (n391.ne rfl (n386.ne rfl s8I373))))))))))))))))))))
        have e533 := n528.ne rfl (n527.ne rfl (n470.ne rfl (n469.ne rfl (n468.ne rfl (n465.ne rfl (n464.ne rfl (n462.ne rfl (n449.ne rfl (n448.ne rfl (n447.ne rfl ((p433.old 9 rfl).trans (n422.ne rfl (n421.ne rfl (n420.ne rfl ((p404.old 9 rfl).trans (n395.ne rfl (n394.ne rfl (n392.ne rfl (n391.ne rfl (n386.ne rfl s9I373))))))))))))))))))))
        have e534 := n528.ne rfl (n527.ne rfl (n470.ne rfl (n469.ne rfl (n468.ne rfl (n465.ne rfl (n464.ne rfl (n462.ne rfl (n449.ne rfl (n448.ne rfl (n447.ne rfl ((p433.old 15 rfl).trans (n422.ne rfl (n421.ne rfl (n420.ne rfl ((p404.old 15 rfl).trans (n395.ne rfl (n394.ne rfl (n392.ne rfl (n391.ne rfl (n386.ne rfl s15I373))))))))))))))))))))
        have e535 := n528.ne rfl (n527.ne rfl (n470.ne rfl (n469.ne rfl (n468.ne rfl (n465.ne rfl (n464.ne rfl (n462.ne rfl (n449.ne rfl (n448.ne rfl (n447.ne rfl ((p433.old 23 rfl).trans e426)))))))))))
        have e536 := n528.ne rfl (n527.ne rfl (n470.ne rfl (n469.ne rfl (n468.ne rfl (n465.ne rfl (n464.ne rfl (n462.ne rfl (n449.ne rfl (n448.ne rfl (n447.ne rfl ((p433.old 24 rfl).trans (n422.ne rfl (n421.ne rfl (n420.ne rfl ((p404.old 24 rfl).trans (n395.ne rfl (n394.ne rfl (n392.ne rfl (n391.ne rfl (n386.ne rfl s24I373))))))))))))))))))))
        have e537 := n528.ne rfl (n527.ne rfl (n470.ne rfl (n469.ne rfl (n468.ne rfl (n465.ne rfl (n464.ne rfl (n462.ne rfl (n449.ne rfl (n448.ne rfl (n447.ne rfl ((p433.old 109 rfl).trans (n422.ne rfl (n421.ne rfl (n420.ne rfl ((p404.old 109 rfl).trans (n395.ne rfl (n394.ne rfl (n392.ne rfl (n391.ne rfl (n386.ne rfl s109I373))))))))))))))))))))
        exact th_n (hKI373 _ _ _ (by omega) ⟨i + 1, vak3, (ints (formV (addD (accD (L1.take i)) (wi xh428 (5)) (1 + (wi xh430 (12)))))).length, vck3, mak3, (pairs (formM (addD (accD (L1.take i)) (wi xh428 (5)) (1 + (wi xh430 (12)))))).length, mck3, p2, pn2, pc2, q2, qn2, qc2, rfl, n528.ok, G452, e529, e530, e531, e532, e533, e534, e535, e536, e537, n528.at_, B453, B454, u451b, B455, (by rw [hnx1]; exact F460.congr (accD_step h428x h430x)), (by rw [hnx2]; exact F461.congr (accD_skip (by omega))), A456, A457, A458, A459, by omega⟩)
    · refine wp_cond_false ((n422.at_).trans (congrArg Value.bool (decide_eq_false c423))) ?_
      refine wp_skip ?_
      refine th_n (hK418 _ _ ?_)
      refine wp_seq_k (fun K538 hK538 => ?_)
      refine wp_region_lit ?_
      have ep404_17 : ap404.eval (.tmp 29) = .slice uh402 xh402.length vh402 := p404.js 17 rfl
      have e539 := n422.ne rfl (n421.ne rfl (n420.ne rfl ep404_17))
      refine sv n422.ok rfl (wn _ rfl) rfl (o_mv e539) (fun an540 n540 => ?_)
      refine sv n540.ok rfl (wn _ rfl) rfl (o_len n540.at_ Try.underlying22) (fun an541 n541 => ?_)
      refine sv n541.ok rfl (wn _ rfl) rfl (o_gtI n541.at_ ev_const) (fun an542 n542 => ?_)
      refine wpList_nil ?_
      refine th_n (hK538 _ _ ?_)
      by_cases c543 : (1 : Int) < ((xh402.length : Nat) : Int)
      · refine wp_cond_true ((n542.at_).trans (congrArg Value.bool (decide_eq_true c543))) ?_
        refine wp_seq_k (fun K544 hK544 => ?_)
        refine reg_start (N := 236) (m := 12) (by kernel_rfl) (fun R5450 => ?_)
        have e546 := n542.ne rfl (n541.ne rfl (n540.ne rfl (n422.ne rfl (n421.ne rfl (n420.ne rfl ((p404.old 24 rfl).trans (n395.ne rfl (n394.ne rfl (n392.ne rfl (n391.ne rfl (n386.ne rfl s24I373)))))))))))
        have R5451 := R5450.snoc (n' := 1) rfl (fun vJ _ => vJ = .agg #[.slice p2 pn2 pc2, .slice q2 qn2 qc2]) rfl (fun _ _ _ _ h => h) (fun aS wS pS => by
            exact Does.val (wn _ rfl) (o_ldR ((pS.old 24 rfl).trans e546) (Bk.gr B411 (gr_drew pS.gr)) Try.underlying25 rfl (by kernel_rfl)) (Gr.refl _) rfl rfl)
        have e547 := n542.ne rfl (n541.ne rfl (n540.ne rfl e539))
        have R5452 := R5451.snoc (n' := 2) rfl (fun vJ _ => vJ = .slice uh402 xh402.length vh402) rfl (fun _ _ _ _ h => h) (fun aS wS pS => by
            exact Does.val (wn _ rfl) (o_mv ((pS.old 29 rfl).trans e547)) (Gr.refl _) rfl rfl)
        have h548l : 0 < List.length xh402 := by omega
        obtain ⟨bh548, fh548, h548a, h548b, h548c⟩ := h402e (ne_nil_of_lt h548l)
        obtain ⟨xh548, h548x⟩ : ∃ x, xh402[0]? = some x := ⟨_, List.getElem?_eq_getElem h548l⟩
        have R5453 := R5452.snoc (n' := 3) rfl (fun vJ _ => vJ = .pointer (some ⟨bh548, fh548 + 0 * 1, none⟩)) rfl (fun _ _ _ _ h => h) (fun aS wS pS => by
            have eR545_1 : aS.eval (.tmp 154) = .slice uh402 xh402.length vh402 := pS.pre 1 rfl
            exact Does.val (wn _ rfl) (o_iaV (i := 0) (s := 1) h548a (eR545_1) ev_const Try.underlying22 (by kernel_rfl) h548l) (Gr.refl _) rfl rfl)
        have R5454 := R5453.snoc (n' := 4) rfl (fun vJ _ => vJ = .int .i64 (xh548)) rfl (fun _ _ _ _ h => h) (fun aS wS pS => by
            have eR545_2 : aS.eval (.tmp 155) = .pointer (some ⟨bh548, fh548 + 0 * 1, none⟩) := pS.pre 2 rfl
            exact Does.val (wn _ rfl) (o_ld (eR545_2) (Try.isAgg3 _) ((Below.cell (G407.trans (gr_drew pS.gr)) h548b).trans (h548c _ _ h548x))) (Gr.refl _) rfl rfl)
        have hw549 := wi_lt xh548 (5) (by omega)
        have R5455 := R5454.snoc (n' := 5) rfl (fun vJ _ => vJ = .int .i64 ((wi xh548 (5) : Nat) : Int)) rfl (fun _ _ _ _ h => h) (fun aS wS pS => by
            have eR545_3 : aS.eval (.tmp 156) = .int .i64 (xh548) := pS.pre 3 rfl
            exact Does.call (wn _ rfl) (o_f2 Try.func30 rfl rfl rfl (eR545_3) ev_const) (kwithin_any xh548 (5) (by omega) (by omega) wS) (by rintro _ w2 ⟨rfl, g⟩; exact ⟨_, rfl, g, rfl⟩) rfl)
        have R5456 := R5455.snoc (n' := 6) rfl (fun vJ _ => vJ = .slice uh402 xh402.length vh402) rfl (fun _ _ _ _ h => h) (fun aS wS pS => by
            exact Does.val (wn _ rfl) (o_mv ((pS.old 29 rfl).trans e547)) (Gr.refl _) rfl rfl)
        have h550l : 1 < List.length xh402 := by omega
        obtain ⟨bh550, fh550, h550a, h550b, h550c⟩ := h402e (ne_nil_of_lt h550l)
        obtain ⟨xh550, h550x⟩ : ∃ x, xh402[1]? = some x := ⟨_, List.getElem?_eq_getElem h550l⟩
        have R5457 := R5456.snoc (n' := 7) rfl (fun vJ _ => vJ = .pointer (some ⟨bh550, fh550 + 1 * 1, none⟩)) rfl (fun _ _ _ _ h => h) (fun aS wS pS => by
            have eR545_5 : aS.eval (.tmp 158) = .slice uh402 xh402.length vh402 := pS.pre 5 rfl
            exact Does.val (wn _ rfl) (o_iaV (i := 1) (s := 1) h550a (eR545_5) ev_const Try.underlying22 (by kernel_rfl) h550l) (Gr.refl _) rfl rfl)
        have R5458 := R5457.snoc (n' := 8) rfl (fun vJ _ => vJ = .int .i64 (xh550)) rfl (fun _ _ _ _ h => h) (fun aS wS pS => by
            have eR545_6 : aS.eval (.tmp 159) = .pointer (some ⟨bh550, fh550 + 1 * 1, none⟩) := pS.pre 6 rfl
            exact Does.val (wn _ rfl) (o_ld (eR545_6) (Try.isAgg3 _) ((Below.cell (G407.trans (gr_drew pS.gr)) h550b).trans (h550c _ _ h550x))) (Gr.refl _) rfl rfl)
        have hw551 := wi_lt xh550 (12) (by omega)
        have R5459 := R5458.snoc (n' := 9) rfl (fun vJ _ => vJ = .int .i64 ((wi xh550 (12) : Nat) : Int)) rfl (fun _ _ _ _ h => h) (fun aS wS pS => by
            have eR545_7 : aS.eval (.tmp 160) = .int .i64 (xh550) := pS.pre 7 rfl
            exact Does.call (wn _ rfl) (o_f2 Try.func30 rfl rfl rfl (eR545_7) ev_const) (kwithin_any xh550 (12) (by omega) (by omega) wS) (by rintro _ w2 ⟨rfl, g⟩; exact ⟨_, rfl, g, rfl⟩) rfl)
        have R54510 := R5459.snoc (n' := 10) rfl (fun vJ _ => vJ = .int .i64 ((1 + (wi xh550 (12)) : Nat) : Int)) rfl (fun _ _ _ _ h => h) (fun aS wS pS => by
            have eR545_8 : aS.eval (.tmp 161) = .int .i64 ((wi xh550 (12) : Nat) : Int) := pS.pre 8 rfl
            exact Does.val (wn _ rfl) (o_add (r := ((1 + (wi xh550 (12)) : Nat) : Int)) ev_const (eR545_8) (by omega) (by omega)) (Gr.refl _) rfl rfl)
        have R54511 := R54510.snoc (n' := 11) rfl (fun vJ _ => vJ = .agg #[.int .i64 ((wi xh548 (5) : Nat) : Int), .int .i64 ((1 + (wi xh550 (12)) : Nat) : Int)]) rfl (fun _ _ _ _ h => h) (fun aS wS pS => by
            have eR545_4 : aS.eval (.tmp 157) = .int .i64 ((wi xh548 (5) : Nat) : Int) := pS.pre 4 rfl
            have eR545_9 : aS.eval (.tmp 162) = .int .i64 ((1 + (wi xh550 (12)) : Nat) : Int) := pS.pre 9 rfl
            exact Does.val (wn _ rfl) (o_bd (cells := #[.int .i64 ((wi xh548 (5) : Nat) : Int), .int .i64 ((1 + (wi xh550 (12)) : Nat) : Int)]) (vs := [(0, .int .i64 ((wi xh548 (5) : Nat) : Int)), (1, .int .i64 ((1 + (wi xh550 (12)) : Nat) : Int))]) (by simp [(eR545_4), (eR545_9), ev_const]) (by kernel_rfl)) (Gr.refl _) rfl rfl)
        have R54512 := R54511.snoc (n' := 12) rfl (fun vJ wJ => ∃ (vak3 : Option Addr) (vck3 : Nat) (mak3 : Option Addr) (mck3 : Nat), vJ = .tuple #[.agg #[.slice vak3 ((ints (formV (addD (accD (rot L1 (wi k (min L1.length 40)) (min L1.length 40) i)) (wi xh548 (5)) (1 + (wi xh550 (12)))))).length) vck3, .slice mak3 ((pairs (formM (addD (accD (rot L1 (wi k (min L1.length 40)) (min L1.length 40) i)) (wi xh548 (5)) (1 + (wi xh550 (12)))))).length) mck3], .int .i64 0] ∧ (KnS b310 b334 wJ (.agg #[.slice vak3 ((ints (formV (addD (accD (rot L1 (wi k (min L1.length 40)) (min L1.length 40) i)) (wi xh548 (5)) (1 + (wi xh550 (12)))))).length) vck3, .slice mak3 ((pairs (formM (addD (accD (rot L1 (wi k (min L1.length 40)) (min L1.length 40) i)) (wi xh548 (5)) (1 + (wi xh550 (12)))))).length) mck3]) (addD (accD (rot L1 (wi k (min L1.length 40)) (min L1.length 40) i)) (wi xh548 (5)) (1 + (wi xh550 (12)))))) rfl (fun _ _ _ g ⟨vak3, vck3, mak3, mck3, h, q0⟩ => ⟨vak3, vck3, mak3, mck3, h, q0.gr g⟩) (fun aS wS pS => by
            have eR545_0 : aS.eval (.tmp 153) = .agg #[.slice p2 pn2 pc2, .slice q2 qn2 qc2] := pS.pre 0 rfl
            have eR545_10 : aS.eval (.tmp 163) = .agg #[.int .i64 ((wi xh548 (5) : Nat) : Int), .int .i64 ((1 + (wi xh550 (12)) : Nat) : Int)] := pS.pre 10 rfl
            exact Does.call (wn _ rfl) (o_f2 Try.func11 rfl rfl rfl (eR545_0) (eR545_10)) (saddS (b1 := b310) (b2 := b334) _ _ (wi xh548 (5)) (1 + (wi xh550 (12))) wS (F417.gr (gr_drew pS.gr)) (accD_sm _) ⟨by omega, by omega, by omega⟩ (Bk.gr B410 (gr_drew pS.gr)).lt (Bk.gr B411 (gr_drew pS.gr)).lt) (by rintro _ w2 ⟨kk3, rfl, hkk3, g⟩; obtain ⟨vak3, vck3, mak3, mck3, rfl⟩ := hkk3.form; exact ⟨_, rfl, g, ⟨vak3, vck3, mak3, mck3, rfl, hkk3⟩⟩) rfl)
        refine R54512.run (k := 5) (L := #[true, true, true, true, true, true, true, true, true, true, true, true, false, false, false, false, false]) (by kernel_rfl) (by kernel_rfl) (by kernel_rfl) n542.ok (by kernel_rfl) (by kernel_rfl) (fun ap553 w554 p553 => ?_)
        have g555 := gr_drew p553.gr
        have G556 := G407.trans g555
        have B557 := B408.gr g555
        have B558 := B409.gr g555
        have B559 := B410.gr g555
        have B560 := B411.gr g555
        have A561 := A412.trans g555
        have A562 := A413.trans g555
        have A563 := A414.trans g555
        have A564 := A415.trans g555
        have F565 := F416.gr g555
        have F566 := F417.gr g555
        obtain ⟨vak3, vck3, mak3, mck3, ep553_11, hkk3⟩ := p553.js 11 rfl
        have ep553_11 : ap553.eval (.tmp 164) = .tuple #[.agg #[.slice vak3 ((ints (formV (addD (accD (rot L1 (wi k (min L1.length 40)) (min L1.length 40) i)) (wi xh548 (5)) (1 + (wi xh550 (12)))))).length) vck3, .slice mak3 ((pairs (formM (addD (accD (rot L1 (wi k (min L1.length 40)) (min L1.length 40) i)) (wi xh548 (5)) (1 + (wi xh550 (12)))))).length) mck3], .int .i64 0] := ep553_11
        refine t_val (i := 12) (by kernel_rfl) rfl p553.ok rfl (wn _ rfl) rfl (o_mv ep553_11) (fun an567 n567 => ?_)
        refine t_three (i0 := 13) (i1 := 14) (j := 15) (v0 := (.agg #[.slice vak3 ((ints (formV (addD (accD (rot L1 (wi k (min L1.length 40)) (min L1.length 40) i)) (wi xh548 (5)) (1 + (wi xh550 (12)))))).length) vck3, .slice mak3 ((pairs (formM (addD (accD (rot L1 (wi k (min L1.length 40)) (min L1.length 40) i)) (wi xh548 (5)) (1 + (wi xh550 (12)))))).length) mck3])) (v1 := (.int .i64 0)) (by kernel_rfl) (by kernel_rfl) (by kernel_rfl) (by kernel_rfl) (by kernel_rfl) (by kernel_rfl) (by kernel_rfl) rfl rfl rfl n567.ok rfl rfl rfl (fun _ => wn _ rfl) (fun _ => wn _ rfl) (fun _ => wn _ rfl) rfl rfl rfl rfl (fun a2 k2 => o_ex ((k2 152 rfl).trans n567.at_) rfl) (fun a2 w1 k2 => o_ex ((k2 152 rfl).trans n567.at_) rfl) (fun a2 h0 k2 => o_stR ((k2 24 rfl rfl).trans ((n567.ne rfl ((p553.old 24 rfl).trans e546)))) h0 B560 (by kernel_rfl) rfl (by simp [Value.oneCell'])) B560 (fun an568 an569 w570 n568 n569 u571 u571b => ?_)
        have G572 : Gr w w570 := Below.upd G556 l343 u571
        have B573 := B557.upd u571 (Nat.ne_of_lt l337)
        have B574 := B558.upd u571 (Nat.ne_of_lt l338)
        have B575 := B559.upd u571 (Nat.ne_of_lt l342)
        have A576 : Gr w21 w570 := Below.upd A561 l344 u571
        have A577 : Gr w30 w570 := Below.upd A562 l345 u571
        have A578 : Gr w82 w570 := Below.upd A563 l346 u571
        have A579 : Gr w129 w570 := Below.upd A564 l347 u571
        have F580 := F565.upd2 u571
        have F581 := hkk3.upd2 u571
        refine t_val (i := 16) (by kernel_rfl) rfl n569.ok rfl (wn _ rfl) rfl (o_as n569.at_) (fun an582 n582 => ?_)
        refine wpAny_done (by kernel_rfl) ?_ _
        refine th_n (hK544 _ _ ?_)
        refine wp_seq_k (fun K583 hK583 => ?_)
        refine wp_region_lit ?_
        refine sv n582.ok rfl (wn _ rfl) rfl (o_mv n582.at_) (fun an584 n584 => ?_)
        refine sv n584.ok rfl (wn _ rfl) rfl (o_neq (b := false) n584.at_ ev_const (by decide)) (fun an585 n585 => ?_)
        refine wpList_nil ?_
        refine th_n (hK583 _ _ ?_)
        refine wp_cond_false (n585.at_) ?_
        refine wp_skip ?_
        refine ib_n ?_
        refine th_n (hK389 _ _ ?_)
        refine wp_region_lit ?_
        have e586 := n585.ne rfl (n584.ne rfl (n582.ne rfl (n569.ne rfl (n568.ne rfl (n567.ne rfl ((p553.old 110 rfl).trans (n542.ne rfl (n541.ne rfl (n540.ne rfl (n422.ne rfl (n421.ne rfl (n420.ne rfl ((p404.old 110 rfl).trans (n395.ne rfl (n394.ne rfl (n392.ne rfl (n391.ne rfl (n386.ne rfl s110I373))))))))))))))))))
        refine sv n585.ok rfl (wn _ rfl) rfl (o_add (r := ((i + 1 : Nat) : Int)) e586 ev_const (by omega) (by omega)) (fun an587 n587 => ?_)
        refine sv n587.ok rfl (wn _ rfl) rfl (o_mv n587.at_) (fun an588 n588 => ?_)
        refine wpList_nil ?_
        have hnx1 := List.take_add_one (l := L1) (i := i)
        rw [h399x] at hnx1
        have hnx2 := rot_succ L1 (wi k (min L1.length 40)) (min L1.length 40) i (by rw [hm]; exact h402x)
        have e589 := n588.ne rfl (n587.ne rfl (n585.ne rfl (n584.ne rfl (n582.ne rfl (n569.ne rfl (n568.ne rfl (n567.ne rfl ((p553.old 0 rfl).trans (n542.ne rfl (n541.ne rfl (n540.ne rfl (n422.ne rfl (n421.ne rfl (n420.ne rfl ((p404.old 0 rfl).trans e398)))))))))))))))
        have e590 := n588.ne rfl (n587.ne rfl (n585.ne rfl (n584.ne rfl (n582.ne rfl (n569.ne rfl (n568.ne rfl (n567.ne rfl ((p553.old 2 rfl).trans (n542.ne rfl (n541.ne rfl (n540.ne rfl (n422.ne rfl (n421.ne rfl (n420.ne rfl ((p404.old 2 rfl).trans e400)))))))))))))))
        have e591 := n588.ne rfl (n587.ne rfl (n585.ne rfl (n584.ne rfl (n582.ne rfl (n569.ne rfl (n568.ne rfl (n567.ne rfl ((p553.old 7 rfl).trans (n542.ne rfl (n541.ne rfl (n540.ne rfl (n422.ne rfl (n421.ne rfl (n420.ne rfl ((p404.old 7 rfl).trans (n395.ne rfl (n394.ne rfl (n392.ne rfl (n391.ne rfl (n386.ne rfl s7I373))))))))))))))))))))
        have e592 := n588.ne rfl (n587.ne rfl (n585.ne rfl (n584.ne rfl (n582.ne rfl (n569.ne rfl (n568.ne rfl (n567.ne rfl ((p553.old 8 rfl).trans (n542.ne rfl (n541.ne rfl (n540.ne rfl (n422.ne rfl (n421.ne rfl (n420.ne rfl ((p404.old 8 rfl).trans (n395.ne rfl (n394.ne rfl (n392.ne rfl (n391.ne rfl (n386.ne rfl s8I373))))))))))))))))))))
        have e593 := n588.ne rfl (n587.ne rfl (n585.ne rfl (n584.ne rfl (n582.ne rfl (n569.ne rfl (n568.ne rfl (n567.ne rfl ((p553.old 9 rfl).trans (n542.ne rfl (n541.ne rfl (n540.ne rfl (n422.ne rfl (n421.ne rfl (n420.ne rfl ((p404.old 9 rfl).trans (n395.ne rfl (n394.ne rfl (n392.ne rfl (n391.ne rfl (n386.ne rfl s9I373))))))))))))))))))))
        have e594 := n588.ne rfl (n587.ne rfl (n585.ne rfl (n584.ne rfl (n582.ne rfl (n569.ne rfl (n568.ne rfl (n567.ne rfl ((p553.old 15 rfl).trans (n542.ne rfl (n541.ne rfl (n540.ne rfl (n422.ne rfl (n421.ne rfl (n420.ne rfl ((p404.old 15 rfl).trans (n395.ne rfl (n394.ne rfl (n392.ne rfl (n391.ne rfl (n386.ne rfl s15I373))))))))))))))))))))
        have e595 := n588.ne rfl (n587.ne rfl (n585.ne rfl (n584.ne rfl (n582.ne rfl (n569.ne rfl (n568.ne rfl (n567.ne rfl ((p553.old 23 rfl).trans (n542.ne rfl (n541.ne rfl (n540.ne rfl (n422.ne rfl (n421.ne rfl (n420.ne rfl ((p404.old 23 rfl).trans (n395.ne rfl (n394.ne rfl (n392.ne rfl (n391.ne rfl (n386.ne rfl s23I373))))))))))))))))))))
        have e596 := n588.ne rfl (n587.ne rfl (n585.ne rfl (n584.ne rfl (n582.ne rfl (n569.ne rfl (n568.ne rfl (n567.ne rfl ((p553.old 24 rfl).trans e546))))))))
        have e597 := n588.ne rfl (n587.ne rfl (n585.ne rfl (n584.ne rfl (n582.ne rfl (n569.ne rfl (n568.ne rfl (n567.ne rfl ((p553.old 109 rfl).trans (n542.ne rfl (n541.ne rfl (n540.ne rfl (n422.ne rfl (n421.ne rfl (n420.ne rfl ((p404.old 109 rfl).trans (n395.ne rfl (n394.ne rfl (n392.ne rfl (n391.ne rfl (n386.ne rfl s109I373))))))))))))))))))))
        exact th_n (hKI373 _ _ _ (by omega) ⟨i + 1, p1, pn1, pc1, q1, qn1, qc1, vak3, (ints (formV (addD (accD (rot L1 (wi k (min L1.length 40)) (min L1.length 40) i)) (wi xh548 (5)) (1 + (wi xh550 (12)))))).length, vck3, mak3, (pairs (formM (addD (accD (rot L1 (wi k (min L1.length 40)) (min L1.length 40) i)) (wi xh548 (5)) (1 + (wi xh550 (12)))))).length, mck3, rfl, n588.ok, G572, e589, e590, e591, e592, e593, e594, e595, e596, e597, n588.at_, B573, B574, B575, u571b, (by rw [hnx1]; exact F580.congr (accD_skip (by omega))), (by rw [hnx2]; exact F581.congr (accD_step h548x h550x)), A576, A577, A578, A579, by omega⟩)
      · refine wp_cond_false ((n542.at_).trans (congrArg Value.bool (decide_eq_false c543))) ?_
        refine wp_skip ?_
        refine ib_n ?_
        refine th_n (hK389 _ _ ?_)
        refine wp_region_lit ?_
        have e598 := n542.ne rfl (n541.ne rfl (n540.ne rfl (n422.ne rfl (n421.ne rfl (n420.ne rfl ((p404.old 110 rfl).trans (n395.ne rfl (n394.ne rfl (n392.ne rfl (n391.ne rfl (n386.ne rfl s110I373)))))))))))
        refine sv n542.ok rfl (wn _ rfl) rfl (o_add (r := ((i + 1 : Nat) : Int)) e598 ev_const (by omega) (by omega)) (fun an599 n599 => ?_)
        refine sv n599.ok rfl (wn _ rfl) rfl (o_mv n599.at_) (fun an600 n600 => ?_)
        refine wpList_nil ?_
        have hnx1 := List.take_add_one (l := L1) (i := i)
        rw [h399x] at hnx1
        have hnx2 := rot_succ L1 (wi k (min L1.length 40)) (min L1.length 40) i (by rw [hm]; exact h402x)
        have e601 := n600.ne rfl (n599.ne rfl (n542.ne rfl (n541.ne rfl (n540.ne rfl (n422.ne rfl (n421.ne rfl (n420.ne rfl ((p404.old 0 rfl).trans e398))))))))
        have e602 := n600.ne rfl (n599.ne rfl (n542.ne rfl (n541.ne rfl (n540.ne rfl (n422.ne rfl (n421.ne rfl (n420.ne rfl ((p404.old 2 rfl).trans e400))))))))
        have e603 := n600.ne rfl (n599.ne rfl (n542.ne rfl (n541.ne rfl (n540.ne rfl (n422.ne rfl (n421.ne rfl (n420.ne rfl ((p404.old 7 rfl).trans (n395.ne rfl (n394.ne rfl (n392.ne rfl (n391.ne rfl (n386.ne rfl s7I373)))))))))))))
        have e604 := n600.ne rfl (n599.ne rfl (n542.ne rfl (n541.ne rfl (n540.ne rfl (n422.ne rfl (n421.ne rfl (n420.ne rfl ((p404.old 8 rfl).trans (n395.ne rfl (n394.ne rfl (n392.ne rfl (n391.ne rfl (n386.ne rfl s8I373)))))))))))))
        have e605 := n600.ne rfl (n599.ne rfl (n542.ne rfl (n541.ne rfl (n540.ne rfl (n422.ne rfl (n421.ne rfl (n420.ne rfl ((p404.old 9 rfl).trans (n395.ne rfl (n394.ne rfl (n392.ne rfl (n391.ne rfl (n386.ne rfl s9I373)))))))))))))
        have e606 := n600.ne rfl (n599.ne rfl (n542.ne rfl (n541.ne rfl (n540.ne rfl (n422.ne rfl (n421.ne rfl (n420.ne rfl ((p404.old 15 rfl).trans (n395.ne rfl (n394.ne rfl (n392.ne rfl (n391.ne rfl (n386.ne rfl s15I373)))))))))))))
        have e607 := n600.ne rfl (n599.ne rfl (n542.ne rfl (n541.ne rfl (n540.ne rfl (n422.ne rfl (n421.ne rfl (n420.ne rfl ((p404.old 23 rfl).trans (n395.ne rfl (n394.ne rfl (n392.ne rfl (n391.ne rfl (n386.ne rfl s23I373)))))))))))))
        have e608 := n600.ne rfl (n599.ne rfl (n542.ne rfl (n541.ne rfl (n540.ne rfl (n422.ne rfl (n421.ne rfl (n420.ne rfl ((p404.old 24 rfl).trans (n395.ne rfl (n394.ne rfl (n392.ne rfl (n391.ne rfl (n386.ne rfl s24I373)))))))))))))
        have e609 := n600.ne rfl (n599.ne rfl (n542.ne rfl (n541.ne rfl (n540.ne rfl (n422.ne rfl (n421.ne rfl (n420.ne rfl ((p404.old 109 rfl).trans (n395.ne rfl (n394.ne rfl (n392.ne rfl (n391.ne rfl (n386.ne rfl s109I373)))))))))))))
        exact th_n (hKI373 _ _ _ (by omega) ⟨i + 1, p1, pn1, pc1, q1, qn1, qc1, p2, pn2, pc2, q2, qn2, qc2, rfl, n600.ok, G407, e601, e602, e603, e604, e605, e606, e607, e608, e609, n600.at_, B408, B409, B410, B411, (by rw [hnx1]; exact F416.congr (accD_skip (by omega))), (by rw [hnx2]; exact F417.congr (accD_skip (by omega))), A412, A413, A414, A415, by omega⟩)
  · refine wp_cond_false ((n386.at_).trans (congrArg Value.bool (decide_eq_false c388))) ?_
    have hie : i = min L1.length 40 := by omega
    have hend1 : EqD (accD (L1.take i)) (setD L1) := by rw [accD_take L1 hie]; exact EqD.refl _
    have hend2 : EqD (accD (rot L1 (wi k (min L1.length 40)) (min L1.length 40) i)) (setD L1) := by
      have hq := rot_eq L1 (off := wi k (min L1.length 40)) (n := min L1.length 40) rfl (by rcases Nat.eq_zero_or_pos (min L1.length 40) with q | q; exact .inl q; exact .inr (wi_lt k _ q))
      rw [hie]; exact hq
    refine wp_exit ?_
    refine th_x ?_
    refine th_x ?_
    refine ib_x ?_
    refine th_n (hK368 _ _ ?_)
    refine wp_seq_k (fun K610 hK610 => ?_)
    refine wp_seq_k (fun K611 hK611 => ?_)
    refine wp_region_lit ?_
    refine sv n386.ok rfl (wn _ rfl) rfl (o_ldR (n386.ne rfl s23I373) kb310I373 Try.underlying25 rfl (by kernel_rfl)) (fun an612 n612 => ?_)
    refine sv n612.ok rfl (wn _ rfl) rfl (o_ldR (n612.ne rfl (n386.ne rfl s9I373)) kb38I373 Try.underlying25 rfl (by kernel_rfl)) (fun an613 n613 => ?_)
    refine sc n613.ok rfl (wn _ rfl) rfl (o_f2 Try.func17 rfl rfl rfl (n613.ne rfl n612.at_) n613.at_) (ssame _ _ _ _ w384 fP1I373.here (hkq1.gr xanch25I373) (accD_sm _) hend1) ?_
    rintro _ w615 ⟨rfl, g616⟩
    refine ⟨_, rfl, fun an614 n614 => ?_⟩
    have G617 := GI373.trans g616
    have B618 := kb3I373.gr g616
    have B619 := kb38I373.gr g616
    have B620 := kb310I373.gr g616
    have B621 := kb334I373.gr g616
    have A622 := xanch25I373.trans g616
    have A623 := xanch35I373.trans g616
    have A624 := xanch90I373.trans g616
    have A625 := xanch139I373.trans g616
    have F626 := fP1I373.gr g616
    have F627 := fP2I373.gr g616
    refine sv n614.ok rfl (wn _ rfl) rfl (o_not n614.at_ rfl) (fun an628 n628 => ?_)
    refine sv n628.ok rfl (wn _ rfl) rfl (o_mv n628.at_) (fun an629 n629 => ?_)
    have e630 := n629.ne rfl (n628.ne rfl (n614.ne rfl (n613.ne rfl (n612.ne rfl (n386.ne rfl s24I373)))))
    refine sv n629.ok rfl (wgT rfl (yl 4 false rfl n629.at_) rfl) rfl (o_ldR e630 B621 Try.underlying25 rfl (by kernel_rfl)) (fun an631 n631 => ?_)
    have e632 := n631.ne rfl (n629.ne rfl (n628.ne rfl (n614.ne rfl (n613.ne rfl (n612.ne rfl (n386.ne rfl s9I373))))))
    refine sv n631.ok rfl (wgT rfl (yl 4 false rfl (n631.ne rfl n629.at_)) rfl) rfl (o_ldR e632 B619 Try.underlying25 rfl (by kernel_rfl)) (fun an633 n633 => ?_)
    refine sc n633.ok rfl (wgT rfl (yl 4 false rfl (n633.ne rfl (n631.ne rfl n629.at_))) rfl) rfl (o_f2 Try.func17 rfl rfl rfl (n633.ne rfl n631.at_) n633.at_) (ssame _ _ _ _ w615 F627.here (hkq1.gr A622) (accD_sm _) hend2) ?_
    rintro _ w635 ⟨rfl, g636⟩
    refine ⟨_, rfl, fun an634 n634 => ?_⟩
    have G637 := G617.trans g636
    have B638 := B618.gr g636
    have B639 := B619.gr g636
    have B640 := B620.gr g636
    have B641 := B621.gr g636
    have A642 := A622.trans g636
    have A643 := A623.trans g636
    have A644 := A624.trans g636
    have A645 := A625.trans g636
    have e646 := n634.ne rfl (n633.ne rfl (n631.ne rfl n629.at_))
    refine sv n634.ok rfl (wgT rfl (yl 4 false rfl e646) rfl) rfl (o_not n634.at_ rfl) (fun an647 n647 => ?_)
    refine sv n647.ok rfl (wn _ rfl) rfl (o_pkF (n647.ne rfl e646) n647.at_) (fun an648 n648 => ?_)
    refine wpList_nil ?_
    refine th_n (hK611 _ _ ?_)
    refine wp_cond_false (n648.at_) ?_
    refine wp_skip ?_
    refine th_n (hK610 _ _ ?_)
    refine wp_seq_k (fun K649 hK649 => ?_)
    refine wp_region_lit ?_
    have e650 := n648.ne rfl (n647.ne rfl (n634.ne rfl (n633.ne rfl e632)))
    refine sv n648.ok rfl (wn _ rfl) rfl (o_ldR e650 B639 Try.underlying25 rfl (by kernel_rfl)) (fun an651 n651 => ?_)
    have e652 := n651.ne rfl (n648.ne rfl (n647.ne rfl (n634.ne rfl (n633.ne rfl (n631.ne rfl (n629.ne rfl (n628.ne rfl (n614.ne rfl (n613.ne rfl (n612.ne rfl (n386.ne rfl s7I373)))))))))))
    refine sv n651.ok rfl (wn _ rfl) rfl (o_ldR e652 B638 Try.underlying27 rfl (by kernel_rfl)) (fun an653 n653 => ?_)
    refine sc n653.ok rfl (wn _ rfl) rfl (o_f2 Try.func11 rfl rfl rfl (n653.ne rfl n651.at_) n653.at_) (saddI _ _ x y w635 (hkq1.gr A642) hs1) ?_
    rintro _ w655 ⟨kk3, rfl, hkk3, g656⟩
    obtain ⟨vak3, vck3, mak3, mck3, rfl⟩ := hkk3.form
    refine ⟨_, rfl, fun an654 n654 => ?_⟩
    have G657 := G637.trans g656
    have B658 := B638.gr g656
    have B659 := B639.gr g656
    have B660 := B640.gr g656
    have B661 := B641.gr g656
    have A662 := A642.trans g656
    have A663 := A643.trans g656
    have A664 := A644.trans g656
    have A665 := A645.trans g656
    have A667 := Gr.refl w655
    refine sv n654.ok rfl (wn _ rfl) rfl (o_mv n654.at_) (fun an668 n668 => ?_)
    refine sv n668.ok rfl (wn _ rfl) rfl (o_ex n668.at_ rfl) (fun an669 n669 => ?_)
    refine sv n669.ok rfl (wn _ rfl) rfl (o_ex (n669.ne rfl n668.at_) rfl) (fun an670 n670 => ?_)
    refine sal (cs := #[.slice none 0 0, .slice none 0 0]) n670.ok rfl (wn _ rfl) rfl (o_al (z := .agg #[.slice none 0 0, .slice none 0 0]) (by kernel_rfl)) (fun an671 w673 b672 W674 n671 => ?_)
    have l675 : b3 < b672 := by rw [W674.eq]; exact B658.lt
    have l676 : b38 < b672 := by rw [W674.eq]; exact B659.lt
    have l677 : b310 < b672 := by rw [W674.eq]; exact B660.lt
    have l678 : b334 < b672 := by rw [W674.eq]; exact B661.lt
    have l679 : w.heap.size ≤ b672 := by rw [W674.eq]; exact G657.size
    have l680 : w21.heap.size ≤ b672 := by rw [W674.eq]; exact A662.size
    have l681 : w30.heap.size ≤ b672 := by rw [W674.eq]; exact A663.size
    have l682 : w82.heap.size ≤ b672 := by rw [W674.eq]; exact A664.size
    have l683 : w129.heap.size ≤ b672 := by rw [W674.eq]; exact A665.size
    have l684 : w655.heap.size ≤ b672 := by rw [W674.eq]; exact A667.size
    have G685 := G657.trans W674.gr
    have B686 := B658.gr W674.gr
    have B687 := B659.gr W674.gr
    have B688 := B660.gr W674.gr
    have B689 := B661.gr W674.gr
    have A690 := A662.trans W674.gr
    have A691 := A663.trans W674.gr
    have A692 := A664.trans W674.gr
    have A693 := A665.trans W674.gr
    have A694 := A667.trans W674.gr
    refine ssR rfl (wn _ rfl) (o_stR n671.at_ (n671.ne rfl (n670.ne rfl n669.at_)) W674.bk (by kernel_rfl) rfl (by simp [Value.oneCell'])) W674.bk (fun w695 u696 u696b => ?_)
    have G697 : Gr w w695 := Below.upd G685 l679 u696
    have B698 := B686.upd u696 (Nat.ne_of_lt l675)
    have B699 := B687.upd u696 (Nat.ne_of_lt l676)
    have B700 := B688.upd u696 (Nat.ne_of_lt l677)
    have B701 := B689.upd u696 (Nat.ne_of_lt l678)
    have A702 : Gr w21 w695 := Below.upd A690 l680 u696
    have A703 : Gr w30 w695 := Below.upd A691 l681 u696
    have A704 : Gr w82 w695 := Below.upd A692 l682 u696
    have A705 : Gr w129 w695 := Below.upd A693 l683 u696
    have A706 : Gr w655 w695 := Below.upd A694 l684 u696
    refine sv n671.ok rfl (wn _ rfl) rfl (o_as (n671.ne rfl n670.at_)) (fun an707 n707 => ?_)
    refine wpList_nil ?_
    refine th_n (hK649 _ _ ?_)
    refine wp_seq_k (fun K708 hK708 => ?_)
    refine wp_seq_k (fun K709 hK709 => ?_)
    refine wp_region_lit ?_
    refine sv n707.ok rfl (wn _ rfl) rfl (o_mv n707.at_) (fun an710 n710 => ?_)
    refine sv n710.ok rfl (wn _ rfl) rfl (o_neI n710.at_ ev_const) (fun an711 n711 => ?_)
    refine wpList_nil ?_
    refine th_n (hK709 _ _ ?_)
    by_cases c712 : ¬ (dotE x y) = 0
    · refine wp_cond_true ((n711.at_).trans (congrArg Value.bool (decide_eq_true c712))) ?_
      have hz := c712
      refine wp_seq_k (fun K713 hK713 => ?_)
      refine wp_region_lit ?_
      have e714 := n711.ne rfl (n710.ne rfl (n707.ne rfl (n671.ne rfl (n670.ne rfl (n669.ne rfl (n668.ne rfl (n654.ne rfl (n653.ne rfl e652))))))))
      refine sv n711.ok rfl (wn _ rfl) rfl (o_ldR e714 B698 Try.underlying27 rfl (by kernel_rfl)) (fun an715 n715 => ?_)
      refine sc n715.ok rfl (wn _ rfl) rfl (o_f1 Try.func14 rfl rfl rfl n715.at_) (by have h := dot_any (x, y) w695; rw [dotE_no hz] at h; exact h) ?_
      rintro _ w717 ⟨rfl, g718⟩
      refine ⟨_, rfl, fun an716 n716 => ?_⟩
      have G719 := G697.trans g718
      have B720 := B698.gr g718
      have B721 := B699.gr g718
      have B722 := B700.gr g718
      have B723 := B701.gr g718
      have B724 := u696b.gr g718
      have A725 := A702.trans g718
      have A726 := A703.trans g718
      have A727 := A704.trans g718
      have A728 := A705.trans g718
      have A729 := A706.trans g718
      refine sv n716.ok rfl (wn _ rfl) rfl (o_not n716.at_ rfl) (fun an730 n730 => ?_)
      refine sv n730.ok rfl (wn _ rfl) rfl (o_mv n730.at_) (fun an731 n731 => ?_)
      have e732 := n731.ne rfl (n730.ne rfl (n716.ne rfl (n715.ne rfl (n711.ne rfl (n710.ne rfl (n707.ne rfl n671.at_))))))
      refine sv n731.ok rfl (wgT rfl (yl 3 true rfl n731.at_) rfl) rfl (o_ldR e732 B724 Try.underlying25 rfl (by kernel_rfl)) (fun an733 n733 => ?_)
      refine sv n733.ok rfl (wgT rfl (yl 3 true rfl (n733.ne rfl n731.at_)) rfl) rfl (o_b0 (cs := #[.slice none 0 0, .slice none 0 0]) Try.underlying25 (by kernel_rfl) (by kernel_rfl)) (fun an734 n734 => ?_)
      refine sc n734.ok rfl (wgT rfl (yl 3 true rfl (n734.ne rfl (n733.ne rfl n731.at_))) rfl) rfl (o_f2 Try.func17 rfl rfl rfl (n734.ne rfl n733.at_) n734.at_) (ssameN _ _ _ _ w717 (hkk3.gr A729) (knD_nil w717) (addI_sn hs1 x y) (addI_no _ hz)) ?_
      rintro _ w736 ⟨rfl, g737⟩
      refine ⟨_, rfl, fun an735 n735 => ?_⟩
      have G738 := G719.trans g737
      have B739 := B720.gr g737
      have B740 := B721.gr g737
      have B741 := B722.gr g737
      have B742 := B723.gr g737
      have B743 := B724.gr g737
      have A744 := A725.trans g737
      have A745 := A726.trans g737
      have A746 := A727.trans g737
      have A747 := A728.trans g737
      have A748 := A729.trans g737
      have e749 := n735.ne rfl (n734.ne rfl (n733.ne rfl n731.at_))
      refine sv n735.ok rfl (wn _ rfl) rfl (o_pkT e749 n735.at_) (fun an750 n750 => ?_)
      refine sv n750.ok rfl (wn _ rfl) rfl (o_as n750.at_) (fun an751 n751 => ?_)
      refine wpList_nil ?_
      refine th_n (hK713 _ _ ?_)
      refine wp_ret ?_
      refine th_r ?_
      exact ret1 n751.ok rfl (n751.at_) ⟨rfl, G738⟩
    · refine wp_cond_false ((n711.at_).trans (congrArg Value.bool (decide_eq_false c712))) ?_
      have hz : dotE x y = 0 := Decidable.not_not.mp c712
      refine wp_skip ?_
      refine th_n (hK708 _ _ ?_)
      refine wp_seq_k (fun K752 hK752 => ?_)
      refine wp_region_lit ?_
      have e753 := n711.ne rfl (n710.ne rfl (n707.ne rfl (n671.ne rfl (n670.ne rfl (n669.ne rfl (n668.ne rfl (n654.ne rfl (n653.ne rfl (n651.ne rfl e650)))))))))
      refine sv n711.ok rfl (wn _ rfl) rfl (o_ldR e753 B699 Try.underlying25 rfl (by kernel_rfl)) (fun an754 n754 => ?_)
      have e755 := n754.ne rfl (n711.ne rfl (n710.ne rfl (n707.ne rfl (n671.ne rfl (n670.ne rfl (n669.ne rfl (n668.ne rfl (n654.ne rfl (n653.ne rfl e652)))))))))
      refine sv n754.ok rfl (wn _ rfl) rfl (o_ldR e755 B698 Try.underlying27 rfl (by kernel_rfl)) (fun an756 n756 => ?_)
      refine sc n756.ok rfl (wn _ rfl) rfl (o_f2 Try.func10 rfl rfl rfl (n756.ne rfl n754.at_) n756.at_) (by have h := shasB (b := a) _ _ x y w695 (hkq1.gr A702) hs1 ha; rw [hz] at h; exact h) ?_
      rintro _ w758 ⟨rfl, g759⟩
      refine ⟨_, rfl, fun an757 n757 => ?_⟩
      have G760 := G697.trans g759
      have B761 := B698.gr g759
      have B762 := B699.gr g759
      have B763 := B700.gr g759
      have B764 := B701.gr g759
      have B765 := u696b.gr g759
      have A766 := A702.trans g759
      have A767 := A703.trans g759
      have A768 := A704.trans g759
      have A769 := A705.trans g759
      have A770 := A706.trans g759
      refine sv n757.ok rfl (wn _ rfl) rfl (o_mv n757.at_) (fun an771 n771 => ?_)
      refine sv n771.ok rfl (wn _ rfl) rfl (o_ex n771.at_ rfl) (fun an772 n772 => ?_)
      refine sv n772.ok rfl (wn _ rfl) rfl (o_ex (n772.ne rfl n771.at_) rfl) (fun an773 n773 => ?_)
      refine sv n773.ok rfl (wn _ rfl) rfl (o_as (n773.ne rfl n772.at_)) (fun an774 n774 => ?_)
      refine sv n774.ok rfl (wn _ rfl) rfl (o_as (n774.ne rfl n773.at_)) (fun an775 n775 => ?_)
      refine wpList_nil ?_
      refine th_n (hK752 _ _ ?_)
      refine wp_seq_k (fun K776 hK776 => ?_)
      refine wp_region_lit ?_
      have e777 := n775.ne rfl (n774.ne rfl (n773.ne rfl (n772.ne rfl (n771.ne rfl (n757.ne rfl (n756.ne rfl (n754.ne rfl (n711.ne rfl (n710.ne rfl (n707.ne rfl n671.at_))))))))))
      refine sv n775.ok rfl (wn _ rfl) rfl (o_ldR e777 B765 Try.underlying25 rfl (by kernel_rfl)) (fun an778 n778 => ?_)
      refine sc n778.ok rfl (wn _ rfl) rfl (o_f1 Try.func12 rfl rfl rfl n778.at_) (scount _ _ w758 (hkk3.gr A770) (addI_sn hs1 x y)) ?_
      rintro _ w780 ⟨rfl, g781⟩
      refine ⟨_, rfl, fun an779 n779 => ?_⟩
      have G782 := G760.trans g781
      have B783 := B761.gr g781
      have B784 := B762.gr g781
      have B785 := B763.gr g781
      have B786 := B764.gr g781
      have B787 := B765.gr g781
      have A788 := A766.trans g781
      have A789 := A767.trans g781
      have A790 := A768.trans g781
      have A791 := A769.trans g781
      have A792 := A770.trans g781
      refine sv n779.ok rfl (wn _ rfl) rfl (o_mv n779.at_) (fun an793 n793 => ?_)
      refine sv n793.ok rfl (wn _ rfl) rfl (o_ex n793.at_ rfl) (fun an794 n794 => ?_)
      refine sv n794.ok rfl (wn _ rfl) rfl (o_ex (n794.ne rfl n793.at_) rfl) (fun an795 n795 => ?_)
      refine sv n795.ok rfl (wn _ rfl) rfl (o_as (n795.ne rfl n794.at_)) (fun an796 n796 => ?_)
      refine sv n796.ok rfl (wn _ rfl) rfl (o_as (n796.ne rfl n795.at_)) (fun an797 n797 => ?_)
      refine wpList_nil ?_
      refine th_n (hK776 _ _ ?_)
      refine wp_seq_k (fun K798 hK798 => ?_)
      refine wp_region_lit ?_
      have e799 := n797.ne rfl (n796.ne rfl (n795.ne rfl (n794.ne rfl (n793.ne rfl (n779.ne rfl (n778.ne rfl n775.at_))))))
      refine sv n797.ok rfl (wn _ rfl) rfl (o_mv e799) (fun an800 n800 => ?_)
      refine sv n800.ok rfl (wn _ rfl) rfl (o_eq (b := true) n800.at_ ev_const (by decide)) (fun an801 n801 => ?_)
      refine sv n801.ok rfl (wn _ rfl) rfl (o_mv n801.at_) (fun an802 n802 => ?_)
      have e803 := n802.ne rfl (n801.ne rfl (n800.ne rfl n797.at_))
      refine sv n802.ok rfl (wgT rfl (yl 2 true rfl n802.at_) rfl) rfl (o_mv e803) (fun an804 n804 => ?_)
      refine sv n804.ok rfl (wgT rfl (yl 2 true rfl (n804.ne rfl n802.at_)) rfl) rfl (o_eq (b := true) n804.at_ ev_const (by decide)) (fun an805 n805 => ?_)
      refine sv n805.ok rfl (wn _ rfl) rfl (o_pkT (n805.ne rfl (n804.ne rfl n802.at_)) n805.at_) (fun an806 n806 => ?_)
      refine sv n806.ok rfl (wn _ rfl) rfl (o_mv n806.at_) (fun an807 n807 => ?_)
      have e808 := n807.ne rfl (n806.ne rfl (n805.ne rfl (n804.ne rfl (n802.ne rfl (n801.ne rfl (n800.ne rfl (n797.ne rfl (n796.ne rfl (n795.ne rfl (n794.ne rfl (n793.ne rfl (n779.ne rfl (n778.ne rfl (n775.ne rfl n774.at_))))))))))))))
      refine sv n807.ok rfl (wgT rfl (yl 6 true rfl n807.at_) rfl) rfl (o_mv e808) (fun an809 n809 => ?_)
      refine sv n809.ok rfl (wgT rfl (yl 6 true rfl (n809.ne rfl n807.at_)) rfl) rfl (o_mv n809.at_) (fun an810 n810 => ?_)
      cases c811 : a
      · have e812 := (n810.at_).trans (congrArg Value.bool (c811))
        have e813 := n810.ne rfl (n809.ne rfl (n807.ne rfl (n806.ne rfl (n805.ne rfl (n804.ne rfl (n802.ne rfl (n801.ne rfl (n800.ne rfl (n797.ne rfl (n796.ne rfl (n795.ne rfl (n794.ne rfl (n793.ne rfl (n779.ne rfl (n778.ne rfl (n775.ne rfl (n774.ne rfl (n773.ne rfl n772.at_))))))))))))))))))
        have e814 := (e813).trans (congrArg Value.bool (c811))
        have e815 := ((n810.ne rfl (n809.ne rfl e808))).trans (congrArg Value.bool (c811))
        have e816 := ((n810.ne rfl n809.at_)).trans (congrArg Value.bool (c811))
        refine sn n810.ok rfl (wgF rfl (yl 8 false rfl e812) rfl) rfl (fun an817 n817 => ?_)
        refine sn n817.ok rfl (wgF rfl (yl 8 false rfl (n817.ne rfl e812)) rfl) rfl (fun an818 n818 => ?_)
        refine sn n818.ok rfl (wgF rfl (yl 8 false rfl (n818.ne rfl (n817.ne rfl e812))) rfl) rfl (fun an819 n819 => ?_)
        have e820 := n819.ne rfl (n818.ne rfl (n817.ne rfl (n810.ne rfl (n809.ne rfl n807.at_))))
        have e821 := n819.ne rfl (n818.ne rfl (n817.ne rfl e812))
        refine sv n819.ok rfl (wgT rfl (yl 6 true rfl e820) rfl) rfl (o_pkF e821 ev_const) (fun an822 n822 => ?_)
        refine sv n822.ok rfl (wgT rfl (yl 6 true rfl (n822.ne rfl e820)) rfl) rfl (o_mv n822.at_) (fun an823 n823 => ?_)
        refine sn n823.ok rfl (wgF rfl (yl 13 false rfl n823.at_) rfl) rfl (fun an824 n824 => ?_)
        refine sn n824.ok rfl (wgF rfl (yl 13 false rfl (n824.ne rfl n823.at_)) rfl) rfl (fun an825 n825 => ?_)
        refine sn n825.ok rfl (wgF rfl (yl 13 false rfl (n825.ne rfl (n824.ne rfl n823.at_))) rfl) rfl (fun an826 n826 => ?_)
        have e827 := n826.ne rfl (n825.ne rfl (n824.ne rfl (n823.ne rfl (n822.ne rfl e820))))
        have e828 := n826.ne rfl (n825.ne rfl (n824.ne rfl n823.at_))
        refine sv n826.ok rfl (wgT rfl (yl 6 true rfl e827) rfl) rfl (o_pkF e828 ev_const) (fun an829 n829 => ?_)
        refine sv n829.ok rfl (wgT rfl (yl 6 true rfl (n829.ne rfl e827)) rfl) rfl (o_mv n829.at_) (fun an830 n830 => ?_)
        have e831 := n830.ne rfl (n829.ne rfl (n826.ne rfl (n825.ne rfl (n824.ne rfl (n823.ne rfl (n822.ne rfl (n819.ne rfl (n818.ne rfl (n817.ne rfl e815)))))))))
        refine sv n830.ok rfl (wgT rfl (yl 18 false rfl n830.at_) rfl) rfl (o_mv e831) (fun an832 n832 => ?_)
        refine sv n832.ok rfl (wgT rfl (yl 18 false rfl (n832.ne rfl n830.at_)) rfl) rfl (o_not n832.at_ rfl) (fun an833 n833 => ?_)
        refine sv n833.ok rfl (wgT rfl (yl 18 false rfl (n833.ne rfl (n832.ne rfl n830.at_))) rfl) rfl (o_mv n833.at_) (fun an834 n834 => ?_)
        have e835 := n834.ne rfl (n833.ne rfl (n832.ne rfl (n830.ne rfl (n829.ne rfl (n826.ne rfl (n825.ne rfl (n824.ne rfl (n823.ne rfl (n822.ne rfl (n819.ne rfl (n818.ne rfl (n817.ne rfl (n810.ne rfl (n809.ne rfl (n807.ne rfl (n806.ne rfl (n805.ne rfl (n804.ne rfl (n802.ne rfl (n801.ne rfl (n800.ne rfl (n797.ne rfl n796.at_))))))))))))))))))))))
        refine sv n834.ok rfl (wgT rfl (yl 21 true rfl n834.at_) rfl) rfl (o_mv e835) (fun an836 n836 => ?_)
        have e837 := n836.ne rfl (n834.ne rfl (n833.ne rfl (n832.ne rfl (n830.ne rfl (n829.ne rfl (n826.ne rfl (n825.ne rfl (n824.ne rfl (n823.ne rfl (n822.ne rfl (n819.ne rfl (n818.ne rfl (n817.ne rfl (n810.ne rfl (n809.ne rfl (n807.ne rfl (n806.ne rfl (n805.ne rfl (n804.ne rfl (n802.ne rfl (n801.ne rfl (n800.ne rfl (n797.ne rfl (n796.ne rfl (n795.ne rfl (n794.ne rfl (n793.ne rfl (n779.ne rfl (n778.ne rfl (n775.ne rfl (n774.ne rfl (n773.ne rfl (n772.ne rfl (n771.ne rfl (n757.ne rfl (n756.ne rfl (n754.ne rfl (n711.ne rfl (n710.ne rfl (n707.ne rfl (n671.ne rfl (n670.ne rfl (n669.ne rfl (n668.ne rfl (n654.ne rfl (n653.ne rfl (n651.ne rfl (n648.ne rfl (n647.ne rfl (n634.ne rfl (n633.ne rfl (n631.ne rfl (n629.ne rfl (n628.ne rfl (n614.ne rfl (n613.ne rfl (n612.ne rfl (n386.ne rfl s15I373))))))))))))))))))))))))))))))))))))))))))))))))))))))))))
        refine sv n836.ok rfl (wgT rfl (yl 21 true rfl (n836.ne rfl n834.at_)) rfl) rfl (o_mv e837) (fun an838 n838 => ?_)
        refine sv n838.ok rfl (wgT rfl (yl 21 true rfl (n838.ne rfl (n836.ne rfl n834.at_))) rfl) rfl (o_add (r := (((cntF (setD L1)) + 1 : Nat) : Int)) n838.at_ ev_const (by omega) (by omega)) (fun an839 n839 => ?_)
        have e840 := n839.ne rfl (n838.ne rfl (n836.ne rfl n834.at_))
        refine sv n839.ok rfl (wgT rfl (yl 21 true rfl e840) rfl) rfl (o_eq (b := true) (n839.ne rfl (n838.ne rfl n836.at_)) n839.at_ (by simp [cntF_more hs1 (dotE_ok hz) (ha.trans c811)])) (fun an841 n841 => ?_)
        have e842 := n841.ne rfl (n839.ne rfl (n838.ne rfl (n836.ne rfl (n834.ne rfl (n833.ne rfl (n832.ne rfl n830.at_))))))
        refine sv n841.ok rfl (wgT rfl (yl 18 false rfl e842) rfl) rfl (o_pkT (n841.ne rfl e840) n841.at_) (fun an843 n843 => ?_)
        have e844 := n843.ne rfl (n841.ne rfl (n839.ne rfl (n838.ne rfl (n836.ne rfl (n834.ne rfl (n833.ne rfl (n832.ne rfl (n830.ne rfl (n829.ne rfl e827)))))))))
        refine sv n843.ok rfl (wgT rfl (yl 6 true rfl e844) rfl) rfl (o_pkF (n843.ne rfl e842) n843.at_) (fun an845 n845 => ?_)
        refine sv n845.ok rfl (wn _ rfl) rfl (o_pkT (n845.ne rfl e844) n845.at_) (fun an846 n846 => ?_)
        refine sv n846.ok rfl (wn _ rfl) rfl (o_as n846.at_) (fun an847 n847 => ?_)
        refine wpList_nil ?_
        refine th_n (hK798 _ _ ?_)
        refine wp_ret ?_
        exact ret1 n847.ok rfl (n847.at_) ⟨rfl, G782⟩
      · have e848 := (n810.at_).trans (congrArg Value.bool (c811))
        have e849 := n810.ne rfl (n809.ne rfl (n807.ne rfl (n806.ne rfl (n805.ne rfl (n804.ne rfl (n802.ne rfl (n801.ne rfl (n800.ne rfl (n797.ne rfl (n796.ne rfl (n795.ne rfl (n794.ne rfl (n793.ne rfl (n779.ne rfl (n778.ne rfl (n775.ne rfl (n774.ne rfl (n773.ne rfl n772.at_))))))))))))))))))
        have e850 := (e849).trans (congrArg Value.bool (c811))
        have e851 := ((n810.ne rfl (n809.ne rfl e808))).trans (congrArg Value.bool (c811))
        have e852 := ((n810.ne rfl n809.at_)).trans (congrArg Value.bool (c811))
        have e853 := n810.ne rfl (n809.ne rfl (n807.ne rfl (n806.ne rfl (n805.ne rfl (n804.ne rfl (n802.ne rfl (n801.ne rfl (n800.ne rfl (n797.ne rfl n796.at_)))))))))
        refine sv n810.ok rfl (wgT rfl (yl 8 true rfl e848) rfl) rfl (o_mv e853) (fun an854 n854 => ?_)
        have e855 := n854.ne rfl (n810.ne rfl (n809.ne rfl (n807.ne rfl (n806.ne rfl (n805.ne rfl (n804.ne rfl (n802.ne rfl (n801.ne rfl (n800.ne rfl (n797.ne rfl (n796.ne rfl (n795.ne rfl (n794.ne rfl (n793.ne rfl (n779.ne rfl (n778.ne rfl (n775.ne rfl (n774.ne rfl (n773.ne rfl (n772.ne rfl (n771.ne rfl (n757.ne rfl (n756.ne rfl (n754.ne rfl (n711.ne rfl (n710.ne rfl (n707.ne rfl (n671.ne rfl (n670.ne rfl (n669.ne rfl (n668.ne rfl (n654.ne rfl (n653.ne rfl (n651.ne rfl (n648.ne rfl (n647.ne rfl (n634.ne rfl (n633.ne rfl (n631.ne rfl (n629.ne rfl (n628.ne rfl (n614.ne rfl (n613.ne rfl (n612.ne rfl (n386.ne rfl s15I373)))))))))))))))))))))))))))))))))))))))))))))
        refine sv n854.ok rfl (wgT rfl (yl 8 true rfl (n854.ne rfl e848)) rfl) rfl (o_mv e855) (fun an856 n856 => ?_)
        refine sv n856.ok rfl (wgT rfl (yl 8 true rfl (n856.ne rfl (n854.ne rfl e848))) rfl) rfl (o_eq (b := true) (n856.ne rfl n854.at_) n856.at_ (by simp [cntF_has (ha.trans c811)])) (fun an857 n857 => ?_)
        have e858 := n857.ne rfl (n856.ne rfl (n854.ne rfl (n810.ne rfl (n809.ne rfl n807.at_))))
        have e859 := n857.ne rfl (n856.ne rfl (n854.ne rfl e848))
        refine sv n857.ok rfl (wgT rfl (yl 6 true rfl e858) rfl) rfl (o_pkT e859 n857.at_) (fun an860 n860 => ?_)
        refine sv n860.ok rfl (wgT rfl (yl 6 true rfl (n860.ne rfl e858)) rfl) rfl (o_mv n860.at_) (fun an861 n861 => ?_)
        have e862 := n861.ne rfl (n860.ne rfl (n857.ne rfl (n856.ne rfl (n854.ne rfl (n810.ne rfl (n809.ne rfl (n807.ne rfl (n806.ne rfl (n805.ne rfl (n804.ne rfl (n802.ne rfl (n801.ne rfl (n800.ne rfl (n797.ne rfl (n796.ne rfl (n795.ne rfl (n794.ne rfl (n793.ne rfl (n779.ne rfl (n778.ne rfl e777))))))))))))))))))))
        refine sv n861.ok rfl (wgT rfl (yl 13 true rfl n861.at_) rfl) rfl (o_ldR e862 B787 Try.underlying25 rfl (by kernel_rfl)) (fun an863 n863 => ?_)
        have e864 := n863.ne rfl (n861.ne rfl (n860.ne rfl (n857.ne rfl (n856.ne rfl (n854.ne rfl (n810.ne rfl (n809.ne rfl (n807.ne rfl (n806.ne rfl (n805.ne rfl (n804.ne rfl (n802.ne rfl (n801.ne rfl (n800.ne rfl (n797.ne rfl (n796.ne rfl (n795.ne rfl (n794.ne rfl (n793.ne rfl (n779.ne rfl (n778.ne rfl (n775.ne rfl (n774.ne rfl (n773.ne rfl (n772.ne rfl (n771.ne rfl (n757.ne rfl (n756.ne rfl (n754.ne rfl e753)))))))))))))))))))))))))))))
        refine sv n863.ok rfl (wgT rfl (yl 13 true rfl (n863.ne rfl n861.at_)) rfl) rfl (o_ldR e864 B784 Try.underlying25 rfl (by kernel_rfl)) (fun an865 n865 => ?_)
        refine sc n865.ok rfl (wgT rfl (yl 13 true rfl (n865.ne rfl (n863.ne rfl n861.at_))) rfl) rfl (o_f2 Try.func17 rfl rfl rfl (n865.ne rfl n863.at_) n865.at_) (ssameN _ _ _ _ w780 (hkk3.gr A792) (hkq1.gr A788) (addI_sn hs1 x y) (addI_has (ha.trans c811))) ?_
        rintro _ w867 ⟨rfl, g868⟩
        refine ⟨_, rfl, fun an866 n866 => ?_⟩
        have G869 := G782.trans g868
        have B870 := B783.gr g868
        have B871 := B784.gr g868
        have B872 := B785.gr g868
        have B873 := B786.gr g868
        have B874 := B787.gr g868
        have A875 := A788.trans g868
        have A876 := A789.trans g868
        have A877 := A790.trans g868
        have A878 := A791.trans g868
        have A879 := A792.trans g868
        have e880 := n866.ne rfl (n865.ne rfl (n863.ne rfl (n861.ne rfl (n860.ne rfl e858))))
        have e881 := n866.ne rfl (n865.ne rfl (n863.ne rfl n861.at_))
        refine sv n866.ok rfl (wgT rfl (yl 6 true rfl e880) rfl) rfl (o_pkT e881 n866.at_) (fun an882 n882 => ?_)
        refine sv n882.ok rfl (wgT rfl (yl 6 true rfl (n882.ne rfl e880)) rfl) rfl (o_mv n882.at_) (fun an883 n883 => ?_)
        refine sn n883.ok rfl (wgF rfl (yl 18 true rfl n883.at_) rfl) rfl (fun an884 n884 => ?_)
        refine sn n884.ok rfl (wgF rfl (yl 18 true rfl (n884.ne rfl n883.at_)) rfl) rfl (fun an885 n885 => ?_)
        refine sn n885.ok rfl (wgF rfl (yl 18 true rfl (n885.ne rfl (n884.ne rfl n883.at_))) rfl) rfl (fun an886 n886 => ?_)
        refine sn n886.ok rfl (wgU rfl (yu 21 rfl n886.at_)) rfl (fun an887 n887 => ?_)
        refine sn n887.ok rfl (wgU rfl (yu 21 rfl (n887.ne rfl n886.at_))) rfl (fun an888 n888 => ?_)
        refine sn n888.ok rfl (wgU rfl (yu 21 rfl (n888.ne rfl (n887.ne rfl n886.at_)))) rfl (fun an889 n889 => ?_)
        have e890 := n889.ne rfl (n888.ne rfl (n887.ne rfl n886.at_))
        refine sn n889.ok rfl (wgU rfl (yu 21 rfl e890)) rfl (fun an891 n891 => ?_)
        have e892 := n891.ne rfl (n889.ne rfl (n888.ne rfl (n887.ne rfl (n886.ne rfl (n885.ne rfl (n884.ne rfl n883.at_))))))
        refine sn n891.ok rfl (wgF rfl (yl 18 true rfl e892) rfl) rfl (fun an893 n893 => ?_)
        have e894 := n893.ne rfl (n891.ne rfl (n889.ne rfl (n888.ne rfl (n887.ne rfl (n886.ne rfl (n885.ne rfl (n884.ne rfl (n883.ne rfl (n882.ne rfl e880)))))))))
        refine sv n893.ok rfl (wgT rfl (yl 6 true rfl e894) rfl) rfl (o_pkT (n893.ne rfl e892) ev_const) (fun an895 n895 => ?_)
        refine sv n895.ok rfl (wn _ rfl) rfl (o_pkT (n895.ne rfl e894) n895.at_) (fun an896 n896 => ?_)
        refine sv n896.ok rfl (wn _ rfl) rfl (o_as n896.at_) (fun an897 n897 => ?_)
        refine wpList_nil ?_
        refine th_n (hK798 _ _ ?_)
        refine wp_ret ?_
        exact ret1 n897.ok rfl (n897.at_) ⟨rfl, G869⟩
theorem knowCounts_walk (v1 v2 : Value) (k x y : Int) (L1 L2 : List (List Int)) (w : World) (h1 : RdLL w v1 L1) (h2 : RdLL w v2 L2) : Calls Try.prog 6 #[v1, v2, .int .i64 k, .agg #[.int .i64 x, .int .i64 y]] w fun e w' => e = .returned (.bool true) ∧ Gr w w' := by
  obtain ⟨a, c, rfl, hc, h⟩ := h1
  exact knowCounts_w v2 a c L1 L2 hc k x y _ rfl w h2 h
end Go.Proofs.Ytgmoedjdfjloiaa
