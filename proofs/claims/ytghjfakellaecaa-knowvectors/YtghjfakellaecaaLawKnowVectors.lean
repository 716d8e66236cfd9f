/- The walk of KnowVectors. -/
import Derived.Test.YtghjfakellaecaaKmV
set_option linter.unusedVariables false
set_option linter.unusedSimpArgs false
namespace Go.Proofs.Ytghjfakellaecaa
open Go.RowKit Rm Gx
theorem o_cutA {P : Program} {ev : Operand → Value} {d : Option Tmp} {ty : TypeId} {p : String} {af : Array Edge} {g : Option (Nat × Bool)} {w : World} {T E : TypeId} {x y : Operand} {b n k s : Nat} (hx : ev x = .pointer (some ⟨b, 0, none⟩)) (hy : ev y = .int .i64 (k : Int)) (hu : P.underlying T = some (.array n E)) (hs : (P.info? E).map (·.size) = some s) (hk : k ≤ n) : (execOp ev (Oper.mk d (.slice T x none (some y) none) ty p af g)).run P w = .ok (.value (.slice (some ⟨b, 0, none⟩) k n)) w := by
  have h1 := size_of hs w
  have hi' : (0 : Int) ≤ (k : Int) ∧ (k : Int) ≤ (n : Int) := by omega
  unfold execOp
  simp only [hx, hy, Option.map_none, Option.map_some, Instr.sliceAt, Instr.slice, Instr.sliceBounds, Instr.sliceBound, asIntOf, asAddr, Instr.sureAddr, Sem.run_bind, run_underlying hu w, Sem.run_pure, Result.andThen_ok, h1, if_pos hi', Int.toNat_natCast]
  cases n with
  | zero =>
    have : k = 0 := by omega
    subst this
    simp [go_sem]
  | succ n => simp [add_n, go_sem]
theorem rdc_five {w : World} {b n : Nat} {v : List Nat} {t : TypeId} (hb : Bk w b (cArr v) t) (hn : n ≤ 5) : RdC 1 w (.slice (some ⟨b, 0, none⟩) n 5) n (flatI ((five v).take n)) := by
  refine ⟨by simp [flatI, five]; omega, flatI_one _, .inr ⟨_, 5, rfl, hn, fun _ => hb.lt, fun j u hj => ?_⟩⟩
  rw [add_n, Nat.zero_add]
  have hj' : j < n := by
    have := (List.getElem?_eq_some_iff.1 hj).1
    simp [flatI, five] at this; omega
  simp only [flatI, List.getElem?_map] at hj
  rw [List.getElem?_take_of_lt hj', five_at v j (by omega)] at hj
  simp only [Option.map_some, Option.some.injEq] at hj
  subst hj
  exact hb.cell j (cArr_at v j (by omega))
theorem vec_take {v : List Nat} {n : Nat} (hn : n ≤ 5) (hz : ∀ s, n ≤ s → s < 5 → cv v s = 0) (h : n = 0 ∨ cv v (n - 1) ≠ 0) : vec v = (five v).take n := trim_take v n hn hz h
theorem vec_len {v : List Nat} {n : Nat} (h : vec v = (five v).take n) (hn : n ≤ 5) : (vec v).length = n := by rw [h]; simp [five]; omega
theorem ow_less1 {w : World} {base base' s n : Nat} {t : TypeId} {v : Value} {xs : List Value} (h : w.ownsRow base t s v n xs) (hb : base' ≤ base) : w.ownsRow base' t s v n xs := own_less h hb
set_option maxHeartbeats 8000000 in
set_option maxRecDepth 100000 in
theorem made_k (v : List Nat) (w : World) :
    Calls Try.prog 25 #[.agg (cArr v)] w fun e w' => ∃ ua uc, e = .returned (.agg #[.slice ua (vec v).length uc, .slice none 0 0]) ∧ World.ownsRow w' w.heap.size 3 1 (.slice ua (vec v).length uc) (vec v).length (flatI (vec v)) ∧ Gr w w' := by
  refine enter (N := 19) Try.func25 rfl rfl rfl (fun a0 ok0 h0 => ?_)
  have e0_0 : a0.eval (.tmp 0) = .agg (cArr v) := h0 0 _ rfl
  clear h0
  have G0 := Gr.refl w
  refine wp_seq_k (fun K1 hK1 => ?_)
  refine wp_region_lit ?_
  refine sal (cs := cArr v) ok0 rfl (wn _ rfl) rfl (o_box e0_0) (fun an2 w4 b3 W5 n2 => ?_)
  have l6 : w.heap.size ≤ b3 := by rw [W5.eq]; exact G0.size
  have G7 := G0.trans W5.gr
  refine sal (cs := #[.slice none 0 0, .slice none 0 0]) n2.ok rfl (wn _ rfl) rfl (o_al (z := .agg #[.slice none 0 0, .slice none 0 0]) (by kernel_rfl)) (fun an8 w10 b9 W11 n8 => ?_)
  have l12 : b3 < b9 := by rw [W11.eq]; exact W5.bk.lt
  have l13 : w.heap.size ≤ b9 := by rw [W11.eq]; exact G7.size
  have G14 := G7.trans W11.gr
  have B15 := W5.bk.gr W11.gr
  refine wpList_nil ?_
  refine th_n (hK1 _ _ ?_)
  refine wp_seq_k (fun K16 hK16 => ?_)
  refine wp_region_lit ?_
  refine sv n8.ok rfl (wn _ rfl) rfl (o_as ev_const) (fun an17 n17 => ?_)
  refine wpList_nil ?_
  refine th_n (hK16 _ _ ?_)
  refine wp_seq_k (fun K18 hK18 => ?_)
  refine wp_block ?_
  refine lp (fun (nL : Nat) (aL : Act) (wL : World) => ∃ n : Nat, nL = n ∧ Ok 19 aL ∧ Gr w wL ∧ (aL.eval (.tmp 1) = .pointer (some ⟨b3, 0, none⟩)) ∧ (aL.eval (.tmp 2) = .pointer (some ⟨b9, 0, none⟩)) ∧ (aL.eval (.tmp 3) = .int .i64 (n : Int)) ∧ (Bk wL b3 (cArr v) 61) ∧ (Bk wL b9 #[.slice none 0 0, .slice none 0 0] 35) ∧ (n ≤ 5) ∧ (∀ s, n ≤ s → s < 5 → cv v s = 0)) _ ⟨5, rfl, n17.ok, G14, (n17.ne rfl (n8.ne rfl n2.at_)), (n17.ne rfl n8.at_), n17.at_, B15, W11.bk, by omega, fun s h1 h2 => by omega⟩ ?_
  rintro m20 aI19 w22 ⟨n, hmI19, okI19, GI19, s1I19, s2I19, s3I19, kb3I19, kb9I19, hnI19, hzI19⟩ KI19 hKI19
  refine wp_seq_k (fun K23 hK23 => ?_)
  refine wp_seq_k (fun K24 hK24 => ?_)
  refine wp_region_lit ?_
  refine sv okI19 rfl (wn _ rfl) rfl (o_mv s3I19) (fun an25 n25 => ?_)
  refine sv n25.ok rfl (wn _ rfl) rfl (o_gtI n25.at_ ev_const) (fun an26 n26 => ?_)
  refine sv n26.ok rfl (wn _ rfl) rfl (o_mv n26.at_) (fun an27 n27 => ?_)
  by_cases c28 : (0 : Int) < (n : Int)
  · have e29 := (n27.at_).trans (congrArg Value.bool (decide_eq_true c28))
    have e30 := ((n27.ne rfl n26.at_)).trans (congrArg Value.bool (decide_eq_true c28))
    have e31 := n27.ne rfl (n26.ne rfl (n25.ne rfl s3I19))
    refine sv n27.ok rfl (wgT rfl (yl 2 true rfl e29) rfl) rfl (o_mv e31) (fun an32 n32 => ?_)
    refine sv n32.ok rfl (wgT rfl (yl 2 true rfl (n32.ne rfl e29)) rfl) rfl (o_sub (r := ((n - 1 : Nat) : Int)) n32.at_ ev_const (by omega) (by omega)) (fun an33 n33 => ?_)
    have e34 := n33.ne rfl (n32.ne rfl (n27.ne rfl (n26.ne rfl (n25.ne rfl s1I19))))
    refine sv n33.ok rfl (wgT rfl (yl 2 true rfl (n33.ne rfl (n32.ne rfl e29))) rfl) rfl (o_iaA (i := n - 1) (s := 1) e34 n33.at_ Try.underlying61 (by kernel_rfl) (by omega)) (fun an35 n35 => ?_)
    have e36 := n35.ne rfl (n33.ne rfl (n32.ne rfl e29))
    refine sv n35.ok rfl (wgT rfl (yl 2 true rfl e36) rfl) rfl (o_ld n35.at_ (Try.isAgg3 _) (kb3I19.cell _ (five_get (by omega)))) (fun an37 n37 => ?_)
    refine sv n37.ok rfl (wgT rfl (yl 2 true rfl (n37.ne rfl e36)) rfl) rfl (o_eqI n37.at_ ev_const) (fun an38 n38 => ?_)
    refine sv n38.ok rfl (wn _ rfl) rfl (o_pkT (n38.ne rfl (n37.ne rfl e36)) n38.at_) (fun an39 n39 => ?_)
    refine wpList_nil ?_
    refine th_n (hK24 _ _ ?_)
    by_cases c40 : (((cv v (n - 1)) : Nat) : Int) = 0
    · refine wp_cond_true ((n39.at_).trans (congrArg Value.bool (decide_eq_true c40))) ?_
      refine wp_skip ?_
      refine th_n (hK23 _ _ ?_)
      refine wp_block ?_
      refine wp_region_lit ?_
      have e41 := n39.ne rfl (n38.ne rfl (n37.ne rfl (n35.ne rfl (n33.ne rfl (n32.ne rfl e31)))))
      refine sv n39.ok rfl (wn _ rfl) rfl (o_mv e41) (fun an42 n42 => ?_)
      refine sv n42.ok rfl (wn _ rfl) rfl (o_sub (r := ((n - 1 : Nat) : Int)) n42.at_ ev_const (by omega) (by omega)) (fun an43 n43 => ?_)
      refine sv n43.ok rfl (wn _ rfl) rfl (o_as n43.at_) (fun an44 n44 => ?_)
      refine wpList_nil ?_
      refine ib_n ?_
      have e45 := n44.ne rfl (n43.ne rfl (n42.ne rfl (n39.ne rfl (n38.ne rfl (n37.ne rfl (n35.ne rfl e34))))))
      have e46 := n44.ne rfl (n43.ne rfl (n42.ne rfl (n39.ne rfl (n38.ne rfl (n37.ne rfl (n35.ne rfl (n33.ne rfl (n32.ne rfl (n27.ne rfl (n26.ne rfl (n25.ne rfl s2I19)))))))))))
      exact th_n (hKI19 _ _ _ (by omega) ⟨n - 1, rfl, n44.ok, GI19, e45, e46, n44.at_, kb3I19, kb9I19, by omega, fun q h1 h2 => by
          by_cases e : q = n - 1
          · subst e; exact (by have := c40; simp at this; omega)
          · exact hzI19 q (by omega) h2⟩)
    · refine wp_cond_false ((n39.at_).trans (congrArg Value.bool (decide_eq_false c40))) ?_
      refine wp_exit ?_
      refine th_x ?_
      refine th_x ?_
      refine ib_x ?_
      refine th_n (hK18 _ _ ?_)
      refine wp_seq_k (fun K47 hK47 => ?_)
      refine wp_region_lit ?_
      have e48 := n39.ne rfl (n38.ne rfl (n37.ne rfl (n35.ne rfl (n33.ne rfl (n32.ne rfl e31)))))
      refine sv n39.ok rfl (wn _ rfl) rfl (o_mv e48) (fun an49 n49 => ?_)
      have e50 := n49.ne rfl (n39.ne rfl (n38.ne rfl (n37.ne rfl (n35.ne rfl e34))))
      refine sv n49.ok rfl (wn _ rfl) rfl (o_cutA (k := n) (s := 1) e50 n49.at_ Try.underlying61 (by kernel_rfl) (by omega)) (fun an51 n51 => ?_)
      refine sc n51.ok rfl (wn _ rfl) rfl (o_f1 Try.func26 rfl rfl rfl n51.at_) (cloneI (rdc_five kb3I19 (by omega)) (by omega)) ?_
      rintro _ w53 ⟨u1, rfl, ho1, g54⟩
      obtain ⟨ua, uc, rfl, -⟩ := ow_form ho1
      refine ⟨_, rfl, fun an52 n52 => ?_⟩
      have G55 := GI19.trans g54
      have B56 := kb3I19.gr g54
      have B57 := kb9I19.gr g54
      refine sv n52.ok rfl (wn _ rfl) rfl (o_bd (cells := #[.slice ua n uc, .slice none 0 0]) (vs := [(0, .slice ua n uc)]) (by simp [n52.at_, ev_const]) (by kernel_rfl)) (fun an58 n58 => ?_)
      have e59 := n58.ne rfl (n52.ne rfl (n51.ne rfl (n49.ne rfl (n39.ne rfl (n38.ne rfl (n37.ne rfl (n35.ne rfl (n33.ne rfl (n32.ne rfl (n27.ne rfl (n26.ne rfl (n25.ne rfl s2I19))))))))))))
      refine ssR rfl (wn _ rfl) (o_stR e59 n58.at_ B57 (by kernel_rfl) rfl (by simp [Value.oneCell'])) B57 (fun w60 u61 u61b => ?_)
      have G62 : Gr w w60 := Below.upd G55 l13 u61
      have B63 := B56.upd u61 (Nat.ne_of_lt l12)
      have F64 := ow_updT (ow_less1 ho1 GI19.size) u61 B57 (by decide)
      refine wpList_nil ?_
      refine th_n (hK47 _ _ ?_)
      refine wp_ret ?_
      exact ret1 n58.ok rfl (⟨_, _, e59, ld_row u61b Try.underlying35 rfl (by kernel_rfl)⟩) ⟨ua, uc, by rw [vec_len (vec_take hnI19 hzI19 (.inr (by have := c40; simp at this; omega))) hnI19], by rw [vec_len (vec_take hnI19 hzI19 (.inr (by have := c40; simp at this; omega))) hnI19, vec_take hnI19 hzI19 (.inr (by have := c40; simp at this; omega))]; exact F64, G62⟩
  · have e65 := (n27.at_).trans (congrArg Value.bool (decide_eq_false c28))
    have e66 := ((n27.ne rfl n26.at_)).trans (congrArg Value.bool (decide_eq_false c28))
    refine sn n27.ok rfl (wgF rfl (yl 2 false rfl e65) rfl) rfl (fun an67 n67 => ?_)
    refine sn n67.ok rfl (wgF rfl (yl 2 false rfl (n67.ne rfl e65)) rfl) rfl (fun an68 n68 => ?_)
    refine sn n68.ok rfl (wgF rfl (yl 2 false rfl (n68.ne rfl (n67.ne rfl e65))) rfl) rfl (fun an69 n69 => ?_)
    have e70 := n69.ne rfl (n68.ne rfl (n67.ne rfl e65))
    refine sn n69.ok rfl (wgF rfl (yl 2 false rfl e70) rfl) rfl (fun an71 n71 => ?_)
    refine sn n71.ok rfl (wgF rfl (yl 2 false rfl (n71.ne rfl e70)) rfl) rfl (fun an72 n72 => ?_)
    refine sv n72.ok rfl (wn _ rfl) rfl (o_pkF (n72.ne rfl (n71.ne rfl e70)) ev_const) (fun an73 n73 => ?_)
    refine wpList_nil ?_
    refine th_n (hK24 _ _ ?_)
    refine wp_cond_false (n73.at_) ?_
    refine wp_exit ?_
    refine th_x ?_
    refine th_x ?_
    refine ib_x ?_
    refine th_n (hK18 _ _ ?_)
    refine wp_seq_k (fun K74 hK74 => ?_)
    refine wp_region_lit ?_
    have e75 := n73.ne rfl (n72.ne rfl (n71.ne rfl (n69.ne rfl (n68.ne rfl (n67.ne rfl (n27.ne rfl (n26.ne rfl (n25.ne rfl s3I19))))))))
    refine sv n73.ok rfl (wn _ rfl) rfl (o_mv e75) (fun an76 n76 => ?_)
    have e77 := n76.ne rfl (n73.ne rfl (n72.ne rfl (n71.ne rfl (n69.ne rfl (n68.ne rfl (n67.ne rfl (n27.ne rfl (n26.ne rfl (n25.ne rfl s1I19)))))))))
    refine sv n76.ok rfl (wn _ rfl) rfl (o_cutA (k := n) (s := 1) e77 n76.at_ Try.underlying61 (by kernel_rfl) (by omega)) (fun an78 n78 => ?_)
    refine sc n78.ok rfl (wn _ rfl) rfl (o_f1 Try.func26 rfl rfl rfl n78.at_) (cloneI (rdc_five kb3I19 (by omega)) (by omega)) ?_
    rintro _ w80 ⟨u1, rfl, ho1, g81⟩
    obtain ⟨ua, uc, rfl, -⟩ := ow_form ho1
    refine ⟨_, rfl, fun an79 n79 => ?_⟩
    have G82 := GI19.trans g81
    have B83 := kb3I19.gr g81
    have B84 := kb9I19.gr g81
    refine sv n79.ok rfl (wn _ rfl) rfl (o_bd (cells := #[.slice ua n uc, .slice none 0 0]) (vs := [(0, .slice ua n uc)]) (by simp [n79.at_, ev_const]) (by kernel_rfl)) (fun an85 n85 => ?_)
    have e86 := n85.ne rfl (n79.ne rfl (n78.ne rfl (n76.ne rfl (n73.ne rfl (n72.ne rfl (n71.ne rfl (n69.ne rfl (n68.ne rfl (n67.ne rfl (n27.ne rfl (n26.ne rfl (n25.ne rfl s2I19))))))))))))
    refine ssR rfl (wn _ rfl) (o_stR e86 n85.at_ B84 (by kernel_rfl) rfl (by simp [Value.oneCell'])) B84 (fun w87 u88 u88b => ?_)
    have G89 : Gr w w87 := Below.upd G82 l13 u88
    have B90 := B83.upd u88 (Nat.ne_of_lt l12)
    have F91 := ow_updT (ow_less1 ho1 GI19.size) u88 B84 (by decide)
    refine wpList_nil ?_
    refine th_n (hK74 _ _ ?_)
    refine wp_ret ?_
    exact ret1 n85.ok rfl (⟨_, _, e86, ld_row u88b Try.underlying35 rfl (by kernel_rfl)⟩) ⟨ua, uc, by rw [vec_len (vec_take hnI19 hzI19 (.inl (by omega))) hnI19], by rw [vec_len (vec_take hnI19 hzI19 (.inl (by omega))) hnI19, vec_take hnI19 hzI19 (.inl (by omega))]; exact F91, G89⟩
theorem made_r (v : List Nat) (w : World) : Calls Try.prog 25 #[.agg (cArr v)] w fun e w' => ∃ ua uc, e = .returned (.agg #[.slice ua (vec v).length uc, .slice none 0 0]) ∧ KnR w' (.agg #[.slice ua (vec v).length uc, .slice none 0 0]) (ints (vec v)) [] ∧ Gr w w' := by
  refine (made_k v w).mono ?_
  rintro e w' ⟨ua, uc, rfl, h, g⟩
  have hk : KnO w.heap.size w' (.agg #[.slice ua (vec v).length uc, .slice none 0 0]) (vec v) [] := ⟨_, _, rfl, h, World.ownsRow_nil _ _ _ _⟩
  exact ⟨ua, uc, rfl, hk.rd, g⟩
theorem vec_small (v : List Nat) : (ints (vec v)).length ≤ 100000 := by
  rw [ints_len]
  have := trimL_len (five v)
  have e : (five v).length = 5 := rfl
  unfold vec; omega
theorem kv_begun (b1 b2 : Nat) (t1 t2 : TypeId) (w : World) (h1 : Bk w b1 #[.int .i64 3, .int .i64 1] t1) (h2 : Bk w b2 #[.int .i64 2, .int .i64 5] t2) :
    Calls Try.prog 22 #[.agg #[.slice (some ⟨b1, 0, none⟩) 2 2, .slice none 0 0], .agg #[.slice (some ⟨b2, 0, none⟩) 2 2, .slice none 0 0]] w fun e w' => ∃ ja jc ka kc, e = .returned (.tuple #[.agg #[.slice ja 2 jc, .slice ka 0 kc], .int .i64 0]) ∧ R1 w' (.slice ja 2 jc) [3, 5] ∧ Gr w w' := by
  have b31 : ∀ s, s < 5 → cv [3, 1] s ≤ 50 := by decide
  have b25 : ∀ s, s < 5 → cv [2, 5] s ≤ 50 := by decide
  have bo : ∀ s, s < 5 → cv [3, 5] s = max (cv [3, 1] s) (cv [2, 5] s) := by decide
  refine (kvjoin b31 b25 bo _ _ w (knR_vec2 h1) (knR_vec2 h2)).mono ?_
  rintro e w' ⟨va, vc, ma, mc, rfl, h, g⟩
  obtain ⟨vv, mv, e, k1, k2⟩ := h
  injection e with e
  have e1 : vv = .slice va 2 vc := by
    have := congrArg (fun x : Array Value => x[0]?) e
    simp at this
    exact this.symm
  subst e1
  exact ⟨va, vc, ma, mc, rfl, k1.1 |> fun _ => R1.own (l := [3, 5]) k1, g⟩
set_option maxHeartbeats 8000000 in
set_option maxRecDepth 100000 in
theorem knowVectors_walk (A B : List Int) (aa ba : Option Addr) (ac bc : Nat) (w : World) (hA : RdI1 w aa A) (hB : RdI1 w ba B) :
    Calls Try.prog 5 #[.slice aa A.length ac, .slice ba B.length bc] w fun e w' => e = .returned (.bool true) ∧ Gr w w' := by
  refine enter (N := 150) Try.func5 rfl rfl rfl (fun a0 ok0 h0 => ?_)
  have e0_0 : a0.eval (.tmp 0) = .slice aa A.length ac := h0 0 _ rfl
  have e0_1 : a0.eval (.tmp 1) = .slice ba B.length bc := h0 1 _ rfl
  clear h0
  have G0 := Gr.refl w
  refine wp_seq_k (fun K1 hK1 => ?_)
  refine wp_region_lit ?_
  refine sv ok0 rfl (wn _ rfl) rfl (o_as ev_const) (fun an2 n2 => ?_)
  refine wpList_nil ?_
  refine th_n (hK1 _ _ ?_)
  refine wp_seq_k (fun K3 hK3 => ?_)
  refine wp_seq_k (fun K4 hK4 => ?_)
  refine wp_region_lit ?_
  obtain ⟨i5, i5a, i5b, i5c⟩ := info3_of (show (Try.prog.info? 3).map (fun i => (i.zero, i.size)) = some (some (.int .i64 0), 1) by kernel_rfl)
  refine sals (cs := #[.int .i64 3, .int .i64 1]) n2.ok rfl (wn _ rfl) rfl (o_bs (vs := [(0, .int .i64 3), (1, .int .i64 1)]) (by simp [ev_const]) Try.underlying32 i5a i5b (by rw [i5c]; rfl) (by rw [i5c]; rfl) (by rw [i5c]; kernel_rfl)) (fun an6 w8 b7 W9 n6 => ?_)
  have l10 : w.heap.size ≤ b7 := by rw [W9.eq]; exact G0.size
  have G11 := G0.trans W9.gr
  refine sv n6.ok rfl (wn _ rfl) rfl (o_bd (cells := #[.slice (some ⟨b7, 0, none⟩) 2 2, .slice none 0 0]) (vs := [(0, .slice (some ⟨b7, 0, none⟩) 2 2)]) (by simp [n6.at_, ev_const]) (by kernel_rfl)) (fun an12 n12 => ?_)
  obtain ⟨i13, i13a, i13b, i13c⟩ := info3_of (show (Try.prog.info? 3).map (fun i => (i.zero, i.size)) = some (some (.int .i64 0), 1) by kernel_rfl)
  refine sals (cs := #[.int .i64 2, .int .i64 5]) n12.ok rfl (wn _ rfl) rfl (o_bs (vs := [(0, .int .i64 2), (1, .int .i64 5)]) (by simp [ev_const]) Try.underlying32 i13a i13b (by rw [i13c]; rfl) (by rw [i13c]; rfl) (by rw [i13c]; kernel_rfl)) (fun an14 w16 b15 W17 n14 => ?_)
  have l18 : b7 < b15 := by rw [W17.eq]; exact W9.bk.lt
  have l19 : w.heap.size ≤ b15 := by rw [W17.eq]; exact G11.size
  have G20 := G11.trans W17.gr
  have B21 := W9.bk.gr W17.gr
  refine sv n14.ok rfl (wn _ rfl) rfl (o_bd (cells := #[.slice (some ⟨b15, 0, none⟩) 2 2, .slice none 0 0]) (vs := [(0, .slice (some ⟨b15, 0, none⟩) 2 2)]) (by simp [n14.at_, ev_const]) (by kernel_rfl)) (fun an22 n22 => ?_)
  refine sc n22.ok rfl (wn _ rfl) rfl (o_f2 Try.func22 rfl rfl rfl (n22.ne rfl (n14.ne rfl n12.at_)) n22.at_) (kv_begun b7 b15 _ _ w16 B21 W17.bk) ?_
  rintro _ w24 ⟨ja, jc, ka, kc, rfl, hj0, g25⟩
  refine ⟨_, rfl, fun an23 n23 => ?_⟩
  have G26 := G20.trans g25
  have B27 := B21.gr g25
  have B28 := W17.bk.gr g25
  have A30 := Gr.refl w24
  refine sv n23.ok rfl (wn _ rfl) rfl (o_mv n23.at_) (fun an31 n31 => ?_)
  refine sv n31.ok rfl (wn _ rfl) rfl (o_ex n31.at_ rfl) (fun an32 n32 => ?_)
  refine sv n32.ok rfl (wn _ rfl) rfl (o_ex (n32.ne rfl n31.at_) rfl) (fun an33 n33 => ?_)
  refine sal (cs := #[.slice none 0 0, .slice none 0 0]) n33.ok rfl (wn _ rfl) rfl (o_al (z := .agg #[.slice none 0 0, .slice none 0 0]) (by kernel_rfl)) (fun an34 w36 b35 W37 n34 => ?_)
  have l38 : b7 < b35 := by rw [W37.eq]; exact B27.lt
  have l39 : b15 < b35 := by rw [W37.eq]; exact B28.lt
  have l40 : w.heap.size ≤ b35 := by rw [W37.eq]; exact G26.size
  have l41 : w24.heap.size ≤ b35 := by rw [W37.eq]; exact A30.size
  have G42 := G26.trans W37.gr
  have B43 := B27.gr W37.gr
  have B44 := B28.gr W37.gr
  have A45 := A30.trans W37.gr
  refine ssR rfl (wn _ rfl) (o_stR n34.at_ (n34.ne rfl (n33.ne rfl n32.at_)) W37.bk (by kernel_rfl) rfl (by simp [Value.oneCell'])) W37.bk (fun w46 u47 u47b => ?_)
  have G48 : Gr w w46 := Below.upd G42 l40 u47
  have B49 := B43.upd u47 (Nat.ne_of_lt l38)
  have B50 := B44.upd u47 (Nat.ne_of_lt l39)
  have A51 : Gr w24 w46 := Below.upd A45 l41 u47
  refine sv n34.ok rfl (wn _ rfl) rfl (o_as (n34.ne rfl n33.at_)) (fun an52 n52 => ?_)
  refine wpList_nil ?_
  refine th_n (hK4 _ _ ?_)
  refine wp_seq_k (fun K53 hK53 => ?_)
  refine wp_region_lit ?_
  refine sv n52.ok rfl (wn _ rfl) rfl (o_mv n52.at_) (fun an54 n54 => ?_)
  refine sv n54.ok rfl (wn _ rfl) rfl (o_neq (b := false) n54.at_ ev_const (by decide)) (fun an55 n55 => ?_)
  refine sv n55.ok rfl (wn _ rfl) rfl (o_mv n55.at_) (fun an56 n56 => ?_)
  have e57 := n56.ne rfl (n55.ne rfl (n54.ne rfl (n52.ne rfl n34.at_)))
  refine sv n56.ok rfl (wgT rfl (yl 2 false rfl n56.at_) rfl) rfl (o_fa (z := 1) e57 Try.underlying35 rfl (by kernel_rfl) rfl rfl) (fun an58 n58 => ?_)
  refine sv n58.ok rfl (wgT rfl (yl 2 false rfl (n58.ne rfl n56.at_)) rfl) rfl (o_ld n58.at_ (Try.isAgg32 _) (u47b.cell _ rfl)) (fun an59 n59 => ?_)
  obtain ⟨i60, i60a, i60b, i60c⟩ := info3_of (show (Try.prog.info? 3).map (fun i => (i.zero, i.size)) = some (some (.int .i64 0), 1) by kernel_rfl)
  refine sals (cs := #[.int .i64 3, .int .i64 5]) n59.ok rfl (wgT rfl (yl 2 false rfl (n59.ne rfl (n58.ne rfl n56.at_))) rfl) rfl (o_bs (vs := [(0, .int .i64 3), (1, .int .i64 5)]) (by simp [ev_const]) Try.underlying32 i60a i60b (by rw [i60c]; rfl) (by rw [i60c]; rfl) (by rw [i60c]; kernel_rfl)) (fun an61 w63 b62 W64 n61 => ?_)
  have l65 : b7 < b62 := by rw [W64.eq]; exact B49.lt
  have l66 : b15 < b62 := by rw [W64.eq]; exact B50.lt
  have l67 : b35 < b62 := by rw [W64.eq]; exact u47b.lt
  have l68 : w.heap.size ≤ b62 := by rw [W64.eq]; exact G48.size
  have l69 : w24.heap.size ≤ b62 := by rw [W64.eq]; exact A51.size
  have G70 := G48.trans W64.gr
  have B71 := B49.gr W64.gr
  have B72 := B50.gr W64.gr
  have B73 := u47b.gr W64.gr
  have A74 := A51.trans W64.gr
  have e75 := n61.ne rfl (n59.ne rfl (n58.ne rfl n56.at_))
  refine sc n61.ok rfl (wgT rfl (yl 2 false rfl e75) rfl) rfl (o_f2 Try.func23 rfl rfl rfl (n61.ne rfl n59.at_) n61.at_) ((by have h := equalI _ _ [3, 5] [3, 5] w63 (hj0.gr A74) (r1_bk (V := [3, 5]) W64.bk rfl) (by simp); simpa using h)) ?_
  rintro _ w77 ⟨rfl, g78⟩
  refine ⟨_, rfl, fun an76 n76 => ?_⟩
  have G79 := G70.trans g78
  have B80 := B71.gr g78
  have B81 := B72.gr g78
  have B82 := B73.gr g78
  have B83 := W64.bk.gr g78
  have A84 := A74.trans g78
  refine sv n76.ok rfl (wgT rfl (yl 2 false rfl (n76.ne rfl e75)) rfl) rfl (o_not n76.at_ rfl) (fun an85 n85 => ?_)
  refine sv n85.ok rfl (wn _ rfl) rfl (o_pkF (n85.ne rfl (n76.ne rfl e75)) n85.at_) (fun an86 n86 => ?_)
  refine wpList_nil ?_
  refine th_n (hK53 _ _ ?_)
  refine wp_cond_false (n86.at_) ?_
  refine wp_skip ?_
  refine th_n (hK3 _ _ ?_)
  refine wp_seq_k (fun K87 hK87 => ?_)
  refine wp_region_lit ?_
  refine sal (cs := cArr []) n86.ok rfl (wn _ rfl) rfl (o_al (z := .agg (cArr [])) five_zero) (fun an88 w90 b89 W91 n88 => ?_)
  have l92 : b7 < b89 := by rw [W91.eq]; exact B80.lt
  have l93 : b15 < b89 := by rw [W91.eq]; exact B81.lt
  have l94 : b35 < b89 := by rw [W91.eq]; exact B82.lt
  have l95 : b62 < b89 := by rw [W91.eq]; exact B83.lt
  have l96 : w.heap.size ≤ b89 := by rw [W91.eq]; exact G79.size
  have l97 : w24.heap.size ≤ b89 := by rw [W91.eq]; exact A84.size
  have G98 := G79.trans W91.gr
  have B99 := B80.gr W91.gr
  have B100 := B81.gr W91.gr
  have B101 := B82.gr W91.gr
  have B102 := B83.gr W91.gr
  have A103 := A84.trans W91.gr
  refine sal (cs := cArr []) n88.ok rfl (wn _ rfl) rfl (o_al (z := .agg (cArr [])) five_zero) (fun an104 w106 b105 W107 n104 => ?_)
  have l108 : b7 < b105 := by rw [W107.eq]; exact B99.lt
  have l109 : b15 < b105 := by rw [W107.eq]; exact B100.lt
  have l110 : b35 < b105 := by rw [W107.eq]; exact B101.lt
  have l111 : b62 < b105 := by rw [W107.eq]; exact B102.lt
  have l112 : b89 < b105 := by rw [W107.eq]; exact W91.bk.lt
  have l113 : w.heap.size ≤ b105 := by rw [W107.eq]; exact G98.size
  have l114 : w24.heap.size ≤ b105 := by rw [W107.eq]; exact A103.size
  have G115 := G98.trans W107.gr
  have B116 := B99.gr W107.gr
  have B117 := B100.gr W107.gr
  have B118 := B101.gr W107.gr
  have B119 := B102.gr W107.gr
  have B120 := W91.bk.gr W107.gr
  have A121 := A103.trans W107.gr
  refine sal (cs := cArr []) n104.ok rfl (wn _ rfl) rfl (o_al (z := .agg (cArr [])) five_zero) (fun an122 w124 b123 W125 n122 => ?_)
  have l126 : b7 < b123 := by rw [W125.eq]; exact B116.lt
  have l127 : b15 < b123 := by rw [W125.eq]; exact B117.lt
  have l128 : b35 < b123 := by rw [W125.eq]; exact B118.lt
  have l129 : b62 < b123 := by rw [W125.eq]; exact B119.lt
  have l130 : b89 < b123 := by rw [W125.eq]; exact B120.lt
  have l131 : b105 < b123 := by rw [W125.eq]; exact W107.bk.lt
  have l132 : w.heap.size ≤ b123 := by rw [W125.eq]; exact G115.size
  have l133 : w24.heap.size ≤ b123 := by rw [W125.eq]; exact A121.size
  have G134 := G115.trans W125.gr
  have B135 := B116.gr W125.gr
  have B136 := B117.gr W125.gr
  have B137 := B118.gr W125.gr
  have B138 := B119.gr W125.gr
  have B139 := B120.gr W125.gr
  have B140 := W107.bk.gr W125.gr
  have A141 := A121.trans W125.gr
  refine sal (cs := cArr []) n122.ok rfl (wn _ rfl) rfl (o_al (z := .agg (cArr [])) five_zero) (fun an142 w144 b143 W145 n142 => ?_)
  have l146 : b7 < b143 := by rw [W145.eq]; exact B135.lt
  have l147 : b15 < b143 := by rw [W145.eq]; exact B136.lt
  have l148 : b35 < b143 := by rw [W145.eq]; exact B137.lt
  have l149 : b62 < b143 := by rw [W145.eq]; exact B138.lt
  have l150 : b89 < b143 := by rw [W145.eq]; exact B139.lt
  have l151 : b105 < b143 := by rw [W145.eq]; exact B140.lt
  have l152 : b123 < b143 := by rw [W145.eq]; exact W125.bk.lt
  have l153 : w.heap.size ≤ b143 := by rw [W145.eq]; exact G134.size
  have l154 : w24.heap.size ≤ b143 := by rw [W145.eq]; exact A141.size
  have G155 := G134.trans W145.gr
  have B156 := B135.gr W145.gr
  have B157 := B136.gr W145.gr
  have B158 := B137.gr W145.gr
  have B159 := B138.gr W145.gr
  have B160 := B139.gr W145.gr
  have B161 := B140.gr W145.gr
  have B162 := W125.bk.gr W145.gr
  have A163 := A141.trans W145.gr
  refine wpList_nil ?_
  refine th_n (hK87 _ _ ?_)
  refine wp_seq_k (fun K164 hK164 => ?_)
  refine wp_region_lit ?_
  refine sv n142.ok rfl (wn _ rfl) rfl (o_as ev_const) (fun an165 n165 => ?_)
  refine wpList_nil ?_
  refine th_n (hK164 _ _ ?_)
  refine wp_seq_k (fun K166 hK166 => ?_)
  refine wp_seq_k (fun K167 hK167 => ?_)
  refine wp_region_lit ?_
  refine sv n165.ok rfl (wn _ rfl) rfl (o_mv ev_const) (fun an168 n168 => ?_)
  refine wpList_nil ?_
  refine th_n (hK167 _ _ ?_)
  refine wp_block ?_
  have e170 := n168.ne rfl (n165.ne rfl (n142.ne rfl (n122.ne rfl (n104.ne rfl (n88.ne rfl (n86.ne rfl (n85.ne rfl (n76.ne rfl (n61.ne rfl (n59.ne rfl (n58.ne rfl (n56.ne rfl (n55.ne rfl (n54.ne rfl (n52.ne rfl (n34.ne rfl (n33.ne rfl (n32.ne rfl (n31.ne rfl (n23.ne rfl (n22.ne rfl (n14.ne rfl (n12.ne rfl (n6.ne rfl (n2.ne rfl e0_0)))))))))))))))))))))))))
  have e171 := n168.ne rfl (n165.ne rfl (n142.ne rfl (n122.ne rfl (n104.ne rfl (n88.ne rfl (n86.ne rfl (n85.ne rfl (n76.ne rfl (n61.ne rfl (n59.ne rfl (n58.ne rfl (n56.ne rfl (n55.ne rfl (n54.ne rfl (n52.ne rfl (n34.ne rfl (n33.ne rfl (n32.ne rfl (n31.ne rfl (n23.ne rfl (n22.ne rfl (n14.ne rfl (n12.ne rfl (n6.ne rfl (n2.ne rfl e0_1)))))))))))))))))))))))))
  have e172 := n168.ne rfl (n165.ne rfl (n142.ne rfl (n122.ne rfl (n104.ne rfl (n88.ne rfl (n86.ne rfl (n85.ne rfl (n76.ne rfl (n61.ne rfl (n59.ne rfl (n58.ne rfl (n56.ne rfl (n55.ne rfl (n54.ne rfl (n52.ne rfl (n34.ne rfl (n33.ne rfl (n32.ne rfl (n31.ne rfl (n23.ne rfl (n22.ne rfl (n14.ne rfl (n12.ne rfl (n6.ne rfl n2.at_))))))))))))))))))))))))
  have e173 := n168.ne rfl (n165.ne rfl (n142.ne rfl (n122.ne rfl (n104.ne rfl n88.at_))))
  have e174 := n168.ne rfl (n165.ne rfl (n142.ne rfl (n122.ne rfl n104.at_)))
  have e175 := n168.ne rfl (n165.ne rfl (n142.ne rfl n122.at_))
  refine lp (fun (nL : Nat) (aL : Act) (wL : World) => ∃ i : Nat, ∃ vx : List Nat, ∃ vy : List Nat, ∃ vo : List Nat, ∃ vm : List Nat, ∃ tt : Bool, nL = 5 - i ∧ Ok 150 aL ∧ Gr w wL ∧ (aL.eval (.tmp 0) = .slice aa A.length ac) ∧ (aL.eval (.tmp 1) = .slice ba B.length bc) ∧ (aL.eval (.tmp 4) = .bool false) ∧ (aL.eval (.tmp 7) = .pointer (some ⟨b89, 0, none⟩)) ∧ (aL.eval (.tmp 8) = .pointer (some ⟨b105, 0, none⟩)) ∧ (aL.eval (.tmp 9) = .pointer (some ⟨b123, 0, none⟩)) ∧ (aL.eval (.tmp 10) = .pointer (some ⟨b143, 0, none⟩)) ∧ (aL.eval (.tmp 11) = .bool tt) ∧ (aL.eval (.tmp 37) = .int .i64 (i : Int)) ∧ (Bk wL b89 (cArr vx) 61) ∧ (Bk wL b105 (cArr vy) 61) ∧ (Bk wL b123 (cArr vo) 61) ∧ (Bk wL b143 (cArr vm) 61) ∧ (Gr w24 wL) ∧ (i ≤ 5) ∧ (∀ s, s < 5 → cv vx s ≤ 50) ∧ (∀ s, s < 5 → cv vy s ≤ 50) ∧ (∀ s, s < i → cv vo s = max (cv vx s) (cv vy s)) ∧ (∀ s, s < i → cv vm s = min (cv vx s) (cv vy s)) ∧ (tt = true ↔ ∀ s, s < i → cv vx s ≤ cv vy s)) _ ⟨0, [], [], [], [], true, rfl, n168.ok, G155, e170, e171, e172, e173, e174, e175, (n168.ne rfl (n165.ne rfl n142.at_)), (n168.ne rfl n165.at_), n168.at_, B160, B161, B162, W145.bk, A163, by omega, fun s _ => by simp [cv], fun s _ => by simp [cv], fun s h => by omega, fun s h => by omega, ⟨fun _ s h => by omega, fun _ => rfl⟩⟩ ?_
  rintro m176 aI169 w178 ⟨i, vx, vy, vo, vm, tt, hmI169, okI169, GI169, s0I169, s1I169, s4I169, s7I169, s8I169, s9I169, s10I169, s11I169, s37I169, kb89I169, kb105I169, kb123I169, kb143I169, xanch29I169, hiI169, hbxI169, hbyI169, hoI169, haI169, htI169⟩ KI169 hKI169
  refine wp_seq_k (fun K179 hK179 => ?_)
  refine wp_region_lit ?_
  refine sv okI169 rfl (wn _ rfl) rfl (o_ltI s37I169 ev_const) (fun an180 n180 => ?_)
  refine wpList_nil ?_
  refine th_n (hK179 _ _ ?_)
  refine wp_seq_k (fun K181 hK181 => ?_)
  by_cases c182 : (i : Int) < 5
  · refine wp_cond_true ((n180.at_).trans (congrArg Value.bool (decide_eq_true c182))) ?_
    refine wp_skip ?_
    refine th_n (hK181 _ _ ?_)
    refine wp_seq_k (fun K183 hK183 => ?_)
    refine wp_block ?_
    refine wp_seq_k (fun K184 hK184 => ?_)
    refine wp_region_lit ?_
    refine sv n180.ok rfl (wn _ rfl) rfl (o_mv (n180.ne rfl s37I169)) (fun an185 n185 => ?_)
    refine sv n185.ok rfl (wn _ rfl) rfl (o_as n185.at_) (fun an186 n186 => ?_)
    refine wpList_nil ?_
    refine th_n (hK184 _ _ ?_)
    refine wp_seq_k (fun K187 hK187 => ?_)
    refine wp_seq_k (fun K188 hK188 => ?_)
    refine wp_region_lit ?_
    refine sv n186.ok rfl (wn _ rfl) rfl (o_mv n186.at_) (fun an189 n189 => ?_)
    have e190 := n189.ne rfl (n186.ne rfl (n185.ne rfl (n180.ne rfl s0I169)))
    refine sv n189.ok rfl (wn _ rfl) rfl (o_mv e190) (fun an191 n191 => ?_)
    refine sv n191.ok rfl (wn _ rfl) rfl (o_len n191.at_ Try.underlying32) (fun an192 n192 => ?_)
    refine sv n192.ok rfl (wn _ rfl) rfl (o_ltI (n192.ne rfl (n191.ne rfl n189.at_)) n192.at_) (fun an193 n193 => ?_)
    refine wpList_nil ?_
    refine th_n (hK188 _ _ ?_)
    by_cases c194 : (i : Int) < ((A.length : Nat) : Int)
    · refine wp_cond_true ((n193.at_).trans (congrArg Value.bool (decide_eq_true c194))) ?_
      refine wp_region_lit ?_
      have e195 := n193.ne rfl (n192.ne rfl (n191.ne rfl (n189.ne rfl n186.at_)))
      refine sv n193.ok rfl (wn _ rfl) rfl (o_mv e195) (fun an196 n196 => ?_)
      have e197 := n196.ne rfl (n193.ne rfl (n192.ne rfl (n191.ne rfl e190)))
      refine sv n196.ok rfl (wn _ rfl) rfl (o_mv e197) (fun an198 n198 => ?_)
      refine sv n198.ok rfl (wn _ rfl) rfl (o_mv (n198.ne rfl (n196.ne rfl e195))) (fun an199 n199 => ?_)
      have h200l : i < List.length A := by omega
      obtain ⟨bh200, fh200, h200a, h200b, h200c⟩ := hA (ne_nil_of_lt h200l)
      obtain ⟨xh200, h200x⟩ : ∃ x, A[i]? = some x := ⟨_, List.getElem?_eq_getElem h200l⟩
      refine sv n199.ok rfl (wn _ rfl) rfl (o_iaV (i := i) (s := 1) h200a (n199.ne rfl n198.at_) n199.at_ Try.underlying32 (by kernel_rfl) h200l) (fun an201 n201 => ?_)
      refine sv n201.ok rfl (wn _ rfl) rfl (o_ld n201.at_ (Try.isAgg3 _) ((Below.cell GI169 h200b).trans (h200c _ _ h200x))) (fun an202 n202 => ?_)
      refine sc n202.ok rfl (wn _ rfl) rfl (o_f2 Try.func24 rfl rfl rfl n202.at_ ev_const) (kwithin_any xh200 50 (by omega) (by omega) w178) ?_
      rintro _ w204 ⟨rfl, g205⟩
      refine ⟨_, rfl, fun an203 n203 => ?_⟩
      have G206 := GI169.trans g205
      have B207 := kb89I169.gr g205
      have B208 := kb105I169.gr g205
      have B209 := kb123I169.gr g205
      have B210 := kb143I169.gr g205
      have A211 := xanch29I169.trans g205
      have e212 := n203.ne rfl (n202.ne rfl (n201.ne rfl (n199.ne rfl (n198.ne rfl (n196.ne rfl (n193.ne rfl (n192.ne rfl (n191.ne rfl (n189.ne rfl (n186.ne rfl (n185.ne rfl (n180.ne rfl s7I169))))))))))))
      have e213 := n203.ne rfl (n202.ne rfl (n201.ne rfl (n199.ne rfl (n198.ne rfl n196.at_))))
      refine sv n203.ok rfl (wn _ rfl) rfl (o_iaA (i := i) (s := 1) e212 e213 Try.underlying61 (by kernel_rfl) (by omega)) (fun an214 n214 => ?_)
      refine ssC rfl (wn _ rfl) (o_st n214.at_ (n214.ne rfl n203.at_) B207 (five_get (by omega)) (by kernel_rfl) rfl) B207 (fun w215 u216 u216b => ?_)
      have G217 : Gr w w215 := Below.upd G206 l96 u216
      have B218 := B208.upd u216 (Nat.ne_of_gt l112)
      have B219 := B209.upd u216 (Nat.ne_of_gt l130)
      have B220 := B210.upd u216 (Nat.ne_of_gt l150)
      have A221 : Gr w24 w215 := Below.upd A211 l97 u216
      have B222 : Bk w215 b89 (cArr (setC vx i (wi xh200 50))) 61 := (by have h := u216b; rw [show 0 + i * 1 = i by omega, cArr_setC _ _ _ (by omega)] at h; exact h)
      refine wpList_nil ?_
      refine th_n (hK187 _ _ ?_)
      refine wp_seq_k (fun K223 hK223 => ?_)
      refine wp_seq_k (fun K224 hK224 => ?_)
      refine wp_region_lit ?_
      have e225 := n214.ne rfl (n203.ne rfl (n202.ne rfl (n201.ne rfl (n199.ne rfl (n198.ne rfl (n196.ne rfl e195))))))
      refine sv n214.ok rfl (wn _ rfl) rfl (o_mv e225) (fun an226 n226 => ?_)
      have e227 := n226.ne rfl (n214.ne rfl (n203.ne rfl (n202.ne rfl (n201.ne rfl (n199.ne rfl (n198.ne rfl (n196.ne rfl (n193.ne rfl (n192.ne rfl (n191.ne rfl (n189.ne rfl (n186.ne rfl (n185.ne rfl (n180.ne rfl s1I169))))))))))))))
      refine sv n226.ok rfl (wn _ rfl) rfl (o_mv e227) (fun an228 n228 => ?_)
      refine sv n228.ok rfl (wn _ rfl) rfl (o_len n228.at_ Try.underlying32) (fun an229 n229 => ?_)
      refine sv n229.ok rfl (wn _ rfl) rfl (o_ltI (n229.ne rfl (n228.ne rfl n226.at_)) n229.at_) (fun an230 n230 => ?_)
      refine wpList_nil ?_
      refine th_n (hK224 _ _ ?_)
      by_cases c231 : (i : Int) < ((B.length : Nat) : Int)
      · refine wp_cond_true ((n230.at_).trans (congrArg Value.bool (decide_eq_true c231))) ?_
        refine wp_region_lit ?_
        have e232 := n230.ne rfl (n229.ne rfl (n228.ne rfl (n226.ne rfl e225)))
        refine sv n230.ok rfl (wn _ rfl) rfl (o_mv e232) (fun an233 n233 => ?_)
        have e234 := n233.ne rfl (n230.ne rfl (n229.ne rfl (n228.ne rfl e227)))
        refine sv n233.ok rfl (wn _ rfl) rfl (o_mv e234) (fun an235 n235 => ?_)
        refine sv n235.ok rfl (wn _ rfl) rfl (o_mv (n235.ne rfl (n233.ne rfl e232))) (fun an236 n236 => ?_)
        have h237l : i < List.length B := by omega
        obtain ⟨bh237, fh237, h237a, h237b, h237c⟩ := hB (ne_nil_of_lt h237l)
        obtain ⟨xh237, h237x⟩ : ∃ x, B[i]? = some x := ⟨_, List.getElem?_eq_getElem h237l⟩
        refine sv n236.ok rfl (wn _ rfl) rfl (o_iaV (i := i) (s := 1) h237a (n236.ne rfl n235.at_) n236.at_ Try.underlying32 (by kernel_rfl) h237l) (fun an238 n238 => ?_)
        refine sv n238.ok rfl (wn _ rfl) rfl (o_ld n238.at_ (Try.isAgg3 _) ((Below.cell G217 h237b).trans (h237c _ _ h237x))) (fun an239 n239 => ?_)
        refine sc n239.ok rfl (wn _ rfl) rfl (o_f2 Try.func24 rfl rfl rfl n239.at_ ev_const) (kwithin_any xh237 50 (by omega) (by omega) w215) ?_
        rintro _ w241 ⟨rfl, g242⟩
        refine ⟨_, rfl, fun an240 n240 => ?_⟩
        have G243 := G217.trans g242
        have B244 := B222.gr g242
        have B245 := B218.gr g242
        have B246 := B219.gr g242
        have B247 := B220.gr g242
        have A248 := A221.trans g242
        have e249 := n240.ne rfl (n239.ne rfl (n238.ne rfl (n236.ne rfl (n235.ne rfl (n233.ne rfl (n230.ne rfl (n229.ne rfl (n228.ne rfl (n226.ne rfl (n214.ne rfl (n203.ne rfl (n202.ne rfl (n201.ne rfl (n199.ne rfl (n198.ne rfl (n196.ne rfl (n193.ne rfl (n192.ne rfl (n191.ne rfl (n189.ne rfl (n186.ne rfl (n185.ne rfl (n180.ne rfl s8I169)))))))))))))))))))))))
        have e250 := n240.ne rfl (n239.ne rfl (n238.ne rfl (n236.ne rfl (n235.ne rfl n233.at_))))
        refine sv n240.ok rfl (wn _ rfl) rfl (o_iaA (i := i) (s := 1) e249 e250 Try.underlying61 (by kernel_rfl) (by omega)) (fun an251 n251 => ?_)
        refine ssC rfl (wn _ rfl) (o_st n251.at_ (n251.ne rfl n240.at_) B245 (five_get (by omega)) (by kernel_rfl) rfl) B245 (fun w252 u253 u253b => ?_)
        have G254 : Gr w w252 := Below.upd G243 l113 u253
        have B255 := B244.upd u253 (Nat.ne_of_lt l112)
        have B256 := B246.upd u253 (Nat.ne_of_gt l131)
        have B257 := B247.upd u253 (Nat.ne_of_gt l151)
        have A258 : Gr w24 w252 := Below.upd A248 l114 u253
        have B259 : Bk w252 b105 (cArr (setC vy i (wi xh237 50))) 61 := (by have h := u253b; rw [show 0 + i * 1 = i by omega, cArr_setC _ _ _ (by omega)] at h; exact h)
        refine wpList_nil ?_
        refine th_n (hK223 _ _ ?_)
        refine wp_seq_k (fun K260 hK260 => ?_)
        refine h_start [b123, b143] 20 #[false, false, false, false, false, false, false, false, false, false, false, false, false, false, false, false, false, false, false, false] (by kernel_rfl) rfl rfl ?_
        have S261 := Sx.drew [b123, b143] w252
        have g262 := (Gr.refl w252).drew
        generalize w252.drew = w263 at *
        have G264 := G254.trans g262
        have B265 := B255.gr g262
        have B266 := B259.gr g262
        have B267 := B256.gr g262
        have B268 := B257.gr g262
        have A269 := A258.trans g262
        have e270 := n251.ne rfl (n240.ne rfl (n239.ne rfl (n238.ne rfl (n236.ne rfl (n235.ne rfl (n233.ne rfl e232))))))
        refine h_take (i := 0) (fuel := 19) n251.ok rfl rfl rfl (by kernel_rfl) (by kernel_rfl) (by kernel_rfl) (fun _ _ _ _ _ h => h) (wn _ rfl) (fun x hx => o_mv e270) S261 (fun an271 n271 => ?_)
        refine h_take (i := 1) (fuel := 18) n271.ok rfl rfl rfl (by kernel_rfl) (by kernel_rfl) (by kernel_rfl) (fun _ _ _ _ _ h => h) (wn _ rfl) (fun x hx => o_mv (n271.ne rfl e270)) S261 (fun an272 n272 => ?_)
        refine h_take (i := 2) (fuel := 17) n272.ok rfl rfl rfl (by kernel_rfl) (by kernel_rfl) (by kernel_rfl) (fun _ _ _ _ _ h => h) (wn _ rfl) (fun x hx => o_mv (n272.ne rfl (n271.ne rfl e270))) S261 (fun an273 n273 => ?_)
        have e274 := n273.ne rfl (n272.ne rfl (n271.ne rfl (n251.ne rfl (n240.ne rfl (n239.ne rfl (n238.ne rfl (n236.ne rfl (n235.ne rfl (n233.ne rfl (n230.ne rfl (n229.ne rfl (n228.ne rfl (n226.ne rfl (n214.ne rfl e212))))))))))))))
        refine h_take (i := 3) (fuel := 16) n273.ok rfl rfl rfl (by kernel_rfl) (by kernel_rfl) (by kernel_rfl) (fun _ _ _ _ _ h => h) (wn _ rfl) (fun x hx => o_iaA (i := i) (s := 1) e274 n273.at_ Try.underlying61 (by kernel_rfl) (by omega)) S261 (fun an275 n275 => ?_)
        refine h_take (i := 4) (fuel := 15) n275.ok rfl rfl rfl (by kernel_rfl) (by kernel_rfl) (by kernel_rfl) (fun _ _ _ _ _ h => h) (wn _ rfl) (fun x hx => o_ld n275.at_ (Try.isAgg3 _) ((Sx.bk hx B255 (by simp <;> omega)).cell _ (five_get (by omega)))) S261 (fun an276 n276 => ?_)
        have e277 := n276.ne rfl (n275.ne rfl (n273.ne rfl (n272.ne rfl (n271.ne rfl e270))))
        refine h_take (i := 5) (fuel := 14) n276.ok rfl rfl rfl (by kernel_rfl) (by kernel_rfl) (by kernel_rfl) (fun _ _ _ _ _ h => h) (wn _ rfl) (fun x hx => o_mv e277) S261 (fun an278 n278 => ?_)
        have e279 := n278.ne rfl (n276.ne rfl (n275.ne rfl (n273.ne rfl (n272.ne rfl (n271.ne rfl (n251.ne rfl e249))))))
        refine h_take (i := 6) (fuel := 13) n278.ok rfl rfl rfl (by kernel_rfl) (by kernel_rfl) (by kernel_rfl) (fun _ _ _ _ _ h => h) (wn _ rfl) (fun x hx => o_iaA (i := i) (s := 1) e279 n278.at_ Try.underlying61 (by kernel_rfl) (by omega)) S261 (fun an280 n280 => ?_)
        refine h_take (i := 7) (fuel := 12) n280.ok rfl rfl rfl (by kernel_rfl) (by kernel_rfl) (by kernel_rfl) (fun _ _ _ _ _ h => h) (wn _ rfl) (fun x hx => o_ld n280.at_ (Try.isAgg3 _) ((Sx.bk hx B259 (by simp <;> omega)).cell _ (five_get (by omega)))) S261 (fun an281 n281 => ?_)
        have e282 := n281.ne rfl (n280.ne rfl (n278.ne rfl n276.at_))
        refine h_take (i := 8) (fuel := 11) n281.ok rfl rfl rfl (by kernel_rfl) (by kernel_rfl) (by kernel_rfl) (fun _ _ _ _ _ h => h) (wn _ rfl) (fun x hx => o_max e282 n281.at_ (nmax_int _ _)) S261 (fun an283 n283 => ?_)
        have e284 := n283.ne rfl (n281.ne rfl (n280.ne rfl (n278.ne rfl e277)))
        refine h_take (i := 9) (fuel := 10) n283.ok rfl rfl rfl (by kernel_rfl) (by kernel_rfl) (by kernel_rfl) (fun _ _ _ _ _ h => h) (wn _ rfl) (fun x hx => o_mv e284) S261 (fun an285 n285 => ?_)
        have e286 := n285.ne rfl (n283.ne rfl (n281.ne rfl (n280.ne rfl (n278.ne rfl (n276.ne rfl (n275.ne rfl e274))))))
        refine h_take (i := 10) (fuel := 9) n285.ok rfl rfl rfl (by kernel_rfl) (by kernel_rfl) (by kernel_rfl) (fun _ _ _ _ _ h => h) (wn _ rfl) (fun x hx => o_iaA (i := i) (s := 1) e286 n285.at_ Try.underlying61 (by kernel_rfl) (by omega)) S261 (fun an287 n287 => ?_)
        refine h_take (i := 11) (fuel := 8) n287.ok rfl rfl rfl (by kernel_rfl) (by kernel_rfl) (by kernel_rfl) (fun _ _ _ _ _ h => h) (wn _ rfl) (fun x hx => o_ld n287.at_ (Try.isAgg3 _) ((Sx.bk hx B255 (by simp <;> omega)).cell _ (five_get (by omega)))) S261 (fun an288 n288 => ?_)
        have e289 := n288.ne rfl (n287.ne rfl (n285.ne rfl e284))
        refine h_take (i := 12) (fuel := 7) n288.ok rfl rfl rfl (by kernel_rfl) (by kernel_rfl) (by kernel_rfl) (fun _ _ _ _ _ h => h) (wn _ rfl) (fun x hx => o_mv e289) S261 (fun an290 n290 => ?_)
        have e291 := n290.ne rfl (n288.ne rfl (n287.ne rfl (n285.ne rfl (n283.ne rfl (n281.ne rfl (n280.ne rfl e279))))))
        refine h_take (i := 13) (fuel := 6) n290.ok rfl rfl rfl (by kernel_rfl) (by kernel_rfl) (by kernel_rfl) (fun _ _ _ _ _ h => h) (wn _ rfl) (fun x hx => o_iaA (i := i) (s := 1) e291 n290.at_ Try.underlying61 (by kernel_rfl) (by omega)) S261 (fun an292 n292 => ?_)
        refine h_take (i := 14) (fuel := 5) n292.ok rfl rfl rfl (by kernel_rfl) (by kernel_rfl) (by kernel_rfl) (fun _ _ _ _ _ h => h) (wn _ rfl) (fun x hx => o_ld n292.at_ (Try.isAgg3 _) ((Sx.bk hx B259 (by simp <;> omega)).cell _ (five_get (by omega)))) S261 (fun an293 n293 => ?_)
        have e294 := n293.ne rfl (n292.ne rfl (n290.ne rfl n288.at_))
        refine h_take (i := 15) (fuel := 4) n293.ok rfl rfl rfl (by kernel_rfl) (by kernel_rfl) (by kernel_rfl) (fun _ _ _ _ _ h => h) (wn _ rfl) (fun x hx => o_min e294 n293.at_ (nmin_int _ _)) S261 (fun an295 n295 => ?_)
        have e296 := n295.ne rfl (n293.ne rfl (n292.ne rfl (n290.ne rfl (n288.ne rfl (n287.ne rfl (n285.ne rfl (n283.ne rfl (n281.ne rfl (n280.ne rfl (n278.ne rfl (n276.ne rfl (n275.ne rfl (n273.ne rfl (n272.ne rfl (n271.ne rfl (n251.ne rfl (n240.ne rfl (n239.ne rfl (n238.ne rfl (n236.ne rfl (n235.ne rfl (n233.ne rfl (n230.ne rfl (n229.ne rfl (n228.ne rfl (n226.ne rfl (n214.ne rfl (n203.ne rfl (n202.ne rfl (n201.ne rfl (n199.ne rfl (n198.ne rfl (n196.ne rfl (n193.ne rfl (n192.ne rfl (n191.ne rfl (n189.ne rfl (n186.ne rfl (n185.ne rfl (n180.ne rfl s9I169))))))))))))))))))))))))))))))))))))))))
        have e297 := n295.ne rfl (n293.ne rfl (n292.ne rfl (n290.ne rfl (n288.ne rfl (n287.ne rfl (n285.ne rfl (n283.ne rfl (n281.ne rfl (n280.ne rfl (n278.ne rfl (n276.ne rfl (n275.ne rfl (n273.ne rfl (n272.ne rfl n271.at_))))))))))))))
        refine h_take (i := 16) (fuel := 3) n295.ok rfl rfl rfl (by kernel_rfl) (by kernel_rfl) (by kernel_rfl) (fun _ _ _ _ _ h => h) (wn _ rfl) (fun x hx => o_iaA (i := i) (s := 1) e296 e297 Try.underlying61 (by kernel_rfl) (by omega)) S261 (fun an298 n298 => ?_)
        have e299 := n298.ne rfl (n295.ne rfl (n293.ne rfl (n292.ne rfl (n290.ne rfl (n288.ne rfl (n287.ne rfl (n285.ne rfl n283.at_)))))))
        refine h_stC (i := 17) (fuel := 2) (by kernel_rfl) rfl rfl (wn _ rfl) (o_st n298.at_ e299 B267 (five_get (by omega)) (by kernel_rfl) rfl) B267 S261 (by simp) (fun w300 u301 u301b S302 => ?_)
        have G303 : Gr w w300 := Below.upd G264 l132 u301
        have B304 := B265.upd u301 (Nat.ne_of_lt l130)
        have B305 := B266.upd u301 (Nat.ne_of_lt l131)
        have B306 := B268.upd u301 (Nat.ne_of_gt l152)
        have A307 : Gr w24 w300 := Below.upd A269 l133 u301
        have B308 : Bk w300 b123 (cArr (setC vo i (max ((cv (setC vx i (wi xh200 50)) i)) ((cv (setC vy i (wi xh237 50)) i))))) 61 := (by have h := u301b; rw [show 0 + i * 1 = i by omega, cArr_setC _ _ _ (by omega)] at h; exact h)
        have e309 := n298.ne rfl (n295.ne rfl (n293.ne rfl (n292.ne rfl (n290.ne rfl (n288.ne rfl (n287.ne rfl (n285.ne rfl (n283.ne rfl (n281.ne rfl (n280.ne rfl (n278.ne rfl (n276.ne rfl (n275.ne rfl (n273.ne rfl (n272.ne rfl (n271.ne rfl (n251.ne rfl (n240.ne rfl (n239.ne rfl (n238.ne rfl (n236.ne rfl (n235.ne rfl (n233.ne rfl (n230.ne rfl (n229.ne rfl (n228.ne rfl (n226.ne rfl (n214.ne rfl (n203.ne rfl (n202.ne rfl (n201.ne rfl (n199.ne rfl (n198.ne rfl (n196.ne rfl (n193.ne rfl (n192.ne rfl (n191.ne rfl (n189.ne rfl (n186.ne rfl (n185.ne rfl (n180.ne rfl s10I169)))))))))))))))))))))))))))))))))))))))))
        have e310 := n298.ne rfl (n295.ne rfl (n293.ne rfl (n292.ne rfl (n290.ne rfl (n288.ne rfl (n287.ne rfl (n285.ne rfl (n283.ne rfl (n281.ne rfl (n280.ne rfl (n278.ne rfl (n276.ne rfl (n275.ne rfl (n273.ne rfl n272.at_))))))))))))))
        refine h_take (i := 18) (fuel := 1) n298.ok rfl rfl rfl (by kernel_rfl) (by kernel_rfl) (by kernel_rfl) (fun _ _ _ _ _ h => h) (wn _ rfl) (fun x hx => o_iaA (i := i) (s := 1) e309 e310 Try.underlying61 (by kernel_rfl) (by omega)) S302 (fun an311 n311 => ?_)
        refine h_stC (i := 19) (fuel := 0) (by kernel_rfl) rfl rfl (wn _ rfl) (o_st n311.at_ (n311.ne rfl (n298.ne rfl n295.at_)) B306 (five_get (by omega)) (by kernel_rfl) rfl) B306 S302 (by simp) (fun w312 u313 u313b S314 => ?_)
        have G315 : Gr w w312 := Below.upd G303 l153 u313
        have B316 := B304.upd u313 (Nat.ne_of_lt l150)
        have B317 := B305.upd u313 (Nat.ne_of_lt l151)
        have B318 := B308.upd u313 (Nat.ne_of_lt l152)
        have A319 : Gr w24 w312 := Below.upd A307 l154 u313
        have B320 : Bk w312 b143 (cArr (setC vm i (min ((cv (setC vx i (wi xh200 50)) i)) ((cv (setC vy i (wi xh237 50)) i))))) 61 := (by have h := u313b; rw [show 0 + i * 1 = i by omega, cArr_setC _ _ _ (by omega)] at h; exact h)
        refine wpAnyH_done (by kernel_rfl) ?_ _
        refine th_n (hK260 _ _ ?_)
        have e321 := n311.ne rfl (n298.ne rfl (n295.ne rfl (n293.ne rfl (n292.ne rfl (n290.ne rfl (n288.ne rfl (n287.ne rfl (n285.ne rfl (n283.ne rfl (n281.ne rfl (n280.ne rfl (n278.ne rfl (n276.ne rfl (n275.ne rfl (n273.ne rfl (n272.ne rfl (n271.ne rfl (n251.ne rfl (n240.ne rfl (n239.ne rfl (n238.ne rfl (n236.ne rfl (n235.ne rfl (n233.ne rfl (n230.ne rfl (n229.ne rfl (n228.ne rfl (n226.ne rfl (n214.ne rfl (n203.ne rfl (n202.ne rfl (n201.ne rfl (n199.ne rfl (n198.ne rfl (n196.ne rfl (n193.ne rfl (n192.ne rfl (n191.ne rfl (n189.ne rfl (n186.ne rfl (n185.ne rfl (n180.ne rfl s11I169))))))))))))))))))))))))))))))))))))))))))
        cases c322 : tt
        · have e323 := (e321).trans (congrArg Value.bool c322)
          refine h_start [] 11 #[false, false, false, false, false, false, false, false, false, false, false] (by kernel_rfl) rfl rfl ?_
          have S324 := Sx.drew [] w312
          have g325 := (Gr.refl w312).drew
          generalize w312.drew = w326 at *
          have G327 := G315.trans g325
          have B328 := B316.gr g325
          have B329 := B317.gr g325
          have B330 := B318.gr g325
          have B331 := B320.gr g325
          have A332 := A319.trans g325
          refine h_take (i := 0) (fuel := 10) n311.ok rfl rfl rfl (by kernel_rfl) (by kernel_rfl) (by kernel_rfl) (fun _ _ _ _ _ h => h) (wn _ rfl) (fun x hx => o_mv e323) S324 (fun an333 n333 => ?_)
          refine h_take (i := 1) (fuel := 9) n333.ok rfl rfl rfl (by kernel_rfl) (by kernel_rfl) (by kernel_rfl) (fun _ _ _ _ _ h => h) (wn _ rfl) (fun x hx => o_mv n333.at_) S324 (fun an334 n334 => ?_)
          refine h_not (i := 2) (fuel := 8) n334.ok rfl rfl rfl (by kernel_rfl) (by kernel_rfl) (by kernel_rfl) (fun _ _ _ _ _ h => h) (wgF rfl (yl 1 false rfl n334.at_) rfl) S324 (fun an335 n335 => ?_)
          refine h_not (i := 3) (fuel := 7) n335.ok rfl rfl rfl (by kernel_rfl) (by kernel_rfl) (by kernel_rfl) (fun _ _ _ _ _ h => h) (wgF rfl (yl 1 false rfl (n335.ne rfl n334.at_)) rfl) S324 (fun an336 n336 => ?_)
          refine h_not (i := 4) (fuel := 6) n336.ok rfl rfl rfl (by kernel_rfl) (by kernel_rfl) (by kernel_rfl) (fun _ _ _ _ _ h => h) (wgF rfl (yl 1 false rfl (n336.ne rfl (n335.ne rfl n334.at_))) rfl) S324 (fun an337 n337 => ?_)
          have e338 := n337.ne rfl (n336.ne rfl (n335.ne rfl n334.at_))
          refine h_not (i := 5) (fuel := 5) n337.ok rfl rfl rfl (by kernel_rfl) (by kernel_rfl) (by kernel_rfl) (fun _ _ _ _ _ h => h) (wgF rfl (yl 1 false rfl e338) rfl) S324 (fun an339 n339 => ?_)
          refine h_not (i := 6) (fuel := 4) n339.ok rfl rfl rfl (by kernel_rfl) (by kernel_rfl) (by kernel_rfl) (fun _ _ _ _ _ h => h) (wgF rfl (yl 1 false rfl (n339.ne rfl e338)) rfl) S324 (fun an340 n340 => ?_)
          refine h_not (i := 7) (fuel := 3) n340.ok rfl rfl rfl (by kernel_rfl) (by kernel_rfl) (by kernel_rfl) (fun _ _ _ _ _ h => h) (wgF rfl (yl 1 false rfl (n340.ne rfl (n339.ne rfl e338))) rfl) S324 (fun an341 n341 => ?_)
          have e342 := n341.ne rfl (n340.ne rfl (n339.ne rfl e338))
          refine h_not (i := 8) (fuel := 2) n341.ok rfl rfl rfl (by kernel_rfl) (by kernel_rfl) (by kernel_rfl) (fun _ _ _ _ _ h => h) (wgF rfl (yl 1 false rfl e342) rfl) S324 (fun an343 n343 => ?_)
          refine h_take (i := 9) (fuel := 1) n343.ok rfl rfl rfl (by kernel_rfl) (by kernel_rfl) (by kernel_rfl) (fun _ _ _ _ _ h => h) (wn _ rfl) (fun x hx => o_pkF (n343.ne rfl e342) ev_const) S324 (fun an344 n344 => ?_)
          refine h_take (i := 10) (fuel := 0) n344.ok rfl rfl rfl (by kernel_rfl) (by kernel_rfl) (by kernel_rfl) (fun _ _ _ _ _ h => h) (wn _ rfl) (fun x hx => o_as n344.at_) S324 (fun an345 n345 => ?_)
          refine wpAnyH_done (by kernel_rfl) ?_ _
          refine ib_n ?_
          refine th_n (hK183 _ _ ?_)
          refine wp_region_lit ?_
          have e346 := n345.ne rfl (n344.ne rfl (n343.ne rfl (n341.ne rfl (n340.ne rfl (n339.ne rfl (n337.ne rfl (n336.ne rfl (n335.ne rfl (n334.ne rfl (n333.ne rfl (n311.ne rfl (n298.ne rfl (n295.ne rfl (n293.ne rfl (n292.ne rfl (n290.ne rfl (n288.ne rfl (n287.ne rfl (n285.ne rfl (n283.ne rfl (n281.ne rfl (n280.ne rfl (n278.ne rfl (n276.ne rfl (n275.ne rfl (n273.ne rfl (n272.ne rfl (n271.ne rfl (n251.ne rfl (n240.ne rfl (n239.ne rfl (n238.ne rfl (n236.ne rfl (n235.ne rfl (n233.ne rfl (n230.ne rfl (n229.ne rfl (n228.ne rfl (n226.ne rfl (n214.ne rfl (n203.ne rfl (n202.ne rfl (n201.ne rfl (n199.ne rfl (n198.ne rfl (n196.ne rfl (n193.ne rfl (n192.ne rfl (n191.ne rfl (n189.ne rfl (n186.ne rfl (n185.ne rfl (n180.ne rfl s37I169)))))))))))))))))))))))))))))))))))))))))))))))))))))
          refine sv n345.ok rfl (wn _ rfl) rfl (o_add (r := ((i + 1 : Nat) : Int)) e346 ev_const (by omega) (by omega)) (fun an347 n347 => ?_)
          refine sv n347.ok rfl (wn _ rfl) rfl (o_mv n347.at_) (fun an348 n348 => ?_)
          refine wpList_nil ?_
          have e349 := n348.ne rfl (n347.ne rfl (n345.ne rfl (n344.ne rfl (n343.ne rfl (n341.ne rfl (n340.ne rfl (n339.ne rfl (n337.ne rfl (n336.ne rfl (n335.ne rfl (n334.ne rfl (n333.ne rfl (n311.ne rfl (n298.ne rfl (n295.ne rfl (n293.ne rfl (n292.ne rfl (n290.ne rfl (n288.ne rfl (n287.ne rfl (n285.ne rfl (n283.ne rfl (n281.ne rfl (n280.ne rfl (n278.ne rfl (n276.ne rfl (n275.ne rfl (n273.ne rfl (n272.ne rfl (n271.ne rfl (n251.ne rfl (n240.ne rfl (n239.ne rfl (n238.ne rfl (n236.ne rfl (n235.ne rfl (n233.ne rfl (n230.ne rfl (n229.ne rfl (n228.ne rfl (n226.ne rfl (n214.ne rfl (n203.ne rfl (n202.ne rfl (n201.ne rfl (n199.ne rfl (n198.ne rfl e197)))))))))))))))))))))))))))))))))))))))))))))))
          have e350 := n348.ne rfl (n347.ne rfl (n345.ne rfl (n344.ne rfl (n343.ne rfl (n341.ne rfl (n340.ne rfl (n339.ne rfl (n337.ne rfl (n336.ne rfl (n335.ne rfl (n334.ne rfl (n333.ne rfl (n311.ne rfl (n298.ne rfl (n295.ne rfl (n293.ne rfl (n292.ne rfl (n290.ne rfl (n288.ne rfl (n287.ne rfl (n285.ne rfl (n283.ne rfl (n281.ne rfl (n280.ne rfl (n278.ne rfl (n276.ne rfl (n275.ne rfl (n273.ne rfl (n272.ne rfl (n271.ne rfl (n251.ne rfl (n240.ne rfl (n239.ne rfl (n238.ne rfl (n236.ne rfl (n235.ne rfl e234))))))))))))))))))))))))))))))))))))
          have e351 := n348.ne rfl (n347.ne rfl (n345.ne rfl (n344.ne rfl (n343.ne rfl (n341.ne rfl (n340.ne rfl (n339.ne rfl (n337.ne rfl (n336.ne rfl (n335.ne rfl (n334.ne rfl (n333.ne rfl (n311.ne rfl (n298.ne rfl (n295.ne rfl (n293.ne rfl (n292.ne rfl (n290.ne rfl (n288.ne rfl (n287.ne rfl (n285.ne rfl (n283.ne rfl (n281.ne rfl (n280.ne rfl (n278.ne rfl (n276.ne rfl (n275.ne rfl (n273.ne rfl (n272.ne rfl (n271.ne rfl (n251.ne rfl (n240.ne rfl (n239.ne rfl (n238.ne rfl (n236.ne rfl (n235.ne rfl (n233.ne rfl (n230.ne rfl (n229.ne rfl (n228.ne rfl (n226.ne rfl (n214.ne rfl (n203.ne rfl (n202.ne rfl (n201.ne rfl (n199.ne rfl (n198.ne rfl (n196.ne rfl (n193.ne rfl (n192.ne rfl (n191.ne rfl (n189.ne rfl (n186.ne rfl (n185.ne rfl (n180.ne rfl s4I169)))))))))))))))))))))))))))))))))))))))))))))))))))))))
          have e352 := n348.ne rfl (n347.ne rfl (n345.ne rfl (n344.ne rfl (n343.ne rfl (n341.ne rfl (n340.ne rfl (n339.ne rfl (n337.ne rfl (n336.ne rfl (n335.ne rfl (n334.ne rfl (n333.ne rfl (n311.ne rfl (n298.ne rfl (n295.ne rfl (n293.ne rfl (n292.ne rfl (n290.ne rfl (n288.ne rfl (n287.ne rfl e286))))))))))))))))))))
          have e353 := n348.ne rfl (n347.ne rfl (n345.ne rfl (n344.ne rfl (n343.ne rfl (n341.ne rfl (n340.ne rfl (n339.ne rfl (n337.ne rfl (n336.ne rfl (n335.ne rfl (n334.ne rfl (n333.ne rfl (n311.ne rfl (n298.ne rfl (n295.ne rfl (n293.ne rfl (n292.ne rfl e291)))))))))))))))))
          have e354 := n348.ne rfl (n347.ne rfl (n345.ne rfl (n344.ne rfl (n343.ne rfl (n341.ne rfl (n340.ne rfl (n339.ne rfl (n337.ne rfl (n336.ne rfl (n335.ne rfl (n334.ne rfl (n333.ne rfl (n311.ne rfl (n298.ne rfl e296))))))))))))))
          have e355 := n348.ne rfl (n347.ne rfl (n345.ne rfl (n344.ne rfl (n343.ne rfl (n341.ne rfl (n340.ne rfl (n339.ne rfl (n337.ne rfl (n336.ne rfl (n335.ne rfl (n334.ne rfl (n333.ne rfl (n311.ne rfl e309)))))))))))))
          exact th_n (hKI169 _ _ _ (by omega) ⟨i + 1, (setC vx i (wi xh200 50)), (setC vy i (wi xh237 50)), (setC vo i (max ((cv (setC vx i (wi xh200 50)) i)) ((cv (setC vy i (wi xh237 50)) i)))), (setC vm i (min ((cv (setC vx i (wi xh200 50)) i)) ((cv (setC vy i (wi xh237 50)) i)))), false, rfl, n348.ok, G327, e349, e350, e351, e352, e353, e354, e355, (n348.ne rfl (n347.ne rfl n345.at_)), n348.at_, B328, B329, B330, B331, A332, by omega, kv_b hbxI169 (by omega) (by have := wi_lt xh200 50 (by omega); omega), kv_b hbyI169 (by omega) (by have := wi_lt xh237 50 (by omega); omega), kv_o (f := max) (by omega) hoI169 (kv_s (by omega)) (kv_s (by omega)), kv_o (f := min) (by omega) haI169 (kv_s (by omega)) (kv_s (by omega)), kv_wf htI169 (kv_s (by omega)) (kv_s (by omega)) c322⟩)
        · have e356 := (e321).trans (congrArg Value.bool c322)
          refine h_start [] 11 #[false, false, false, false, false, false, false, false, false, false, false] (by kernel_rfl) rfl rfl ?_
          have S357 := Sx.drew [] w312
          have g358 := (Gr.refl w312).drew
          generalize w312.drew = w359 at *
          have G360 := G315.trans g358
          have B361 := B316.gr g358
          have B362 := B317.gr g358
          have B363 := B318.gr g358
          have B364 := B320.gr g358
          have A365 := A319.trans g358
          refine h_take (i := 0) (fuel := 10) n311.ok rfl rfl rfl (by kernel_rfl) (by kernel_rfl) (by kernel_rfl) (fun _ _ _ _ _ h => h) (wn _ rfl) (fun x hx => o_mv e356) S357 (fun an366 n366 => ?_)
          refine h_take (i := 1) (fuel := 9) n366.ok rfl rfl rfl (by kernel_rfl) (by kernel_rfl) (by kernel_rfl) (fun _ _ _ _ _ h => h) (wn _ rfl) (fun x hx => o_mv n366.at_) S357 (fun an367 n367 => ?_)
          have e368 := n367.ne rfl (n366.ne rfl (n311.ne rfl (n298.ne rfl (n295.ne rfl (n293.ne rfl (n292.ne rfl (n290.ne rfl e289)))))))
          refine h_take (i := 2) (fuel := 8) n367.ok rfl rfl rfl (by kernel_rfl) (by kernel_rfl) (by kernel_rfl) (fun _ _ _ _ _ h => h) (wgT rfl (yl 1 true rfl n367.at_) rfl) (fun x hx => o_mv e368) S357 (fun an369 n369 => ?_)
          have e370 := n369.ne rfl (n367.ne rfl (n366.ne rfl (n311.ne rfl (n298.ne rfl (n295.ne rfl (n293.ne rfl (n292.ne rfl (n290.ne rfl (n288.ne rfl (n287.ne rfl e286))))))))))
          refine h_take (i := 3) (fuel := 7) n369.ok rfl rfl rfl (by kernel_rfl) (by kernel_rfl) (by kernel_rfl) (fun _ _ _ _ _ h => h) (wgT rfl (yl 1 true rfl (n369.ne rfl n367.at_)) rfl) (fun x hx => o_iaA (i := i) (s := 1) e370 n369.at_ Try.underlying61 (by kernel_rfl) (by omega)) S357 (fun an371 n371 => ?_)
          refine h_take (i := 4) (fuel := 6) n371.ok rfl rfl rfl (by kernel_rfl) (by kernel_rfl) (by kernel_rfl) (fun _ _ _ _ _ h => h) (wgT rfl (yl 1 true rfl (n371.ne rfl (n369.ne rfl n367.at_))) rfl) (fun x hx => o_ld n371.at_ (Try.isAgg3 _) ((Sx.bk hx B316 (by simp <;> omega)).cell _ (five_get (by omega)))) S357 (fun an372 n372 => ?_)
          have e373 := n372.ne rfl (n371.ne rfl (n369.ne rfl n367.at_))
          have e374 := n372.ne rfl (n371.ne rfl (n369.ne rfl e368))
          refine h_take (i := 5) (fuel := 5) n372.ok rfl rfl rfl (by kernel_rfl) (by kernel_rfl) (by kernel_rfl) (fun _ _ _ _ _ h => h) (wgT rfl (yl 1 true rfl e373) rfl) (fun x hx => o_mv e374) S357 (fun an375 n375 => ?_)
          have e376 := n375.ne rfl (n372.ne rfl (n371.ne rfl (n369.ne rfl (n367.ne rfl (n366.ne rfl (n311.ne rfl (n298.ne rfl (n295.ne rfl (n293.ne rfl (n292.ne rfl e291))))))))))
          refine h_take (i := 6) (fuel := 4) n375.ok rfl rfl rfl (by kernel_rfl) (by kernel_rfl) (by kernel_rfl) (fun _ _ _ _ _ h => h) (wgT rfl (yl 1 true rfl (n375.ne rfl e373)) rfl) (fun x hx => o_iaA (i := i) (s := 1) e376 n375.at_ Try.underlying61 (by kernel_rfl) (by omega)) S357 (fun an377 n377 => ?_)
          refine h_take (i := 7) (fuel := 3) n377.ok rfl rfl rfl (by kernel_rfl) (by kernel_rfl) (by kernel_rfl) (fun _ _ _ _ _ h => h) (wgT rfl (yl 1 true rfl (n377.ne rfl (n375.ne rfl e373))) rfl) (fun x hx => o_ld n377.at_ (Try.isAgg3 _) ((Sx.bk hx B317 (by simp <;> omega)).cell _ (five_get (by omega)))) S357 (fun an378 n378 => ?_)
          have e379 := n378.ne rfl (n377.ne rfl (n375.ne rfl e373))
          have e380 := n378.ne rfl (n377.ne rfl (n375.ne rfl n372.at_))
          refine h_take (i := 8) (fuel := 2) n378.ok rfl rfl rfl (by kernel_rfl) (by kernel_rfl) (by kernel_rfl) (fun _ _ _ _ _ h => h) (wgT rfl (yl 1 true rfl e379) rfl) (fun x hx => o_leI e380 n378.at_) S357 (fun an381 n381 => ?_)
          refine h_take (i := 9) (fuel := 1) n381.ok rfl rfl rfl (by kernel_rfl) (by kernel_rfl) (by kernel_rfl) (fun _ _ _ _ _ h => h) (wn _ rfl) (fun x hx => o_pkT (n381.ne rfl e379) n381.at_) S357 (fun an382 n382 => ?_)
          refine h_take (i := 10) (fuel := 0) n382.ok rfl rfl rfl (by kernel_rfl) (by kernel_rfl) (by kernel_rfl) (fun _ _ _ _ _ h => h) (wn _ rfl) (fun x hx => o_as n382.at_) S357 (fun an383 n383 => ?_)
          refine wpAnyH_done (by kernel_rfl) ?_ _
          refine ib_n ?_
          refine th_n (hK183 _ _ ?_)
          refine wp_region_lit ?_
          have e384 := n383.ne rfl (n382.ne rfl (n381.ne rfl (n378.ne rfl (n377.ne rfl (n375.ne rfl (n372.ne rfl (n371.ne rfl (n369.ne rfl (n367.ne rfl (n366.ne rfl (n311.ne rfl (n298.ne rfl (n295.ne rfl (n293.ne rfl (n292.ne rfl (n290.ne rfl (n288.ne rfl (n287.ne rfl (n285.ne rfl (n283.ne rfl (n281.ne rfl (n280.ne rfl (n278.ne rfl (n276.ne rfl (n275.ne rfl (n273.ne rfl (n272.ne rfl (n271.ne rfl (n251.ne rfl (n240.ne rfl (n239.ne rfl (n238.ne rfl (n236.ne rfl (n235.ne rfl (n233.ne rfl (n230.ne rfl (n229.ne rfl (n228.ne rfl (n226.ne rfl (n214.ne rfl (n203.ne rfl (n202.ne rfl (n201.ne rfl (n199.ne rfl (n198.ne rfl (n196.ne rfl (n193.ne rfl (n192.ne rfl (n191.ne rfl (n189.ne rfl (n186.ne rfl (n185.ne rfl (n180.ne rfl s37I169)))))))))))))))))))))))))))))))))))))))))))))))))))))
          refine sv n383.ok rfl (wn _ rfl) rfl (o_add (r := ((i + 1 : Nat) : Int)) e384 ev_const (by omega) (by omega)) (fun an385 n385 => ?_)
          refine sv n385.ok rfl (wn _ rfl) rfl (o_mv n385.at_) (fun an386 n386 => ?_)
          refine wpList_nil ?_
          have e387 := n386.ne rfl (n385.ne rfl (n383.ne rfl (n382.ne rfl (n381.ne rfl (n378.ne rfl (n377.ne rfl (n375.ne rfl (n372.ne rfl (n371.ne rfl (n369.ne rfl (n367.ne rfl (n366.ne rfl (n311.ne rfl (n298.ne rfl (n295.ne rfl (n293.ne rfl (n292.ne rfl (n290.ne rfl (n288.ne rfl (n287.ne rfl (n285.ne rfl (n283.ne rfl (n281.ne rfl (n280.ne rfl (n278.ne rfl (n276.ne rfl (n275.ne rfl (n273.ne rfl (n272.ne rfl (n271.ne rfl (n251.ne rfl (n240.ne rfl (n239.ne rfl (n238.ne rfl (n236.ne rfl (n235.ne rfl (n233.ne rfl (n230.ne rfl (n229.ne rfl (n228.ne rfl (n226.ne rfl (n214.ne rfl (n203.ne rfl (n202.ne rfl (n201.ne rfl (n199.ne rfl (n198.ne rfl e197)))))))))))))))))))))))))))))))))))))))))))))))
          have e388 := n386.ne rfl (n385.ne rfl (n383.ne rfl (n382.ne rfl (n381.ne rfl (n378.ne rfl (n377.ne rfl (n375.ne rfl (n372.ne rfl (n371.ne rfl (n369.ne rfl (n367.ne rfl (n366.ne rfl (n311.ne rfl (n298.ne rfl (n295.ne rfl (n293.ne rfl (n292.ne rfl (n290.ne rfl (n288.ne rfl (n287.ne rfl (n285.ne rfl (n283.ne rfl (n281.ne rfl (n280.ne rfl (n278.ne rfl (n276.ne rfl (n275.ne rfl (n273.ne rfl (n272.ne rfl (n271.ne rfl (n251.ne rfl (n240.ne rfl (n239.ne rfl (n238.ne rfl (n236.ne rfl (n235.ne rfl e234))))))))))))))))))))))))))))))))))))
          have e389 := n386.ne rfl (n385.ne rfl (n383.ne rfl (n382.ne rfl (n381.ne rfl (n378.ne rfl (n377.ne rfl (n375.ne rfl (n372.ne rfl (n371.ne rfl (n369.ne rfl (n367.ne rfl (n366.ne rfl (n311.ne rfl (n298.ne rfl (n295.ne rfl (n293.ne rfl (n292.ne rfl (n290.ne rfl (n288.ne rfl (n287.ne rfl (n285.ne rfl (n283.ne rfl (n281.ne rfl (n280.ne rfl (n278.ne rfl (n276.ne rfl (n275.ne rfl (n273.ne rfl (n272.ne rfl (n271.ne rfl (n251.ne rfl (n240.ne rfl (n239.ne rfl (n238.ne rfl (n236.ne rfl (n235.ne rfl (n233.ne rfl (n230.ne rfl (n229.ne rfl (n228.ne rfl (n226.ne rfl (n214.ne rfl (n203.ne rfl (n202.ne rfl (n201.ne rfl (n199.ne rfl (n198.ne rfl (n196.ne rfl (n193.ne rfl (n192.ne rfl (n191.ne rfl (n189.ne rfl (n186.ne rfl (n185.ne rfl (n180.ne rfl s4I169)))))))))))))))))))))))))))))))))))))))))))))))))))))))
          have e390 := n386.ne rfl (n385.ne rfl (n383.ne rfl (n382.ne rfl (n381.ne rfl (n378.ne rfl (n377.ne rfl (n375.ne rfl (n372.ne rfl (n371.ne rfl e370)))))))))
          have e391 := n386.ne rfl (n385.ne rfl (n383.ne rfl (n382.ne rfl (n381.ne rfl (n378.ne rfl (n377.ne rfl e376))))))
          have e392 := n386.ne rfl (n385.ne rfl (n383.ne rfl (n382.ne rfl (n381.ne rfl (n378.ne rfl (n377.ne rfl (n375.ne rfl (n372.ne rfl (n371.ne rfl (n369.ne rfl (n367.ne rfl (n366.ne rfl (n311.ne rfl (n298.ne rfl e296))))))))))))))
          have e393 := n386.ne rfl (n385.ne rfl (n383.ne rfl (n382.ne rfl (n381.ne rfl (n378.ne rfl (n377.ne rfl (n375.ne rfl (n372.ne rfl (n371.ne rfl (n369.ne rfl (n367.ne rfl (n366.ne rfl (n311.ne rfl e309)))))))))))))
          exact th_n (hKI169 _ _ _ (by omega) ⟨i + 1, (setC vx i (wi xh200 50)), (setC vy i (wi xh237 50)), (setC vo i (max ((cv (setC vx i (wi xh200 50)) i)) ((cv (setC vy i (wi xh237 50)) i)))), (setC vm i (min ((cv (setC vx i (wi xh200 50)) i)) ((cv (setC vy i (wi xh237 50)) i)))), (decide ((((cv (setC vx i (wi xh200 50)) i) : Nat) : Int) ≤ (((cv (setC vy i (wi xh237 50)) i) : Nat) : Int))), rfl, n386.ok, G360, e387, e388, e389, e390, e391, e392, e393, (n386.ne rfl (n385.ne rfl n383.at_)), n386.at_, B361, B362, B363, B364, A365, by omega, kv_b hbxI169 (by omega) (by have := wi_lt xh200 50 (by omega); omega), kv_b hbyI169 (by omega) (by have := wi_lt xh237 50 (by omega); omega), kv_o (f := max) (by omega) hoI169 (kv_s (by omega)) (kv_s (by omega)), kv_o (f := min) (by omega) haI169 (kv_s (by omega)) (kv_s (by omega)), kv_w htI169 (kv_s (by omega)) (kv_s (by omega)) c322⟩)
      · refine wp_cond_false ((n230.at_).trans (congrArg Value.bool (decide_eq_false c231))) ?_
        refine wp_skip ?_
        refine th_n (hK223 _ _ ?_)
        refine wp_seq_k (fun K394 hK394 => ?_)
        refine h_start [b123, b143] 20 #[false, false, false, false, false, false, false, false, false, false, false, false, false, false, false, false, false, false, false, false] (by kernel_rfl) rfl rfl ?_
        have S395 := Sx.drew [b123, b143] w215
        have g396 := (Gr.refl w215).drew
        generalize w215.drew = w397 at *
        have G398 := G217.trans g396
        have B399 := B222.gr g396
        have B400 := B218.gr g396
        have B401 := B219.gr g396
        have B402 := B220.gr g396
        have A403 := A221.trans g396
        have e404 := n230.ne rfl (n229.ne rfl (n228.ne rfl (n226.ne rfl e225)))
        refine h_take (i := 0) (fuel := 19) n230.ok rfl rfl rfl (by kernel_rfl) (by kernel_rfl) (by kernel_rfl) (fun _ _ _ _ _ h => h) (wn _ rfl) (fun x hx => o_mv e404) S395 (fun an405 n405 => ?_)
        refine h_take (i := 1) (fuel := 18) n405.ok rfl rfl rfl (by kernel_rfl) (by kernel_rfl) (by kernel_rfl) (fun _ _ _ _ _ h => h) (wn _ rfl) (fun x hx => o_mv (n405.ne rfl e404)) S395 (fun an406 n406 => ?_)
        refine h_take (i := 2) (fuel := 17) n406.ok rfl rfl rfl (by kernel_rfl) (by kernel_rfl) (by kernel_rfl) (fun _ _ _ _ _ h => h) (wn _ rfl) (fun x hx => o_mv (n406.ne rfl (n405.ne rfl e404))) S395 (fun an407 n407 => ?_)
        have e408 := n407.ne rfl (n406.ne rfl (n405.ne rfl (n230.ne rfl (n229.ne rfl (n228.ne rfl (n226.ne rfl (n214.ne rfl e212)))))))
        refine h_take (i := 3) (fuel := 16) n407.ok rfl rfl rfl (by kernel_rfl) (by kernel_rfl) (by kernel_rfl) (fun _ _ _ _ _ h => h) (wn _ rfl) (fun x hx => o_iaA (i := i) (s := 1) e408 n407.at_ Try.underlying61 (by kernel_rfl) (by omega)) S395 (fun an409 n409 => ?_)
        refine h_take (i := 4) (fuel := 15) n409.ok rfl rfl rfl (by kernel_rfl) (by kernel_rfl) (by kernel_rfl) (fun _ _ _ _ _ h => h) (wn _ rfl) (fun x hx => o_ld n409.at_ (Try.isAgg3 _) ((Sx.bk hx B222 (by simp <;> omega)).cell _ (five_get (by omega)))) S395 (fun an410 n410 => ?_)
        have e411 := n410.ne rfl (n409.ne rfl (n407.ne rfl (n406.ne rfl (n405.ne rfl e404))))
        refine h_take (i := 5) (fuel := 14) n410.ok rfl rfl rfl (by kernel_rfl) (by kernel_rfl) (by kernel_rfl) (fun _ _ _ _ _ h => h) (wn _ rfl) (fun x hx => o_mv e411) S395 (fun an412 n412 => ?_)
        have e413 := n412.ne rfl (n410.ne rfl (n409.ne rfl (n407.ne rfl (n406.ne rfl (n405.ne rfl (n230.ne rfl (n229.ne rfl (n228.ne rfl (n226.ne rfl (n214.ne rfl (n203.ne rfl (n202.ne rfl (n201.ne rfl (n199.ne rfl (n198.ne rfl (n196.ne rfl (n193.ne rfl (n192.ne rfl (n191.ne rfl (n189.ne rfl (n186.ne rfl (n185.ne rfl (n180.ne rfl s8I169)))))))))))))))))))))))
        refine h_take (i := 6) (fuel := 13) n412.ok rfl rfl rfl (by kernel_rfl) (by kernel_rfl) (by kernel_rfl) (fun _ _ _ _ _ h => h) (wn _ rfl) (fun x hx => o_iaA (i := i) (s := 1) e413 n412.at_ Try.underlying61 (by kernel_rfl) (by omega)) S395 (fun an414 n414 => ?_)
        refine h_take (i := 7) (fuel := 12) n414.ok rfl rfl rfl (by kernel_rfl) (by kernel_rfl) (by kernel_rfl) (fun _ _ _ _ _ h => h) (wn _ rfl) (fun x hx => o_ld n414.at_ (Try.isAgg3 _) ((Sx.bk hx B218 (by simp <;> omega)).cell _ (five_get (by omega)))) S395 (fun an415 n415 => ?_)
        have e416 := n415.ne rfl (n414.ne rfl (n412.ne rfl n410.at_))
        refine h_take (i := 8) (fuel := 11) n415.ok rfl rfl rfl (by kernel_rfl) (by kernel_rfl) (by kernel_rfl) (fun _ _ _ _ _ h => h) (wn _ rfl) (fun x hx => o_max e416 n415.at_ (nmax_int _ _)) S395 (fun an417 n417 => ?_)
        have e418 := n417.ne rfl (n415.ne rfl (n414.ne rfl (n412.ne rfl e411)))
        refine h_take (i := 9) (fuel := 10) n417.ok rfl rfl rfl (by kernel_rfl) (by kernel_rfl) (by kernel_rfl) (fun _ _ _ _ _ h => h) (wn _ rfl) (fun x hx => o_mv e418) S395 (fun an419 n419 => ?_)
        have e420 := n419.ne rfl (n417.ne rfl (n415.ne rfl (n414.ne rfl (n412.ne rfl (n410.ne rfl (n409.ne rfl e408))))))
        refine h_take (i := 10) (fuel := 9) n419.ok rfl rfl rfl (by kernel_rfl) (by kernel_rfl) (by kernel_rfl) (fun _ _ _ _ _ h => h) (wn _ rfl) (fun x hx => o_iaA (i := i) (s := 1) e420 n419.at_ Try.underlying61 (by kernel_rfl) (by omega)) S395 (fun an421 n421 => ?_)
        refine h_take (i := 11) (fuel := 8) n421.ok rfl rfl rfl (by kernel_rfl) (by kernel_rfl) (by kernel_rfl) (fun _ _ _ _ _ h => h) (wn _ rfl) (fun x hx => o_ld n421.at_ (Try.isAgg3 _) ((Sx.bk hx B222 (by simp <;> omega)).cell _ (five_get (by omega)))) S395 (fun an422 n422 => ?_)
        have e423 := n422.ne rfl (n421.ne rfl (n419.ne rfl e418))
        refine h_take (i := 12) (fuel := 7) n422.ok rfl rfl rfl (by kernel_rfl) (by kernel_rfl) (by kernel_rfl) (fun _ _ _ _ _ h => h) (wn _ rfl) (fun x hx => o_mv e423) S395 (fun an424 n424 => ?_)
        have e425 := n424.ne rfl (n422.ne rfl (n421.ne rfl (n419.ne rfl (n417.ne rfl (n415.ne rfl (n414.ne rfl e413))))))
        refine h_take (i := 13) (fuel := 6) n424.ok rfl rfl rfl (by kernel_rfl) (by kernel_rfl) (by kernel_rfl) (fun _ _ _ _ _ h => h) (wn _ rfl) (fun x hx => o_iaA (i := i) (s := 1) e425 n424.at_ Try.underlying61 (by kernel_rfl) (by omega)) S395 (fun an426 n426 => ?_)
        refine h_take (i := 14) (fuel := 5) n426.ok rfl rfl rfl (by kernel_rfl) (by kernel_rfl) (by kernel_rfl) (fun _ _ _ _ _ h => h) (wn _ rfl) (fun x hx => o_ld n426.at_ (Try.isAgg3 _) ((Sx.bk hx B218 (by simp <;> omega)).cell _ (five_get (by omega)))) S395 (fun an427 n427 => ?_)
        have e428 := n427.ne rfl (n426.ne rfl (n424.ne rfl n422.at_))
        refine h_take (i := 15) (fuel := 4) n427.ok rfl rfl rfl (by kernel_rfl) (by kernel_rfl) (by kernel_rfl) (fun _ _ _ _ _ h => h) (wn _ rfl) (fun x hx => o_min e428 n427.at_ (nmin_int _ _)) S395 (fun an429 n429 => ?_)
        have e430 := n429.ne rfl (n427.ne rfl (n426.ne rfl (n424.ne rfl (n422.ne rfl (n421.ne rfl (n419.ne rfl (n417.ne rfl (n415.ne rfl (n414.ne rfl (n412.ne rfl (n410.ne rfl (n409.ne rfl (n407.ne rfl (n406.ne rfl (n405.ne rfl (n230.ne rfl (n229.ne rfl (n228.ne rfl (n226.ne rfl (n214.ne rfl (n203.ne rfl (n202.ne rfl (n201.ne rfl (n199.ne rfl (n198.ne rfl (n196.ne rfl (n193.ne rfl (n192.ne rfl (n191.ne rfl (n189.ne rfl (n186.ne rfl (n185.ne rfl (n180.ne rfl s9I169)))))))))))))))))))))))))))))))))
        have e431 := n429.ne rfl (n427.ne rfl (n426.ne rfl (n424.ne rfl (n422.ne rfl (n421.ne rfl (n419.ne rfl (n417.ne rfl (n415.ne rfl (n414.ne rfl (n412.ne rfl (n410.ne rfl (n409.ne rfl (n407.ne rfl (n406.ne rfl n405.at_))))))))))))))
        refine h_take (i := 16) (fuel := 3) n429.ok rfl rfl rfl (by kernel_rfl) (by kernel_rfl) (by kernel_rfl) (fun _ _ _ _ _ h => h) (wn _ rfl) (fun x hx => o_iaA (i := i) (s := 1) e430 e431 Try.underlying61 (by kernel_rfl) (by omega)) S395 (fun an432 n432 => ?_)
        have e433 := n432.ne rfl (n429.ne rfl (n427.ne rfl (n426.ne rfl (n424.ne rfl (n422.ne rfl (n421.ne rfl (n419.ne rfl n417.at_)))))))
        refine h_stC (i := 17) (fuel := 2) (by kernel_rfl) rfl rfl (wn _ rfl) (o_st n432.at_ e433 B401 (five_get (by omega)) (by kernel_rfl) rfl) B401 S395 (by simp) (fun w434 u435 u435b S436 => ?_)
        have G437 : Gr w w434 := Below.upd G398 l132 u435
        have B438 := B399.upd u435 (Nat.ne_of_lt l130)
        have B439 := B400.upd u435 (Nat.ne_of_lt l131)
        have B440 := B402.upd u435 (Nat.ne_of_gt l152)
        have A441 : Gr w24 w434 := Below.upd A403 l133 u435
        have B442 : Bk w434 b123 (cArr (setC vo i (max ((cv (setC vx i (wi xh200 50)) i)) ((cv vy i))))) 61 := (by have h := u435b; rw [show 0 + i * 1 = i by omega, cArr_setC _ _ _ (by omega)] at h; exact h)
        have e443 := n432.ne rfl (n429.ne rfl (n427.ne rfl (n426.ne rfl (n424.ne rfl (n422.ne rfl (n421.ne rfl (n419.ne rfl (n417.ne rfl (n415.ne rfl (n414.ne rfl (n412.ne rfl (n410.ne rfl (n409.ne rfl (n407.ne rfl (n406.ne rfl (n405.ne rfl (n230.ne rfl (n229.ne rfl (n228.ne rfl (n226.ne rfl (n214.ne rfl (n203.ne rfl (n202.ne rfl (n201.ne rfl (n199.ne rfl (n198.ne rfl (n196.ne rfl (n193.ne rfl (n192.ne rfl (n191.ne rfl (n189.ne rfl (n186.ne rfl (n185.ne rfl (n180.ne rfl s10I169))))))))))))))))))))))))))))))))))
        have e444 := n432.ne rfl (n429.ne rfl (n427.ne rfl (n426.ne rfl (n424.ne rfl (n422.ne rfl (n421.ne rfl (n419.ne rfl (n417.ne rfl (n415.ne rfl (n414.ne rfl (n412.ne rfl (n410.ne rfl (n409.ne rfl (n407.ne rfl n406.at_))))))))))))))
        refine h_take (i := 18) (fuel := 1) n432.ok rfl rfl rfl (by kernel_rfl) (by kernel_rfl) (by kernel_rfl) (fun _ _ _ _ _ h => h) (wn _ rfl) (fun x hx => o_iaA (i := i) (s := 1) e443 e444 Try.underlying61 (by kernel_rfl) (by omega)) S436 (fun an445 n445 => ?_)
        refine h_stC (i := 19) (fuel := 0) (by kernel_rfl) rfl rfl (wn _ rfl) (o_st n445.at_ (n445.ne rfl (n432.ne rfl n429.at_)) B440 (five_get (by omega)) (by kernel_rfl) rfl) B440 S436 (by simp) (fun w446 u447 u447b S448 => ?_)
        have G449 : Gr w w446 := Below.upd G437 l153 u447
        have B450 := B438.upd u447 (Nat.ne_of_lt l150)
        have B451 := B439.upd u447 (Nat.ne_of_lt l151)
        have B452 := B442.upd u447 (Nat.ne_of_lt l152)
        have A453 : Gr w24 w446 := Below.upd A441 l154 u447
        have B454 : Bk w446 b143 (cArr (setC vm i (min ((cv (setC vx i (wi xh200 50)) i)) ((cv vy i))))) 61 := (by have h := u447b; rw [show 0 + i * 1 = i by omega, cArr_setC _ _ _ (by omega)] at h; exact h)
        refine wpAnyH_done (by kernel_rfl) ?_ _
        refine th_n (hK394 _ _ ?_)
        have e455 := n445.ne rfl (n432.ne rfl (n429.ne rfl (n427.ne rfl (n426.ne rfl (n424.ne rfl (n422.ne rfl (n421.ne rfl (n419.ne rfl (n417.ne rfl (n415.ne rfl (n414.ne rfl (n412.ne rfl (n410.ne rfl (n409.ne rfl (n407.ne rfl (n406.ne rfl (n405.ne rfl (n230.ne rfl (n229.ne rfl (n228.ne rfl (n226.ne rfl (n214.ne rfl (n203.ne rfl (n202.ne rfl (n201.ne rfl (n199.ne rfl (n198.ne rfl (n196.ne rfl (n193.ne rfl (n192.ne rfl (n191.ne rfl (n189.ne rfl (n186.ne rfl (n185.ne rfl (n180.ne rfl s11I169)))))))))))))))))))))))))))))))))))
        cases c456 : tt
        · have e457 := (e455).trans (congrArg Value.bool c456)
          refine h_start [] 11 #[false, false, false, false, false, false, false, false, false, false, false] (by kernel_rfl) rfl rfl ?_
          have S458 := Sx.drew [] w446
          have g459 := (Gr.refl w446).drew
          generalize w446.drew = w460 at *
          have G461 := G449.trans g459
          have B462 := B450.gr g459
          have B463 := B451.gr g459
          have B464 := B452.gr g459
          have B465 := B454.gr g459
          have A466 := A453.trans g459
          refine h_take (i := 0) (fuel := 10) n445.ok rfl rfl rfl (by kernel_rfl) (by kernel_rfl) (by kernel_rfl) (fun _ _ _ _ _ h => h) (wn _ rfl) (fun x hx => o_mv e457) S458 (fun an467 n467 => ?_)
          refine h_take (i := 1) (fuel := 9) n467.ok rfl rfl rfl (by kernel_rfl) (by kernel_rfl) (by kernel_rfl) (fun _ _ _ _ _ h => h) (wn _ rfl) (fun x hx => o_mv n467.at_) S458 (fun an468 n468 => ?_)
          refine h_not (i := 2) (fuel := 8) n468.ok rfl rfl rfl (by kernel_rfl) (by kernel_rfl) (by kernel_rfl) (fun _ _ _ _ _ h => h) (wgF rfl (yl 1 false rfl n468.at_) rfl) S458 (fun an469 n469 => ?_)
          refine h_not (i := 3) (fuel := 7) n469.ok rfl rfl rfl (by kernel_rfl) (by kernel_rfl) (by kernel_rfl) (fun _ _ _ _ _ h => h) (wgF rfl (yl 1 false rfl (n469.ne rfl n468.at_)) rfl) S458 (fun an470 n470 => ?_)
          refine h_not (i := 4) (fuel := 6) n470.ok rfl rfl rfl (by kernel_rfl) (by kernel_rfl) (by kernel_rfl) (fun _ _ _ _ _ h => h) (wgF rfl (yl 1 false rfl (n470.ne rfl (n469.ne rfl n468.at_))) rfl) S458 (fun an471 n471 => ?_)
          have e472 := n471.ne rfl (n470.ne rfl (n469.ne rfl n468.at_))
          refine h_not (i := 5) (fuel := 5) n471.ok rfl rfl rfl (by kernel_rfl) (by kernel_rfl) (by kernel_rfl) (fun _ _ _ _ _ h => h) (wgF rfl (yl 1 false rfl e472) rfl) S458 (fun an473 n473 => ?_)
          refine h_not (i := 6) (fuel := 4) n473.ok rfl rfl rfl (by kernel_rfl) (by kernel_rfl) (by kernel_rfl) (fun _ _ _ _ _ h => h) (wgF rfl (yl 1 false rfl (n473.ne rfl e472)) rfl) S458 (fun an474 n474 => ?_)
          refine h_not (i := 7) (fuel := 3) n474.ok rfl rfl rfl (by kernel_rfl) (by kernel_rfl) (by kernel_rfl) (fun _ _ _ _ _ h => h) (wgF rfl (yl 1 false rfl (n474.ne rfl (n473.ne rfl e472))) rfl) S458 (fun an475 n475 => ?_)
          have e476 := n475.ne rfl (n474.ne rfl (n473.ne rfl e472))
          refine h_not (i := 8) (fuel := 2) n475.ok rfl rfl rfl (by kernel_rfl) (by kernel_rfl) (by kernel_rfl) (fun _ _ _ _ _ h => h) (wgF rfl (yl 1 false rfl e476) rfl) S458 (fun an477 n477 => ?_)
          refine h_take (i := 9) (fuel := 1) n477.ok rfl rfl rfl (by kernel_rfl) (by kernel_rfl) (by kernel_rfl) (fun _ _ _ _ _ h => h) (wn _ rfl) (fun x hx => o_pkF (n477.ne rfl e476) ev_const) S458 (fun an478 n478 => ?_)
          refine h_take (i := 10) (fuel := 0) n478.ok rfl rfl rfl (by kernel_rfl) (by kernel_rfl) (by kernel_rfl) (fun _ _ _ _ _ h => h) (wn _ rfl) (fun x hx => o_as n478.at_) S458 (fun an479 n479 => ?_)
          refine wpAnyH_done (by kernel_rfl) ?_ _
          refine ib_n ?_
          refine th_n (hK183 _ _ ?_)
          refine wp_region_lit ?_
          have e480 := n479.ne rfl (n478.ne rfl (n477.ne rfl (n475.ne rfl (n474.ne rfl (n473.ne rfl (n471.ne rfl (n470.ne rfl (n469.ne rfl (n468.ne rfl (n467.ne rfl (n445.ne rfl (n432.ne rfl (n429.ne rfl (n427.ne rfl (n426.ne rfl (n424.ne rfl (n422.ne rfl (n421.ne rfl (n419.ne rfl (n417.ne rfl (n415.ne rfl (n414.ne rfl (n412.ne rfl (n410.ne rfl (n409.ne rfl (n407.ne rfl (n406.ne rfl (n405.ne rfl (n230.ne rfl (n229.ne rfl (n228.ne rfl (n226.ne rfl (n214.ne rfl (n203.ne rfl (n202.ne rfl (n201.ne rfl (n199.ne rfl (n198.ne rfl (n196.ne rfl (n193.ne rfl (n192.ne rfl (n191.ne rfl (n189.ne rfl (n186.ne rfl (n185.ne rfl (n180.ne rfl s37I169))))))))))))))))))))))))))))))))))))))))))))))
          refine sv n479.ok rfl (wn _ rfl) rfl (o_add (r := ((i + 1 : Nat) : Int)) e480 ev_const (by omega) (by omega)) (fun an481 n481 => ?_)
          refine sv n481.ok rfl (wn _ rfl) rfl (o_mv n481.at_) (fun an482 n482 => ?_)
          refine wpList_nil ?_
          have e483 := n482.ne rfl (n481.ne rfl (n479.ne rfl (n478.ne rfl (n477.ne rfl (n475.ne rfl (n474.ne rfl (n473.ne rfl (n471.ne rfl (n470.ne rfl (n469.ne rfl (n468.ne rfl (n467.ne rfl (n445.ne rfl (n432.ne rfl (n429.ne rfl (n427.ne rfl (n426.ne rfl (n424.ne rfl (n422.ne rfl (n421.ne rfl (n419.ne rfl (n417.ne rfl (n415.ne rfl (n414.ne rfl (n412.ne rfl (n410.ne rfl (n409.ne rfl (n407.ne rfl (n406.ne rfl (n405.ne rfl (n230.ne rfl (n229.ne rfl (n228.ne rfl (n226.ne rfl (n214.ne rfl (n203.ne rfl (n202.ne rfl (n201.ne rfl (n199.ne rfl (n198.ne rfl e197))))))))))))))))))))))))))))))))))))))))
          have e484 := n482.ne rfl (n481.ne rfl (n479.ne rfl (n478.ne rfl (n477.ne rfl (n475.ne rfl (n474.ne rfl (n473.ne rfl (n471.ne rfl (n470.ne rfl (n469.ne rfl (n468.ne rfl (n467.ne rfl (n445.ne rfl (n432.ne rfl (n429.ne rfl (n427.ne rfl (n426.ne rfl (n424.ne rfl (n422.ne rfl (n421.ne rfl (n419.ne rfl (n417.ne rfl (n415.ne rfl (n414.ne rfl (n412.ne rfl (n410.ne rfl (n409.ne rfl (n407.ne rfl (n406.ne rfl (n405.ne rfl (n230.ne rfl (n229.ne rfl (n228.ne rfl e227)))))))))))))))))))))))))))))))))
          have e485 := n482.ne rfl (n481.ne rfl (n479.ne rfl (n478.ne rfl (n477.ne rfl (n475.ne rfl (n474.ne rfl (n473.ne rfl (n471.ne rfl (n470.ne rfl (n469.ne rfl (n468.ne rfl (n467.ne rfl (n445.ne rfl (n432.ne rfl (n429.ne rfl (n427.ne rfl (n426.ne rfl (n424.ne rfl (n422.ne rfl (n421.ne rfl (n419.ne rfl (n417.ne rfl (n415.ne rfl (n414.ne rfl (n412.ne rfl (n410.ne rfl (n409.ne rfl (n407.ne rfl (n406.ne rfl (n405.ne rfl (n230.ne rfl (n229.ne rfl (n228.ne rfl (n226.ne rfl (n214.ne rfl (n203.ne rfl (n202.ne rfl (n201.ne rfl (n199.ne rfl (n198.ne rfl (n196.ne rfl (n193.ne rfl (n192.ne rfl (n191.ne rfl (n189.ne rfl (n186.ne rfl (n185.ne rfl (n180.ne rfl s4I169))))))))))))))))))))))))))))))))))))))))))))))))
          have e486 := n482.ne rfl (n481.ne rfl (n479.ne rfl (n478.ne rfl (n477.ne rfl (n475.ne rfl (n474.ne rfl (n473.ne rfl (n471.ne rfl (n470.ne rfl (n469.ne rfl (n468.ne rfl (n467.ne rfl (n445.ne rfl (n432.ne rfl (n429.ne rfl (n427.ne rfl (n426.ne rfl (n424.ne rfl (n422.ne rfl (n421.ne rfl e420))))))))))))))))))))
          have e487 := n482.ne rfl (n481.ne rfl (n479.ne rfl (n478.ne rfl (n477.ne rfl (n475.ne rfl (n474.ne rfl (n473.ne rfl (n471.ne rfl (n470.ne rfl (n469.ne rfl (n468.ne rfl (n467.ne rfl (n445.ne rfl (n432.ne rfl (n429.ne rfl (n427.ne rfl (n426.ne rfl e425)))))))))))))))))
          have e488 := n482.ne rfl (n481.ne rfl (n479.ne rfl (n478.ne rfl (n477.ne rfl (n475.ne rfl (n474.ne rfl (n473.ne rfl (n471.ne rfl (n470.ne rfl (n469.ne rfl (n468.ne rfl (n467.ne rfl (n445.ne rfl (n432.ne rfl e430))))))))))))))
          have e489 := n482.ne rfl (n481.ne rfl (n479.ne rfl (n478.ne rfl (n477.ne rfl (n475.ne rfl (n474.ne rfl (n473.ne rfl (n471.ne rfl (n470.ne rfl (n469.ne rfl (n468.ne rfl (n467.ne rfl (n445.ne rfl e443)))))))))))))
          exact th_n (hKI169 _ _ _ (by omega) ⟨i + 1, (setC vx i (wi xh200 50)), vy, (setC vo i (max ((cv (setC vx i (wi xh200 50)) i)) ((cv vy i)))), (setC vm i (min ((cv (setC vx i (wi xh200 50)) i)) ((cv vy i)))), false, rfl, n482.ok, G461, e483, e484, e485, e486, e487, e488, e489, (n482.ne rfl (n481.ne rfl n479.at_)), n482.at_, B462, B463, B464, B465, A466, by omega, kv_b hbxI169 (by omega) (by have := wi_lt xh200 50 (by omega); omega), hbyI169, kv_o (f := max) (by omega) hoI169 (kv_s (by omega)) (fun _ _ => rfl), kv_o (f := min) (by omega) haI169 (kv_s (by omega)) (fun _ _ => rfl), kv_wf htI169 (kv_s (by omega)) (fun _ _ => rfl) c456⟩)
        · have e490 := (e455).trans (congrArg Value.bool c456)
          refine h_start [] 11 #[false, false, false, false, false, false, false, false, false, false, false] (by kernel_rfl) rfl rfl ?_
          have S491 := Sx.drew [] w446
          have g492 := (Gr.refl w446).drew
          generalize w446.drew = w493 at *
          have G494 := G449.trans g492
          have B495 := B450.gr g492
          have B496 := B451.gr g492
          have B497 := B452.gr g492
          have B498 := B454.gr g492
          have A499 := A453.trans g492
          refine h_take (i := 0) (fuel := 10) n445.ok rfl rfl rfl (by kernel_rfl) (by kernel_rfl) (by kernel_rfl) (fun _ _ _ _ _ h => h) (wn _ rfl) (fun x hx => o_mv e490) S491 (fun an500 n500 => ?_)
          refine h_take (i := 1) (fuel := 9) n500.ok rfl rfl rfl (by kernel_rfl) (by kernel_rfl) (by kernel_rfl) (fun _ _ _ _ _ h => h) (wn _ rfl) (fun x hx => o_mv n500.at_) S491 (fun an501 n501 => ?_)
          have e502 := n501.ne rfl (n500.ne rfl (n445.ne rfl (n432.ne rfl (n429.ne rfl (n427.ne rfl (n426.ne rfl (n424.ne rfl e423)))))))
          refine h_take (i := 2) (fuel := 8) n501.ok rfl rfl rfl (by kernel_rfl) (by kernel_rfl) (by kernel_rfl) (fun _ _ _ _ _ h => h) (wgT rfl (yl 1 true rfl n501.at_) rfl) (fun x hx => o_mv e502) S491 (fun an503 n503 => ?_)
          have e504 := n503.ne rfl (n501.ne rfl (n500.ne rfl (n445.ne rfl (n432.ne rfl (n429.ne rfl (n427.ne rfl (n426.ne rfl (n424.ne rfl (n422.ne rfl (n421.ne rfl e420))))))))))
          refine h_take (i := 3) (fuel := 7) n503.ok rfl rfl rfl (by kernel_rfl) (by kernel_rfl) (by kernel_rfl) (fun _ _ _ _ _ h => h) (wgT rfl (yl 1 true rfl (n503.ne rfl n501.at_)) rfl) (fun x hx => o_iaA (i := i) (s := 1) e504 n503.at_ Try.underlying61 (by kernel_rfl) (by omega)) S491 (fun an505 n505 => ?_)
          refine h_take (i := 4) (fuel := 6) n505.ok rfl rfl rfl (by kernel_rfl) (by kernel_rfl) (by kernel_rfl) (fun _ _ _ _ _ h => h) (wgT rfl (yl 1 true rfl (n505.ne rfl (n503.ne rfl n501.at_))) rfl) (fun x hx => o_ld n505.at_ (Try.isAgg3 _) ((Sx.bk hx B450 (by simp <;> omega)).cell _ (five_get (by omega)))) S491 (fun an506 n506 => ?_)
          have e507 := n506.ne rfl (n505.ne rfl (n503.ne rfl n501.at_))
          have e508 := n506.ne rfl (n505.ne rfl (n503.ne rfl e502))
          refine h_take (i := 5) (fuel := 5) n506.ok rfl rfl rfl (by kernel_rfl) (by kernel_rfl) (by kernel_rfl) (fun _ _ _ _ _ h => h) (wgT rfl (yl 1 true rfl e507) rfl) (fun x hx => o_mv e508) S491 (fun an509 n509 => ?_)
          have e510 := n509.ne rfl (n506.ne rfl (n505.ne rfl (n503.ne rfl (n501.ne rfl (n500.ne rfl (n445.ne rfl (n432.ne rfl (n429.ne rfl (n427.ne rfl (n426.ne rfl e425))))))))))
          refine h_take (i := 6) (fuel := 4) n509.ok rfl rfl rfl (by kernel_rfl) (by kernel_rfl) (by kernel_rfl) (fun _ _ _ _ _ h => h) (wgT rfl (yl 1 true rfl (n509.ne rfl e507)) rfl) (fun x hx => o_iaA (i := i) (s := 1) e510 n509.at_ Try.underlying61 (by kernel_rfl) (by omega)) S491 (fun an511 n511 => ?_)
          refine h_take (i := 7) (fuel := 3) n511.ok rfl rfl rfl (by kernel_rfl) (by kernel_rfl) (by kernel_rfl) (fun _ _ _ _ _ h => h) (wgT rfl (yl 1 true rfl (n511.ne rfl (n509.ne rfl e507))) rfl) (fun x hx => o_ld n511.at_ (Try.isAgg3 _) ((Sx.bk hx B451 (by simp <;> omega)).cell _ (five_get (by omega)))) S491 (fun an512 n512 => ?_)
          have e513 := n512.ne rfl (n511.ne rfl (n509.ne rfl e507))
          have e514 := n512.ne rfl (n511.ne rfl (n509.ne rfl n506.at_))
          refine h_take (i := 8) (fuel := 2) n512.ok rfl rfl rfl (by kernel_rfl) (by kernel_rfl) (by kernel_rfl) (fun _ _ _ _ _ h => h) (wgT rfl (yl 1 true rfl e513) rfl) (fun x hx => o_leI e514 n512.at_) S491 (fun an515 n515 => ?_)
          refine h_take (i := 9) (fuel := 1) n515.ok rfl rfl rfl (by kernel_rfl) (by kernel_rfl) (by kernel_rfl) (fun _ _ _ _ _ h => h) (wn _ rfl) (fun x hx => o_pkT (n515.ne rfl e513) n515.at_) S491 (fun an516 n516 => ?_)
          refine h_take (i := 10) (fuel := 0) n516.ok rfl rfl rfl (by kernel_rfl) (by kernel_rfl) (by kernel_rfl) (fun _ _ _ _ _ h => h) (wn _ rfl) (fun x hx => o_as n516.at_) S491 (fun an517 n517 => ?_)
          refine wpAnyH_done (by kernel_rfl) ?_ _
          refine ib_n ?_
          refine th_n (hK183 _ _ ?_)
          refine wp_region_lit ?_
          have e518 := n517.ne rfl (n516.ne rfl (n515.ne rfl (n512.ne rfl (n511.ne rfl (n509.ne rfl (n506.ne rfl (n505.ne rfl (n503.ne rfl (n501.ne rfl (n500.ne rfl (n445.ne rfl (n432.ne rfl (n429.ne rfl (n427.ne rfl (n426.ne rfl (n424.ne rfl (n422.ne rfl (n421.ne rfl (n419.ne rfl (n417.ne rfl (n415.ne rfl (n414.ne rfl (n412.ne rfl (n410.ne rfl (n409.ne rfl (n407.ne rfl (n406.ne rfl (n405.ne rfl (n230.ne rfl (n229.ne rfl (n228.ne rfl (n226.ne rfl (n214.ne rfl (n203.ne rfl (n202.ne rfl (n201.ne rfl (n199.ne rfl (n198.ne rfl (n196.ne rfl (n193.ne rfl (n192.ne rfl (n191.ne rfl (n189.ne rfl (n186.ne rfl (n185.ne rfl (n180.ne rfl s37I169))))))))))))))))))))))))))))))))))))))))))))))
          refine sv n517.ok rfl (wn _ rfl) rfl (o_add (r := ((i + 1 : Nat) : Int)) e518 ev_const (by omega) (by omega)) (fun an519 n519 => ?_)
          refine sv n519.ok rfl (wn _ rfl) rfl (o_mv n519.at_) (fun an520 n520 => ?_)
          refine wpList_nil ?_
          have e521 := n520.ne rfl (n519.ne rfl (n517.ne rfl (n516.ne rfl (n515.ne rfl (n512.ne rfl (n511.ne rfl (n509.ne rfl (n506.ne rfl (n505.ne rfl (n503.ne rfl (n501.ne rfl (n500.ne rfl (n445.ne rfl (n432.ne rfl (n429.ne rfl (n427.ne rfl (n426.ne rfl (n424.ne rfl (n422.ne rfl (n421.ne rfl (n419.ne rfl (n417.ne rfl (n415.ne rfl (n414.ne rfl (n412.ne rfl (n410.ne rfl (n409.ne rfl (n407.ne rfl (n406.ne rfl (n405.ne rfl (n230.ne rfl (n229.ne rfl (n228.ne rfl (n226.ne rfl (n214.ne rfl (n203.ne rfl (n202.ne rfl (n201.ne rfl (n199.ne rfl (n198.ne rfl e197))))))))))))))))))))))))))))))))))))))))
          have e522 := n520.ne rfl (n519.ne rfl (n517.ne rfl (n516.ne rfl (n515.ne rfl (n512.ne rfl (n511.ne rfl (n509.ne rfl (n506.ne rfl (n505.ne rfl (n503.ne rfl (n501.ne rfl (n500.ne rfl (n445.ne rfl (n432.ne rfl (n429.ne rfl (n427.ne rfl (n426.ne rfl (n424.ne rfl (n422.ne rfl (n421.ne rfl (n419.ne rfl (n417.ne rfl (n415.ne rfl (n414.ne rfl (n412.ne rfl (n410.ne rfl (n409.ne rfl (n407.ne rfl (n406.ne rfl (n405.ne rfl (n230.ne rfl (n229.ne rfl (n228.ne rfl e227)))))))))))))))))))))))))))))))))
          have e523 := n520.ne rfl (n519.ne rfl (n517.ne rfl (n516.ne rfl (n515.ne rfl (n512.ne rfl (n511.ne rfl (n509.ne rfl (n506.ne rfl (n505.ne rfl (n503.ne rfl (n501.ne rfl (n500.ne rfl (n445.ne rfl (n432.ne rfl (n429.ne rfl (n427.ne rfl (n426.ne rfl (n424.ne rfl (n422.ne rfl (n421.ne rfl (n419.ne rfl (n417.ne rfl (n415.ne rfl (n414.ne rfl (n412.ne rfl (n410.ne rfl (n409.ne rfl (n407.ne rfl (n406.ne rfl (n405.ne rfl (n230.ne rfl (n229.ne rfl (n228.ne rfl (n226.ne rfl (n214.ne rfl (n203.ne rfl (n202.ne rfl (n201.ne rfl (n199.ne rfl (n198.ne rfl (n196.ne rfl (n193.ne rfl (n192.ne rfl (n191.ne rfl (n189.ne rfl (n186.ne rfl (n185.ne rfl (n180.ne rfl s4I169))))))))))))))))))))))))))))))))))))))))))))))))
          have e524 := n520.ne rfl (n519.ne rfl (n517.ne rfl (n516.ne rfl (n515.ne rfl (n512.ne rfl (n511.ne rfl (n509.ne rfl (n506.ne rfl (n505.ne rfl e504)))))))))
          have e525 := n520.ne rfl (n519.ne rfl (n517.ne rfl (n516.ne rfl (n515.ne rfl (n512.ne rfl (n511.ne rfl e510))))))
          have e526 := n520.ne rfl (n519.ne rfl (n517.ne rfl (n516.ne rfl (n515.ne rfl (n512.ne rfl (n511.ne rfl (n509.ne rfl (n506.ne rfl (n505.ne rfl (n503.ne rfl (n501.ne rfl (n500.ne rfl (n445.ne rfl (n432.ne rfl e430))))))))))))))
          have e527 := n520.ne rfl (n519.ne rfl (n517.ne rfl (n516.ne rfl (n515.ne rfl (n512.ne rfl (n511.ne rfl (n509.ne rfl (n506.ne rfl (n505.ne rfl (n503.ne rfl (n501.ne rfl (n500.ne rfl (n445.ne rfl e443)))))))))))))
          exact th_n (hKI169 _ _ _ (by omega) ⟨i + 1, (setC vx i (wi xh200 50)), vy, (setC vo i (max ((cv (setC vx i (wi xh200 50)) i)) ((cv vy i)))), (setC vm i (min ((cv (setC vx i (wi xh200 50)) i)) ((cv vy i)))), (decide ((((cv (setC vx i (wi xh200 50)) i) : Nat) : Int) ≤ (((cv vy i) : Nat) : Int))), rfl, n520.ok, G494, e521, e522, e523, e524, e525, e526, e527, (n520.ne rfl (n519.ne rfl n517.at_)), n520.at_, B495, B496, B497, B498, A499, by omega, kv_b hbxI169 (by omega) (by have := wi_lt xh200 50 (by omega); omega), hbyI169, kv_o (f := max) (by omega) hoI169 (kv_s (by omega)) (fun _ _ => rfl), kv_o (f := min) (by omega) haI169 (kv_s (by omega)) (fun _ _ => rfl), kv_w htI169 (kv_s (by omega)) (fun _ _ => rfl) c456⟩)
    · refine wp_cond_false ((n193.at_).trans (congrArg Value.bool (decide_eq_false c194))) ?_
      refine wp_skip ?_
      refine th_n (hK187 _ _ ?_)
      refine wp_seq_k (fun K528 hK528 => ?_)
      refine wp_seq_k (fun K529 hK529 => ?_)
      refine wp_region_lit ?_
      have e530 := n193.ne rfl (n192.ne rfl (n191.ne rfl (n189.ne rfl n186.at_)))
      refine sv n193.ok rfl (wn _ rfl) rfl (o_mv e530) (fun an531 n531 => ?_)
      have e532 := n531.ne rfl (n193.ne rfl (n192.ne rfl (n191.ne rfl (n189.ne rfl (n186.ne rfl (n185.ne rfl (n180.ne rfl s1I169)))))))
      refine sv n531.ok rfl (wn _ rfl) rfl (o_mv e532) (fun an533 n533 => ?_)
      refine sv n533.ok rfl (wn _ rfl) rfl (o_len n533.at_ Try.underlying32) (fun an534 n534 => ?_)
      refine sv n534.ok rfl (wn _ rfl) rfl (o_ltI (n534.ne rfl (n533.ne rfl n531.at_)) n534.at_) (fun an535 n535 => ?_)
      refine wpList_nil ?_
      refine th_n (hK529 _ _ ?_)
      by_cases c536 : (i : Int) < ((B.length : Nat) : Int)
      · refine wp_cond_true ((n535.at_).trans (congrArg Value.bool (decide_eq_true c536))) ?_
        refine wp_region_lit ?_
        have e537 := n535.ne rfl (n534.ne rfl (n533.ne rfl (n531.ne rfl e530)))
        refine sv n535.ok rfl (wn _ rfl) rfl (o_mv e537) (fun an538 n538 => ?_)
        have e539 := n538.ne rfl (n535.ne rfl (n534.ne rfl (n533.ne rfl e532)))
        refine sv n538.ok rfl (wn _ rfl) rfl (o_mv e539) (fun an540 n540 => ?_)
        refine sv n540.ok rfl (wn _ rfl) rfl (o_mv (n540.ne rfl (n538.ne rfl e537))) (fun an541 n541 => ?_)
        have h542l : i < List.length B := by omega
        obtain ⟨bh542, fh542, h542a, h542b, h542c⟩ := hB (ne_nil_of_lt h542l)
        obtain ⟨xh542, h542x⟩ : ∃ x, B[i]? = some x := ⟨_, List.getElem?_eq_getElem h542l⟩
        refine sv n541.ok rfl (wn _ rfl) rfl (o_iaV (i := i) (s := 1) h542a (n541.ne rfl n540.at_) n541.at_ Try.underlying32 (by kernel_rfl) h542l) (fun an543 n543 => ?_)
        refine sv n543.ok rfl (wn _ rfl) rfl (o_ld n543.at_ (Try.isAgg3 _) ((Below.cell GI169 h542b).trans (h542c _ _ h542x))) (fun an544 n544 => ?_)
        refine sc n544.ok rfl (wn _ rfl) rfl (o_f2 Try.func24 rfl rfl rfl n544.at_ ev_const) (kwithin_any xh542 50 (by omega) (by omega) w178) ?_
        rintro _ w546 ⟨rfl, g547⟩
        refine ⟨_, rfl, fun an545 n545 => ?_⟩
        have G548 := GI169.trans g547
        have B549 := kb89I169.gr g547
        have B550 := kb105I169.gr g547
        have B551 := kb123I169.gr g547
        have B552 := kb143I169.gr g547
        have A553 := xanch29I169.trans g547
        have e554 := n545.ne rfl (n544.ne rfl (n543.ne rfl (n541.ne rfl (n540.ne rfl (n538.ne rfl (n535.ne rfl (n534.ne rfl (n533.ne rfl (n531.ne rfl (n193.ne rfl (n192.ne rfl (n191.ne rfl (n189.ne rfl (n186.ne rfl (n185.ne rfl (n180.ne rfl s8I169))))))))))))))))
        have e555 := n545.ne rfl (n544.ne rfl (n543.ne rfl (n541.ne rfl (n540.ne rfl n538.at_))))
        refine sv n545.ok rfl (wn _ rfl) rfl (o_iaA (i := i) (s := 1) e554 e555 Try.underlying61 (by kernel_rfl) (by omega)) (fun an556 n556 => ?_)
        refine ssC rfl (wn _ rfl) (o_st n556.at_ (n556.ne rfl n545.at_) B550 (five_get (by omega)) (by kernel_rfl) rfl) B550 (fun w557 u558 u558b => ?_)
        have G559 : Gr w w557 := Below.upd G548 l113 u558
        have B560 := B549.upd u558 (Nat.ne_of_lt l112)
        have B561 := B551.upd u558 (Nat.ne_of_gt l131)
        have B562 := B552.upd u558 (Nat.ne_of_gt l151)
        have A563 : Gr w24 w557 := Below.upd A553 l114 u558
        have B564 : Bk w557 b105 (cArr (setC vy i (wi xh542 50))) 61 := (by have h := u558b; rw [show 0 + i * 1 = i by omega, cArr_setC _ _ _ (by omega)] at h; exact h)
        refine wpList_nil ?_
        refine th_n (hK528 _ _ ?_)
        refine wp_seq_k (fun K565 hK565 => ?_)
        refine h_start [b123, b143] 20 #[false, false, false, false, false, false, false, false, false, false, false, false, false, false, false, false, false, false, false, false] (by kernel_rfl) rfl rfl ?_
        have S566 := Sx.drew [b123, b143] w557
        have g567 := (Gr.refl w557).drew
        generalize w557.drew = w568 at *
        have G569 := G559.trans g567
        have B570 := B560.gr g567
        have B571 := B564.gr g567
        have B572 := B561.gr g567
        have B573 := B562.gr g567
        have A574 := A563.trans g567
        have e575 := n556.ne rfl (n545.ne rfl (n544.ne rfl (n543.ne rfl (n541.ne rfl (n540.ne rfl (n538.ne rfl e537))))))
        refine h_take (i := 0) (fuel := 19) n556.ok rfl rfl rfl (by kernel_rfl) (by kernel_rfl) (by kernel_rfl) (fun _ _ _ _ _ h => h) (wn _ rfl) (fun x hx => o_mv e575) S566 (fun an576 n576 => ?_)
        refine h_take (i := 1) (fuel := 18) n576.ok rfl rfl rfl (by kernel_rfl) (by kernel_rfl) (by kernel_rfl) (fun _ _ _ _ _ h => h) (wn _ rfl) (fun x hx => o_mv (n576.ne rfl e575)) S566 (fun an577 n577 => ?_)
        refine h_take (i := 2) (fuel := 17) n577.ok rfl rfl rfl (by kernel_rfl) (by kernel_rfl) (by kernel_rfl) (fun _ _ _ _ _ h => h) (wn _ rfl) (fun x hx => o_mv (n577.ne rfl (n576.ne rfl e575))) S566 (fun an578 n578 => ?_)
        have e579 := n578.ne rfl (n577.ne rfl (n576.ne rfl (n556.ne rfl (n545.ne rfl (n544.ne rfl (n543.ne rfl (n541.ne rfl (n540.ne rfl (n538.ne rfl (n535.ne rfl (n534.ne rfl (n533.ne rfl (n531.ne rfl (n193.ne rfl (n192.ne rfl (n191.ne rfl (n189.ne rfl (n186.ne rfl (n185.ne rfl (n180.ne rfl s7I169))))))))))))))))))))
        refine h_take (i := 3) (fuel := 16) n578.ok rfl rfl rfl (by kernel_rfl) (by kernel_rfl) (by kernel_rfl) (fun _ _ _ _ _ h => h) (wn _ rfl) (fun x hx => o_iaA (i := i) (s := 1) e579 n578.at_ Try.underlying61 (by kernel_rfl) (by omega)) S566 (fun an580 n580 => ?_)
        refine h_take (i := 4) (fuel := 15) n580.ok rfl rfl rfl (by kernel_rfl) (by kernel_rfl) (by kernel_rfl) (fun _ _ _ _ _ h => h) (wn _ rfl) (fun x hx => o_ld n580.at_ (Try.isAgg3 _) ((Sx.bk hx B560 (by simp <;> omega)).cell _ (five_get (by omega)))) S566 (fun an581 n581 => ?_)
        have e582 := n581.ne rfl (n580.ne rfl (n578.ne rfl (n577.ne rfl (n576.ne rfl e575))))
        refine h_take (i := 5) (fuel := 14) n581.ok rfl rfl rfl (by kernel_rfl) (by kernel_rfl) (by kernel_rfl) (fun _ _ _ _ _ h => h) (wn _ rfl) (fun x hx => o_mv e582) S566 (fun an583 n583 => ?_)
        have e584 := n583.ne rfl (n581.ne rfl (n580.ne rfl (n578.ne rfl (n577.ne rfl (n576.ne rfl (n556.ne rfl e554))))))
        refine h_take (i := 6) (fuel := 13) n583.ok rfl rfl rfl (by kernel_rfl) (by kernel_rfl) (by kernel_rfl) (fun _ _ _ _ _ h => h) (wn _ rfl) (fun x hx => o_iaA (i := i) (s := 1) e584 n583.at_ Try.underlying61 (by kernel_rfl) (by omega)) S566 (fun an585 n585 => ?_)
        refine h_take (i := 7) (fuel := 12) n585.ok rfl rfl rfl (by kernel_rfl) (by kernel_rfl) (by kernel_rfl) (fun _ _ _ _ _ h => h) (wn _ rfl) (fun x hx => o_ld n585.at_ (Try.isAgg3 _) ((Sx.bk hx B564 (by simp <;> omega)).cell _ (five_get (by omega)))) S566 (fun an586 n586 => ?_)
        have e587 := n586.ne rfl (n585.ne rfl (n583.ne rfl n581.at_))
        refine h_take (i := 8) (fuel := 11) n586.ok rfl rfl rfl (by kernel_rfl) (by kernel_rfl) (by kernel_rfl) (fun _ _ _ _ _ h => h) (wn _ rfl) (fun x hx => o_max e587 n586.at_ (nmax_int _ _)) S566 (fun an588 n588 => ?_)
        have e589 := n588.ne rfl (n586.ne rfl (n585.ne rfl (n583.ne rfl e582)))
        refine h_take (i := 9) (fuel := 10) n588.ok rfl rfl rfl (by kernel_rfl) (by kernel_rfl) (by kernel_rfl) (fun _ _ _ _ _ h => h) (wn _ rfl) (fun x hx => o_mv e589) S566 (fun an590 n590 => ?_)
        have e591 := n590.ne rfl (n588.ne rfl (n586.ne rfl (n585.ne rfl (n583.ne rfl (n581.ne rfl (n580.ne rfl e579))))))
        refine h_take (i := 10) (fuel := 9) n590.ok rfl rfl rfl (by kernel_rfl) (by kernel_rfl) (by kernel_rfl) (fun _ _ _ _ _ h => h) (wn _ rfl) (fun x hx => o_iaA (i := i) (s := 1) e591 n590.at_ Try.underlying61 (by kernel_rfl) (by omega)) S566 (fun an592 n592 => ?_)
        refine h_take (i := 11) (fuel := 8) n592.ok rfl rfl rfl (by kernel_rfl) (by kernel_rfl) (by kernel_rfl) (fun _ _ _ _ _ h => h) (wn _ rfl) (fun x hx => o_ld n592.at_ (Try.isAgg3 _) ((Sx.bk hx B560 (by simp <;> omega)).cell _ (five_get (by omega)))) S566 (fun an593 n593 => ?_)
        have e594 := n593.ne rfl (n592.ne rfl (n590.ne rfl e589))
        refine h_take (i := 12) (fuel := 7) n593.ok rfl rfl rfl (by kernel_rfl) (by kernel_rfl) (by kernel_rfl) (fun _ _ _ _ _ h => h) (wn _ rfl) (fun x hx => o_mv e594) S566 (fun an595 n595 => ?_)
        have e596 := n595.ne rfl (n593.ne rfl (n592.ne rfl (n590.ne rfl (n588.ne rfl (n586.ne rfl (n585.ne rfl e584))))))
        refine h_take (i := 13) (fuel := 6) n595.ok rfl rfl rfl (by kernel_rfl) (by kernel_rfl) (by kernel_rfl) (fun _ _ _ _ _ h => h) (wn _ rfl) (fun x hx => o_iaA (i := i) (s := 1) e596 n595.at_ Try.underlying61 (by kernel_rfl) (by omega)) S566 (fun an597 n597 => ?_)
        refine h_take (i := 14) (fuel := 5) n597.ok rfl rfl rfl (by kernel_rfl) (by kernel_rfl) (by kernel_rfl) (fun _ _ _ _ _ h => h) (wn _ rfl) (fun x hx => o_ld n597.at_ (Try.isAgg3 _) ((Sx.bk hx B564 (by simp <;> omega)).cell _ (five_get (by omega)))) S566 (fun an598 n598 => ?_)
        have e599 := n598.ne rfl (n597.ne rfl (n595.ne rfl n593.at_))
        refine h_take (i := 15) (fuel := 4) n598.ok rfl rfl rfl (by kernel_rfl) (by kernel_rfl) (by kernel_rfl) (fun _ _ _ _ _ h => h) (wn _ rfl) (fun x hx => o_min e599 n598.at_ (nmin_int _ _)) S566 (fun an600 n600 => ?_)
        have e601 := n600.ne rfl (n598.ne rfl (n597.ne rfl (n595.ne rfl (n593.ne rfl (n592.ne rfl (n590.ne rfl (n588.ne rfl (n586.ne rfl (n585.ne rfl (n583.ne rfl (n581.ne rfl (n580.ne rfl (n578.ne rfl (n577.ne rfl (n576.ne rfl (n556.ne rfl (n545.ne rfl (n544.ne rfl (n543.ne rfl (n541.ne rfl (n540.ne rfl (n538.ne rfl (n535.ne rfl (n534.ne rfl (n533.ne rfl (n531.ne rfl (n193.ne rfl (n192.ne rfl (n191.ne rfl (n189.ne rfl (n186.ne rfl (n185.ne rfl (n180.ne rfl s9I169)))))))))))))))))))))))))))))))))
        have e602 := n600.ne rfl (n598.ne rfl (n597.ne rfl (n595.ne rfl (n593.ne rfl (n592.ne rfl (n590.ne rfl (n588.ne rfl (n586.ne rfl (n585.ne rfl (n583.ne rfl (n581.ne rfl (n580.ne rfl (n578.ne rfl (n577.ne rfl n576.at_))))))))))))))
        refine h_take (i := 16) (fuel := 3) n600.ok rfl rfl rfl (by kernel_rfl) (by kernel_rfl) (by kernel_rfl) (fun _ _ _ _ _ h => h) (wn _ rfl) (fun x hx => o_iaA (i := i) (s := 1) e601 e602 Try.underlying61 (by kernel_rfl) (by omega)) S566 (fun an603 n603 => ?_)
        have e604 := n603.ne rfl (n600.ne rfl (n598.ne rfl (n597.ne rfl (n595.ne rfl (n593.ne rfl (n592.ne rfl (n590.ne rfl n588.at_)))))))
        refine h_stC (i := 17) (fuel := 2) (by kernel_rfl) rfl rfl (wn _ rfl) (o_st n603.at_ e604 B572 (five_get (by omega)) (by kernel_rfl) rfl) B572 S566 (by simp) (fun w605 u606 u606b S607 => ?_)
        have G608 : Gr w w605 := Below.upd G569 l132 u606
        have B609 := B570.upd u606 (Nat.ne_of_lt l130)
        have B610 := B571.upd u606 (Nat.ne_of_lt l131)
        have B611 := B573.upd u606 (Nat.ne_of_gt l152)
        have A612 : Gr w24 w605 := Below.upd A574 l133 u606
        have B613 : Bk w605 b123 (cArr (setC vo i (max ((cv vx i)) ((cv (setC vy i (wi xh542 50)) i))))) 61 := (by have h := u606b; rw [show 0 + i * 1 = i by omega, cArr_setC _ _ _ (by omega)] at h; exact h)
        have e614 := n603.ne rfl (n600.ne rfl (n598.ne rfl (n597.ne rfl (n595.ne rfl (n593.ne rfl (n592.ne rfl (n590.ne rfl (n588.ne rfl (n586.ne rfl (n585.ne rfl (n583.ne rfl (n581.ne rfl (n580.ne rfl (n578.ne rfl (n577.ne rfl (n576.ne rfl (n556.ne rfl (n545.ne rfl (n544.ne rfl (n543.ne rfl (n541.ne rfl (n540.ne rfl (n538.ne rfl (n535.ne rfl (n534.ne rfl (n533.ne rfl (n531.ne rfl (n193.ne rfl (n192.ne rfl (n191.ne rfl (n189.ne rfl (n186.ne rfl (n185.ne rfl (n180.ne rfl s10I169))))))))))))))))))))))))))))))))))
        have e615 := n603.ne rfl (n600.ne rfl (n598.ne rfl (n597.ne rfl (n595.ne rfl (n593.ne rfl (n592.ne rfl (n590.ne rfl (n588.ne rfl (n586.ne rfl (n585.ne rfl (n583.ne rfl (n581.ne rfl (n580.ne rfl (n578.ne rfl n577.at_))))))))))))))
        refine h_take (i := 18) (fuel := 1) n603.ok rfl rfl rfl (by kernel_rfl) (by kernel_rfl) (by kernel_rfl) (fun _ _ _ _ _ h => h) (wn _ rfl) (fun x hx => o_iaA (i := i) (s := 1) e614 e615 Try.underlying61 (by kernel_rfl) (by omega)) S607 (fun an616 n616 => ?_)
        refine h_stC (i := 19) (fuel := 0) (by kernel_rfl) rfl rfl (wn _ rfl) (o_st n616.at_ (n616.ne rfl (n603.ne rfl n600.at_)) B611 (five_get (by omega)) (by kernel_rfl) rfl) B611 S607 (by simp) (fun w617 u618 u618b S619 => ?_)
        have G620 : Gr w w617 := Below.upd G608 l153 u618
        have B621 := B609.upd u618 (Nat.ne_of_lt l150)
        have B622 := B610.upd u618 (Nat.ne_of_lt l151)
        have B623 := B613.upd u618 (Nat.ne_of_lt l152)
        have A624 : Gr w24 w617 := Below.upd A612 l154 u618
        have B625 : Bk w617 b143 (cArr (setC vm i (min ((cv vx i)) ((cv (setC vy i (wi xh542 50)) i))))) 61 := (by have h := u618b; rw [show 0 + i * 1 = i by omega, cArr_setC _ _ _ (by omega)] at h; exact h)
        refine wpAnyH_done (by kernel_rfl) ?_ _
        refine th_n (hK565 _ _ ?_)
        have e626 := n616.ne rfl (n603.ne rfl (n600.ne rfl (n598.ne rfl (n597.ne rfl (n595.ne rfl (n593.ne rfl (n592.ne rfl (n590.ne rfl (n588.ne rfl (n586.ne rfl (n585.ne rfl (n583.ne rfl (n581.ne rfl (n580.ne rfl (n578.ne rfl (n577.ne rfl (n576.ne rfl (n556.ne rfl (n545.ne rfl (n544.ne rfl (n543.ne rfl (n541.ne rfl (n540.ne rfl (n538.ne rfl (n535.ne rfl (n534.ne rfl (n533.ne rfl (n531.ne rfl (n193.ne rfl (n192.ne rfl (n191.ne rfl (n189.ne rfl (n186.ne rfl (n185.ne rfl (n180.ne rfl s11I169)))))))))))))))))))))))))))))))))))
        cases c627 : tt
        · have e628 := (e626).trans (congrArg Value.bool c627)
          refine h_start [] 11 #[false, false, false, false, false, false, false, false, false, false, false] (by kernel_rfl) rfl rfl ?_
          have S629 := Sx.drew [] w617
          have g630 := (Gr.refl w617).drew
          generalize w617.drew = w631 at *
          have G632 := G620.trans g630
          have B633 := B621.gr g630
          have B634 := B622.gr g630
          have B635 := B623.gr g630
          have B636 := B625.gr g630
          have A637 := A624.trans g630
          refine h_take (i := 0) (fuel := 10) n616.ok rfl rfl rfl (by kernel_rfl) (by kernel_rfl) (by kernel_rfl) (fun _ _ _ _ _ h => h) (wn _ rfl) (fun x hx => o_mv e628) S629 (fun an638 n638 => ?_)
          refine h_take (i := 1) (fuel := 9) n638.ok rfl rfl rfl (by kernel_rfl) (by kernel_rfl) (by kernel_rfl) (fun _ _ _ _ _ h => h) (wn _ rfl) (fun x hx => o_mv n638.at_) S629 (fun an639 n639 => ?_)
          refine h_not (i := 2) (fuel := 8) n639.ok rfl rfl rfl (by kernel_rfl) (by kernel_rfl) (by kernel_rfl) (fun _ _ _ _ _ h => h) (wgF rfl (yl 1 false rfl n639.at_) rfl) S629 (fun an640 n640 => ?_)
          refine h_not (i := 3) (fuel := 7) n640.ok rfl rfl rfl (by kernel_rfl) (by kernel_rfl) (by kernel_rfl) (fun _ _ _ _ _ h => h) (wgF rfl (yl 1 false rfl (n640.ne rfl n639.at_)) rfl) S629 (fun an641 n641 => ?_)
          refine h_not (i := 4) (fuel := 6) n641.ok rfl rfl rfl (by kernel_rfl) (by kernel_rfl) (by kernel_rfl) (fun _ _ _ _ _ h => h) (wgF rfl (yl 1 false rfl (n641.ne rfl (n640.ne rfl n639.at_))) rfl) S629 (fun an642 n642 => ?_)
          have e643 := n642.ne rfl (n641.ne rfl (n640.ne rfl n639.at_))
          refine h_not (i := 5) (fuel := 5) n642.ok rfl rfl rfl (by kernel_rfl) (by kernel_rfl) (by kernel_rfl) (fun _ _ _ _ _ h => h) (wgF rfl (yl 1 false rfl e643) rfl) S629 (fun an644 n644 => ?_)
          refine h_not (i := 6) (fuel := 4) n644.ok rfl rfl rfl (by kernel_rfl) (by kernel_rfl) (by kernel_rfl) (fun _ _ _ _ _ h => h) (wgF rfl (yl 1 false rfl (n644.ne rfl e643)) rfl) S629 (fun an645 n645 => ?_)
          refine h_not (i := 7) (fuel := 3) n645.ok rfl rfl rfl (by kernel_rfl) (by kernel_rfl) (by kernel_rfl) (fun _ _ _ _ _ h => h) (wgF rfl (yl 1 false rfl (n645.ne rfl (n644.ne rfl e643))) rfl) S629 (fun an646 n646 => ?_)
          have e647 := n646.ne rfl (n645.ne rfl (n644.ne rfl e643))
          refine h_not (i := 8) (fuel := 2) n646.ok rfl rfl rfl (by kernel_rfl) (by kernel_rfl) (by kernel_rfl) (fun _ _ _ _ _ h => h) (wgF rfl (yl 1 false rfl e647) rfl) S629 (fun an648 n648 => ?_)
          refine h_take (i := 9) (fuel := 1) n648.ok rfl rfl rfl (by kernel_rfl) (by kernel_rfl) (by kernel_rfl) (fun _ _ _ _ _ h => h) (wn _ rfl) (fun x hx => o_pkF (n648.ne rfl e647) ev_const) S629 (fun an649 n649 => ?_)
          refine h_take (i := 10) (fuel := 0) n649.ok rfl rfl rfl (by kernel_rfl) (by kernel_rfl) (by kernel_rfl) (fun _ _ _ _ _ h => h) (wn _ rfl) (fun x hx => o_as n649.at_) S629 (fun an650 n650 => ?_)
          refine wpAnyH_done (by kernel_rfl) ?_ _
          refine ib_n ?_
          refine th_n (hK183 _ _ ?_)
          refine wp_region_lit ?_
          have e651 := n650.ne rfl (n649.ne rfl (n648.ne rfl (n646.ne rfl (n645.ne rfl (n644.ne rfl (n642.ne rfl (n641.ne rfl (n640.ne rfl (n639.ne rfl (n638.ne rfl (n616.ne rfl (n603.ne rfl (n600.ne rfl (n598.ne rfl (n597.ne rfl (n595.ne rfl (n593.ne rfl (n592.ne rfl (n590.ne rfl (n588.ne rfl (n586.ne rfl (n585.ne rfl (n583.ne rfl (n581.ne rfl (n580.ne rfl (n578.ne rfl (n577.ne rfl (n576.ne rfl (n556.ne rfl (n545.ne rfl (n544.ne rfl (n543.ne rfl (n541.ne rfl (n540.ne rfl (n538.ne rfl (n535.ne rfl (n534.ne rfl (n533.ne rfl (n531.ne rfl (n193.ne rfl (n192.ne rfl (n191.ne rfl (n189.ne rfl (n186.ne rfl (n185.ne rfl (n180.ne rfl s37I169))))))))))))))))))))))))))))))))))))))))))))))
          refine sv n650.ok rfl (wn _ rfl) rfl (o_add (r := ((i + 1 : Nat) : Int)) e651 ev_const (by omega) (by omega)) (fun an652 n652 => ?_)
          refine sv n652.ok rfl (wn _ rfl) rfl (o_mv n652.at_) (fun an653 n653 => ?_)
          refine wpList_nil ?_
          have e654 := n653.ne rfl (n652.ne rfl (n650.ne rfl (n649.ne rfl (n648.ne rfl (n646.ne rfl (n645.ne rfl (n644.ne rfl (n642.ne rfl (n641.ne rfl (n640.ne rfl (n639.ne rfl (n638.ne rfl (n616.ne rfl (n603.ne rfl (n600.ne rfl (n598.ne rfl (n597.ne rfl (n595.ne rfl (n593.ne rfl (n592.ne rfl (n590.ne rfl (n588.ne rfl (n586.ne rfl (n585.ne rfl (n583.ne rfl (n581.ne rfl (n580.ne rfl (n578.ne rfl (n577.ne rfl (n576.ne rfl (n556.ne rfl (n545.ne rfl (n544.ne rfl (n543.ne rfl (n541.ne rfl (n540.ne rfl (n538.ne rfl (n535.ne rfl (n534.ne rfl (n533.ne rfl (n531.ne rfl (n193.ne rfl (n192.ne rfl (n191.ne rfl e190))))))))))))))))))))))))))))))))))))))))))))
          have e655 := n653.ne rfl (n652.ne rfl (n650.ne rfl (n649.ne rfl (n648.ne rfl (n646.ne rfl (n645.ne rfl (n644.ne rfl (n642.ne rfl (n641.ne rfl (n640.ne rfl (n639.ne rfl (n638.ne rfl (n616.ne rfl (n603.ne rfl (n600.ne rfl (n598.ne rfl (n597.ne rfl (n595.ne rfl (n593.ne rfl (n592.ne rfl (n590.ne rfl (n588.ne rfl (n586.ne rfl (n585.ne rfl (n583.ne rfl (n581.ne rfl (n580.ne rfl (n578.ne rfl (n577.ne rfl (n576.ne rfl (n556.ne rfl (n545.ne rfl (n544.ne rfl (n543.ne rfl (n541.ne rfl (n540.ne rfl e539))))))))))))))))))))))))))))))))))))
          have e656 := n653.ne rfl (n652.ne rfl (n650.ne rfl (n649.ne rfl (n648.ne rfl (n646.ne rfl (n645.ne rfl (n644.ne rfl (n642.ne rfl (n641.ne rfl (n640.ne rfl (n639.ne rfl (n638.ne rfl (n616.ne rfl (n603.ne rfl (n600.ne rfl (n598.ne rfl (n597.ne rfl (n595.ne rfl (n593.ne rfl (n592.ne rfl (n590.ne rfl (n588.ne rfl (n586.ne rfl (n585.ne rfl (n583.ne rfl (n581.ne rfl (n580.ne rfl (n578.ne rfl (n577.ne rfl (n576.ne rfl (n556.ne rfl (n545.ne rfl (n544.ne rfl (n543.ne rfl (n541.ne rfl (n540.ne rfl (n538.ne rfl (n535.ne rfl (n534.ne rfl (n533.ne rfl (n531.ne rfl (n193.ne rfl (n192.ne rfl (n191.ne rfl (n189.ne rfl (n186.ne rfl (n185.ne rfl (n180.ne rfl s4I169))))))))))))))))))))))))))))))))))))))))))))))))
          have e657 := n653.ne rfl (n652.ne rfl (n650.ne rfl (n649.ne rfl (n648.ne rfl (n646.ne rfl (n645.ne rfl (n644.ne rfl (n642.ne rfl (n641.ne rfl (n640.ne rfl (n639.ne rfl (n638.ne rfl (n616.ne rfl (n603.ne rfl (n600.ne rfl (n598.ne rfl (n597.ne rfl (n595.ne rfl (n593.ne rfl (n592.ne rfl e591))))))))))))))))))))
          have e658 := n653.ne rfl (n652.ne rfl (n650.ne rfl (n649.ne rfl (n648.ne rfl (n646.ne rfl (n645.ne rfl (n644.ne rfl (n642.ne rfl (n641.ne rfl (n640.ne rfl (n639.ne rfl (n638.ne rfl (n616.ne rfl (n603.ne rfl (n600.ne rfl (n598.ne rfl (n597.ne rfl e596)))))))))))))))))
          have e659 := n653.ne rfl (n652.ne rfl (n650.ne rfl (n649.ne rfl (n648.ne rfl (n646.ne rfl (n645.ne rfl (n644.ne rfl (n642.ne rfl (n641.ne rfl (n640.ne rfl (n639.ne rfl (n638.ne rfl (n616.ne rfl (n603.ne rfl e601))))))))))))))
          have e660 := n653.ne rfl (n652.ne rfl (n650.ne rfl (n649.ne rfl (n648.ne rfl (n646.ne rfl (n645.ne rfl (n644.ne rfl (n642.ne rfl (n641.ne rfl (n640.ne rfl (n639.ne rfl (n638.ne rfl (n616.ne rfl e614)))))))))))))
          exact th_n (hKI169 _ _ _ (by omega) ⟨i + 1, vx, (setC vy i (wi xh542 50)), (setC vo i (max ((cv vx i)) ((cv (setC vy i (wi xh542 50)) i)))), (setC vm i (min ((cv vx i)) ((cv (setC vy i (wi xh542 50)) i)))), false, rfl, n653.ok, G632, e654, e655, e656, e657, e658, e659, e660, (n653.ne rfl (n652.ne rfl n650.at_)), n653.at_, B633, B634, B635, B636, A637, by omega, hbxI169, kv_b hbyI169 (by omega) (by have := wi_lt xh542 50 (by omega); omega), kv_o (f := max) (by omega) hoI169 (fun _ _ => rfl) (kv_s (by omega)), kv_o (f := min) (by omega) haI169 (fun _ _ => rfl) (kv_s (by omega)), kv_wf htI169 (fun _ _ => rfl) (kv_s (by omega)) c627⟩)
        · have e661 := (e626).trans (congrArg Value.bool c627)
          refine h_start [] 11 #[false, false, false, false, false, false, false, false, false, false, false] (by kernel_rfl) rfl rfl ?_
          have S662 := Sx.drew [] w617
          have g663 := (Gr.refl w617).drew
          generalize w617.drew = w664 at *
          have G665 := G620.trans g663
          have B666 := B621.gr g663
          have B667 := B622.gr g663
          have B668 := B623.gr g663
          have B669 := B625.gr g663
          have A670 := A624.trans g663
          refine h_take (i := 0) (fuel := 10) n616.ok rfl rfl rfl (by kernel_rfl) (by kernel_rfl) (by kernel_rfl) (fun _ _ _ _ _ h => h) (wn _ rfl) (fun x hx => o_mv e661) S662 (fun an671 n671 => ?_)
          refine h_take (i := 1) (fuel := 9) n671.ok rfl rfl rfl (by kernel_rfl) (by kernel_rfl) (by kernel_rfl) (fun _ _ _ _ _ h => h) (wn _ rfl) (fun x hx => o_mv n671.at_) S662 (fun an672 n672 => ?_)
          have e673 := n672.ne rfl (n671.ne rfl (n616.ne rfl (n603.ne rfl (n600.ne rfl (n598.ne rfl (n597.ne rfl (n595.ne rfl e594)))))))
          refine h_take (i := 2) (fuel := 8) n672.ok rfl rfl rfl (by kernel_rfl) (by kernel_rfl) (by kernel_rfl) (fun _ _ _ _ _ h => h) (wgT rfl (yl 1 true rfl n672.at_) rfl) (fun x hx => o_mv e673) S662 (fun an674 n674 => ?_)
          have e675 := n674.ne rfl (n672.ne rfl (n671.ne rfl (n616.ne rfl (n603.ne rfl (n600.ne rfl (n598.ne rfl (n597.ne rfl (n595.ne rfl (n593.ne rfl (n592.ne rfl e591))))))))))
          refine h_take (i := 3) (fuel := 7) n674.ok rfl rfl rfl (by kernel_rfl) (by kernel_rfl) (by kernel_rfl) (fun _ _ _ _ _ h => h) (wgT rfl (yl 1 true rfl (n674.ne rfl n672.at_)) rfl) (fun x hx => o_iaA (i := i) (s := 1) e675 n674.at_ Try.underlying61 (by kernel_rfl) (by omega)) S662 (fun an676 n676 => ?_)
          refine h_take (i := 4) (fuel := 6) n676.ok rfl rfl rfl (by kernel_rfl) (by kernel_rfl) (by kernel_rfl) (fun _ _ _ _ _ h => h) (wgT rfl (yl 1 true rfl (n676.ne rfl (n674.ne rfl n672.at_))) rfl) (fun x hx => o_ld n676.at_ (Try.isAgg3 _) ((Sx.bk hx B621 (by simp <;> omega)).cell _ (five_get (by omega)))) S662 (fun an677 n677 => ?_)
          have e678 := n677.ne rfl (n676.ne rfl (n674.ne rfl n672.at_))
          have e679 := n677.ne rfl (n676.ne rfl (n674.ne rfl e673))
          refine h_take (i := 5) (fuel := 5) n677.ok rfl rfl rfl (by kernel_rfl) (by kernel_rfl) (by kernel_rfl) (fun _ _ _ _ _ h => h) (wgT rfl (yl 1 true rfl e678) rfl) (fun x hx => o_mv e679) S662 (fun an680 n680 => ?_)
          have e681 := n680.ne rfl (n677.ne rfl (n676.ne rfl (n674.ne rfl (n672.ne rfl (n671.ne rfl (n616.ne rfl (n603.ne rfl (n600.ne rfl (n598.ne rfl (n597.ne rfl e596))))))))))
          refine h_take (i := 6) (fuel := 4) n680.ok rfl rfl rfl (by kernel_rfl) (by kernel_rfl) (by kernel_rfl) (fun _ _ _ _ _ h => h) (wgT rfl (yl 1 true rfl (n680.ne rfl e678)) rfl) (fun x hx => o_iaA (i := i) (s := 1) e681 n680.at_ Try.underlying61 (by kernel_rfl) (by omega)) S662 (fun an682 n682 => ?_)
          refine h_take (i := 7) (fuel := 3) n682.ok rfl rfl rfl (by kernel_rfl) (by kernel_rfl) (by kernel_rfl) (fun _ _ _ _ _ h => h) (wgT rfl (yl 1 true rfl (n682.ne rfl (n680.ne rfl e678))) rfl) (fun x hx => o_ld n682.at_ (Try.isAgg3 _) ((Sx.bk hx B622 (by simp <;> omega)).cell _ (five_get (by omega)))) S662 (fun an683 n683 => ?_)
          have e684 := n683.ne rfl (n682.ne rfl (n680.ne rfl e678))
          have e685 := n683.ne rfl (n682.ne rfl (n680.ne rfl n677.at_))
          refine h_take (i := 8) (fuel := 2) n683.ok rfl rfl rfl (by kernel_rfl) (by kernel_rfl) (by kernel_rfl) (fun _ _ _ _ _ h => h) (wgT rfl (yl 1 true rfl e684) rfl) (fun x hx => o_leI e685 n683.at_) S662 (fun an686 n686 => ?_)
          refine h_take (i := 9) (fuel := 1) n686.ok rfl rfl rfl (by kernel_rfl) (by kernel_rfl) (by kernel_rfl) (fun _ _ _ _ _ h => h) (wn _ rfl) (fun x hx => o_pkT (n686.ne rfl e684) n686.at_) S662 (fun an687 n687 => ?_)
          refine h_take (i := 10) (fuel := 0) n687.ok rfl rfl rfl (by kernel_rfl) (by kernel_rfl) (by kernel_rfl) (fun _ _ _ _ _ h => h) (wn _ rfl) (fun x hx => o_as n687.at_) S662 (fun an688 n688 => ?_)
          refine wpAnyH_done (by kernel_rfl) ?_ _
          refine ib_n ?_
          refine th_n (hK183 _ _ ?_)
          refine wp_region_lit ?_
          have e689 := n688.ne rfl (n687.ne rfl (n686.ne rfl (n683.ne rfl (n682.ne rfl (n680.ne rfl (n677.ne rfl (n676.ne rfl (n674.ne rfl (n672.ne rfl (n671.ne rfl (n616.ne rfl (n603.ne rfl (n600.ne rfl (n598.ne rfl (n597.ne rfl (n595.ne rfl (n593.ne rfl (n592.ne rfl (n590.ne rfl (n588.ne rfl (n586.ne rfl (n585.ne rfl (n583.ne rfl (n581.ne rfl (n580.ne rfl (n578.ne rfl (n577.ne rfl (n576.ne rfl (n556.ne rfl (n545.ne rfl (n544.ne rfl (n543.ne rfl (n541.ne rfl (n540.ne rfl (n538.ne rfl (n535.ne rfl (n534.ne rfl (n533.ne rfl (n531.ne rfl (n193.ne rfl (n192.ne rfl (n191.ne rfl (n189.ne rfl (n186.ne rfl (n185.ne rfl (n180.ne rfl s37I169))))))))))))))))))))))))))))))))))))))))))))))
          refine sv n688.ok rfl (wn _ rfl) rfl (o_add (r := ((i + 1 : Nat) : Int)) e689 ev_const (by omega) (by omega)) (fun an690 n690 => ?_)
          refine sv n690.ok rfl (wn _ rfl) rfl (o_mv n690.at_) (fun an691 n691 => ?_)
          refine wpList_nil ?_
          have e692 := n691.ne rfl (n690.ne rfl (n688.ne rfl (n687.ne rfl (n686.ne rfl (n683.ne rfl (n682.ne rfl (n680.ne rfl (n677.ne rfl (n676.ne rfl (n674.ne rfl (n672.ne rfl (n671.ne rfl (n616.ne rfl (n603.ne rfl (n600.ne rfl (n598.ne rfl (n597.ne rfl (n595.ne rfl (n593.ne rfl (n592.ne rfl (n590.ne rfl (n588.ne rfl (n586.ne rfl (n585.ne rfl (n583.ne rfl (n581.ne rfl (n580.ne rfl (n578.ne rfl (n577.ne rfl (n576.ne rfl (n556.ne rfl (n545.ne rfl (n544.ne rfl (n543.ne rfl (n541.ne rfl (n540.ne rfl (n538.ne rfl (n535.ne rfl (n534.ne rfl (n533.ne rfl (n531.ne rfl (n193.ne rfl (n192.ne rfl (n191.ne rfl e190))))))))))))))))))))))))))))))))))))))))))))
          have e693 := n691.ne rfl (n690.ne rfl (n688.ne rfl (n687.ne rfl (n686.ne rfl (n683.ne rfl (n682.ne rfl (n680.ne rfl (n677.ne rfl (n676.ne rfl (n674.ne rfl (n672.ne rfl (n671.ne rfl (n616.ne rfl (n603.ne rfl (n600.ne rfl (n598.ne rfl (n597.ne rfl (n595.ne rfl (n593.ne rfl (n592.ne rfl (n590.ne rfl (n588.ne rfl (n586.ne rfl (n585.ne rfl (n583.ne rfl (n581.ne rfl (n580.ne rfl (n578.ne rfl (n577.ne rfl (n576.ne rfl (n556.ne rfl (n545.ne rfl (n544.ne rfl (n543.ne rfl (n541.ne rfl (n540.ne rfl e539))))))))))))))))))))))))))))))))))))
          have e694 := n691.ne rfl (n690.ne rfl (n688.ne rfl (n687.ne rfl (n686.ne rfl (n683.ne rfl (n682.ne rfl (n680.ne rfl (n677.ne rfl (n676.ne rfl (n674.ne rfl (n672.ne rfl (n671.ne rfl (n616.ne rfl (n603.ne rfl (n600.ne rfl (n598.ne rfl (n597.ne rfl (n595.ne rfl (n593.ne rfl (n592.ne rfl (n590.ne rfl (n588.ne rfl (n586.ne rfl (n585.ne rfl (n583.ne rfl (n581.ne rfl (n580.ne rfl (n578.ne rfl (n577.ne rfl (n576.ne rfl (n556.ne rfl (n545.ne rfl (n544.ne rfl (n543.ne rfl (n541.ne rfl (n540.ne rfl (n538.ne rfl (n535.ne rfl (n534.ne rfl (n533.ne rfl (n531.ne rfl (n193.ne rfl (n192.ne rfl (n191.ne rfl (n189.ne rfl (n186.ne rfl (n185.ne rfl (n180.ne rfl s4I169))))))))))))))))))))))))))))))))))))))))))))))))
          have e695 := n691.ne rfl (n690.ne rfl (n688.ne rfl (n687.ne rfl (n686.ne rfl (n683.ne rfl (n682.ne rfl (n680.ne rfl (n677.ne rfl (n676.ne rfl e675)))))))))
          have e696 := n691.ne rfl (n690.ne rfl (n688.ne rfl (n687.ne rfl (n686.ne rfl (n683.ne rfl (n682.ne rfl e681))))))
          have e697 := n691.ne rfl (n690.ne rfl (n688.ne rfl (n687.ne rfl (n686.ne rfl (n683.ne rfl (n682.ne rfl (n680.ne rfl (n677.ne rfl (n676.ne rfl (n674.ne rfl (n672.ne rfl (n671.ne rfl (n616.ne rfl (n603.ne rfl e601))))))))))))))
          have e698 := n691.ne rfl (n690.ne rfl (n688.ne rfl (n687.ne rfl (n686.ne rfl (n683.ne rfl (n682.ne rfl (n680.ne rfl (n677.ne rfl (n676.ne rfl (n674.ne rfl (n672.ne rfl (n671.ne rfl (n616.ne rfl e614)))))))))))))
          exact th_n (hKI169 _ _ _ (by omega) ⟨i + 1, vx, (setC vy i (wi xh542 50)), (setC vo i (max ((cv vx i)) ((cv (setC vy i (wi xh542 50)) i)))), (setC vm i (min ((cv vx i)) ((cv (setC vy i (wi xh542 50)) i)))), (decide ((((cv vx i) : Nat) : Int) ≤ (((cv (setC vy i (wi xh542 50)) i) : Nat) : Int))), rfl, n691.ok, G665, e692, e693, e694, e695, e696, e697, e698, (n691.ne rfl (n690.ne rfl n688.at_)), n691.at_, B666, B667, B668, B669, A670, by omega, hbxI169, kv_b hbyI169 (by omega) (by have := wi_lt xh542 50 (by omega); omega), kv_o (f := max) (by omega) hoI169 (fun _ _ => rfl) (kv_s (by omega)), kv_o (f := min) (by omega) haI169 (fun _ _ => rfl) (kv_s (by omega)), kv_w htI169 (fun _ _ => rfl) (kv_s (by omega)) c627⟩)
      · refine wp_cond_false ((n535.at_).trans (congrArg Value.bool (decide_eq_false c536))) ?_
        refine wp_skip ?_
        refine th_n (hK528 _ _ ?_)
        refine wp_seq_k (fun K699 hK699 => ?_)
        refine h_start [b123, b143] 20 #[false, false, false, false, false, false, false, false, false, false, false, false, false, false, false, false, false, false, false, false] (by kernel_rfl) rfl rfl ?_
        have S700 := Sx.drew [b123, b143] w178
        have g701 := (Gr.refl w178).drew
        generalize w178.drew = w702 at *
        have G703 := GI169.trans g701
        have B704 := kb89I169.gr g701
        have B705 := kb105I169.gr g701
        have B706 := kb123I169.gr g701
        have B707 := kb143I169.gr g701
        have A708 := xanch29I169.trans g701
        have e709 := n535.ne rfl (n534.ne rfl (n533.ne rfl (n531.ne rfl e530)))
        refine h_take (i := 0) (fuel := 19) n535.ok rfl rfl rfl (by kernel_rfl) (by kernel_rfl) (by kernel_rfl) (fun _ _ _ _ _ h => h) (wn _ rfl) (fun x hx => o_mv e709) S700 (fun an710 n710 => ?_)
        refine h_take (i := 1) (fuel := 18) n710.ok rfl rfl rfl (by kernel_rfl) (by kernel_rfl) (by kernel_rfl) (fun _ _ _ _ _ h => h) (wn _ rfl) (fun x hx => o_mv (n710.ne rfl e709)) S700 (fun an711 n711 => ?_)
        refine h_take (i := 2) (fuel := 17) n711.ok rfl rfl rfl (by kernel_rfl) (by kernel_rfl) (by kernel_rfl) (fun _ _ _ _ _ h => h) (wn _ rfl) (fun x hx => o_mv (n711.ne rfl (n710.ne rfl e709))) S700 (fun an712 n712 => ?_)
        have e713 := n712.ne rfl (n711.ne rfl (n710.ne rfl (n535.ne rfl (n534.ne rfl (n533.ne rfl (n531.ne rfl (n193.ne rfl (n192.ne rfl (n191.ne rfl (n189.ne rfl (n186.ne rfl (n185.ne rfl (n180.ne rfl s7I169)))))))))))))
        refine h_take (i := 3) (fuel := 16) n712.ok rfl rfl rfl (by kernel_rfl) (by kernel_rfl) (by kernel_rfl) (fun _ _ _ _ _ h => h) (wn _ rfl) (fun x hx => o_iaA (i := i) (s := 1) e713 n712.at_ Try.underlying61 (by kernel_rfl) (by omega)) S700 (fun an714 n714 => ?_)
        refine h_take (i := 4) (fuel := 15) n714.ok rfl rfl rfl (by kernel_rfl) (by kernel_rfl) (by kernel_rfl) (fun _ _ _ _ _ h => h) (wn _ rfl) (fun x hx => o_ld n714.at_ (Try.isAgg3 _) ((Sx.bk hx kb89I169 (by simp <;> omega)).cell _ (five_get (by omega)))) S700 (fun an715 n715 => ?_)
        have e716 := n715.ne rfl (n714.ne rfl (n712.ne rfl (n711.ne rfl (n710.ne rfl e709))))
        refine h_take (i := 5) (fuel := 14) n715.ok rfl rfl rfl (by kernel_rfl) (by kernel_rfl) (by kernel_rfl) (fun _ _ _ _ _ h => h) (wn _ rfl) (fun x hx => o_mv e716) S700 (fun an717 n717 => ?_)
        have e718 := n717.ne rfl (n715.ne rfl (n714.ne rfl (n712.ne rfl (n711.ne rfl (n710.ne rfl (n535.ne rfl (n534.ne rfl (n533.ne rfl (n531.ne rfl (n193.ne rfl (n192.ne rfl (n191.ne rfl (n189.ne rfl (n186.ne rfl (n185.ne rfl (n180.ne rfl s8I169))))))))))))))))
        refine h_take (i := 6) (fuel := 13) n717.ok rfl rfl rfl (by kernel_rfl) (by kernel_rfl) (by kernel_rfl) (fun _ _ _ _ _ h => h) (wn _ rfl) (fun x hx => o_iaA (i := i) (s := 1) e718 n717.at_ Try.underlying61 (by kernel_rfl) (by omega)) S700 (fun an719 n719 => ?_)
        refine h_take (i := 7) (fuel := 12) n719.ok rfl rfl rfl (by kernel_rfl) (by kernel_rfl) (by kernel_rfl) (fun _ _ _ _ _ h => h) (wn _ rfl) (fun x hx => o_ld n719.at_ (Try.isAgg3 _) ((Sx.bk hx kb105I169 (by simp <;> omega)).cell _ (five_get (by omega)))) S700 (fun an720 n720 => ?_)
        have e721 := n720.ne rfl (n719.ne rfl (n717.ne rfl n715.at_))
        refine h_take (i := 8) (fuel := 11) n720.ok rfl rfl rfl (by kernel_rfl) (by kernel_rfl) (by kernel_rfl) (fun _ _ _ _ _ h => h) (wn _ rfl) (fun x hx => o_max e721 n720.at_ (nmax_int _ _)) S700 (fun an722 n722 => ?_)
        have e723 := n722.ne rfl (n720.ne rfl (n719.ne rfl (n717.ne rfl e716)))
        refine h_take (i := 9) (fuel := 10) n722.ok rfl rfl rfl (by kernel_rfl) (by kernel_rfl) (by kernel_rfl) (fun _ _ _ _ _ h => h) (wn _ rfl) (fun x hx => o_mv e723) S700 (fun an724 n724 => ?_)
        have e725 := n724.ne rfl (n722.ne rfl (n720.ne rfl (n719.ne rfl (n717.ne rfl (n715.ne rfl (n714.ne rfl e713))))))
        refine h_take (i := 10) (fuel := 9) n724.ok rfl rfl rfl (by kernel_rfl) (by kernel_rfl) (by kernel_rfl) (fun _ _ _ _ _ h => h) (wn _ rfl) (fun x hx => o_iaA (i := i) (s := 1) e725 n724.at_ Try.underlying61 (by kernel_rfl) (by omega)) S700 (fun an726 n726 => ?_)
        refine h_take (i := 11) (fuel := 8) n726.ok rfl rfl rfl (by kernel_rfl) (by kernel_rfl) (by kernel_rfl) (fun _ _ _ _ _ h => h) (wn _ rfl) (fun x hx => o_ld n726.at_ (Try.isAgg3 _) ((Sx.bk hx kb89I169 (by simp <;> omega)).cell _ (five_get (by omega)))) S700 (fun an727 n727 => ?_)
        have e728 := n727.ne rfl (n726.ne rfl (n724.ne rfl e723))
        refine h_take (i := 12) (fuel := 7) n727.ok rfl rfl rfl (by kernel_rfl) (by kernel_rfl) (by kernel_rfl) (fun _ _ _ _ _ h => h) (wn _ rfl) (fun x hx => o_mv e728) S700 (fun an729 n729 => ?_)
        have e730 := n729.ne rfl (n727.ne rfl (n726.ne rfl (n724.ne rfl (n722.ne rfl (n720.ne rfl (n719.ne rfl e718))))))
        refine h_take (i := 13) (fuel := 6) n729.ok rfl rfl rfl (by kernel_rfl) (by kernel_rfl) (by kernel_rfl) (fun _ _ _ _ _ h => h) (wn _ rfl) (fun x hx => o_iaA (i := i) (s := 1) e730 n729.at_ Try.underlying61 (by kernel_rfl) (by omega)) S700 (fun an731 n731 => ?_)
        refine h_take (i := 14) (fuel := 5) n731.ok rfl rfl rfl (by kernel_rfl) (by kernel_rfl) (by kernel_rfl) (fun _ _ _ _ _ h => h) (wn _ rfl) (fun x hx => o_ld n731.at_ (Try.isAgg3 _) ((Sx.bk hx kb105I169 (by simp <;> omega)).cell _ (five_get (by omega)))) S700 (fun an732 n732 => ?_)
        have e733 := n732.ne rfl (n731.ne rfl (n729.ne rfl n727.at_))
        refine h_take (i := 15) (fuel := 4) n732.ok rfl rfl rfl (by kernel_rfl) (by kernel_rfl) (by kernel_rfl) (fun _ _ _ _ _ h => h) (wn _ rfl) (fun x hx => o_min e733 n732.at_ (nmin_int _ _)) S700 (fun an734 n734 => ?_)
        have e735 := n734.ne rfl (n732.ne rfl (n731.ne rfl (n729.ne rfl (n727.ne rfl (n726.ne rfl (n724.ne rfl (n722.ne rfl (n720.ne rfl (n719.ne rfl (n717.ne rfl (n715.ne rfl (n714.ne rfl (n712.ne rfl (n711.ne rfl (n710.ne rfl (n535.ne rfl (n534.ne rfl (n533.ne rfl (n531.ne rfl (n193.ne rfl (n192.ne rfl (n191.ne rfl (n189.ne rfl (n186.ne rfl (n185.ne rfl (n180.ne rfl s9I169))))))))))))))))))))))))))
        have e736 := n734.ne rfl (n732.ne rfl (n731.ne rfl (n729.ne rfl (n727.ne rfl (n726.ne rfl (n724.ne rfl (n722.ne rfl (n720.ne rfl (n719.ne rfl (n717.ne rfl (n715.ne rfl (n714.ne rfl (n712.ne rfl (n711.ne rfl n710.at_))))))))))))))
        refine h_take (i := 16) (fuel := 3) n734.ok rfl rfl rfl (by kernel_rfl) (by kernel_rfl) (by kernel_rfl) (fun _ _ _ _ _ h => h) (wn _ rfl) (fun x hx => o_iaA (i := i) (s := 1) e735 e736 Try.underlying61 (by kernel_rfl) (by omega)) S700 (fun an737 n737 => ?_)
        have e738 := n737.ne rfl (n734.ne rfl (n732.ne rfl (n731.ne rfl (n729.ne rfl (n727.ne rfl (n726.ne rfl (n724.ne rfl n722.at_)))))))
        refine h_stC (i := 17) (fuel := 2) (by kernel_rfl) rfl rfl (wn _ rfl) (o_st n737.at_ e738 B706 (five_get (by omega)) (by kernel_rfl) rfl) B706 S700 (by simp) (fun w739 u740 u740b S741 => ?_)
        have G742 : Gr w w739 := Below.upd G703 l132 u740
        have B743 := B704.upd u740 (Nat.ne_of_lt l130)
        have B744 := B705.upd u740 (Nat.ne_of_lt l131)
        have B745 := B707.upd u740 (Nat.ne_of_gt l152)
        have A746 : Gr w24 w739 := Below.upd A708 l133 u740
        have B747 : Bk w739 b123 (cArr (setC vo i (max ((cv vx i)) ((cv vy i))))) 61 := (by have h := u740b; rw [show 0 + i * 1 = i by omega, cArr_setC _ _ _ (by omega)] at h; exact h)
        have e748 := n737.ne rfl (n734.ne rfl (n732.ne rfl (n731.ne rfl (n729.ne rfl (n727.ne rfl (n726.ne rfl (n724.ne rfl (n722.ne rfl (n720.ne rfl (n719.ne rfl (n717.ne rfl (n715.ne rfl (n714.ne rfl (n712.ne rfl (n711.ne rfl (n710.ne rfl (n535.ne rfl (n534.ne rfl (n533.ne rfl (n531.ne rfl (n193.ne rfl (n192.ne rfl (n191.ne rfl (n189.ne rfl (n186.ne rfl (n185.ne rfl (n180.ne rfl s10I169)))))))))))))))))))))))))))
        have e749 := n737.ne rfl (n734.ne rfl (n732.ne rfl (n731.ne rfl (n729.ne rfl (n727.ne rfl (n726.ne rfl (n724.ne rfl (n722.ne rfl (n720.ne rfl (n719.ne rfl (n717.ne rfl (n715.ne rfl (n714.ne rfl (n712.ne rfl n711.at_))))))))))))))
        refine h_take (i := 18) (fuel := 1) n737.ok rfl rfl rfl (by kernel_rfl) (by kernel_rfl) (by kernel_rfl) (fun _ _ _ _ _ h => h) (wn _ rfl) (fun x hx => o_iaA (i := i) (s := 1) e748 e749 Try.underlying61 (by kernel_rfl) (by omega)) S741 (fun an750 n750 => ?_)
        refine h_stC (i := 19) (fuel := 0) (by kernel_rfl) rfl rfl (wn _ rfl) (o_st n750.at_ (n750.ne rfl (n737.ne rfl n734.at_)) B745 (five_get (by omega)) (by kernel_rfl) rfl) B745 S741 (by simp) (fun w751 u752 u752b S753 => ?_)
        have G754 : Gr w w751 := Below.upd G742 l153 u752
        have B755 := B743.upd u752 (Nat.ne_of_lt l150)
        have B756 := B744.upd u752 (Nat.ne_of_lt l151)
        have B757 := B747.upd u752 (Nat.ne_of_lt l152)
        have A758 : Gr w24 w751 := Below.upd A746 l154 u752
        have B759 : Bk w751 b143 (cArr (setC vm i (min ((cv vx i)) ((cv vy i))))) 61 := (by have h := u752b; rw [show 0 + i * 1 = i by omega, cArr_setC _ _ _ (by omega)] at h; exact h)
        refine wpAnyH_done (by kernel_rfl) ?_ _
        refine th_n (hK699 _ _ ?_)
        have e760 := n750.ne rfl (n737.ne rfl (n734.ne rfl (n732.ne rfl (n731.ne rfl (n729.ne rfl (n727.ne rfl (n726.ne rfl (n724.ne rfl (n722.ne rfl (n720.ne rfl (n719.ne rfl (n717.ne rfl (n715.ne rfl (n714.ne rfl (n712.ne rfl (n711.ne rfl (n710.ne rfl (n535.ne rfl (n534.ne rfl (n533.ne rfl (n531.ne rfl (n193.ne rfl (n192.ne rfl (n191.ne rfl (n189.ne rfl (n186.ne rfl (n185.ne rfl (n180.ne rfl s11I169))))))))))))))))))))))))))))
        cases c761 : tt
        · have e762 := (e760).trans (congrArg Value.bool c761)
          refine h_start [] 11 #[false, false, false, false, false, false, false, false, false, false, false] (by kernel_rfl) rfl rfl ?_
          have S763 := Sx.drew [] w751
          have g764 := (Gr.refl w751).drew
          generalize w751.drew = w765 at *
          have G766 := G754.trans g764
          have B767 := B755.gr g764
          have B768 := B756.gr g764
          have B769 := B757.gr g764
          have B770 := B759.gr g764
          have A771 := A758.trans g764
          refine h_take (i := 0) (fuel := 10) n750.ok rfl rfl rfl (by kernel_rfl) (by kernel_rfl) (by kernel_rfl) (fun _ _ _ _ _ h => h) (wn _ rfl) (fun x hx => o_mv e762) S763 (fun an772 n772 => ?_)
          refine h_take (i := 1) (fuel := 9) n772.ok rfl rfl rfl (by kernel_rfl) (by kernel_rfl) (by kernel_rfl) (fun _ _ _ _ _ h => h) (wn _ rfl) (fun x hx => o_mv n772.at_) S763 (fun an773 n773 => ?_)
          refine h_not (i := 2) (fuel := 8) n773.ok rfl rfl rfl (by kernel_rfl) (by kernel_rfl) (by kernel_rfl) (fun _ _ _ _ _ h => h) (wgF rfl (yl 1 false rfl n773.at_) rfl) S763 (fun an774 n774 => ?_)
          refine h_not (i := 3) (fuel := 7) n774.ok rfl rfl rfl (by kernel_rfl) (by kernel_rfl) (by kernel_rfl) (fun _ _ _ _ _ h => h) (wgF rfl (yl 1 false rfl (n774.ne rfl n773.at_)) rfl) S763 (fun an775 n775 => ?_)
          refine h_not (i := 4) (fuel := 6) n775.ok rfl rfl rfl (by kernel_rfl) (by kernel_rfl) (by kernel_rfl) (fun _ _ _ _ _ h => h) (wgF rfl (yl 1 false rfl (n775.ne rfl (n774.ne rfl n773.at_))) rfl) S763 (fun an776 n776 => ?_)
          have e777 := n776.ne rfl (n775.ne rfl (n774.ne rfl n773.at_))
          refine h_not (i := 5) (fuel := 5) n776.ok rfl rfl rfl (by kernel_rfl) (by kernel_rfl) (by kernel_rfl) (fun _ _ _ _ _ h => h) (wgF rfl (yl 1 false rfl e777) rfl) S763 (fun an778 n778 => ?_)
          refine h_not (i := 6) (fuel := 4) n778.ok rfl rfl rfl (by kernel_rfl) (by kernel_rfl) (by kernel_rfl) (fun _ _ _ _ _ h => h) (wgF rfl (yl 1 false rfl (n778.ne rfl e777)) rfl) S763 (fun an779 n779 => ?_)
          refine h_not (i := 7) (fuel := 3) n779.ok rfl rfl rfl (by kernel_rfl) (by kernel_rfl) (by kernel_rfl) (fun _ _ _ _ _ h => h) (wgF rfl (yl 1 false rfl (n779.ne rfl (n778.ne rfl e777))) rfl) S763 (fun an780 n780 => ?_)
          have e781 := n780.ne rfl (n779.ne rfl (n778.ne rfl e777))
          refine h_not (i := 8) (fuel := 2) n780.ok rfl rfl rfl (by kernel_rfl) (by kernel_rfl) (by kernel_rfl) (fun _ _ _ _ _ h => h) (wgF rfl (yl 1 false rfl e781) rfl) S763 (fun an782 n782 => ?_)
          refine h_take (i := 9) (fuel := 1) n782.ok rfl rfl rfl (by kernel_rfl) (by kernel_rfl) (by kernel_rfl) (fun _ _ _ _ _ h => h) (wn _ rfl) (fun x hx => o_pkF (n782.ne rfl e781) ev_const) S763 (fun an783 n783 => ?_)
          refine h_take (i := 10) (fuel := 0) n783.ok rfl rfl rfl (by kernel_rfl) (by kernel_rfl) (by kernel_rfl) (fun _ _ _ _ _ h => h) (wn _ rfl) (fun x hx => o_as n783.at_) S763 (fun an784 n784 => ?_)
          refine wpAnyH_done (by kernel_rfl) ?_ _
          refine ib_n ?_
          refine th_n (hK183 _ _ ?_)
          refine wp_region_lit ?_
          have e785 := n784.ne rfl (n783.ne rfl (n782.ne rfl (n780.ne rfl (n779.ne rfl (n778.ne rfl (n776.ne rfl (n775.ne rfl (n774.ne rfl (n773.ne rfl (n772.ne rfl (n750.ne rfl (n737.ne rfl (n734.ne rfl (n732.ne rfl (n731.ne rfl (n729.ne rfl (n727.ne rfl (n726.ne rfl (n724.ne rfl (n722.ne rfl (n720.ne rfl (n719.ne rfl (n717.ne rfl (n715.ne rfl (n714.ne rfl (n712.ne rfl (n711.ne rfl (n710.ne rfl (n535.ne rfl (n534.ne rfl (n533.ne rfl (n531.ne rfl (n193.ne rfl (n192.ne rfl (n191.ne rfl (n189.ne rfl (n186.ne rfl (n185.ne rfl (n180.ne rfl s37I169)))))))))))))))))))))))))))))))))))))))
          refine sv n784.ok rfl (wn _ rfl) rfl (o_add (r := ((i + 1 : Nat) : Int)) e785 ev_const (by omega) (by omega)) (fun an786 n786 => ?_)
          refine sv n786.ok rfl (wn _ rfl) rfl (o_mv n786.at_) (fun an787 n787 => ?_)
          refine wpList_nil ?_
          have e788 := n787.ne rfl (n786.ne rfl (n784.ne rfl (n783.ne rfl (n782.ne rfl (n780.ne rfl (n779.ne rfl (n778.ne rfl (n776.ne rfl (n775.ne rfl (n774.ne rfl (n773.ne rfl (n772.ne rfl (n750.ne rfl (n737.ne rfl (n734.ne rfl (n732.ne rfl (n731.ne rfl (n729.ne rfl (n727.ne rfl (n726.ne rfl (n724.ne rfl (n722.ne rfl (n720.ne rfl (n719.ne rfl (n717.ne rfl (n715.ne rfl (n714.ne rfl (n712.ne rfl (n711.ne rfl (n710.ne rfl (n535.ne rfl (n534.ne rfl (n533.ne rfl (n531.ne rfl (n193.ne rfl (n192.ne rfl (n191.ne rfl e190)))))))))))))))))))))))))))))))))))))
          have e789 := n787.ne rfl (n786.ne rfl (n784.ne rfl (n783.ne rfl (n782.ne rfl (n780.ne rfl (n779.ne rfl (n778.ne rfl (n776.ne rfl (n775.ne rfl (n774.ne rfl (n773.ne rfl (n772.ne rfl (n750.ne rfl (n737.ne rfl (n734.ne rfl (n732.ne rfl (n731.ne rfl (n729.ne rfl (n727.ne rfl (n726.ne rfl (n724.ne rfl (n722.ne rfl (n720.ne rfl (n719.ne rfl (n717.ne rfl (n715.ne rfl (n714.ne rfl (n712.ne rfl (n711.ne rfl (n710.ne rfl (n535.ne rfl (n534.ne rfl (n533.ne rfl e532)))))))))))))))))))))))))))))))))
          have e790 := n787.ne rfl (n786.ne rfl (n784.ne rfl (n783.ne rfl (n782.ne rfl (n780.ne rfl (n779.ne rfl (n778.ne rfl (n776.ne rfl (n775.ne rfl (n774.ne rfl (n773.ne rfl (n772.ne rfl (n750.ne rfl (n737.ne rfl (n734.ne rfl (n732.ne rfl (n731.ne rfl (n729.ne rfl (n727.ne rfl (n726.ne rfl (n724.ne rfl (n722.ne rfl (n720.ne rfl (n719.ne rfl (n717.ne rfl (n715.ne rfl (n714.ne rfl (n712.ne rfl (n711.ne rfl (n710.ne rfl (n535.ne rfl (n534.ne rfl (n533.ne rfl (n531.ne rfl (n193.ne rfl (n192.ne rfl (n191.ne rfl (n189.ne rfl (n186.ne rfl (n185.ne rfl (n180.ne rfl s4I169)))))))))))))))))))))))))))))))))))))))))
          have e791 := n787.ne rfl (n786.ne rfl (n784.ne rfl (n783.ne rfl (n782.ne rfl (n780.ne rfl (n779.ne rfl (n778.ne rfl (n776.ne rfl (n775.ne rfl (n774.ne rfl (n773.ne rfl (n772.ne rfl (n750.ne rfl (n737.ne rfl (n734.ne rfl (n732.ne rfl (n731.ne rfl (n729.ne rfl (n727.ne rfl (n726.ne rfl e725))))))))))))))))))))
          have e792 := n787.ne rfl (n786.ne rfl (n784.ne rfl (n783.ne rfl (n782.ne rfl (n780.ne rfl (n779.ne rfl (n778.ne rfl (n776.ne rfl (n775.ne rfl (n774.ne rfl (n773.ne rfl (n772.ne rfl (n750.ne rfl (n737.ne rfl (n734.ne rfl (n732.ne rfl (n731.ne rfl e730)))))))))))))))))
          have e793 := n787.ne rfl (n786.ne rfl (n784.ne rfl (n783.ne rfl (n782.ne rfl (n780.ne rfl (n779.ne rfl (n778.ne rfl (n776.ne rfl (n775.ne rfl (n774.ne rfl (n773.ne rfl (n772.ne rfl (n750.ne rfl (n737.ne rfl e735))))))))))))))
          have e794 := n787.ne rfl (n786.ne rfl (n784.ne rfl (n783.ne rfl (n782.ne rfl (n780.ne rfl (n779.ne rfl (n778.ne rfl (n776.ne rfl (n775.ne rfl (n774.ne rfl (n773.ne rfl (n772.ne rfl (n750.ne rfl e748)))))))))))))
          exact th_n (hKI169 _ _ _ (by omega) ⟨i + 1, vx, vy, (setC vo i (max ((cv vx i)) ((cv vy i)))), (setC vm i (min ((cv vx i)) ((cv vy i)))), false, rfl, n787.ok, G766, e788, e789, e790, e791, e792, e793, e794, (n787.ne rfl (n786.ne rfl n784.at_)), n787.at_, B767, B768, B769, B770, A771, by omega, hbxI169, hbyI169, kv_o (f := max) (by omega) hoI169 (fun _ _ => rfl) (fun _ _ => rfl), kv_o (f := min) (by omega) haI169 (fun _ _ => rfl) (fun _ _ => rfl), kv_wf htI169 (fun _ _ => rfl) (fun _ _ => rfl) c761⟩)
        · have e795 := (e760).trans (congrArg Value.bool c761)
          refine h_start [] 11 #[false, false, false, false, false, false, false, false, false, false, false] (by kernel_rfl) rfl rfl ?_
          have S796 := Sx.drew [] w751
          have g797 := (Gr.refl w751).drew
          generalize w751.drew = w798 at *
          have G799 := G754.trans g797
          have B800 := B755.gr g797
          have B801 := B756.gr g797
          have B802 := B757.gr g797
          have B803 := B759.gr g797
          have A804 := A758.trans g797
          refine h_take (i := 0) (fuel := 10) n750.ok rfl rfl rfl (by kernel_rfl) (by kernel_rfl) (by kernel_rfl) (fun _ _ _ _ _ h => h) (wn _ rfl) (fun x hx => o_mv e795) S796 (fun an805 n805 => ?_)
          refine h_take (i := 1) (fuel := 9) n805.ok rfl rfl rfl (by kernel_rfl) (by kernel_rfl) (by kernel_rfl) (fun _ _ _ _ _ h => h) (wn _ rfl) (fun x hx => o_mv n805.at_) S796 (fun an806 n806 => ?_)
          have e807 := n806.ne rfl (n805.ne rfl (n750.ne rfl (n737.ne rfl (n734.ne rfl (n732.ne rfl (n731.ne rfl (n729.ne rfl e728)))))))
          refine h_take (i := 2) (fuel := 8) n806.ok rfl rfl rfl (by kernel_rfl) (by kernel_rfl) (by kernel_rfl) (fun _ _ _ _ _ h => h) (wgT rfl (yl 1 true rfl n806.at_) rfl) (fun x hx => o_mv e807) S796 (fun an808 n808 => ?_)
          have e809 := n808.ne rfl (n806.ne rfl (n805.ne rfl (n750.ne rfl (n737.ne rfl (n734.ne rfl (n732.ne rfl (n731.ne rfl (n729.ne rfl (n727.ne rfl (n726.ne rfl e725))))))))))
          refine h_take (i := 3) (fuel := 7) n808.ok rfl rfl rfl (by kernel_rfl) (by kernel_rfl) (by kernel_rfl) (fun _ _ _ _ _ h => h) (wgT rfl (yl 1 true rfl (n808.ne rfl n806.at_)) rfl) (fun x hx => o_iaA (i := i) (s := 1) e809 n808.at_ Try.underlying61 (by kernel_rfl) (by omega)) S796 (fun an810 n810 => ?_)
          refine h_take (i := 4) (fuel := 6) n810.ok rfl rfl rfl (by kernel_rfl) (by kernel_rfl) (by kernel_rfl) (fun _ _ _ _ _ h => h) (wgT rfl (yl 1 true rfl (n810.ne rfl (n808.ne rfl n806.at_))) rfl) (fun x hx => o_ld n810.at_ (Try.isAgg3 _) ((Sx.bk hx B755 (by simp <;> omega)).cell _ (five_get (by omega)))) S796 (fun an811 n811 => ?_)
          have e812 := n811.ne rfl (n810.ne rfl (n808.ne rfl n806.at_))
          have e813 := n811.ne rfl (n810.ne rfl (n808.ne rfl e807))
          refine h_take (i := 5) (fuel := 5) n811.ok rfl rfl rfl (by kernel_rfl) (by kernel_rfl) (by kernel_rfl) (fun _ _ _ _ _ h => h) (wgT rfl (yl 1 true rfl e812) rfl) (fun x hx => o_mv e813) S796 (fun an814 n814 => ?_)
          have e815 := n814.ne rfl (n811.ne rfl (n810.ne rfl (n808.ne rfl (n806.ne rfl (n805.ne rfl (n750.ne rfl (n737.ne rfl (n734.ne rfl (n732.ne rfl (n731.ne rfl e730))))))))))
          refine h_take (i := 6) (fuel := 4) n814.ok rfl rfl rfl (by kernel_rfl) (by kernel_rfl) (by kernel_rfl) (fun _ _ _ _ _ h => h) (wgT rfl (yl 1 true rfl (n814.ne rfl e812)) rfl) (fun x hx => o_iaA (i := i) (s := 1) e815 n814.at_ Try.underlying61 (by kernel_rfl) (by omega)) S796 (fun an816 n816 => ?_)
          refine h_take (i := 7) (fuel := 3) n816.ok rfl rfl rfl (by kernel_rfl) (by kernel_rfl) (by kernel_rfl) (fun _ _ _ _ _ h => h) (wgT rfl (yl 1 true rfl (n816.ne rfl (n814.ne rfl e812))) rfl) (fun x hx => o_ld n816.at_ (Try.isAgg3 _) ((Sx.bk hx B756 (by simp <;> omega)).cell _ (five_get (by omega)))) S796 (fun an817 n817 => ?_)
          have e818 := n817.ne rfl (n816.ne rfl (n814.ne rfl e812))
          have e819 := n817.ne rfl (n816.ne rfl (n814.ne rfl n811.at_))
          refine h_take (i := 8) (fuel := 2) n817.ok rfl rfl rfl (by kernel_rfl) (by kernel_rfl) (by kernel_rfl) (fun _ _ _ _ _ h => h) (wgT rfl (yl 1 true rfl e818) rfl) (fun x hx => o_leI e819 n817.at_) S796 (fun an820 n820 => ?_)
          refine h_take (i := 9) (fuel := 1) n820.ok rfl rfl rfl (by kernel_rfl) (by kernel_rfl) (by kernel_rfl) (fun _ _ _ _ _ h => h) (wn _ rfl) (fun x hx => o_pkT (n820.ne rfl e818) n820.at_) S796 (fun an821 n821 => ?_)
          refine h_take (i := 10) (fuel := 0) n821.ok rfl rfl rfl (by kernel_rfl) (by kernel_rfl) (by kernel_rfl) (fun _ _ _ _ _ h => h) (wn _ rfl) (fun x hx => o_as n821.at_) S796 (fun an822 n822 => ?_)
          refine wpAnyH_done (by kernel_rfl) ?_ _
          refine ib_n ?_
          refine th_n (hK183 _ _ ?_)
          refine wp_region_lit ?_
          have e823 := n822.ne rfl (n821.ne rfl (n820.ne rfl (n817.ne rfl (n816.ne rfl (n814.ne rfl (n811.ne rfl (n810.ne rfl (n808.ne rfl (n806.ne rfl (n805.ne rfl (n750.ne rfl (n737.ne rfl (n734.ne rfl (n732.ne rfl (n731.ne rfl (n729.ne rfl (n727.ne rfl (n726.ne rfl (n724.ne rfl (n722.ne rfl (n720.ne rfl (n719.ne rfl (n717.ne rfl (n715.ne rfl (n714.ne rfl (n712.ne rfl (n711.ne rfl (n710.ne rfl (n535.ne rfl (n534.ne rfl (n533.ne rfl (n531.ne rfl (n193.ne rfl (n192.ne rfl (n191.ne rfl (n189.ne rfl (n186.ne rfl (n185.ne rfl (n180.ne rfl s37I169)))))))))))))))))))))))))))))))))))))))
          refine sv n822.ok rfl (wn _ rfl) rfl (o_add (r := ((i + 1 : Nat) : Int)) e823 ev_const (by omega) (by omega)) (fun an824 n824 => ?_)
          refine sv n824.ok rfl (wn _ rfl) rfl (o_mv n824.at_) (fun an825 n825 => ?_)
          refine wpList_nil ?_
          have e826 := n825.ne rfl (n824.ne rfl (n822.ne rfl (n821.ne rfl (n820.ne rfl (n817.ne rfl (n816.ne rfl (n814.ne rfl (n811.ne rfl (n810.ne rfl (n808.ne rfl (n806.ne rfl (n805.ne rfl (n750.ne rfl (n737.ne rfl (n734.ne rfl (n732.ne rfl (n731.ne rfl (n729.ne rfl (n727.ne rfl (n726.ne rfl (n724.ne rfl (n722.ne rfl (n720.ne rfl (n719.ne rfl (n717.ne rfl (n715.ne rfl (n714.ne rfl (n712.ne rfl (n711.ne rfl (n710.ne rfl (n535.ne rfl (n534.ne rfl (n533.ne rfl (n531.ne rfl (n193.ne rfl (n192.ne rfl (n191.ne rfl e190)))))))))))))))))))))))))))))))))))))
          have e827 := n825.ne rfl (n824.ne rfl (n822.ne rfl (n821.ne rfl (n820.ne rfl (n817.ne rfl (n816.ne rfl (n814.ne rfl (n811.ne rfl (n810.ne rfl (n808.ne rfl (n806.ne rfl (n805.ne rfl (n750.ne rfl (n737.ne rfl (n734.ne rfl (n732.ne rfl (n731.ne rfl (n729.ne rfl (n727.ne rfl (n726.ne rfl (n724.ne rfl (n722.ne rfl (n720.ne rfl (n719.ne rfl (n717.ne rfl (n715.ne rfl (n714.ne rfl (n712.ne rfl (n711.ne rfl (n710.ne rfl (n535.ne rfl (n534.ne rfl (n533.ne rfl e532)))))))))))))))))))))))))))))))))
          have e828 := n825.ne rfl (n824.ne rfl (n822.ne rfl (n821.ne rfl (n820.ne rfl (n817.ne rfl (n816.ne rfl (n814.ne rfl (n811.ne rfl (n810.ne rfl (n808.ne rfl (n806.ne rfl (n805.ne rfl (n750.ne rfl (n737.ne rfl (n734.ne rfl (n732.ne rfl (n731.ne rfl (n729.ne rfl (n727.ne rfl (n726.ne rfl (n724.ne rfl (n722.ne rfl (n720.ne rfl (n719.ne rfl (n717.ne rfl (n715.ne rfl (n714.ne rfl (n712.ne rfl (n711.ne rfl (n710.ne rfl (n535.ne rfl (n534.ne rfl (n533.ne rfl (n531.ne rfl (n193.ne rfl (n192.ne rfl (n191.ne rfl (n189.ne rfl (n186.ne rfl (n185.ne rfl (n180.ne rfl s4I169)))))))))))))))))))))))))))))))))))))))))
          have e829 := n825.ne rfl (n824.ne rfl (n822.ne rfl (n821.ne rfl (n820.ne rfl (n817.ne rfl (n816.ne rfl (n814.ne rfl (n811.ne rfl (n810.ne rfl e809)))))))))
          have e830 := n825.ne rfl (n824.ne rfl (n822.ne rfl (n821.ne rfl (n820.ne rfl (n817.ne rfl (n816.ne rfl e815))))))
          have e831 := n825.ne rfl (n824.ne rfl (n822.ne rfl (n821.ne rfl (n820.ne rfl (n817.ne rfl (n816.ne rfl (n814.ne rfl (n811.ne rfl (n810.ne rfl (n808.ne rfl (n806.ne rfl (n805.ne rfl (n750.ne rfl (n737.ne rfl e735))))))))))))))
          have e832 := n825.ne rfl (n824.ne rfl (n822.ne rfl (n821.ne rfl (n820.ne rfl (n817.ne rfl (n816.ne rfl (n814.ne rfl (n811.ne rfl (n810.ne rfl (n808.ne rfl (n806.ne rfl (n805.ne rfl (n750.ne rfl e748)))))))))))))
          exact th_n (hKI169 _ _ _ (by omega) ⟨i + 1, vx, vy, (setC vo i (max ((cv vx i)) ((cv vy i)))), (setC vm i (min ((cv vx i)) ((cv vy i)))), (decide ((((cv vx i) : Nat) : Int) ≤ (((cv vy i) : Nat) : Int))), rfl, n825.ok, G799, e826, e827, e828, e829, e830, e831, e832, (n825.ne rfl (n824.ne rfl n822.at_)), n825.at_, B800, B801, B802, B803, A804, by omega, hbxI169, hbyI169, kv_o (f := max) (by omega) hoI169 (fun _ _ => rfl) (fun _ _ => rfl), kv_o (f := min) (by omega) haI169 (fun _ _ => rfl) (fun _ _ => rfl), kv_w htI169 (fun _ _ => rfl) (fun _ _ => rfl) c761⟩)
  · refine wp_cond_false ((n180.at_).trans (congrArg Value.bool (decide_eq_false c182))) ?_
    obtain rfl : i = 5 := by omega
    have hbxE := hbxI169; have hbyE := hbyI169; have hoE := hoI169; have haE := haI169; have htE := htI169
    refine wp_exit ?_
    refine th_x ?_
    refine th_x ?_
    refine ib_x ?_
    refine th_n (hK166 _ _ ?_)
    refine wp_seq_k (fun K833 hK833 => ?_)
    refine wp_region_lit ?_
    refine sv n180.ok rfl (wn _ rfl) rfl (o_as ev_func) (fun an834 n834 => ?_)
    refine wpList_nil ?_
    refine th_n (hK833 _ _ ?_)
    refine wp_seq_k (fun K835 hK835 => ?_)
    refine regh_start (N := 150) [10, 0, 1, 2, 3, 4, 5, 6, 7] (by kernel_rfl) (fun R8360 => ?_)
    have R8361 := R8360.snoc (n' := 1) rfl (fun vJ _ => vJ = .func (.func 25) #[] #[]) rfl (fun _ _ _ _ h => h) (fun aS wS pS => by
        exact Does.val (wn _ rfl) (o_mv ((pS.old 13 rfl).trans n834.at_)) (Gr.refl _) rfl rfl)
    have R8362 := R8361.snoc (n' := 2) rfl (fun vJ _ => vJ = .agg (cArr vx)) rfl (fun _ _ _ _ h => h) (fun aS wS pS => by
        exact Does.val (wn _ rfl) (o_ldR ((pS.old 7 rfl).trans (n834.ne rfl (n180.ne rfl s7I169))) (Bk.gr kb89I169 (gr_drew pS.gr)) Try.underlying61 rfl (five_size _)) (Gr.refl _) rfl rfl)
    have R8363 := R8362.snoc (n' := 3) rfl (fun vJ wJ => ∃ (m1a : Option Addr) (m1c : Nat), vJ = .agg #[.slice m1a ((vec vx).length) m1c, .slice none 0 0] ∧ (KnR wJ (.agg #[.slice m1a (vec vx).length m1c, .slice none 0 0]) (ints (vec vx)) [])) rfl (fun _ _ _ g ⟨m1a, m1c, h, q0⟩ => ⟨m1a, m1c, h, q0.gr g⟩) (fun aS wS pS => by
        have eR836_0 : aS.eval (.tmp 92) = .func (.func 25) #[] #[] := pS.pre 0 rfl
        have eR836_1 : aS.eval (.tmp 93) = .agg (cArr vx) := pS.pre 1 rfl
        exact Does.call (wn _ rfl) (o_fv1 (caps := []) ⟨_, Try.func25, rfl, rfl⟩ (eR836_0) (eR836_1)) (made_r vx wS) (by rintro _ w2 ⟨m1a, m1c, rfl, hm1, g⟩; exact ⟨_, rfl, g, ⟨m1a, m1c, rfl, hm1⟩⟩) rfl)
    have R8364 := R8363.snoc (n' := 4) rfl (fun vJ _ => vJ = .func (.func 25) #[] #[]) rfl (fun _ _ _ _ h => h) (fun aS wS pS => by
        exact Does.val (wn _ rfl) (o_mv ((pS.old 13 rfl).trans n834.at_)) (Gr.refl _) rfl rfl)
    have R8365 := R8364.snoc (n' := 5) rfl (fun vJ _ => vJ = .agg (cArr vy)) rfl (fun _ _ _ _ h => h) (fun aS wS pS => by
        exact Does.val (wn _ rfl) (o_ldR ((pS.old 8 rfl).trans (n834.ne rfl (n180.ne rfl s8I169))) (Bk.gr kb105I169 (gr_drew pS.gr)) Try.underlying61 rfl (five_size _)) (Gr.refl _) rfl rfl)
    have R8366 := R8365.snoc (n' := 6) rfl (fun vJ wJ => ∃ (m2a : Option Addr) (m2c : Nat), vJ = .agg #[.slice m2a ((vec vy).length) m2c, .slice none 0 0] ∧ (KnR wJ (.agg #[.slice m2a (vec vy).length m2c, .slice none 0 0]) (ints (vec vy)) [])) rfl (fun _ _ _ g ⟨m2a, m2c, h, q0⟩ => ⟨m2a, m2c, h, q0.gr g⟩) (fun aS wS pS => by
        have eR836_3 : aS.eval (.tmp 95) = .func (.func 25) #[] #[] := pS.pre 3 rfl
        have eR836_4 : aS.eval (.tmp 96) = .agg (cArr vy) := pS.pre 4 rfl
        exact Does.call (wn _ rfl) (o_fv1 (caps := []) ⟨_, Try.func25, rfl, rfl⟩ (eR836_3) (eR836_4)) (made_r vy wS) (by rintro _ w2 ⟨m2a, m2c, rfl, hm2, g⟩; exact ⟨_, rfl, g, ⟨m2a, m2c, rfl, hm2⟩⟩) rfl)
    have R8367 := R8366.snoc (n' := 7) rfl (fun vJ wJ => ∃ (joa : Option Addr) (joc : Nat) (jod : Option Addr) (joe : Nat), vJ = .tuple #[.agg #[.slice joa ((vec vo).length) joc, .slice jod 0 joe], .int .i64 0] ∧ (KnO w.heap.size wJ (.agg #[.slice joa (vec vo).length joc, .slice jod 0 joe]) (vec vo) [])) rfl (fun _ _ _ g ⟨joa, joc, jod, joe, h, q0⟩ => ⟨joa, joc, jod, joe, h, q0.gr g⟩) (fun aS wS pS => by
        obtain ⟨m1a, m1c, eR836_2, hm1⟩ := pS.pre 2 rfl
        have eR836_2 : aS.eval (.tmp 94) = .agg #[.slice m1a ((vec vx).length) m1c, .slice none 0 0] := eR836_2
        obtain ⟨m2a, m2c, eR836_5, hm2⟩ := pS.pre 5 rfl
        have eR836_5 : aS.eval (.tmp 97) = .agg #[.slice m2a ((vec vy).length) m2c, .slice none 0 0] := eR836_5
        exact Does.call (wn _ rfl) (o_f2 Try.func22 rfl rfl rfl (eR836_2) (eR836_5)) (kvjoin hbxE hbyE hoE _ _ wS hm1 hm2) (by rintro _ w2 ⟨joa, joc, jod, joe, rfl, hjo, g⟩; exact ⟨_, rfl, g, ⟨joa, joc, jod, joe, rfl, hjo.less (GI169.trans (gr_drew pS.gr)).size⟩⟩) rfl)
    have R8368 := R8367.snoc (n' := 8) rfl (fun vJ wJ => ∃ (joa : Option Addr) (joc : Nat) (jod : Option Addr) (joe : Nat), vJ = .tuple #[.agg #[.slice joa ((vec vo).length) joc, .slice jod 0 joe], .int .i64 0] ∧ (KnO w.heap.size wJ (.agg #[.slice joa (vec vo).length joc, .slice jod 0 joe]) (vec vo) [])) rfl (fun _ _ _ g ⟨joa, joc, jod, joe, h, q0⟩ => ⟨joa, joc, jod, joe, h, q0.gr g⟩) (fun aS wS pS => by
        obtain ⟨joa, joc, jod, joe, eR836_6, hjo⟩ := pS.pre 6 rfl
        have eR836_6 : aS.eval (.tmp 98) = .tuple #[.agg #[.slice joa ((vec vo).length) joc, .slice jod 0 joe], .int .i64 0] := eR836_6
        exact Does.val (wn _ rfl) (o_mv (eR836_6)) (Gr.refl _) ⟨joa, joc, jod, joe, rfl, hjo⟩ rfl)
    have R8369 := R8368.skip (n' := 9) rfl (by kernel_rfl)
    have R83610 := R8369.skip (n' := 10) rfl (by kernel_rfl)
    have R83611 := R83610.snoc (n' := 11) rfl (fun vJ wJ => True) rfl (fun _ _ _ _ h => h) (fun aS wS pS => by
        exact Does.alloc (wn _ rfl) (o_al (z := .agg #[.slice none 0 0, .slice none 0 0]) (by kernel_rfl)) trivial)
    have R83612 := R83611.skip (n' := 12) rfl (by kernel_rfl)
    have R83613 := R83612.skip (n' := 13) rfl (by kernel_rfl)
    refine R83613.runF (k := 4) (z := #[.slice none 0 0, .slice none 0 0]) (ty := 35) (by kernel_rfl) (by kernel_rfl) rfl rfl (by kernel_rfl) n834.ok (by kernel_rfl) (by kernel_rfl) (fun o a w ho => by obtain rfl := Option.some.inj ho; exact o_al (z := .agg #[.slice none 0 0, .slice none 0 0]) (by kernel_rfl)) (fun ap838 w839 p838 => ?_)
    have g840 := gr_drew p838.gr
    obtain ⟨joa, joc, jod, joe, ep838_7, hjo⟩ := p838.js 7 rfl
    have ep838_7 : ap838.eval (.tmp 91) = .tuple #[.agg #[.slice joa ((vec vo).length) joc, .slice jod 0 joe], .int .i64 0] := ep838_7
    refine (fun T => ⟨T.2 _ _ ⟨p838.ok, fun _ _ _ _ => rfl, fun q => (by cases q), fun q => (by cases q), fun _ => rfl, fun q => (by cases q)⟩, fun b x1 x2 x3 => T.1 _ _ ⟨p838.ok, fun _ _ _ _ => rfl, fun q => (by cases q), fun q => (by cases q), fun q => (by cases q), fun _ => ⟨Gr.refl _, b, x1, x2, x3⟩⟩⟩) (tailF (N := 150) (e0 := 8) (e1 := 9) (f := 10) (j := 11) (fuel := 1) (LL := fun x y z => #[true, true, true, true, true, true, true, true, x, y, z, false, false]) (LJ := fun x => #[true, true, true, true, true, true, true, true, true, x, true, true, false]) (ap := ap838) (wp := w839) (w₀ := w178.drew) (df := 14) (d0 := 99) (d1 := 100) (v0 := (.agg #[.slice joa ((vec vo).length) joc, .slice jod 0 joe])) (v1 := (.int .i64 0)) (z := #[.slice none 0 0, .slice none 0 0]) (cs' := #[.slice joa ((vec vo).length) joc, .slice jod 0 joe]) (ty := 35) (by kernel_rfl) (by kernel_rfl) (by kernel_rfl) (by kernel_rfl) (by kernel_rfl) (by kernel_rfl) (by kernel_rfl) (by kernel_rfl) (by kernel_rfl) (by intro x y; cases x <;> cases y <;> kernel_rfl) (by intro x y; cases x <;> cases y <;> kernel_rfl) (by intro x y; cases x <;> cases y <;> kernel_rfl) (by intro x; cases x <;> kernel_rfl) (by kernel_rfl) rfl rfl rfl rfl rfl rfl rfl rfl (fun _ => wn _ rfl) (fun _ => wn _ rfl) (fun _ => wn _ rfl) (fun _ => wn _ rfl) rfl rfl rfl rfl rfl rfl rfl rfl rfl (fun a w k => o_ex ((k 91 rfl rfl rfl).trans ep838_7) rfl) (fun a w k => o_ex ((k 91 rfl rfl rfl).trans ep838_7) rfl) (fun a w => o_al (z := .agg #[.slice none 0 0, .slice none 0 0]) (by kernel_rfl)) (fun a w b k0 kf kb => o_stR kf k0 kb (by kernel_rfl) rfl (by simp [Value.oneCell'])) p838.gr (fun aa841 w842 w843 b844 ok845 ol846 e847 e848 e849 hb850 g851 bk852 u853 u853b => ?_))
    have G854 := GI169.trans g840
    have B855 := kb89I169.gr g840
    have B856 := kb105I169.gr g840
    have B857 := kb123I169.gr g840
    have B858 := kb143I169.gr g840
    have A859 := xanch29I169.trans g840
    have G860 := G854.trans g851
    have B861 := B855.gr g851
    have B862 := B856.gr g851
    have B863 := B857.gr g851
    have B864 := B858.gr g851
    have A865 := A859.trans g851
    have F866 := hjo.gr g851
    have l867 : b89 < b844 := Nat.lt_of_lt_of_le kb89I169.lt hb850
    have l868 : b105 < b844 := Nat.lt_of_lt_of_le kb105I169.lt hb850
    have l869 : b123 < b844 := Nat.lt_of_lt_of_le kb123I169.lt hb850
    have l870 : b143 < b844 := Nat.lt_of_lt_of_le kb143I169.lt hb850
    have l871 : w.heap.size ≤ b844 := Nat.le_trans GI169.size hb850
    have l872 : w24.heap.size ≤ b844 := Nat.le_trans xanch29I169.size hb850
    have G873 : Gr w w843 := Below.upd G860 l871 u853
    have B874 := B861.upd u853 (Nat.ne_of_lt l867)
    have B875 := B862.upd u853 (Nat.ne_of_lt l868)
    have B876 := B863.upd u853 (Nat.ne_of_lt l869)
    have B877 := B864.upd u853 (Nat.ne_of_lt l870)
    have A878 : Gr w24 w843 := Below.upd A865 l872 u853
    have F879 := F866.updT u853 bk852 (by decide) (by decide)
    refine t_val (i := 12) (by kernel_rfl) rfl ok845 rfl (wn _ rfl) rfl (o_as e848) (fun an880 n880 => ?_)
    refine wpAny_done (by kernel_rfl) ?_ _
    refine th_n (hK835 _ _ ?_)
    refine wp_seq_k (fun K881 hK881 => ?_)
    refine regh_start (N := 150) [10, 0, 1, 2, 3, 4, 5, 6, 7] (by kernel_rfl) (fun R8820 => ?_)
    have e883 := n880.ne rfl ((ol846 13 rfl rfl rfl).trans ((p838.old 13 rfl).trans n834.at_))
    have R8821 := R8820.snoc (n' := 1) rfl (fun vJ _ => vJ = .func (.func 25) #[] #[]) rfl (fun _ _ _ _ h => h) (fun aS wS pS => by
        exact Does.val (wn _ rfl) (o_mv ((pS.old 13 rfl).trans e883)) (Gr.refl _) rfl rfl)
    have e884 := n880.ne rfl ((ol846 7 rfl rfl rfl).trans ((p838.old 7 rfl).trans (n834.ne rfl (n180.ne rfl s7I169))))
    have R8822 := R8821.snoc (n' := 2) rfl (fun vJ _ => vJ = .agg (cArr vx)) rfl (fun _ _ _ _ h => h) (fun aS wS pS => by
        exact Does.val (wn _ rfl) (o_ldR ((pS.old 7 rfl).trans e884) (Bk.gr B874 (gr_drew pS.gr)) Try.underlying61 rfl (five_size _)) (Gr.refl _) rfl rfl)
    have R8823 := R8822.snoc (n' := 3) rfl (fun vJ wJ => ∃ (m3a : Option Addr) (m3c : Nat), vJ = .agg #[.slice m3a ((vec vx).length) m3c, .slice none 0 0] ∧ (KnR wJ (.agg #[.slice m3a (vec vx).length m3c, .slice none 0 0]) (ints (vec vx)) [])) rfl (fun _ _ _ g ⟨m3a, m3c, h, q0⟩ => ⟨m3a, m3c, h, q0.gr g⟩) (fun aS wS pS => by
        have eR882_0 : aS.eval (.tmp 102) = .func (.func 25) #[] #[] := pS.pre 0 rfl
        have eR882_1 : aS.eval (.tmp 103) = .agg (cArr vx) := pS.pre 1 rfl
        exact Does.call (wn _ rfl) (o_fv1 (caps := []) ⟨_, Try.func25, rfl, rfl⟩ (eR882_0) (eR882_1)) (made_r vx wS) (by rintro _ w2 ⟨m3a, m3c, rfl, hm3, g⟩; exact ⟨_, rfl, g, ⟨m3a, m3c, rfl, hm3⟩⟩) rfl)
    have R8824 := R8823.snoc (n' := 4) rfl (fun vJ _ => vJ = .func (.func 25) #[] #[]) rfl (fun _ _ _ _ h => h) (fun aS wS pS => by
        exact Does.val (wn _ rfl) (o_mv ((pS.old 13 rfl).trans e883)) (Gr.refl _) rfl rfl)
    have e885 := n880.ne rfl ((ol846 8 rfl rfl rfl).trans ((p838.old 8 rfl).trans (n834.ne rfl (n180.ne rfl s8I169))))
    have R8825 := R8824.snoc (n' := 5) rfl (fun vJ _ => vJ = .agg (cArr vy)) rfl (fun _ _ _ _ h => h) (fun aS wS pS => by
        exact Does.val (wn _ rfl) (o_ldR ((pS.old 8 rfl).trans e885) (Bk.gr B875 (gr_drew pS.gr)) Try.underlying61 rfl (five_size _)) (Gr.refl _) rfl rfl)
    have R8826 := R8825.snoc (n' := 6) rfl (fun vJ wJ => ∃ (m4a : Option Addr) (m4c : Nat), vJ = .agg #[.slice m4a ((vec vy).length) m4c, .slice none 0 0] ∧ (KnR wJ (.agg #[.slice m4a (vec vy).length m4c, .slice none 0 0]) (ints (vec vy)) [])) rfl (fun _ _ _ g ⟨m4a, m4c, h, q0⟩ => ⟨m4a, m4c, h, q0.gr g⟩) (fun aS wS pS => by
        have eR882_3 : aS.eval (.tmp 105) = .func (.func 25) #[] #[] := pS.pre 3 rfl
        have eR882_4 : aS.eval (.tmp 106) = .agg (cArr vy) := pS.pre 4 rfl
        exact Does.call (wn _ rfl) (o_fv1 (caps := []) ⟨_, Try.func25, rfl, rfl⟩ (eR882_3) (eR882_4)) (made_r vy wS) (by rintro _ w2 ⟨m4a, m4c, rfl, hm4, g⟩; exact ⟨_, rfl, g, ⟨m4a, m4c, rfl, hm4⟩⟩) rfl)
    have R8827 := R8826.snoc (n' := 7) rfl (fun vJ wJ => ∃ (mea : Option Addr) (mec : Nat) (med : Option Addr) (mee : Nat), vJ = .tuple #[.agg #[.slice mea ((vec vm).length) mec, .slice med 0 mee], .int .i64 0] ∧ (KnO w.heap.size wJ (.agg #[.slice mea (vec vm).length mec, .slice med 0 mee]) (vec vm) [])) rfl (fun _ _ _ g ⟨mea, mec, med, mee, h, q0⟩ => ⟨mea, mec, med, mee, h, q0.gr g⟩) (fun aS wS pS => by
        obtain ⟨m3a, m3c, eR882_2, hm3⟩ := pS.pre 2 rfl
        have eR882_2 : aS.eval (.tmp 104) = .agg #[.slice m3a ((vec vx).length) m3c, .slice none 0 0] := eR882_2
        obtain ⟨m4a, m4c, eR882_5, hm4⟩ := pS.pre 5 rfl
        have eR882_5 : aS.eval (.tmp 107) = .agg #[.slice m4a ((vec vy).length) m4c, .slice none 0 0] := eR882_5
        exact Does.call (wn _ rfl) (o_f2 Try.func27 rfl rfl rfl (eR882_2) (eR882_5)) (kvmeet hbxE hbyE haE _ _ wS hm3 hm4) (by rintro _ w2 ⟨mea, mec, med, mee, rfl, hme, g⟩; exact ⟨_, rfl, g, ⟨mea, mec, med, mee, rfl, hme.less (G873.trans (gr_drew pS.gr)).size⟩⟩) rfl)
    have R8828 := R8827.snoc (n' := 8) rfl (fun vJ wJ => ∃ (mea : Option Addr) (mec : Nat) (med : Option Addr) (mee : Nat), vJ = .tuple #[.agg #[.slice mea ((vec vm).length) mec, .slice med 0 mee], .int .i64 0] ∧ (KnO w.heap.size wJ (.agg #[.slice mea (vec vm).length mec, .slice med 0 mee]) (vec vm) [])) rfl (fun _ _ _ g ⟨mea, mec, med, mee, h, q0⟩ => ⟨mea, mec, med, mee, h, q0.gr g⟩) (fun aS wS pS => by
        obtain ⟨mea, mec, med, mee, eR882_6, hme⟩ := pS.pre 6 rfl
        have eR882_6 : aS.eval (.tmp 108) = .tuple #[.agg #[.slice mea ((vec vm).length) mec, .slice med 0 mee], .int .i64 0] := eR882_6
        exact Does.val (wn _ rfl) (o_mv (eR882_6)) (Gr.refl _) ⟨mea, mec, med, mee, rfl, hme⟩ rfl)
    have R8829 := R8828.skip (n' := 9) rfl (by kernel_rfl)
    have R88210 := R8829.skip (n' := 10) rfl (by kernel_rfl)
    have R88211 := R88210.snoc (n' := 11) rfl (fun vJ wJ => True) rfl (fun _ _ _ _ h => h) (fun aS wS pS => by
        exact Does.alloc (wn _ rfl) (o_al (z := .agg #[.slice none 0 0, .slice none 0 0]) (by kernel_rfl)) trivial)
    have R88212 := R88211.skip (n' := 12) rfl (by kernel_rfl)
    have R88213 := R88212.skip (n' := 13) rfl (by kernel_rfl)
    refine R88213.runF (k := 4) (z := #[.slice none 0 0, .slice none 0 0]) (ty := 35) (by kernel_rfl) (by kernel_rfl) rfl rfl (by kernel_rfl) n880.ok (by kernel_rfl) (by kernel_rfl) (fun o a w ho => by obtain rfl := Option.some.inj ho; exact o_al (z := .agg #[.slice none 0 0, .slice none 0 0]) (by kernel_rfl)) (fun ap887 w888 p887 => ?_)
    have g889 := gr_drew p887.gr
    obtain ⟨mea, mec, med, mee, ep887_7, hme⟩ := p887.js 7 rfl
    have ep887_7 : ap887.eval (.tmp 101) = .tuple #[.agg #[.slice mea ((vec vm).length) mec, .slice med 0 mee], .int .i64 0] := ep887_7
    refine (fun T => ⟨T.2 _ _ ⟨p887.ok, fun _ _ _ _ => rfl, fun q => (by cases q), fun q => (by cases q), fun _ => rfl, fun q => (by cases q)⟩, fun b x1 x2 x3 => T.1 _ _ ⟨p887.ok, fun _ _ _ _ => rfl, fun q => (by cases q), fun q => (by cases q), fun q => (by cases q), fun _ => ⟨Gr.refl _, b, x1, x2, x3⟩⟩⟩) (tailF (N := 150) (e0 := 8) (e1 := 9) (f := 10) (j := 11) (fuel := 1) (LL := fun x y z => #[true, true, true, true, true, true, true, true, x, y, z, false, false]) (LJ := fun x => #[true, true, true, true, true, true, true, true, true, x, true, true, false]) (ap := ap887) (wp := w888) (w₀ := w843.drew) (df := 16) (d0 := 109) (d1 := 110) (v0 := (.agg #[.slice mea ((vec vm).length) mec, .slice med 0 mee])) (v1 := (.int .i64 0)) (z := #[.slice none 0 0, .slice none 0 0]) (cs' := #[.slice mea ((vec vm).length) mec, .slice med 0 mee]) (ty := 35) (by kernel_rfl) (by kernel_rfl) (by kernel_rfl) (by kernel_rfl) (by kernel_rfl) (by kernel_rfl) (by kernel_rfl) (by kernel_rfl) (by kernel_rfl) (by intro x y; cases x <;> cases y <;> kernel_rfl) (by intro x y; cases x <;> cases y <;> kernel_rfl) (by intro x y; cases x <;> cases y <;> kernel_rfl) (by intro x; cases x <;> kernel_rfl) (by kernel_rfl) rfl rfl rfl rfl rfl rfl rfl rfl (fun _ => wn _ rfl) (fun _ => wn _ rfl) (fun _ => wn _ rfl) (fun _ => wn _ rfl) rfl rfl rfl rfl rfl rfl rfl rfl rfl (fun a w k => o_ex ((k 101 rfl rfl rfl).trans ep887_7) rfl) (fun a w k => o_ex ((k 101 rfl rfl rfl).trans ep887_7) rfl) (fun a w => o_al (z := .agg #[.slice none 0 0, .slice none 0 0]) (by kernel_rfl)) (fun a w b k0 kf kb => o_stR kf k0 kb (by kernel_rfl) rfl (by simp [Value.oneCell'])) p887.gr (fun aa890 w891 w892 b893 ok894 ol895 e896 e897 e898 hb899 g900 bk901 u902 u902b => ?_))
    have G903 := G873.trans g889
    have B904 := B874.gr g889
    have B905 := B875.gr g889
    have B906 := B876.gr g889
    have B907 := B877.gr g889
    have B908 := u853b.gr g889
    have A909 := A878.trans g889
    have F910 := F879.gr g889
    have G911 := G903.trans g900
    have B912 := B904.gr g900
    have B913 := B905.gr g900
    have B914 := B906.gr g900
    have B915 := B907.gr g900
    have B916 := B908.gr g900
    have A917 := A909.trans g900
    have F918 := F910.gr g900
    have F919 := hme.gr g900
    have l920 : b89 < b893 := Nat.lt_of_lt_of_le B874.lt hb899
    have l921 : b105 < b893 := Nat.lt_of_lt_of_le B875.lt hb899
    have l922 : b123 < b893 := Nat.lt_of_lt_of_le B876.lt hb899
    have l923 : b143 < b893 := Nat.lt_of_lt_of_le B877.lt hb899
    have l924 : b844 < b893 := Nat.lt_of_lt_of_le u853b.lt hb899
    have l925 : w.heap.size ≤ b893 := Nat.le_trans G873.size hb899
    have l926 : w24.heap.size ≤ b893 := Nat.le_trans A878.size hb899
    have G927 : Gr w w892 := Below.upd G911 l925 u902
    have B928 := B912.upd u902 (Nat.ne_of_lt l920)
    have B929 := B913.upd u902 (Nat.ne_of_lt l921)
    have B930 := B914.upd u902 (Nat.ne_of_lt l922)
    have B931 := B915.upd u902 (Nat.ne_of_lt l923)
    have B932 := B916.upd u902 (Nat.ne_of_lt l924)
    have A933 : Gr w24 w892 := Below.upd A917 l926 u902
    have F934 := F918.updT u902 bk901 (by decide) (by decide)
    have F935 := F919.updT u902 bk901 (by decide) (by decide)
    refine t_val (i := 12) (by kernel_rfl) rfl ok894 rfl (wn _ rfl) rfl (o_as e897) (fun an936 n936 => ?_)
    refine wpAny_done (by kernel_rfl) ?_ _
    refine th_n (hK881 _ _ ?_)
    refine wp_seq_k (fun K937 hK937 => ?_)
    refine reg_start (N := 150) (m := 12) (by kernel_rfl) (fun R9380 => ?_)
    have e939 := n936.ne rfl ((ol895 13 rfl rfl rfl).trans ((p887.old 13 rfl).trans e883))
    have R9381 := R9380.snoc (n' := 1) rfl (fun vJ _ => vJ = .func (.func 25) #[] #[]) rfl (fun _ _ _ _ h => h) (fun aS wS pS => by
        exact Does.val (wn _ rfl) (o_mv ((pS.old 13 rfl).trans e939)) (Gr.refl _) rfl rfl)
    have e940 := n936.ne rfl ((ol895 7 rfl rfl rfl).trans ((p887.old 7 rfl).trans e884))
    have R9382 := R9381.snoc (n' := 2) rfl (fun vJ _ => vJ = .agg (cArr vx)) rfl (fun _ _ _ _ h => h) (fun aS wS pS => by
        exact Does.val (wn _ rfl) (o_ldR ((pS.old 7 rfl).trans e940) (Bk.gr B928 (gr_drew pS.gr)) Try.underlying61 rfl (five_size _)) (Gr.refl _) rfl rfl)
    have R9383 := R9382.snoc (n' := 3) rfl (fun vJ wJ => ∃ (m5a : Option Addr) (m5c : Nat), vJ = .agg #[.slice m5a ((vec vx).length) m5c, .slice none 0 0] ∧ (KnR wJ (.agg #[.slice m5a (vec vx).length m5c, .slice none 0 0]) (ints (vec vx)) [])) rfl (fun _ _ _ g ⟨m5a, m5c, h, q0⟩ => ⟨m5a, m5c, h, q0.gr g⟩) (fun aS wS pS => by
        have eR938_0 : aS.eval (.tmp 112) = .func (.func 25) #[] #[] := pS.pre 0 rfl
        have eR938_1 : aS.eval (.tmp 113) = .agg (cArr vx) := pS.pre 1 rfl
        exact Does.call (wn _ rfl) (o_fv1 (caps := []) ⟨_, Try.func25, rfl, rfl⟩ (eR938_0) (eR938_1)) (made_r vx wS) (by rintro _ w2 ⟨m5a, m5c, rfl, hm5, g⟩; exact ⟨_, rfl, g, ⟨m5a, m5c, rfl, hm5⟩⟩) rfl)
    have R9384 := R9383.snoc (n' := 4) rfl (fun vJ _ => vJ = .func (.func 25) #[] #[]) rfl (fun _ _ _ _ h => h) (fun aS wS pS => by
        exact Does.val (wn _ rfl) (o_mv ((pS.old 13 rfl).trans e939)) (Gr.refl _) rfl rfl)
    have e941 := n936.ne rfl ((ol895 8 rfl rfl rfl).trans ((p887.old 8 rfl).trans e885))
    have R9385 := R9384.snoc (n' := 5) rfl (fun vJ _ => vJ = .agg (cArr vy)) rfl (fun _ _ _ _ h => h) (fun aS wS pS => by
        exact Does.val (wn _ rfl) (o_ldR ((pS.old 8 rfl).trans e941) (Bk.gr B929 (gr_drew pS.gr)) Try.underlying61 rfl (five_size _)) (Gr.refl _) rfl rfl)
    have R9386 := R9385.snoc (n' := 6) rfl (fun vJ wJ => ∃ (m6a : Option Addr) (m6c : Nat), vJ = .agg #[.slice m6a ((vec vy).length) m6c, .slice none 0 0] ∧ (KnR wJ (.agg #[.slice m6a (vec vy).length m6c, .slice none 0 0]) (ints (vec vy)) [])) rfl (fun _ _ _ g ⟨m6a, m6c, h, q0⟩ => ⟨m6a, m6c, h, q0.gr g⟩) (fun aS wS pS => by
        have eR938_3 : aS.eval (.tmp 115) = .func (.func 25) #[] #[] := pS.pre 3 rfl
        have eR938_4 : aS.eval (.tmp 116) = .agg (cArr vy) := pS.pre 4 rfl
        exact Does.call (wn _ rfl) (o_fv1 (caps := []) ⟨_, Try.func25, rfl, rfl⟩ (eR938_3) (eR938_4)) (made_r vy wS) (by rintro _ w2 ⟨m6a, m6c, rfl, hm6, g⟩; exact ⟨_, rfl, g, ⟨m6a, m6c, rfl, hm6⟩⟩) rfl)
    have R9387 := R9386.snoc (n' := 7) rfl (fun vJ _ => vJ = .tuple #[.bool tt, .int .i64 0]) rfl (fun _ _ _ _ h => h) (fun aS wS pS => by
        obtain ⟨m5a, m5c, eR938_2, hm5⟩ := pS.pre 2 rfl
        have eR938_2 : aS.eval (.tmp 114) = .agg #[.slice m5a ((vec vx).length) m5c, .slice none 0 0] := eR938_2
        obtain ⟨m6a, m6c, eR938_5, hm6⟩ := pS.pre 5 rfl
        have eR938_5 : aS.eval (.tmp 117) = .agg #[.slice m6a ((vec vy).length) m6c, .slice none 0 0] := eR938_5
        exact Does.call (wn _ rfl) (o_f2 Try.func21 rfl rfl rfl (eR938_2) (eR938_5)) (kvwithin hbxE hbyE htE _ _ wS hm5 hm6) (by rintro _ w2 ⟨rfl, g⟩; exact ⟨_, rfl, g, rfl⟩) rfl)
    have R9388 := R9387.snoc (n' := 8) rfl (fun vJ _ => vJ = .tuple #[.bool tt, .int .i64 0]) rfl (fun _ _ _ _ h => h) (fun aS wS pS => by
        have eR938_6 : aS.eval (.tmp 118) = .tuple #[.bool tt, .int .i64 0] := pS.pre 6 rfl
        exact Does.val (wn _ rfl) (o_mv (eR938_6)) (Gr.refl _) rfl rfl)
    have R9389 := R9388.snoc (n' := 9) rfl (fun vJ _ => vJ = .bool tt) rfl (fun _ _ _ _ h => h) (fun aS wS pS => by
        have eR938_7 : aS.eval (.tmp 111) = .tuple #[.bool tt, .int .i64 0] := pS.pre 7 rfl
        exact Does.val (wn _ rfl) (o_ex (eR938_7) rfl) (Gr.refl _) rfl rfl)
    have R93810 := R9389.snoc (n' := 10) rfl (fun vJ _ => vJ = .int .i64 0) rfl (fun _ _ _ _ h => h) (fun aS wS pS => by
        have eR938_7 : aS.eval (.tmp 111) = .tuple #[.bool tt, .int .i64 0] := pS.pre 7 rfl
        exact Does.val (wn _ rfl) (o_ex (eR938_7) rfl) (Gr.refl _) rfl rfl)
    have R93811 := R93810.snoc (n' := 11) rfl (fun vJ _ => vJ = .bool tt) rfl (fun _ _ _ _ h => h) (fun aS wS pS => by
        have eR938_8 : aS.eval (.tmp 119) = .bool tt := pS.pre 8 rfl
        exact Does.val (wn _ rfl) (o_as (eR938_8)) (Gr.refl _) rfl rfl)
    have R93812 := R93811.snoc (n' := 12) rfl (fun vJ _ => vJ = .int .i64 0) rfl (fun _ _ _ _ h => h) (fun aS wS pS => by
        have eR938_9 : aS.eval (.tmp 120) = .int .i64 0 := pS.pre 9 rfl
        exact Does.val (wn _ rfl) (o_as (eR938_9)) (Gr.refl _) rfl rfl)
    refine R93812.run (k := 0) (L := #[true, true, true, true, true, true, true, true, true, true, true, true]) (by kernel_rfl) (by kernel_rfl) (by kernel_rfl) n936.ok (by kernel_rfl) (by kernel_rfl) (fun ap943 w944 p943 => ?_)
    have g945 := gr_drew p943.gr
    have G946 := G927.trans g945
    have B947 := B928.gr g945
    have B948 := B929.gr g945
    have B949 := B930.gr g945
    have B950 := B931.gr g945
    have B951 := B932.gr g945
    have B952 := u902b.gr g945
    have A953 := A933.trans g945
    have F954 := F934.gr g945
    have F955 := F935.gr g945
    obtain ⟨m5a, m5c, ep943_2, hm5⟩ := p943.js 2 rfl
    have ep943_2 : ap943.eval (.tmp 114) = .agg #[.slice m5a ((vec vx).length) m5c, .slice none 0 0] := ep943_2
    obtain ⟨m6a, m6c, ep943_5, hm6⟩ := p943.js 5 rfl
    have ep943_5 : ap943.eval (.tmp 117) = .agg #[.slice m6a ((vec vy).length) m6c, .slice none 0 0] := ep943_5
    refine wpAny_done (by kernel_rfl) ?_ _
    refine th_n (hK937 _ _ ?_)
    refine wp_seq_k (fun K956 hK956 => ?_)
    refine reg_start (N := 150) (m := 30) (by kernel_rfl) (fun R9570 => ?_)
    have e958 := (p943.old 15 rfl).trans (n936.ne rfl ((ol895 15 rfl rfl rfl).trans ((p887.old 15 rfl).trans n880.at_)))
    have R9571 := R9570.snoc (n' := 1) rfl (fun vJ _ => vJ = .int .i64 0) rfl (fun _ _ _ _ h => h) (fun aS wS pS => by
        exact Does.val (wn _ rfl) (o_mv ((pS.old 15 rfl).trans e958)) (Gr.refl _) rfl rfl)
    have R9572 := R9571.snoc (n' := 2) rfl (fun vJ _ => vJ = .bool true) rfl (fun _ _ _ _ h => h) (fun aS wS pS => by
        have eR957_0 : aS.eval (.tmp 121) = .int .i64 0 := pS.pre 0 rfl
        exact Does.val (wn _ rfl) (o_eq (b := true) (eR957_0) ev_const (by decide)) (Gr.refl _) rfl rfl)
    have R9573 := R9572.snoc (n' := 3) rfl (fun vJ _ => vJ = .bool true) rfl (fun _ _ _ _ h => h) (fun aS wS pS => by
        have eR957_1 : aS.eval (.tmp 122) = .bool true := pS.pre 1 rfl
        exact Does.val (wn _ rfl) (o_mv (eR957_1)) (Gr.refl _) rfl rfl)
    have R9574 := R9573.snoc (n' := 4) rfl (fun vJ _ => vJ = .int .i64 0) rfl (fun _ _ _ _ h => h) (fun aS wS pS => by
        have eR957_2 : aS.eval (.tmp 123) = .bool true := pS.pre 2 rfl
        exact Does.val (wgT rfl (yl 2 true rfl eR957_2) rfl) (o_mv ((pS.old 17 rfl).trans ((p943.old 17 rfl).trans n936.at_))) (Gr.refl _) rfl rfl)
    have R9575 := R9574.snoc (n' := 5) rfl (fun vJ _ => vJ = .bool true) rfl (fun _ _ _ _ h => h) (fun aS wS pS => by
        have eR957_2 : aS.eval (.tmp 123) = .bool true := pS.pre 2 rfl
        have eR957_3 : aS.eval (.tmp 124) = .int .i64 0 := pS.pre 3 rfl
        exact Does.val (wgT rfl (yl 2 true rfl eR957_2) rfl) (o_eq (b := true) (eR957_3) ev_const (by decide)) (Gr.refl _) rfl rfl)
    have R9576 := R9575.snoc (n' := 6) rfl (fun vJ _ => vJ = .bool true) rfl (fun _ _ _ _ h => h) (fun aS wS pS => by
        have eR957_2 : aS.eval (.tmp 123) = .bool true := pS.pre 2 rfl
        have eR957_4 : aS.eval (.tmp 125) = .bool true := pS.pre 4 rfl
        exact Does.val (wn _ rfl) (o_pkT (eR957_2) (eR957_4)) (Gr.refl _) rfl rfl)
    have R9577 := R9576.snoc (n' := 7) rfl (fun vJ _ => vJ = .bool true) rfl (fun _ _ _ _ h => h) (fun aS wS pS => by
        have eR957_5 : aS.eval (.tmp 126) = .bool true := pS.pre 5 rfl
        exact Does.val (wn _ rfl) (o_mv (eR957_5)) (Gr.refl _) rfl rfl)
    have ep943_11 : ap943.eval (.tmp 19) = .int .i64 0 := p943.js 11 rfl
    have R9578 := R9577.snoc (n' := 8) rfl (fun vJ _ => vJ = .int .i64 0) rfl (fun _ _ _ _ h => h) (fun aS wS pS => by
        have eR957_6 : aS.eval (.tmp 127) = .bool true := pS.pre 6 rfl
        exact Does.val (wgT rfl (yl 6 true rfl eR957_6) rfl) (o_mv ((pS.old 19 rfl).trans ep943_11)) (Gr.refl _) rfl rfl)
    have R9579 := R9578.snoc (n' := 9) rfl (fun vJ _ => vJ = .bool true) rfl (fun _ _ _ _ h => h) (fun aS wS pS => by
        have eR957_6 : aS.eval (.tmp 127) = .bool true := pS.pre 6 rfl
        have eR957_7 : aS.eval (.tmp 128) = .int .i64 0 := pS.pre 7 rfl
        exact Does.val (wgT rfl (yl 6 true rfl eR957_6) rfl) (o_eq (b := true) (eR957_7) ev_const (by decide)) (Gr.refl _) rfl rfl)
    have R95710 := R9579.snoc (n' := 10) rfl (fun vJ _ => vJ = .bool true) rfl (fun _ _ _ _ h => h) (fun aS wS pS => by
        have eR957_6 : aS.eval (.tmp 127) = .bool true := pS.pre 6 rfl
        have eR957_8 : aS.eval (.tmp 129) = .bool true := pS.pre 8 rfl
        exact Does.val (wn _ rfl) (o_pkT (eR957_6) (eR957_8)) (Gr.refl _) rfl rfl)
    have R95711 := R95710.snoc (n' := 11) rfl (fun vJ _ => vJ = .bool true) rfl (fun _ _ _ _ h => h) (fun aS wS pS => by
        have eR957_9 : aS.eval (.tmp 130) = .bool true := pS.pre 9 rfl
        exact Does.val (wn _ rfl) (o_mv (eR957_9)) (Gr.refl _) rfl rfl)
    have e959 := (p943.old 14 rfl).trans (n936.ne rfl ((ol895 14 rfl rfl rfl).trans ((p887.old 14 rfl).trans (n880.ne rfl e849))))
    have R95712 := R95711.snoc (n' := 12) rfl (fun vJ _ => vJ = .agg #[.slice joa ((vec vo).length) joc, .slice jod 0 joe]) rfl (fun _ _ _ _ h => h) (fun aS wS pS => by
        have eR957_10 : aS.eval (.tmp 131) = .bool true := pS.pre 10 rfl
        exact Does.val (wgT rfl (yl 10 true rfl eR957_10) rfl) (o_ldR ((pS.old 14 rfl).trans e959) (Bk.gr B951 (gr_drew pS.gr)) Try.underlying35 rfl (by kernel_rfl)) (Gr.refl _) rfl rfl)
    have R95713 := R95712.snoc (n' := 13) rfl (fun vJ _ => vJ = .func (.func 25) #[] #[]) rfl (fun _ _ _ _ h => h) (fun aS wS pS => by
        have eR957_10 : aS.eval (.tmp 131) = .bool true := pS.pre 10 rfl
        exact Does.val (wgT rfl (yl 10 true rfl eR957_10) rfl) (o_mv ((pS.old 13 rfl).trans ((p943.old 13 rfl).trans e939))) (Gr.refl _) rfl rfl)
    have e960 := (p943.old 9 rfl).trans (n936.ne rfl ((ol895 9 rfl rfl rfl).trans ((p887.old 9 rfl).trans (n880.ne rfl ((ol846 9 rfl rfl rfl).trans ((p838.old 9 rfl).trans (n834.ne rfl (n180.ne rfl s9I169))))))))
    have R95714 := R95713.snoc (n' := 14) rfl (fun vJ _ => vJ = .agg (cArr vo)) rfl (fun _ _ _ _ h => h) (fun aS wS pS => by
        have eR957_10 : aS.eval (.tmp 131) = .bool true := pS.pre 10 rfl
        exact Does.val (wgT rfl (yl 10 true rfl eR957_10) rfl) (o_ldR ((pS.old 9 rfl).trans e960) (Bk.gr B949 (gr_drew pS.gr)) Try.underlying61 rfl (five_size _)) (Gr.refl _) rfl rfl)
    have R95715 := R95714.snoc (n' := 15) rfl (fun vJ wJ => ∃ (m7a : Option Addr) (m7c : Nat), vJ = .agg #[.slice m7a ((vec vo).length) m7c, .slice none 0 0] ∧ (KnR wJ (.agg #[.slice m7a (vec vo).length m7c, .slice none 0 0]) (ints (vec vo)) [])) rfl (fun _ _ _ g ⟨m7a, m7c, h, q0⟩ => ⟨m7a, m7c, h, q0.gr g⟩) (fun aS wS pS => by
        have eR957_10 : aS.eval (.tmp 131) = .bool true := pS.pre 10 rfl
        have eR957_12 : aS.eval (.tmp 133) = .func (.func 25) #[] #[] := pS.pre 12 rfl
        have eR957_13 : aS.eval (.tmp 134) = .agg (cArr vo) := pS.pre 13 rfl
        exact Does.call (wgT rfl (yl 10 true rfl eR957_10) rfl) (o_fv1 (caps := []) ⟨_, Try.func25, rfl, rfl⟩ (eR957_12) (eR957_13)) (made_r vo wS) (by rintro _ w2 ⟨m7a, m7c, rfl, hm7, g⟩; exact ⟨_, rfl, g, ⟨m7a, m7c, rfl, hm7⟩⟩) rfl)
    have R95716 := R95715.snoc (n' := 16) rfl (fun vJ _ => vJ = .bool true) rfl (fun _ _ _ _ h => h) (fun aS wS pS => by
        have eR957_10 : aS.eval (.tmp 131) = .bool true := pS.pre 10 rfl
        have eR957_11 : aS.eval (.tmp 132) = .agg #[.slice joa ((vec vo).length) joc, .slice jod 0 joe] := pS.pre 11 rfl
        obtain ⟨m7a, m7c, eR957_14, hm7⟩ := pS.pre 14 rfl
        have eR957_14 : aS.eval (.tmp 135) = .agg #[.slice m7a ((vec vo).length) m7c, .slice none 0 0] := eR957_14
        exact Does.call (wgT rfl (yl 10 true rfl eR957_10) rfl) (o_f2 Try.func28 rfl rfl rfl (eR957_11) (eR957_14)) (sameK_t _ _ (ints (vec vo)) [] wS (F954.rd.gr (gr_drew pS.gr)) hm7 (vec_small _) (by simp)) (by rintro _ w2 ⟨rfl, g⟩; exact ⟨_, rfl, g, rfl⟩) rfl)
    have R95717 := R95716.snoc (n' := 17) rfl (fun vJ _ => vJ = .bool true) rfl (fun _ _ _ _ h => h) (fun aS wS pS => by
        have eR957_10 : aS.eval (.tmp 131) = .bool true := pS.pre 10 rfl
        have eR957_15 : aS.eval (.tmp 136) = .bool true := pS.pre 15 rfl
        exact Does.val (wn _ rfl) (o_pkT (eR957_10) (eR957_15)) (Gr.refl _) rfl rfl)
    have R95718 := R95717.snoc (n' := 18) rfl (fun vJ _ => vJ = .bool true) rfl (fun _ _ _ _ h => h) (fun aS wS pS => by
        have eR957_16 : aS.eval (.tmp 137) = .bool true := pS.pre 16 rfl
        exact Does.val (wn _ rfl) (o_mv (eR957_16)) (Gr.refl _) rfl rfl)
    have R95719 := R95718.snoc (n' := 19) rfl (fun vJ _ => vJ = .agg #[.slice mea ((vec vm).length) mec, .slice med 0 mee]) rfl (fun _ _ _ _ h => h) (fun aS wS pS => by
        have eR957_17 : aS.eval (.tmp 138) = .bool true := pS.pre 17 rfl
        exact Does.val (wgT rfl (yl 17 true rfl eR957_17) rfl) (o_ldR ((pS.old 16 rfl).trans ((p943.old 16 rfl).trans (n936.ne rfl e898))) (Bk.gr B952 (gr_drew pS.gr)) Try.underlying35 rfl (by kernel_rfl)) (Gr.refl _) rfl rfl)
    have R95720 := R95719.snoc (n' := 20) rfl (fun vJ _ => vJ = .func (.func 25) #[] #[]) rfl (fun _ _ _ _ h => h) (fun aS wS pS => by
        have eR957_17 : aS.eval (.tmp 138) = .bool true := pS.pre 17 rfl
        exact Does.val (wgT rfl (yl 17 true rfl eR957_17) rfl) (o_mv ((pS.old 13 rfl).trans ((p943.old 13 rfl).trans e939))) (Gr.refl _) rfl rfl)
    have e961 := (p943.old 10 rfl).trans (n936.ne rfl ((ol895 10 rfl rfl rfl).trans ((p887.old 10 rfl).trans (n880.ne rfl ((ol846 10 rfl rfl rfl).trans ((p838.old 10 rfl).trans (n834.ne rfl (n180.ne rfl s10I169))))))))
    have R95721 := R95720.snoc (n' := 21) rfl (fun vJ _ => vJ = .agg (cArr vm)) rfl (fun _ _ _ _ h => h) (fun aS wS pS => by
        have eR957_17 : aS.eval (.tmp 138) = .bool true := pS.pre 17 rfl
        exact Does.val (wgT rfl (yl 17 true rfl eR957_17) rfl) (o_ldR ((pS.old 10 rfl).trans e961) (Bk.gr B950 (gr_drew pS.gr)) Try.underlying61 rfl (five_size _)) (Gr.refl _) rfl rfl)
    have R95722 := R95721.snoc (n' := 22) rfl (fun vJ wJ => ∃ (m8a : Option Addr) (m8c : Nat), vJ = .agg #[.slice m8a ((vec vm).length) m8c, .slice none 0 0] ∧ (KnR wJ (.agg #[.slice m8a (vec vm).length m8c, .slice none 0 0]) (ints (vec vm)) [])) rfl (fun _ _ _ g ⟨m8a, m8c, h, q0⟩ => ⟨m8a, m8c, h, q0.gr g⟩) (fun aS wS pS => by
        have eR957_17 : aS.eval (.tmp 138) = .bool true := pS.pre 17 rfl
        have eR957_19 : aS.eval (.tmp 140) = .func (.func 25) #[] #[] := pS.pre 19 rfl
        have eR957_20 : aS.eval (.tmp 141) = .agg (cArr vm) := pS.pre 20 rfl
        exact Does.call (wgT rfl (yl 17 true rfl eR957_17) rfl) (o_fv1 (caps := []) ⟨_, Try.func25, rfl, rfl⟩ (eR957_19) (eR957_20)) (made_r vm wS) (by rintro _ w2 ⟨m8a, m8c, rfl, hm8, g⟩; exact ⟨_, rfl, g, ⟨m8a, m8c, rfl, hm8⟩⟩) rfl)
    have R95723 := R95722.snoc (n' := 23) rfl (fun vJ _ => vJ = .bool true) rfl (fun _ _ _ _ h => h) (fun aS wS pS => by
        have eR957_17 : aS.eval (.tmp 138) = .bool true := pS.pre 17 rfl
        have eR957_18 : aS.eval (.tmp 139) = .agg #[.slice mea ((vec vm).length) mec, .slice med 0 mee] := pS.pre 18 rfl
        obtain ⟨m8a, m8c, eR957_21, hm8⟩ := pS.pre 21 rfl
        have eR957_21 : aS.eval (.tmp 142) = .agg #[.slice m8a ((vec vm).length) m8c, .slice none 0 0] := eR957_21
        exact Does.call (wgT rfl (yl 17 true rfl eR957_17) rfl) (o_f2 Try.func28 rfl rfl rfl (eR957_18) (eR957_21)) (sameK_t _ _ (ints (vec vm)) [] wS (F955.rd.gr (gr_drew pS.gr)) hm8 (vec_small _) (by simp)) (by rintro _ w2 ⟨rfl, g⟩; exact ⟨_, rfl, g, rfl⟩) rfl)
    have R95724 := R95723.snoc (n' := 24) rfl (fun vJ _ => vJ = .bool true) rfl (fun _ _ _ _ h => h) (fun aS wS pS => by
        have eR957_17 : aS.eval (.tmp 138) = .bool true := pS.pre 17 rfl
        have eR957_22 : aS.eval (.tmp 143) = .bool true := pS.pre 22 rfl
        exact Does.val (wn _ rfl) (o_pkT (eR957_17) (eR957_22)) (Gr.refl _) rfl rfl)
    have R95725 := R95724.snoc (n' := 25) rfl (fun vJ _ => vJ = .bool true) rfl (fun _ _ _ _ h => h) (fun aS wS pS => by
        have eR957_23 : aS.eval (.tmp 144) = .bool true := pS.pre 23 rfl
        exact Does.val (wn _ rfl) (o_mv (eR957_23)) (Gr.refl _) rfl rfl)
    have ep943_10 : ap943.eval (.tmp 18) = .bool tt := p943.js 10 rfl
    have R95726 := R95725.snoc (n' := 26) rfl (fun vJ _ => vJ = .bool tt) rfl (fun _ _ _ _ h => h) (fun aS wS pS => by
        have eR957_24 : aS.eval (.tmp 145) = .bool true := pS.pre 24 rfl
        exact Does.val (wgT rfl (yl 24 true rfl eR957_24) rfl) (o_mv ((pS.old 18 rfl).trans ep943_10)) (Gr.refl _) rfl rfl)
    have e962 := (p943.old 11 rfl).trans (n936.ne rfl ((ol895 11 rfl rfl rfl).trans ((p887.old 11 rfl).trans (n880.ne rfl ((ol846 11 rfl rfl rfl).trans ((p838.old 11 rfl).trans (n834.ne rfl (n180.ne rfl s11I169))))))))
    have R95727 := R95726.snoc (n' := 27) rfl (fun vJ _ => vJ = .bool tt) rfl (fun _ _ _ _ h => h) (fun aS wS pS => by
        have eR957_24 : aS.eval (.tmp 145) = .bool true := pS.pre 24 rfl
        exact Does.val (wgT rfl (yl 24 true rfl eR957_24) rfl) (o_mv ((pS.old 11 rfl).trans e962)) (Gr.refl _) rfl rfl)
    have R95728 := R95727.snoc (n' := 28) rfl (fun vJ _ => vJ = .bool true) rfl (fun _ _ _ _ h => h) (fun aS wS pS => by
        have eR957_24 : aS.eval (.tmp 145) = .bool true := pS.pre 24 rfl
        have eR957_25 : aS.eval (.tmp 146) = .bool tt := pS.pre 25 rfl
        have eR957_26 : aS.eval (.tmp 147) = .bool tt := pS.pre 26 rfl
        exact Does.val (wgT rfl (yl 24 true rfl eR957_24) rfl) (o_eqB (b := true) (eR957_25) (eR957_26) (by simp) Try.underlying4) (Gr.refl _) rfl rfl)
    have R95729 := R95728.snoc (n' := 29) rfl (fun vJ _ => vJ = .bool true) rfl (fun _ _ _ _ h => h) (fun aS wS pS => by
        have eR957_24 : aS.eval (.tmp 145) = .bool true := pS.pre 24 rfl
        have eR957_27 : aS.eval (.tmp 148) = .bool true := pS.pre 27 rfl
        exact Does.val (wn _ rfl) (o_pkT (eR957_24) (eR957_27)) (Gr.refl _) rfl rfl)
    have R95730 := R95729.snoc (n' := 30) rfl (fun vJ _ => vJ = .bool true) rfl (fun _ _ _ _ h => h) (fun aS wS pS => by
        have eR957_28 : aS.eval (.tmp 149) = .bool true := pS.pre 28 rfl
        exact Does.val (wn _ rfl) (o_as (eR957_28)) (Gr.refl _) rfl rfl)
    refine R95730.run (k := 0) (L := #[true, true, true, true, true, true, true, true, true, true, true, true, true, true, true, true, true, true, true, true, true, true, true, true, true, true, true, true, true, true]) (by kernel_rfl) (by kernel_rfl) (by kernel_rfl) p943.ok (by kernel_rfl) (by kernel_rfl) (fun ap964 w965 p964 => ?_)
    have g966 := gr_drew p964.gr
    have G967 := G946.trans g966
    have B968 := B947.gr g966
    have B969 := B948.gr g966
    have B970 := B949.gr g966
    have B971 := B950.gr g966
    have B972 := B951.gr g966
    have B973 := B952.gr g966
    have A974 := A953.trans g966
    have F975 := F954.gr g966
    have F976 := F955.gr g966
    obtain ⟨m7a, m7c, ep964_14, hm7⟩ := p964.js 14 rfl
    have ep964_14 : ap964.eval (.tmp 135) = .agg #[.slice m7a ((vec vo).length) m7c, .slice none 0 0] := ep964_14
    obtain ⟨m8a, m8c, ep964_21, hm8⟩ := p964.js 21 rfl
    have ep964_21 : ap964.eval (.tmp 142) = .agg #[.slice m8a ((vec vm).length) m8c, .slice none 0 0] := ep964_21
    refine wpAny_done (by kernel_rfl) ?_ _
    refine th_n (hK956 _ _ ?_)
    refine wp_ret ?_
    have ep964_29 : ap964.eval (.tmp 4) = .bool true := p964.js 29 rfl
    exact ret1 p964.ok rfl (ep964_29) ⟨rfl, G967⟩
end Go.Proofs.Ytghjfakellaecaa
