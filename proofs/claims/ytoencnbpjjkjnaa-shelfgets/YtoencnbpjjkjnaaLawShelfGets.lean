/- The walk of ShelfGets. -/
import Derived.Test.YtoencnbpjjkjnaaSg5
set_option linter.unusedVariables false
set_option linter.unusedSimpArgs false
namespace Go.Proofs.Ytoencnbpjjkjnaa
open Go.RowKit Rm Gx
theorem o_neSF {P : Program} {ev : Operand → Value} {d : Option Tmp} {ty : TypeId} {p : String} {af : Array Edge} {g : Option (Nat × Bool)} {w : World} {t t' : TypeId} {x y : Operand} {l l' : List UInt8} (hx : ev x = .string (bs l)) (hy : ev y = .string (bs l')) (h : l = l') : (execOp ev (Oper.mk d (.binOp .neq t x y t') ty p af g)).run P w = .ok (.value (.bool false)) w := by
  subst h
  exact o_neSs hx hy
/-- how many versions of the first things -/
def sumG (L : List VerD) : Nat → Nat
  | 0 => 0
  | j + 1 => sumG L j + (svGet L (idC j)).length
theorem sumG_all : ∀ {L : List VerD}, (∀ x ∈ L, x.id = [97] ∨ x.id = [98]) → sumG L 3 = L.length
  | [], _ => rfl
  | a :: L, h => by
    have ih := sumG_all (L := L) fun x hx => h x (List.mem_cons_of_mem _ hx)
    have ha := h a (List.mem_cons_self ..)
    simp only [sumG] at ih ⊢
    unfold svGet at ih ⊢
    rw [List.length_cons, ← ih]
    simp only [List.filter_cons]
    rcases ha with e | e <;> rw [e]
    · rw [if_pos (by decide), if_neg (by decide), if_neg (by decide), List.length_cons]; omega
    · rw [if_neg (by decide), if_pos (by decide), if_neg (by decide), List.length_cons]; omega
theorem pD_sup {L : List VerD} {id : List UInt8} {x : VerD} (hx : x ∈ L) (hid : x.id = id) {s c : Nat} (h : dsV x s c = true) : pD L id s c = true := by
  unfold pD addS
  rw [Bool.or_eq_true, decide_eq_true_eq]
  unfold dsV at h
  rw [memB_iff] at h
  rcases h with h | h
  · refine .inl ?_
    unfold pV
    exact List.any_eq_true.2 ⟨x, mem_pF.2 ⟨hx, hid⟩, by unfold vD; rw [memB_iff]; exact .inl h⟩
  · refine .inr ?_
    unfold toN
    obtain ⟨d, hd, e⟩ := List.mem_map.1 h
    refine List.mem_map.2 ⟨d, ?_, e⟩
    unfold pI
    exact List.mem_flatMap.2 ⟨x, mem_pF.2 ⟨hx, hid⟩, List.mem_cons_of_mem _ hd⟩
theorem pD_none {L : List VerD} {id : List UInt8} (h : svGet L id = []) : formV (pD L id) = [] ∧ formM (pD L id) = [] := by
  have ok0 : OkV [] [] := ⟨by simp, by simp, by simp, by simp, by simp⟩
  refine ok0.form (D := pD L id) fun s c i => ?_
  have h1 : ¬ ((1 ≤ c ∧ c ≤ cv [] s) ∨ (s, c) ∈ ([] : List (Nat × Nat))) := by
    rintro (h | h)
    · simp [cv] at h; omega
    · cases h
  rw [← memB_iff, Bool.not_eq_true] at h1
  rw [h1]
  cases q : pD L id s c
  · rfl
  · obtain ⟨x, hx, hid, -⟩ := pD_of q
    have : x ∈ svGet L id := by unfold svGet; rw [List.mem_filter, decide_eq_true_eq]; exact ⟨hx, hid⟩
    rw [h] at this
    cases this
theorem getE_or {L : List VerD} {id : List UInt8} (h : chkShf L = 0) : (getE L id = 0) ∨ (getE L id = 4 ∧ svGet L id = []) := by
  unfold getE
  rw [if_pos h]
  by_cases q : svGet L id = []
  · rw [if_pos q]; exact .inr ⟨rfl, q⟩
  · rw [if_neg q]; exact .inl rfl
/-- Get, its number as a letter -/
theorem sget_l (K : List VerI) (va : Option Addr) (vc : Nat) (id : List UInt8) (w : World) (hv : RdA encVr 8 w va K) (hm : MeansV w K) (L : List VerD) (hK : K.map VerI.d = L) (hL : chkShf L = 0) :
    Calls Try.prog 10 #[.slice va K.length vc, .string (bs id)] w fun e w' => ∃ (R : List VerI) (a : Option Addr) (c : Nat) (n : Int), e = .returned (.tuple #[.slice a R.length c, .int .i64 n]) ∧ (n = 0 ∨ (n = 4 ∧ svGet L id = [])) ∧ R.map VerI.d = svGet L id ∧ RdA encVr 8 w' a R ∧ MeansV w' R ∧ Gr w w' := by
  refine (sget_r K va vc id w hv hm L hK).mono ?_
  rintro e w' ⟨R, a, c, rfl, h1, h2, h3, g⟩
  refine ⟨R, a, c, getE L id, rfl, getE_or hL, ?_, h2, h3, g⟩
  rw [h1]
  unfold getL
  rw [if_pos hL]
/-- Past, over the store of what was told -/
theorem past_l (K : List VerI) (va : Option Addr) (vc : Nat) (id : List UInt8) (w : World) (hv : RdA encVr 8 w va K) (hm : MeansV w K) (L : List VerD) (hK : K.map VerI.d = L) (hL : chkShf L = 0) (hf : (formM (pD L id)).length ≤ 60) :
    Calls Try.prog 11 #[.slice va K.length vc, .string (bs id)] w fun e w' => ∃ pa nV pc qa nM qc, e = .returned (.tuple #[.agg #[.slice pa nV pc, .slice qa nM qc], .int .i64 0]) ∧ KnR w' (.agg #[.slice pa nV pc, .slice qa nM qc]) (ints (formV (pD L id))) (pairs (formM (pD L id))) ∧ Gr w w' := by
  subst hK
  obtain ⟨f1, f2, f3⟩ := fr_of hf
  refine (past_ok K va vc id hL w hv hm).mono ?_
  rintro e w' ⟨k, rfl, h, g⟩
  rw [f2, f3] at h
  rw [f1]
  obtain ⟨a, c, a', c', rfl⟩ := knR_formL h
  exact ⟨_, _, _, _, _, _, rfl, h, g⟩
theorem sameK_nil (k : Value) (D : DS) (w : World) (hk : KnR w k (ints (formV D)) (pairs (formM D))) (h : formV D = [] ∧ formM D = []) :
    Calls Try.prog 18 #[k, .agg #[.slice none 0 0, .slice none 0 0]] w fun e w' => e = .returned (.bool true) ∧ Gr w w' := by
  rw [h.1, h.2] at hk
  refine (sameK_p k _ _ [] _ [] w hk (knR_nil w) (by simp [ints]) (by simp [pairs])).mono ?_
  rintro e w' ⟨rfl, g⟩
  exact ⟨by rw [decide_eq_true ⟨rfl, rfl⟩], g⟩
theorem has_past (k : Value) (L : List VerD) (id : List UInt8) (x : VerD) (w : World) (hf : (formM (pD L id)).length ≤ 60) (hk : KnR w k (ints (formV (pD L id))) (pairs (formM (pD L id)))) (hx : x ∈ svGet L id) (hd : dotB (x.s, x.c) = true) :
    Calls Try.prog 40 #[k, .agg #[.int .i64 x.s, .int .i64 x.c]] w fun e w' => e = .returned (.tuple #[.bool true, .int .i64 0]) ∧ Gr w w' := by
  refine (khasI k _ _ x.s x.c w hk ((form_ok _).chk hf) hd).mono ?_
  rintro e w' ⟨rfl, g⟩
  refine ⟨?_, g⟩
  unfold svGet at hx
  rw [List.mem_filter, decide_eq_true_eq] at hx
  obtain ⟨h1, h2, h3, h4⟩ := (dotB_iff _).1 hd
  simp only at h1 h2 h3 h4
  have e1 : memI (ints (formV (pD L id))) (pairs (formM (pD L id))) x.s x.c = true := by
    unfold memI
    rw [ints_nat, pairs_nat]
    rw [form_mem (pD L id) x.s.toNat x.c.toNat ⟨by omega, by omega, by omega⟩]
    exact pD_has hx.1 hx.2
  rw [e1]
theorem within_past (k k' : Value) (L : List VerD) (id : List UInt8) (x : VerD) (w : World) (hf : (formM (pD L id)).length ≤ 60) (hk' : KnR w k' (ints (formV (pD L id))) (pairs (formM (pD L id)))) (hk : KnR w k x.V x.M) (hx : x ∈ svGet L id) (hc : chkK x.V x.M = 0) :
    Calls Try.prog 41 #[k, k'] w fun e w' => e = .returned (.tuple #[.bool true, .int .i64 0]) ∧ Gr w w' := by
  unfold svGet at hx
  rw [List.mem_filter, decide_eq_true_eq] at hx
  obtain ⟨v, m, hV, hM, ok, hl⟩ := chkK_zero hc
  rw [hV, hM] at hk
  refine (within_ok k k' v (formV (pD L id)) m (formM (pD L id)) w hk hk' ok (form_ok _) hl hf).mono ?_
  rintro e w' ⟨rfl, g⟩
  refine ⟨?_, g⟩
  have e1 : withB v (formV (pD L id)) m (formM (pD L id)) = true := (withB_iff ok (form_ok _)).2 fun s c i h => by
    rw [form_mem (pD L id) s c i]
    refine pD_sup hx.1 hx.2 ?_
    unfold dsV
    rw [hV, hM, ints_nat, pairs_nat]
    exact h
  rw [e1]
theorem mem_get {L : List VerD} {R : List VerI} {id : List UInt8} {x : VerI} (e : R.map VerI.d = svGet L id) (hx : x ∈ R) : x.d ∈ svGet L id ∧ x.d ∈ L ∧ x.d.id = id := by
  have h : x.d ∈ svGet L id := by rw [← e]; exact List.mem_map_of_mem hx
  refine ⟨h, ?_⟩
  unfold svGet at h
  rw [List.mem_filter, decide_eq_true_eq] at h
  exact h
theorem get_len {L : List VerD} {R : List VerI} {id : List UInt8} (e : R.map VerI.d = svGet L id) (hl : L.length ≤ 60) : R.length ≤ 60 ∧ R.length = (svGet L id).length := by
  have h1 := congrArg List.length e
  rw [List.length_map] at h1
  refine ⟨?_, h1⟩
  rw [h1]
  unfold svGet
  exact Nat.le_trans (List.length_filter_le _ _) hl
set_option maxHeartbeats 8000000 in
set_option maxRecDepth 100000 in
theorem shelfGets_walk (v0 : Value) (L0 : List (List Int)) (w : World) (h0 : RdLL w v0 L0) :
    Calls Try.prog 9 #[v0] w fun e w' => e = .returned (.bool true) ∧ Gr w w' := by
  refine enter (N := 112) Try.func9 rfl rfl rfl (fun a0 ok0 h0 => ?_)
  have e0_0 : a0.eval (.tmp 0) = v0 := h0 0 _ rfl
  clear h0
  have G0 := Gr.refl w
  refine wp_seq_k (fun K1 hK1 => ?_)
  refine wp_region_lit ?_
  refine sv ok0 rfl (wn _ rfl) rfl (o_as ev_const) (fun an2 n2 => ?_)
  refine wpList_nil ?_
  refine th_n (hK1 _ _ ?_)
  refine wp_seq_k (fun K3 hK3 => ?_)
  refine wp_seq_k (fun K4 hK4 => ?_)
  refine wp_region_lit ?_
  refine sc n2.ok rfl (wn _ rfl) rfl (o_f0 Try.func22 rfl rfl rfl ) (begun_shelf w) ?_
  rintro _ w6 ⟨rfl, g7⟩
  refine ⟨_, rfl, fun an5 n5 => ?_⟩
  have G8 := G0.trans g7
  refine sv n5.ok rfl (wn _ rfl) rfl (o_not n5.at_ rfl) (fun an9 n9 => ?_)
  refine wpList_nil ?_
  refine th_n (hK4 _ _ ?_)
  refine wp_cond_false (n9.at_) ?_
  refine wp_skip ?_
  refine th_n (hK3 _ _ ?_)
  refine wp_seq_k (fun K10 hK10 => ?_)
  refine wp_region_lit ?_
  have e11 := n9.ne rfl (n5.ne rfl (n2.ne rfl e0_0))
  refine sv n9.ok rfl (wn _ rfl) rfl (o_mv e11) (fun an12 n12 => ?_)
  refine sc n12.ok rfl (wn _ rfl) rfl (o_f1 Try.func23 rfl rfl rfl n12.at_) (told_any v0 L0 w6 (h0.gr G8)) ?_
  rintro _ w14 ⟨RT, raT, rcT, vT, rfl, hT, hv, hlT, hrT, hmT, hcT, hsT, hiT, g15⟩
  have hTR := hT.tr (by rw [List.length_map]; omega)
  have hlM : (RT.map VerI.d).length ≤ 20 := by rw [List.length_map]; exact hlT
  have hMX := lay_is hTR (fun x hx => hx)
  refine ⟨_, rfl, fun an13 n13 => ?_⟩
  have G16 := G8.trans g15
  have A18 := Gr.refl w14
  refine sc n13.ok rfl (wn _ rfl) rfl (o_f1 Try.func25 rfl rfl rfl n13.at_) (laid_r RT raT rcT w14 (hrT.gr A18) (hmT.gr A18) (by omega) (RT.map VerI.d) ((RT.map VerI.d)) hTR (fun x hx => hx) (rfl)) ?_
  rintro _ w20 ⟨R1, ra1, rc1, rfl, hR1, hr1, hm1, hc1, g21⟩
  have hM1 := lay_is hTR (fun x hx => hx)
  have hX := (okS_iff _).2 hM1.ok
  have hsub := hM1.sub (fun x hx => hx)
  have hLL : (layL (RT.map VerI.d)).length ≤ 60 := hM1.ok.len
  refine ⟨_, rfl, fun an19 n19 => ?_⟩
  have G22 := G16.trans g21
  have A23 := A18.trans g21
  have A25 := Gr.refl w20
  refine sv n19.ok rfl (wn _ rfl) rfl (o_mv n19.at_) (fun an26 n26 => ?_)
  refine sv n26.ok rfl (wn _ rfl) rfl (o_ex n26.at_ rfl) (fun an27 n27 => ?_)
  refine sv n27.ok rfl (wn _ rfl) rfl (o_ex (n27.ne rfl n26.at_) rfl) (fun an28 n28 => ?_)
  refine sv n28.ok rfl (wn _ rfl) rfl (o_as (n28.ne rfl n27.at_)) (fun an29 n29 => ?_)
  refine sv n29.ok rfl (wn _ rfl) rfl (o_as (n29.ne rfl n28.at_)) (fun an30 n30 => ?_)
  refine wpList_nil ?_
  refine th_n (hK10 _ _ ?_)
  refine wp_seq_k (fun K31 hK31 => ?_)
  refine wp_seq_k (fun K32 hK32 => ?_)
  refine wp_region_lit ?_
  refine sv n30.ok rfl (wn _ rfl) rfl (o_mv n30.at_) (fun an33 n33 => ?_)
  refine sv n33.ok rfl (wn _ rfl) rfl (o_not n33.at_ rfl) (fun an34 n34 => ?_)
  refine wpList_nil ?_
  refine th_n (hK32 _ _ ?_)
  refine wp_cond_false (n34.at_) ?_
  refine wp_skip ?_
  refine th_n (hK31 _ _ ?_)
  refine wp_seq_k (fun K35 hK35 => ?_)
  refine wp_region_lit ?_
  refine sv n34.ok rfl (wn _ rfl) rfl (o_as ev_const) (fun an36 n36 => ?_)
  refine wpList_nil ?_
  refine th_n (hK35 _ _ ?_)
  refine wp_seq_k (fun K37 hK37 => ?_)
  refine wp_seq_k (fun K38 hK38 => ?_)
  refine wp_region_lit ?_
  obtain ⟨i39, i39a, i39b, i39c⟩ := info3_of (show (Try.prog.info? 9).map (fun i => (i.zero, i.size)) = some (some (.string (bs [])), 1) by kernel_rfl)
  refine sals (cs := #[.string (bs [97]), .string (bs [98]), .string (bs [99])]) n36.ok rfl (wn _ rfl) rfl (o_bs (vs := [(0, .string (bs [97])), (1, .string (bs [98])), (2, .string (bs [99]))]) (by simp [ev_const, bs]) Try.underlying58 i39a i39b (by rw [i39c]; rfl) (by rw [i39c]; rfl) (by rw [i39c]; kernel_rfl)) (fun an40 w42 b41 W43 n40 => ?_)
  have l44 : w.heap.size ≤ b41 := by rw [W43.eq]; exact G22.size
  have l45 : w14.heap.size ≤ b41 := by rw [W43.eq]; exact A23.size
  have l46 : w20.heap.size ≤ b41 := by rw [W43.eq]; exact A25.size
  have G47 := G22.trans W43.gr
  have A48 := A23.trans W43.gr
  have A49 := A25.trans W43.gr
  refine sv n40.ok rfl (wn _ rfl) rfl (o_len n40.at_ Try.underlying58) (fun an50 n50 => ?_)
  refine sv n50.ok rfl (wn _ rfl) rfl (o_mv ev_const) (fun an51 n51 => ?_)
  refine wpList_nil ?_
  refine th_n (hK38 _ _ ?_)
  refine wp_block ?_
  have hl1 : R1.length = (layL (RT.map VerI.d)).length := by have h2 := congrArg List.length hR1; rw [List.length_map] at h2; exact h2
  have e53 := n51.ne rfl (n50.ne rfl (n40.ne rfl (n36.ne rfl (n34.ne rfl (n33.ne rfl (n30.ne rfl (n29.ne rfl (n28.ne rfl (n27.ne rfl (n26.ne rfl (n19.ne rfl (n13.ne rfl (n12.ne rfl (n9.ne rfl (n5.ne rfl n2.at_)))))))))))))))
  have e54 := n51.ne rfl (n50.ne rfl (n40.ne rfl (n36.ne rfl (n34.ne rfl (n33.ne rfl (n30.ne rfl n29.at_))))))
  have e55 := n51.ne rfl (n50.ne rfl (n40.ne rfl n36.at_))
  refine lp (fun (nL : Nat) (aL : Act) (wL : World) => ∃ j : Nat, ∃ n : Nat, nL = 3 - j ∧ Ok 112 aL ∧ Gr w wL ∧ (aL.eval (.tmp 2) = .bool false) ∧ (aL.eval (.tmp 3) = .slice ra1 R1.length rc1) ∧ (aL.eval (.tmp 5) = .int .i64 (n : Int)) ∧ (aL.eval (.tmp 28) = .slice (some ⟨b41, 0, none⟩) 3 3) ∧ (aL.eval (.tmp 29) = .int .i64 3) ∧ (aL.eval (.tmp 30) = .int .i64 (j : Int)) ∧ (Bk wL b41 #[.string (bs [97]), .string (bs [98]), .string (bs [99])] 9) ∧ (Gr w14 wL) ∧ (Gr w20 wL) ∧ (j ≤ 3) ∧ (n = sumG (layL (RT.map VerI.d)) j) ∧ (n ≤ 60 * j)) _ ⟨0, 0, rfl, n51.ok, G47, e53, e54, e55, (n51.ne rfl (n50.ne rfl n40.at_)), (n51.ne rfl n50.at_), n51.at_, W43.bk, A48, A49, by omega, rfl, by omega⟩ ?_
  rintro m56 aI52 w58 ⟨j, n, hmI52, okI52, GI52, s2I52, s3I52, s5I52, s28I52, s29I52, s30I52, kb41I52, xanch17I52, xanch24I52, hjI52, hnI52, hn2I52⟩ KI52 hKI52
  refine wp_seq_k (fun K59 hK59 => ?_)
  refine wp_region_lit ?_
  refine sv okI52 rfl (wn _ rfl) rfl (o_ltI s30I52 s29I52) (fun an60 n60 => ?_)
  refine wpList_nil ?_
  refine th_n (hK59 _ _ ?_)
  refine wp_seq_k (fun K61 hK61 => ?_)
  by_cases c62 : (j : Int) < 3
  · refine wp_cond_true ((n60.at_).trans (congrArg Value.bool (decide_eq_true c62))) ?_
    refine wp_skip ?_
    refine th_n (hK61 _ _ ?_)
    refine wp_seq_k (fun K63 hK63 => ?_)
    refine wp_block ?_
    refine wp_seq_k (fun K64 hK64 => ?_)
    refine wp_region_lit ?_
    refine sv n60.ok rfl (wn _ rfl) rfl (o_ia (i := j) (s := 1) (n60.ne rfl s28I52) (n60.ne rfl s30I52) Try.underlying58 (by kernel_rfl) (by omega)) (fun an65 n65 => ?_)
    refine sv n65.ok rfl (wn _ rfl) rfl (o_ld n65.at_ (Try.isAgg9 _) (idC_at _ _ _ _ kb41I52 (by omega))) (fun an66 n66 => ?_)
    refine sv n66.ok rfl (wn _ rfl) rfl (o_as n66.at_) (fun an67 n67 => ?_)
    refine wpList_nil ?_
    refine th_n (hK64 _ _ ?_)
    refine wp_seq_k (fun K68 hK68 => ?_)
    refine wp_region_lit ?_
    have e69 := n67.ne rfl (n66.ne rfl (n65.ne rfl (n60.ne rfl s3I52)))
    refine sv n67.ok rfl (wn _ rfl) rfl (o_mv e69) (fun an70 n70 => ?_)
    refine sv n70.ok rfl (wn _ rfl) rfl (o_mv (n70.ne rfl n67.at_)) (fun an71 n71 => ?_)
    refine sc n71.ok rfl (wn _ rfl) rfl (o_f2 Try.func10 rfl rfl rfl (n71.ne rfl n70.at_) n71.at_) (sget_l R1 ra1 rc1 (idC j) w58 (hr1.gr xanch24I52) (hm1.gr xanch24I52) (layL (RT.map VerI.d)) hR1 hX) ?_
    rintro _ w73 ⟨R2, ra2, rc2, eg, rfl, heg, hR2, hr2, hm2, g74⟩
    have hl2 := get_len hR2 hLL
    have hf := pD_few hT hsub (idC j) hsT
    refine ⟨_, rfl, fun an72 n72 => ?_⟩
    have G75 := GI52.trans g74
    have B76 := kb41I52.gr g74
    have A77 := xanch17I52.trans g74
    have A78 := xanch24I52.trans g74
    have A80 := Gr.refl w73
    refine sv n72.ok rfl (wn _ rfl) rfl (o_mv n72.at_) (fun an81 n81 => ?_)
    refine sv n81.ok rfl (wn _ rfl) rfl (o_ex n81.at_ rfl) (fun an82 n82 => ?_)
    refine sv n82.ok rfl (wn _ rfl) rfl (o_ex (n82.ne rfl n81.at_) rfl) (fun an83 n83 => ?_)
    refine sv n83.ok rfl (wn _ rfl) rfl (o_as (n83.ne rfl n82.at_)) (fun an84 n84 => ?_)
    refine sv n84.ok rfl (wn _ rfl) rfl (o_as (n84.ne rfl n83.at_)) (fun an85 n85 => ?_)
    refine wpList_nil ?_
    refine th_n (hK68 _ _ ?_)
    refine wp_seq_k (fun K86 hK86 => ?_)
    refine wp_region_lit ?_
    have e87 := n85.ne rfl (n84.ne rfl (n83.ne rfl (n82.ne rfl (n81.ne rfl (n72.ne rfl (n71.ne rfl (n70.ne rfl e69)))))))
    refine sv n85.ok rfl (wn _ rfl) rfl (o_mv e87) (fun an88 n88 => ?_)
    have e89 := n88.ne rfl (n85.ne rfl (n84.ne rfl (n83.ne rfl (n82.ne rfl (n81.ne rfl (n72.ne rfl (n71.ne rfl (n70.ne rfl n67.at_))))))))
    refine sv n88.ok rfl (wn _ rfl) rfl (o_mv e89) (fun an90 n90 => ?_)
    refine sc n90.ok rfl (wn _ rfl) rfl (o_f2 Try.func11 rfl rfl rfl (n90.ne rfl n88.at_) n90.at_) (past_l R1 ra1 rc1 (idC j) w73 (hr1.gr A78) (hm1.gr A78) (layL (RT.map VerI.d)) hR1 hX hf) ?_
    rintro _ w92 ⟨pa, nV, pc, qa, nM, qc, rfl, hkk, g93⟩
    refine ⟨_, rfl, fun an91 n91 => ?_⟩
    have G94 := G75.trans g93
    have B95 := B76.gr g93
    have A96 := A77.trans g93
    have A97 := A78.trans g93
    have A98 := A80.trans g93
    have A100 := Gr.refl w92
    refine sv n91.ok rfl (wn _ rfl) rfl (o_mv n91.at_) (fun an101 n101 => ?_)
    refine sv n101.ok rfl (wn _ rfl) rfl (o_ex n101.at_ rfl) (fun an102 n102 => ?_)
    refine sv n102.ok rfl (wn _ rfl) rfl (o_ex (n102.ne rfl n101.at_) rfl) (fun an103 n103 => ?_)
    refine sal (cs := #[.slice none 0 0, .slice none 0 0]) n103.ok rfl (wn _ rfl) rfl (o_al (z := .agg #[.slice none 0 0, .slice none 0 0]) (by kernel_rfl)) (fun an104 w106 b105 W107 n104 => ?_)
    have l108 : b41 < b105 := by rw [W107.eq]; exact B95.lt
    have l109 : w.heap.size ≤ b105 := by rw [W107.eq]; exact G94.size
    have l110 : w14.heap.size ≤ b105 := by rw [W107.eq]; exact A96.size
    have l111 : w20.heap.size ≤ b105 := by rw [W107.eq]; exact A97.size
    have l112 : w73.heap.size ≤ b105 := by rw [W107.eq]; exact A98.size
    have l113 : w92.heap.size ≤ b105 := by rw [W107.eq]; exact A100.size
    have G114 := G94.trans W107.gr
    have B115 := B95.gr W107.gr
    have A116 := A96.trans W107.gr
    have A117 := A97.trans W107.gr
    have A118 := A98.trans W107.gr
    have A119 := A100.trans W107.gr
    refine ssR rfl (wn _ rfl) (o_stR n104.at_ (n104.ne rfl (n103.ne rfl n102.at_)) W107.bk (by kernel_rfl) rfl (by simp [Value.oneCell'])) W107.bk (fun w120 u121 u121b => ?_)
    have G122 : Gr w w120 := Below.upd G114 l109 u121
    have B123 := B115.upd u121 (Nat.ne_of_lt l108)
    have A124 : Gr w14 w120 := Below.upd A116 l110 u121
    have A125 : Gr w20 w120 := Below.upd A117 l111 u121
    have A126 : Gr w73 w120 := Below.upd A118 l112 u121
    have A127 : Gr w92 w120 := Below.upd A119 l113 u121
    refine sv n104.ok rfl (wn _ rfl) rfl (o_as (n104.ne rfl n103.at_)) (fun an128 n128 => ?_)
    refine wpList_nil ?_
    refine th_n (hK86 _ _ ?_)
    refine wp_seq_k (fun K129 hK129 => ?_)
    refine wp_seq_k (fun K130 hK130 => ?_)
    refine wp_region_lit ?_
    refine sv n128.ok rfl (wn _ rfl) rfl (o_mv n128.at_) (fun an131 n131 => ?_)
    refine sv n131.ok rfl (wn _ rfl) rfl (o_neq (b := false) n131.at_ ev_const (by decide)) (fun an132 n132 => ?_)
    refine sv n132.ok rfl (wn _ rfl) rfl (o_mv n132.at_) (fun an133 n133 => ?_)
    have e134 := n133.ne rfl (n132.ne rfl (n131.ne rfl (n128.ne rfl (n104.ne rfl (n103.ne rfl (n102.ne rfl (n101.ne rfl (n91.ne rfl (n90.ne rfl (n88.ne rfl n85.at_))))))))))
    refine sv n133.ok rfl (wgT rfl (yl 2 false rfl n133.at_) rfl) rfl (o_mv e134) (fun an135 n135 => ?_)
    refine sv n135.ok rfl (wgT rfl (yl 2 false rfl (n135.ne rfl n133.at_)) rfl) rfl (o_neI n135.at_ ev_const) (fun an136 n136 => ?_)
    refine sv n136.ok rfl (wgT rfl (yl 2 false rfl (n136.ne rfl (n135.ne rfl n133.at_))) rfl) rfl (o_mv n136.at_) (fun an137 n137 => ?_)
    by_cases c138 : ¬ eg = 0
    · have e139 := (n137.at_).trans (congrArg Value.bool (decide_eq_true c138))
      have e140 := ((n137.ne rfl n136.at_)).trans (congrArg Value.bool (decide_eq_true c138))
      have heg4 := heg.resolve_left c138
      have e141 := n137.ne rfl (n136.ne rfl (n135.ne rfl e134))
      refine sv n137.ok rfl (wgT rfl (yl 5 true rfl e139) rfl) rfl (o_mv e141) (fun an142 n142 => ?_)
      refine sv n142.ok rfl (wgT rfl (yl 5 true rfl (n142.ne rfl e139)) rfl) rfl (o_neq (b := false) n142.at_ ev_const (by simp [heg4.1])) (fun an143 n143 => ?_)
      refine sv n143.ok rfl (wgT rfl (yl 5 true rfl (n143.ne rfl (n142.ne rfl e139))) rfl) rfl (o_mv n143.at_) (fun an144 n144 => ?_)
      have e145 := n144.ne rfl (n143.ne rfl (n142.ne rfl (n137.ne rfl (n136.ne rfl (n135.ne rfl (n133.ne rfl (n132.ne rfl (n131.ne rfl (n128.ne rfl n104.at_)))))))))
      refine sv n144.ok rfl (wgT rfl (yl 8 false rfl n144.at_) rfl) rfl (o_ldR e145 u121b Try.underlying30 rfl (by kernel_rfl)) (fun an146 n146 => ?_)
      refine sv n146.ok rfl (wgT rfl (yl 8 false rfl (n146.ne rfl n144.at_)) rfl) rfl (o_b0 (cs := #[.slice none 0 0, .slice none 0 0]) Try.underlying30 (by kernel_rfl) (by kernel_rfl)) (fun an147 n147 => ?_)
      refine sc n147.ok rfl (wgT rfl (yl 8 false rfl (n147.ne rfl (n146.ne rfl n144.at_))) rfl) rfl (o_f2 Try.func18 rfl rfl rfl (n147.ne rfl n146.at_) n147.at_) (sameK_nil _ (pD (layL (RT.map VerI.d)) (idC j)) w120 (hkk.gr A127) (pD_none heg4.2)) ?_
      rintro _ w149 ⟨rfl, g150⟩
      refine ⟨_, rfl, fun an148 n148 => ?_⟩
      have G151 := G122.trans g150
      have B152 := B123.gr g150
      have B153 := u121b.gr g150
      have A154 := A124.trans g150
      have A155 := A125.trans g150
      have A156 := A126.trans g150
      have A157 := A127.trans g150
      have e158 := n148.ne rfl (n147.ne rfl (n146.ne rfl n144.at_))
      refine sv n148.ok rfl (wgT rfl (yl 8 false rfl e158) rfl) rfl (o_not n148.at_ rfl) (fun an159 n159 => ?_)
      have e160 := n159.ne rfl (n148.ne rfl (n147.ne rfl (n146.ne rfl (n144.ne rfl (n143.ne rfl (n142.ne rfl e139))))))
      refine sv n159.ok rfl (wgT rfl (yl 5 true rfl e160) rfl) rfl (o_pkF (n159.ne rfl e158) n159.at_) (fun an161 n161 => ?_)
      have e162 := n161.ne rfl (n159.ne rfl (n148.ne rfl (n147.ne rfl (n146.ne rfl (n144.ne rfl (n143.ne rfl (n142.ne rfl (n137.ne rfl (n136.ne rfl (n135.ne rfl n133.at_))))))))))
      refine sv n161.ok rfl (wgT rfl (yl 2 false rfl e162) rfl) rfl (o_pkT (n161.ne rfl e160) n161.at_) (fun an163 n163 => ?_)
      refine sv n163.ok rfl (wn _ rfl) rfl (o_pkF (n163.ne rfl e162) n163.at_) (fun an164 n164 => ?_)
      refine wpList_nil ?_
      refine th_n (hK130 _ _ ?_)
      refine wp_cond_false (n164.at_) ?_
      refine wp_skip ?_
      refine th_n (hK129 _ _ ?_)
      refine wp_seq_k (fun K165 hK165 => ?_)
      refine wp_seq_k (fun K166 hK166 => ?_)
      refine wp_region_lit ?_
      have e167 := n164.ne rfl (n163.ne rfl (n161.ne rfl (n159.ne rfl (n148.ne rfl (n147.ne rfl (n146.ne rfl (n144.ne rfl (n143.ne rfl (n142.ne rfl (n137.ne rfl (n136.ne rfl (n135.ne rfl (n133.ne rfl (n132.ne rfl (n131.ne rfl (n128.ne rfl (n104.ne rfl (n103.ne rfl (n102.ne rfl (n101.ne rfl (n91.ne rfl (n90.ne rfl (n88.ne rfl (n85.ne rfl n84.at_))))))))))))))))))))))))
      refine sv n164.ok rfl (wn _ rfl) rfl (o_mv e167) (fun an168 n168 => ?_)
      refine sv n168.ok rfl (wn _ rfl) rfl (o_len n168.at_ Try.underlying22) (fun an169 n169 => ?_)
      refine sv n169.ok rfl (wn _ rfl) rfl (o_mv ev_const) (fun an170 n170 => ?_)
      refine wpList_nil ?_
      refine th_n (hK166 _ _ ?_)
      refine wp_block ?_
      have e172 := n170.ne rfl (n169.ne rfl (n168.ne rfl (n164.ne rfl (n163.ne rfl (n161.ne rfl (n159.ne rfl (n148.ne rfl (n147.ne rfl (n146.ne rfl (n144.ne rfl (n143.ne rfl (n142.ne rfl (n137.ne rfl (n136.ne rfl (n135.ne rfl (n133.ne rfl (n132.ne rfl (n131.ne rfl (n128.ne rfl (n104.ne rfl (n103.ne rfl (n102.ne rfl (n101.ne rfl (n91.ne rfl (n90.ne rfl (n88.ne rfl (n85.ne rfl (n84.ne rfl (n83.ne rfl (n82.ne rfl (n81.ne rfl (n72.ne rfl (n71.ne rfl (n70.ne rfl (n67.ne rfl (n66.ne rfl (n65.ne rfl (n60.ne rfl s2I52))))))))))))))))))))))))))))))))))))))
      have e173 := n170.ne rfl (n169.ne rfl (n168.ne rfl (n164.ne rfl (n163.ne rfl (n161.ne rfl (n159.ne rfl (n148.ne rfl (n147.ne rfl (n146.ne rfl (n144.ne rfl (n143.ne rfl (n142.ne rfl (n137.ne rfl (n136.ne rfl (n135.ne rfl (n133.ne rfl (n132.ne rfl (n131.ne rfl (n128.ne rfl (n104.ne rfl (n103.ne rfl (n102.ne rfl (n101.ne rfl (n91.ne rfl (n90.ne rfl (n88.ne rfl e87))))))))))))))))))))))))))
      have e174 := n170.ne rfl (n169.ne rfl (n168.ne rfl (n164.ne rfl (n163.ne rfl (n161.ne rfl (n159.ne rfl (n148.ne rfl (n147.ne rfl (n146.ne rfl (n144.ne rfl (n143.ne rfl (n142.ne rfl (n137.ne rfl (n136.ne rfl (n135.ne rfl (n133.ne rfl (n132.ne rfl (n131.ne rfl (n128.ne rfl (n104.ne rfl (n103.ne rfl (n102.ne rfl (n101.ne rfl (n91.ne rfl (n90.ne rfl (n88.ne rfl (n85.ne rfl (n84.ne rfl (n83.ne rfl (n82.ne rfl (n81.ne rfl (n72.ne rfl (n71.ne rfl (n70.ne rfl (n67.ne rfl (n66.ne rfl (n65.ne rfl (n60.ne rfl s5I52))))))))))))))))))))))))))))))))))))))
      have e175 := n170.ne rfl (n169.ne rfl (n168.ne rfl (n164.ne rfl (n163.ne rfl (n161.ne rfl (n159.ne rfl (n148.ne rfl (n147.ne rfl (n146.ne rfl (n144.ne rfl (n143.ne rfl (n142.ne rfl (n137.ne rfl (n136.ne rfl (n135.ne rfl (n133.ne rfl (n132.ne rfl (n131.ne rfl (n128.ne rfl (n104.ne rfl (n103.ne rfl (n102.ne rfl (n101.ne rfl (n91.ne rfl (n90.ne rfl e89)))))))))))))))))))))))))
      have e176 := n170.ne rfl (n169.ne rfl (n168.ne rfl e167))
      have e177 := n170.ne rfl (n169.ne rfl (n168.ne rfl (n164.ne rfl (n163.ne rfl (n161.ne rfl (n159.ne rfl (n148.ne rfl (n147.ne rfl (n146.ne rfl e145)))))))))
      have e178 := n170.ne rfl (n169.ne rfl (n168.ne rfl (n164.ne rfl (n163.ne rfl (n161.ne rfl (n159.ne rfl (n148.ne rfl (n147.ne rfl (n146.ne rfl (n144.ne rfl (n143.ne rfl (n142.ne rfl (n137.ne rfl (n136.ne rfl (n135.ne rfl (n133.ne rfl (n132.ne rfl (n131.ne rfl (n128.ne rfl (n104.ne rfl (n103.ne rfl (n102.ne rfl (n101.ne rfl (n91.ne rfl (n90.ne rfl (n88.ne rfl (n85.ne rfl (n84.ne rfl (n83.ne rfl (n82.ne rfl (n81.ne rfl (n72.ne rfl (n71.ne rfl (n70.ne rfl (n67.ne rfl (n66.ne rfl (n65.ne rfl (n60.ne rfl s28I52))))))))))))))))))))))))))))))))))))))
      have e179 := n170.ne rfl (n169.ne rfl (n168.ne rfl (n164.ne rfl (n163.ne rfl (n161.ne rfl (n159.ne rfl (n148.ne rfl (n147.ne rfl (n146.ne rfl (n144.ne rfl (n143.ne rfl (n142.ne rfl (n137.ne rfl (n136.ne rfl (n135.ne rfl (n133.ne rfl (n132.ne rfl (n131.ne rfl (n128.ne rfl (n104.ne rfl (n103.ne rfl (n102.ne rfl (n101.ne rfl (n91.ne rfl (n90.ne rfl (n88.ne rfl (n85.ne rfl (n84.ne rfl (n83.ne rfl (n82.ne rfl (n81.ne rfl (n72.ne rfl (n71.ne rfl (n70.ne rfl (n67.ne rfl (n66.ne rfl (n65.ne rfl (n60.ne rfl s29I52))))))))))))))))))))))))))))))))))))))
      have e180 := n170.ne rfl (n169.ne rfl (n168.ne rfl (n164.ne rfl (n163.ne rfl (n161.ne rfl (n159.ne rfl (n148.ne rfl (n147.ne rfl (n146.ne rfl (n144.ne rfl (n143.ne rfl (n142.ne rfl (n137.ne rfl (n136.ne rfl (n135.ne rfl (n133.ne rfl (n132.ne rfl (n131.ne rfl (n128.ne rfl (n104.ne rfl (n103.ne rfl (n102.ne rfl (n101.ne rfl (n91.ne rfl (n90.ne rfl (n88.ne rfl (n85.ne rfl (n84.ne rfl (n83.ne rfl (n82.ne rfl (n81.ne rfl (n72.ne rfl (n71.ne rfl (n70.ne rfl (n67.ne rfl (n66.ne rfl (n65.ne rfl (n60.ne rfl s30I52))))))))))))))))))))))))))))))))))))))
      refine lp (fun (nL : Nat) (aL : Act) (wL : World) => ∃ i : Nat, nL = R2.length - i ∧ Ok 112 aL ∧ Gr w wL ∧ (aL.eval (.tmp 2) = .bool false) ∧ (aL.eval (.tmp 3) = .slice ra1 R1.length rc1) ∧ (aL.eval (.tmp 5) = .int .i64 (n : Int)) ∧ (aL.eval (.tmp 7) = .string (bs (idC j))) ∧ (aL.eval (.tmp 8) = .slice ra2 R2.length rc2) ∧ (aL.eval (.tmp 10) = .pointer (some ⟨b105, 0, none⟩)) ∧ (aL.eval (.tmp 28) = .slice (some ⟨b41, 0, none⟩) 3 3) ∧ (aL.eval (.tmp 29) = .int .i64 3) ∧ (aL.eval (.tmp 30) = .int .i64 (j : Int)) ∧ (aL.eval (.tmp 62) = .slice ra2 R2.length rc2) ∧ (aL.eval (.tmp 63) = .int .i64 ((R2.length : Nat) : Int)) ∧ (aL.eval (.tmp 64) = .int .i64 (i : Int)) ∧ (Bk wL b41 #[.string (bs [97]), .string (bs [98]), .string (bs [99])] 9) ∧ (Bk wL b105 #[.slice pa nV pc, .slice qa nM qc] 30) ∧ (Gr w14 wL) ∧ (Gr w20 wL) ∧ (Gr w73 wL) ∧ (Gr w92 wL) ∧ (i ≤ R2.length)) _ ⟨0, rfl, n170.ok, G151, e172, e173, e174, e175, e176, e177, e178, e179, e180, (n170.ne rfl (n169.ne rfl n168.at_)), (n170.ne rfl n169.at_), n170.at_, B152, B153, A154, A155, A156, A157, by omega⟩ ?_
      rintro m181 aI171 w183 ⟨i, hmI171, okI171, GI171, s2I171, s3I171, s5I171, s7I171, s8I171, s10I171, s28I171, s29I171, s30I171, s62I171, s63I171, s64I171, kb41I171, kb105I171, xanch17I171, xanch24I171, xanch79I171, xanch99I171, hiI171⟩ KI171 hKI171
      refine wp_seq_k (fun K184 hK184 => ?_)
      refine wp_region_lit ?_
      refine sv okI171 rfl (wn _ rfl) rfl (o_ltI s64I171 s63I171) (fun an185 n185 => ?_)
      refine wpList_nil ?_
      refine th_n (hK184 _ _ ?_)
      refine wp_seq_k (fun K186 hK186 => ?_)
      by_cases c187 : (i : Int) < ((R2.length : Nat) : Int)
      · refine wp_cond_true ((n185.at_).trans (congrArg Value.bool (decide_eq_true c187))) ?_
        refine wp_skip ?_
        refine th_n (hK186 _ _ ?_)
        refine wp_seq_k (fun K188 hK188 => ?_)
        refine wp_block ?_
        refine wp_seq_k (fun K189 hK189 => ?_)
        refine wp_region_lit ?_
        have h190l : i < List.length R2 := by omega
        obtain ⟨bh190, fh190, h190a, h190b, h190c⟩ := (hr2.gr xanch79I171) (ne_nil_of_lt h190l)
        obtain ⟨xh190, h190x⟩ : ∃ x, (R2)[i]? = some x := ⟨_, List.getElem?_eq_getElem h190l⟩
        refine sv n185.ok rfl (wn _ rfl) rfl (o_iaV (i := i) (s := 8) h190a (n185.ne rfl s62I171) (n185.ne rfl s64I171) Try.underlying22 (by kernel_rfl) h190l) (fun an191 n191 => ?_)
        refine sv n191.ok rfl (wn _ rfl) rfl (o_ldA (k := fh190 + i * 8) n191.at_ (cs := [.string (bs xh190.d.id), .int .i64 (xh190.d.s), .int .i64 (xh190.d.c), .int .i64 (xh190.d.t), .int .i64 (xh190.d.n), .int .i64 (xh190.d.b), .slice xh190.va xh190.d.V.length xh190.vc, .slice xh190.ma xh190.d.M.length xh190.mc]) (fun j v hv => (Below.cell (Gr.refl w183) h190b).trans (h190c _ _ h190x j v hv)) Try.underlying32 rfl (by kernel_rfl)) (fun an192 n192 => ?_)
        refine sal (cs := #[.string (bs []), .int .i64 0, .int .i64 0, .int .i64 0, .int .i64 0, .int .i64 0, .slice none 0 0, .slice none 0 0]) n192.ok rfl (wn _ rfl) rfl (o_al (z := .agg #[.string (bs []), .int .i64 0, .int .i64 0, .int .i64 0, .int .i64 0, .int .i64 0, .slice none 0 0, .slice none 0 0]) (by kernel_rfl)) (fun an193 w195 b194 W196 n193 => ?_)
        have l197 : b41 < b194 := by rw [W196.eq]; exact kb41I171.lt
        have l198 : b105 < b194 := by rw [W196.eq]; exact kb105I171.lt
        have l199 : w.heap.size ≤ b194 := by rw [W196.eq]; exact GI171.size
        have l200 : w14.heap.size ≤ b194 := by rw [W196.eq]; exact xanch17I171.size
        have l201 : w20.heap.size ≤ b194 := by rw [W196.eq]; exact xanch24I171.size
        have l202 : w73.heap.size ≤ b194 := by rw [W196.eq]; exact xanch79I171.size
        have l203 : w92.heap.size ≤ b194 := by rw [W196.eq]; exact xanch99I171.size
        have G204 := GI171.trans W196.gr
        have B205 := kb41I171.gr W196.gr
        have B206 := kb105I171.gr W196.gr
        have A207 := xanch17I171.trans W196.gr
        have A208 := xanch24I171.trans W196.gr
        have A209 := xanch79I171.trans W196.gr
        have A210 := xanch99I171.trans W196.gr
        refine ssR rfl (wn _ rfl) (o_stR n193.at_ (n193.ne rfl n192.at_) W196.bk (by kernel_rfl) rfl (by simp [Value.oneCell'])) W196.bk (fun w211 u212 u212b => ?_)
        have G213 : Gr w w211 := Below.upd G204 l199 u212
        have B214 := B205.upd u212 (Nat.ne_of_lt l197)
        have B215 := B206.upd u212 (Nat.ne_of_lt l198)
        have A216 : Gr w14 w211 := Below.upd A207 l200 u212
        have A217 : Gr w20 w211 := Below.upd A208 l201 u212
        have A218 : Gr w73 w211 := Below.upd A209 l202 u212
        have A219 : Gr w92 w211 := Below.upd A210 l203 u212
        refine wpList_nil ?_
        refine th_n (hK189 _ _ ?_)
        refine wp_seq_k (fun K220 hK220 => ?_)
        refine wp_region_lit ?_
        have e221 := n193.ne rfl (n192.ne rfl (n191.ne rfl (n185.ne rfl s10I171)))
        refine sv n193.ok rfl (wn _ rfl) rfl (o_ldR e221 B215 Try.underlying30 rfl (by kernel_rfl)) (fun an222 n222 => ?_)
        refine sv n222.ok rfl (wn _ rfl) rfl (o_fa (z := 2) (n222.ne rfl n193.at_) Try.underlying32 rfl (by kernel_rfl) rfl rfl) (fun an223 n223 => ?_)
        refine sv n223.ok rfl (wn _ rfl) rfl (o_ldA (k := 1) (cs := [.int .i64 (xh190.d.s), .int .i64 (xh190.d.c)]) n223.at_ (bk_part u212b rfl) Try.underlying24 rfl (by kernel_rfl)) (fun an224 n224 => ?_)
        refine sc n224.ok rfl (wn _ rfl) rfl (o_f2 Try.func40 rfl rfl rfl (n224.ne rfl (n223.ne rfl n222.at_)) n224.at_) (has_past _ (layL (RT.map VerI.d)) (idC j) xh190.d w211 hf (hkk.gr A219) (mem_get hR2 (List.mem_of_getElem? h190x)).1 (okS_dots hM1.ok _ (mem_get hR2 (List.mem_of_getElem? h190x)).2.1)) ?_
        rintro _ w226 ⟨rfl, g227⟩
        refine ⟨_, rfl, fun an225 n225 => ?_⟩
        have G228 := G213.trans g227
        have B229 := B214.gr g227
        have B230 := B215.gr g227
        have B231 := u212b.gr g227
        have A232 := A216.trans g227
        have A233 := A217.trans g227
        have A234 := A218.trans g227
        have A235 := A219.trans g227
        refine sv n225.ok rfl (wn _ rfl) rfl (o_mv n225.at_) (fun an236 n236 => ?_)
        refine sv n236.ok rfl (wn _ rfl) rfl (o_ex n236.at_ rfl) (fun an237 n237 => ?_)
        refine sv n237.ok rfl (wn _ rfl) rfl (o_ex (n237.ne rfl n236.at_) rfl) (fun an238 n238 => ?_)
        refine sv n238.ok rfl (wn _ rfl) rfl (o_as (n238.ne rfl n237.at_)) (fun an239 n239 => ?_)
        refine sv n239.ok rfl (wn _ rfl) rfl (o_as (n239.ne rfl n238.at_)) (fun an240 n240 => ?_)
        refine wpList_nil ?_
        refine th_n (hK220 _ _ ?_)
        refine wp_seq_k (fun K241 hK241 => ?_)
        refine wp_region_lit ?_
        have e242 := n240.ne rfl (n239.ne rfl (n238.ne rfl (n237.ne rfl (n236.ne rfl (n225.ne rfl (n224.ne rfl (n223.ne rfl (n222.ne rfl n193.at_))))))))
        refine sv n240.ok rfl (wn _ rfl) rfl (o_fa (z := 2) e242 Try.underlying32 rfl (by kernel_rfl) rfl rfl) (fun an243 n243 => ?_)
        refine sv n243.ok rfl (wn _ rfl) rfl (o_ldA (k := 6) (cs := [.slice xh190.va xh190.d.V.length xh190.vc, .slice xh190.ma xh190.d.M.length xh190.mc]) n243.at_ (bk_part B231 rfl) Try.underlying30 rfl (by kernel_rfl)) (fun an244 n244 => ?_)
        have e245 := n244.ne rfl (n243.ne rfl (n240.ne rfl (n239.ne rfl (n238.ne rfl (n237.ne rfl (n236.ne rfl (n225.ne rfl (n224.ne rfl (n223.ne rfl (n222.ne rfl e221))))))))))
        refine sv n244.ok rfl (wn _ rfl) rfl (o_ldR e245 B230 Try.underlying30 rfl (by kernel_rfl)) (fun an246 n246 => ?_)
        refine sc n246.ok rfl (wn _ rfl) rfl (o_f2 Try.func41 rfl rfl rfl (n246.ne rfl n244.at_) n246.at_) (within_past _ _ (layL (RT.map VerI.d)) (idC j) xh190.d w226 hf (hkk.gr A235) ((hm2.gr A234) _ (List.mem_of_getElem? h190x)) (mem_get hR2 (List.mem_of_getElem? h190x)).1 (chkOne_zero (hM1.ok.one _ (mem_get hR2 (List.mem_of_getElem? h190x)).2.1)).2.2.1) ?_
        rintro _ w248 ⟨rfl, g249⟩
        refine ⟨_, rfl, fun an247 n247 => ?_⟩
        have G250 := G228.trans g249
        have B251 := B229.gr g249
        have B252 := B230.gr g249
        have B253 := B231.gr g249
        have A254 := A232.trans g249
        have A255 := A233.trans g249
        have A256 := A234.trans g249
        have A257 := A235.trans g249
        refine sv n247.ok rfl (wn _ rfl) rfl (o_mv n247.at_) (fun an258 n258 => ?_)
        refine sv n258.ok rfl (wn _ rfl) rfl (o_ex n258.at_ rfl) (fun an259 n259 => ?_)
        refine sv n259.ok rfl (wn _ rfl) rfl (o_ex (n259.ne rfl n258.at_) rfl) (fun an260 n260 => ?_)
        refine sv n260.ok rfl (wn _ rfl) rfl (o_as (n260.ne rfl n259.at_)) (fun an261 n261 => ?_)
        refine sv n261.ok rfl (wn _ rfl) rfl (o_as (n261.ne rfl n260.at_)) (fun an262 n262 => ?_)
        refine wpList_nil ?_
        refine th_n (hK241 _ _ ?_)
        refine wp_seq_k (fun K263 hK263 => ?_)
        refine wp_region_lit ?_
        have e264 := n262.ne rfl (n261.ne rfl (n260.ne rfl (n259.ne rfl (n258.ne rfl (n247.ne rfl (n246.ne rfl (n244.ne rfl (n243.ne rfl n240.at_))))))))
        refine sv n262.ok rfl (wn _ rfl) rfl (o_mv e264) (fun an265 n265 => ?_)
        refine sv n265.ok rfl (wn _ rfl) rfl (o_neq (b := false) n265.at_ ev_const (by decide)) (fun an266 n266 => ?_)
        refine sv n266.ok rfl (wn _ rfl) rfl (o_mv n266.at_) (fun an267 n267 => ?_)
        have e268 := n267.ne rfl (n266.ne rfl (n265.ne rfl n262.at_))
        refine sv n267.ok rfl (wgT rfl (yl 2 false rfl n267.at_) rfl) rfl (o_mv e268) (fun an269 n269 => ?_)
        refine sv n269.ok rfl (wgT rfl (yl 2 false rfl (n269.ne rfl n267.at_)) rfl) rfl (o_neq (b := false) n269.at_ ev_const (by decide)) (fun an270 n270 => ?_)
        refine sv n270.ok rfl (wn _ rfl) rfl (o_pkF (n270.ne rfl (n269.ne rfl n267.at_)) n270.at_) (fun an271 n271 => ?_)
        refine sv n271.ok rfl (wn _ rfl) rfl (o_mv n271.at_) (fun an272 n272 => ?_)
        have e273 := n272.ne rfl (n271.ne rfl (n270.ne rfl (n269.ne rfl (n267.ne rfl (n266.ne rfl (n265.ne rfl (n262.ne rfl (n261.ne rfl (n260.ne rfl (n259.ne rfl (n258.ne rfl (n247.ne rfl (n246.ne rfl (n244.ne rfl (n243.ne rfl (n240.ne rfl n239.at_))))))))))))))))
        refine sv n272.ok rfl (wgT rfl (yl 6 false rfl n272.at_) rfl) rfl (o_mv e273) (fun an274 n274 => ?_)
        refine sv n274.ok rfl (wgT rfl (yl 6 false rfl (n274.ne rfl n272.at_)) rfl) rfl (o_not n274.at_ rfl) (fun an275 n275 => ?_)
        refine sv n275.ok rfl (wn _ rfl) rfl (o_pkF (n275.ne rfl (n274.ne rfl n272.at_)) n275.at_) (fun an276 n276 => ?_)
        refine sv n276.ok rfl (wn _ rfl) rfl (o_mv n276.at_) (fun an277 n277 => ?_)
        have e278 := n277.ne rfl (n276.ne rfl (n275.ne rfl (n274.ne rfl (n272.ne rfl (n271.ne rfl (n270.ne rfl (n269.ne rfl (n267.ne rfl (n266.ne rfl (n265.ne rfl (n262.ne rfl n261.at_)))))))))))
        refine sv n277.ok rfl (wgT rfl (yl 10 false rfl n277.at_) rfl) rfl (o_mv e278) (fun an279 n279 => ?_)
        refine sv n279.ok rfl (wgT rfl (yl 10 false rfl (n279.ne rfl n277.at_)) rfl) rfl (o_not n279.at_ rfl) (fun an280 n280 => ?_)
        refine sv n280.ok rfl (wn _ rfl) rfl (o_pkF (n280.ne rfl (n279.ne rfl n277.at_)) n280.at_) (fun an281 n281 => ?_)
        refine sv n281.ok rfl (wn _ rfl) rfl (o_mv n281.at_) (fun an282 n282 => ?_)
        have e283 := n282.ne rfl (n281.ne rfl (n280.ne rfl (n279.ne rfl (n277.ne rfl (n276.ne rfl (n275.ne rfl (n274.ne rfl (n272.ne rfl (n271.ne rfl (n270.ne rfl (n269.ne rfl (n267.ne rfl (n266.ne rfl (n265.ne rfl (n262.ne rfl (n261.ne rfl (n260.ne rfl (n259.ne rfl (n258.ne rfl (n247.ne rfl (n246.ne rfl (n244.ne rfl (n243.ne rfl e242)))))))))))))))))))))))
        refine sv n282.ok rfl (wgT rfl (yl 14 false rfl n282.at_) rfl) rfl (o_fa (z := 1) e283 Try.underlying32 rfl (by kernel_rfl) rfl rfl) (fun an284 n284 => ?_)
        refine sv n284.ok rfl (wgT rfl (yl 14 false rfl (n284.ne rfl n282.at_)) rfl) rfl (o_ld n284.at_ (Try.isAgg9 _) (B253.cell _ rfl)) (fun an285 n285 => ?_)
        have e286 := n285.ne rfl (n284.ne rfl (n282.ne rfl (n281.ne rfl (n280.ne rfl (n279.ne rfl (n277.ne rfl (n276.ne rfl (n275.ne rfl (n274.ne rfl (n272.ne rfl (n271.ne rfl (n270.ne rfl (n269.ne rfl (n267.ne rfl (n266.ne rfl (n265.ne rfl (n262.ne rfl (n261.ne rfl (n260.ne rfl (n259.ne rfl (n258.ne rfl (n247.ne rfl (n246.ne rfl (n244.ne rfl (n243.ne rfl (n240.ne rfl (n239.ne rfl (n238.ne rfl (n237.ne rfl (n236.ne rfl (n225.ne rfl (n224.ne rfl (n223.ne rfl (n222.ne rfl (n193.ne rfl (n192.ne rfl (n191.ne rfl (n185.ne rfl s7I171))))))))))))))))))))))))))))))))))))))
        refine sv n285.ok rfl (wgT rfl (yl 14 false rfl (n285.ne rfl (n284.ne rfl n282.at_))) rfl) rfl (o_mv e286) (fun an287 n287 => ?_)
        have e288 := n287.ne rfl (n285.ne rfl (n284.ne rfl n282.at_))
        refine sv n287.ok rfl (wgT rfl (yl 14 false rfl e288) rfl) rfl (o_neSF (n287.ne rfl n285.at_) n287.at_ (mem_get hR2 (List.mem_of_getElem? h190x)).2.2) (fun an289 n289 => ?_)
        refine sv n289.ok rfl (wn _ rfl) rfl (o_pkF (n289.ne rfl e288) n289.at_) (fun an290 n290 => ?_)
        refine wpList_nil ?_
        refine th_n (hK263 _ _ ?_)
        refine wp_cond_false (n290.at_) ?_
        refine wp_skip ?_
        refine ib_n ?_
        refine th_n (hK188 _ _ ?_)
        refine wp_region_lit ?_
        have e291 := n290.ne rfl (n289.ne rfl (n287.ne rfl (n285.ne rfl (n284.ne rfl (n282.ne rfl (n281.ne rfl (n280.ne rfl (n279.ne rfl (n277.ne rfl (n276.ne rfl (n275.ne rfl (n274.ne rfl (n272.ne rfl (n271.ne rfl (n270.ne rfl (n269.ne rfl (n267.ne rfl (n266.ne rfl (n265.ne rfl (n262.ne rfl (n261.ne rfl (n260.ne rfl (n259.ne rfl (n258.ne rfl (n247.ne rfl (n246.ne rfl (n244.ne rfl (n243.ne rfl (n240.ne rfl (n239.ne rfl (n238.ne rfl (n237.ne rfl (n236.ne rfl (n225.ne rfl (n224.ne rfl (n223.ne rfl (n222.ne rfl (n193.ne rfl (n192.ne rfl (n191.ne rfl (n185.ne rfl s64I171)))))))))))))))))))))))))))))))))))))))))
        refine sv n290.ok rfl (wn _ rfl) rfl (o_add (r := ((i + 1 : Nat) : Int)) e291 ev_const (by omega) (by omega)) (fun an292 n292 => ?_)
        refine sv n292.ok rfl (wn _ rfl) rfl (o_mv n292.at_) (fun an293 n293 => ?_)
        refine wpList_nil ?_
        have e294 := n293.ne rfl (n292.ne rfl (n290.ne rfl (n289.ne rfl (n287.ne rfl (n285.ne rfl (n284.ne rfl (n282.ne rfl (n281.ne rfl (n280.ne rfl (n279.ne rfl (n277.ne rfl (n276.ne rfl (n275.ne rfl (n274.ne rfl (n272.ne rfl (n271.ne rfl (n270.ne rfl (n269.ne rfl (n267.ne rfl (n266.ne rfl (n265.ne rfl (n262.ne rfl (n261.ne rfl (n260.ne rfl (n259.ne rfl (n258.ne rfl (n247.ne rfl (n246.ne rfl (n244.ne rfl (n243.ne rfl (n240.ne rfl (n239.ne rfl (n238.ne rfl (n237.ne rfl (n236.ne rfl (n225.ne rfl (n224.ne rfl (n223.ne rfl (n222.ne rfl (n193.ne rfl (n192.ne rfl (n191.ne rfl (n185.ne rfl s2I171)))))))))))))))))))))))))))))))))))))))))))
        have e295 := n293.ne rfl (n292.ne rfl (n290.ne rfl (n289.ne rfl (n287.ne rfl (n285.ne rfl (n284.ne rfl (n282.ne rfl (n281.ne rfl (n280.ne rfl (n279.ne rfl (n277.ne rfl (n276.ne rfl (n275.ne rfl (n274.ne rfl (n272.ne rfl (n271.ne rfl (n270.ne rfl (n269.ne rfl (n267.ne rfl (n266.ne rfl (n265.ne rfl (n262.ne rfl (n261.ne rfl (n260.ne rfl (n259.ne rfl (n258.ne rfl (n247.ne rfl (n246.ne rfl (n244.ne rfl (n243.ne rfl (n240.ne rfl (n239.ne rfl (n238.ne rfl (n237.ne rfl (n236.ne rfl (n225.ne rfl (n224.ne rfl (n223.ne rfl (n222.ne rfl (n193.ne rfl (n192.ne rfl (n191.ne rfl (n185.ne rfl s3I171)))))))))))))))))))))))))))))))))))))))))))
        have e296 := n293.ne rfl (n292.ne rfl (n290.ne rfl (n289.ne rfl (n287.ne rfl (n285.ne rfl (n284.ne rfl (n282.ne rfl (n281.ne rfl (n280.ne rfl (n279.ne rfl (n277.ne rfl (n276.ne rfl (n275.ne rfl (n274.ne rfl (n272.ne rfl (n271.ne rfl (n270.ne rfl (n269.ne rfl (n267.ne rfl (n266.ne rfl (n265.ne rfl (n262.ne rfl (n261.ne rfl (n260.ne rfl (n259.ne rfl (n258.ne rfl (n247.ne rfl (n246.ne rfl (n244.ne rfl (n243.ne rfl (n240.ne rfl (n239.ne rfl (n238.ne rfl (n237.ne rfl (n236.ne rfl (n225.ne rfl (n224.ne rfl (n223.ne rfl (n222.ne rfl (n193.ne rfl (n192.ne rfl (n191.ne rfl (n185.ne rfl s5I171)))))))))))))))))))))))))))))))))))))))))))
        have e297 := n293.ne rfl (n292.ne rfl (n290.ne rfl (n289.ne rfl (n287.ne rfl e286))))
        have e298 := n293.ne rfl (n292.ne rfl (n290.ne rfl (n289.ne rfl (n287.ne rfl (n285.ne rfl (n284.ne rfl (n282.ne rfl (n281.ne rfl (n280.ne rfl (n279.ne rfl (n277.ne rfl (n276.ne rfl (n275.ne rfl (n274.ne rfl (n272.ne rfl (n271.ne rfl (n270.ne rfl (n269.ne rfl (n267.ne rfl (n266.ne rfl (n265.ne rfl (n262.ne rfl (n261.ne rfl (n260.ne rfl (n259.ne rfl (n258.ne rfl (n247.ne rfl (n246.ne rfl (n244.ne rfl (n243.ne rfl (n240.ne rfl (n239.ne rfl (n238.ne rfl (n237.ne rfl (n236.ne rfl (n225.ne rfl (n224.ne rfl (n223.ne rfl (n222.ne rfl (n193.ne rfl (n192.ne rfl (n191.ne rfl (n185.ne rfl s8I171)))))))))))))))))))))))))))))))))))))))))))
        have e299 := n293.ne rfl (n292.ne rfl (n290.ne rfl (n289.ne rfl (n287.ne rfl (n285.ne rfl (n284.ne rfl (n282.ne rfl (n281.ne rfl (n280.ne rfl (n279.ne rfl (n277.ne rfl (n276.ne rfl (n275.ne rfl (n274.ne rfl (n272.ne rfl (n271.ne rfl (n270.ne rfl (n269.ne rfl (n267.ne rfl (n266.ne rfl (n265.ne rfl (n262.ne rfl (n261.ne rfl (n260.ne rfl (n259.ne rfl (n258.ne rfl (n247.ne rfl (n246.ne rfl e245))))))))))))))))))))))))))))
        have e300 := n293.ne rfl (n292.ne rfl (n290.ne rfl (n289.ne rfl (n287.ne rfl (n285.ne rfl (n284.ne rfl (n282.ne rfl (n281.ne rfl (n280.ne rfl (n279.ne rfl (n277.ne rfl (n276.ne rfl (n275.ne rfl (n274.ne rfl (n272.ne rfl (n271.ne rfl (n270.ne rfl (n269.ne rfl (n267.ne rfl (n266.ne rfl (n265.ne rfl (n262.ne rfl (n261.ne rfl (n260.ne rfl (n259.ne rfl (n258.ne rfl (n247.ne rfl (n246.ne rfl (n244.ne rfl (n243.ne rfl (n240.ne rfl (n239.ne rfl (n238.ne rfl (n237.ne rfl (n236.ne rfl (n225.ne rfl (n224.ne rfl (n223.ne rfl (n222.ne rfl (n193.ne rfl (n192.ne rfl (n191.ne rfl (n185.ne rfl s28I171)))))))))))))))))))))))))))))))))))))))))))
        have e301 := n293.ne rfl (n292.ne rfl (n290.ne rfl (n289.ne rfl (n287.ne rfl (n285.ne rfl (n284.ne rfl (n282.ne rfl (n281.ne rfl (n280.ne rfl (n279.ne rfl (n277.ne rfl (n276.ne rfl (n275.ne rfl (n274.ne rfl (n272.ne rfl (n271.ne rfl (n270.ne rfl (n269.ne rfl (n267.ne rfl (n266.ne rfl (n265.ne rfl (n262.ne rfl (n261.ne rfl (n260.ne rfl (n259.ne rfl (n258.ne rfl (n247.ne rfl (n246.ne rfl (n244.ne rfl (n243.ne rfl (n240.ne rfl (n239.ne rfl (n238.ne rfl (n237.ne rfl (n236.ne rfl (n225.ne rfl (n224.ne rfl (n223.ne rfl (n222.ne rfl (n193.ne rfl (n192.ne rfl (n191.ne rfl (n185.ne rfl s29I171)))))))))))))))))))))))))))))))))))))))))))
        have e302 := n293.ne rfl (n292.ne rfl (n290.ne rfl (n289.ne rfl (n287.ne rfl (n285.ne rfl (n284.ne rfl (n282.ne rfl (n281.ne rfl (n280.ne rfl (n279.ne rfl (n277.ne rfl (n276.ne rfl (n275.ne rfl (n274.ne rfl (n272.ne rfl (n271.ne rfl (n270.ne rfl (n269.ne rfl (n267.ne rfl (n266.ne rfl (n265.ne rfl (n262.ne rfl (n261.ne rfl (n260.ne rfl (n259.ne rfl (n258.ne rfl (n247.ne rfl (n246.ne rfl (n244.ne rfl (n243.ne rfl (n240.ne rfl (n239.ne rfl (n238.ne rfl (n237.ne rfl (n236.ne rfl (n225.ne rfl (n224.ne rfl (n223.ne rfl (n222.ne rfl (n193.ne rfl (n192.ne rfl (n191.ne rfl (n185.ne rfl s30I171)))))))))))))))))))))))))))))))))))))))))))
        have e303 := n293.ne rfl (n292.ne rfl (n290.ne rfl (n289.ne rfl (n287.ne rfl (n285.ne rfl (n284.ne rfl (n282.ne rfl (n281.ne rfl (n280.ne rfl (n279.ne rfl (n277.ne rfl (n276.ne rfl (n275.ne rfl (n274.ne rfl (n272.ne rfl (n271.ne rfl (n270.ne rfl (n269.ne rfl (n267.ne rfl (n266.ne rfl (n265.ne rfl (n262.ne rfl (n261.ne rfl (n260.ne rfl (n259.ne rfl (n258.ne rfl (n247.ne rfl (n246.ne rfl (n244.ne rfl (n243.ne rfl (n240.ne rfl (n239.ne rfl (n238.ne rfl (n237.ne rfl (n236.ne rfl (n225.ne rfl (n224.ne rfl (n223.ne rfl (n222.ne rfl (n193.ne rfl (n192.ne rfl (n191.ne rfl (n185.ne rfl s62I171)))))))))))))))))))))))))))))))))))))))))))
        have e304 := n293.ne rfl (n292.ne rfl (n290.ne rfl (n289.ne rfl (n287.ne rfl (n285.ne rfl (n284.ne rfl (n282.ne rfl (n281.ne rfl (n280.ne rfl (n279.ne rfl (n277.ne rfl (n276.ne rfl (n275.ne rfl (n274.ne rfl (n272.ne rfl (n271.ne rfl (n270.ne rfl (n269.ne rfl (n267.ne rfl (n266.ne rfl (n265.ne rfl (n262.ne rfl (n261.ne rfl (n260.ne rfl (n259.ne rfl (n258.ne rfl (n247.ne rfl (n246.ne rfl (n244.ne rfl (n243.ne rfl (n240.ne rfl (n239.ne rfl (n238.ne rfl (n237.ne rfl (n236.ne rfl (n225.ne rfl (n224.ne rfl (n223.ne rfl (n222.ne rfl (n193.ne rfl (n192.ne rfl (n191.ne rfl (n185.ne rfl s63I171)))))))))))))))))))))))))))))))))))))))))))
        exact th_n (hKI171 _ _ _ (by omega) ⟨i + 1, rfl, n293.ok, G250, e294, e295, e296, e297, e298, e299, e300, e301, e302, e303, e304, n293.at_, B251, B252, A254, A255, A256, A257, by omega⟩)
      · refine wp_cond_false ((n185.at_).trans (congrArg Value.bool (decide_eq_false c187))) ?_
        refine wp_exit ?_
        refine th_x ?_
        refine th_x ?_
        refine ib_x ?_
        refine th_n (hK165 _ _ ?_)
        refine wp_region_lit ?_
        refine sv n185.ok rfl (wn _ rfl) rfl (o_mv (n185.ne rfl s5I171)) (fun an305 n305 => ?_)
        refine sv n305.ok rfl (wn _ rfl) rfl (o_mv (n305.ne rfl (n185.ne rfl s8I171))) (fun an306 n306 => ?_)
        refine sv n306.ok rfl (wn _ rfl) rfl (o_len n306.at_ Try.underlying22) (fun an307 n307 => ?_)
        refine sv n307.ok rfl (wn _ rfl) rfl (o_add (r := ((n + R2.length : Nat) : Int)) (n307.ne rfl (n306.ne rfl n305.at_)) n307.at_ (by omega) (by omega)) (fun an308 n308 => ?_)
        refine sv n308.ok rfl (wn _ rfl) rfl (o_as n308.at_) (fun an309 n309 => ?_)
        refine wpList_nil ?_
        refine ib_n ?_
        refine th_n (hK63 _ _ ?_)
        refine wp_region_lit ?_
        have e310 := n309.ne rfl (n308.ne rfl (n307.ne rfl (n306.ne rfl (n305.ne rfl (n185.ne rfl s30I171)))))
        refine sv n309.ok rfl (wn _ rfl) rfl (o_add (r := ((j + 1 : Nat) : Int)) e310 ev_const (by omega) (by omega)) (fun an311 n311 => ?_)
        refine sv n311.ok rfl (wn _ rfl) rfl (o_mv n311.at_) (fun an312 n312 => ?_)
        refine wpList_nil ?_
        have e313 := n312.ne rfl (n311.ne rfl (n309.ne rfl (n308.ne rfl (n307.ne rfl (n306.ne rfl (n305.ne rfl (n185.ne rfl s2I171)))))))
        have e314 := n312.ne rfl (n311.ne rfl (n309.ne rfl (n308.ne rfl (n307.ne rfl (n306.ne rfl (n305.ne rfl (n185.ne rfl s3I171)))))))
        have e315 := n312.ne rfl (n311.ne rfl (n309.ne rfl (n308.ne rfl (n307.ne rfl (n306.ne rfl (n305.ne rfl (n185.ne rfl s28I171)))))))
        have e316 := n312.ne rfl (n311.ne rfl (n309.ne rfl (n308.ne rfl (n307.ne rfl (n306.ne rfl (n305.ne rfl (n185.ne rfl s29I171)))))))
        exact th_n (hKI52 _ _ _ (by omega) ⟨j + 1, n + R2.length, rfl, n312.ok, GI171, e313, e314, (n312.ne rfl (n311.ne rfl n309.at_)), e315, e316, n312.at_, kb41I171, xanch17I171, xanch24I171, by omega, by show _ = sumG _ j + _; rw [hnI52, hl2.2], by omega⟩)
    · have e317 := (n137.at_).trans (congrArg Value.bool (decide_eq_false c138))
      have e318 := ((n137.ne rfl n136.at_)).trans (congrArg Value.bool (decide_eq_false c138))
      refine sn n137.ok rfl (wgF rfl (yl 5 false rfl e317) rfl) rfl (fun an319 n319 => ?_)
      refine sn n319.ok rfl (wgF rfl (yl 5 false rfl (n319.ne rfl e317)) rfl) rfl (fun an320 n320 => ?_)
      refine sn n320.ok rfl (wgF rfl (yl 5 false rfl (n320.ne rfl (n319.ne rfl e317))) rfl) rfl (fun an321 n321 => ?_)
      refine sn n321.ok rfl (wgU rfl (yu 8 rfl n321.at_)) rfl (fun an322 n322 => ?_)
      refine sn n322.ok rfl (wgU rfl (yu 8 rfl (n322.ne rfl n321.at_))) rfl (fun an323 n323 => ?_)
      refine sn n323.ok rfl (wgU rfl (yu 8 rfl (n323.ne rfl (n322.ne rfl n321.at_)))) rfl (fun an324 n324 => ?_)
      have e325 := n324.ne rfl (n323.ne rfl (n322.ne rfl n321.at_))
      refine sn n324.ok rfl (wgU rfl (yu 8 rfl e325)) rfl (fun an326 n326 => ?_)
      have e327 := n326.ne rfl (n324.ne rfl (n323.ne rfl (n322.ne rfl (n321.ne rfl (n320.ne rfl (n319.ne rfl e317))))))
      refine sn n326.ok rfl (wgF rfl (yl 5 false rfl e327) rfl) rfl (fun an328 n328 => ?_)
      have e329 := n328.ne rfl (n326.ne rfl (n324.ne rfl (n323.ne rfl (n322.ne rfl (n321.ne rfl (n320.ne rfl (n319.ne rfl (n137.ne rfl (n136.ne rfl (n135.ne rfl n133.at_))))))))))
      refine sv n328.ok rfl (wgT rfl (yl 2 false rfl e329) rfl) rfl (o_pkF (n328.ne rfl e327) ev_const) (fun an330 n330 => ?_)
      refine sv n330.ok rfl (wn _ rfl) rfl (o_pkF (n330.ne rfl e329) n330.at_) (fun an331 n331 => ?_)
      refine wpList_nil ?_
      refine th_n (hK130 _ _ ?_)
      refine wp_cond_false (n331.at_) ?_
      refine wp_skip ?_
      refine th_n (hK129 _ _ ?_)
      refine wp_seq_k (fun K332 hK332 => ?_)
      refine wp_seq_k (fun K333 hK333 => ?_)
      refine wp_region_lit ?_
      have e334 := n331.ne rfl (n330.ne rfl (n328.ne rfl (n326.ne rfl (n324.ne rfl (n323.ne rfl (n322.ne rfl (n321.ne rfl (n320.ne rfl (n319.ne rfl (n137.ne rfl (n136.ne rfl (n135.ne rfl (n133.ne rfl (n132.ne rfl (n131.ne rfl (n128.ne rfl (n104.ne rfl (n103.ne rfl (n102.ne rfl (n101.ne rfl (n91.ne rfl (n90.ne rfl (n88.ne rfl (n85.ne rfl n84.at_))))))))))))))))))))))))
      refine sv n331.ok rfl (wn _ rfl) rfl (o_mv e334) (fun an335 n335 => ?_)
      refine sv n335.ok rfl (wn _ rfl) rfl (o_len n335.at_ Try.underlying22) (fun an336 n336 => ?_)
      refine sv n336.ok rfl (wn _ rfl) rfl (o_mv ev_const) (fun an337 n337 => ?_)
      refine wpList_nil ?_
      refine th_n (hK333 _ _ ?_)
      refine wp_block ?_
      have e339 := n337.ne rfl (n336.ne rfl (n335.ne rfl (n331.ne rfl (n330.ne rfl (n328.ne rfl (n326.ne rfl (n324.ne rfl (n323.ne rfl (n322.ne rfl (n321.ne rfl (n320.ne rfl (n319.ne rfl (n137.ne rfl (n136.ne rfl (n135.ne rfl (n133.ne rfl (n132.ne rfl (n131.ne rfl (n128.ne rfl (n104.ne rfl (n103.ne rfl (n102.ne rfl (n101.ne rfl (n91.ne rfl (n90.ne rfl (n88.ne rfl (n85.ne rfl (n84.ne rfl (n83.ne rfl (n82.ne rfl (n81.ne rfl (n72.ne rfl (n71.ne rfl (n70.ne rfl (n67.ne rfl (n66.ne rfl (n65.ne rfl (n60.ne rfl s2I52))))))))))))))))))))))))))))))))))))))
      have e340 := n337.ne rfl (n336.ne rfl (n335.ne rfl (n331.ne rfl (n330.ne rfl (n328.ne rfl (n326.ne rfl (n324.ne rfl (n323.ne rfl (n322.ne rfl (n321.ne rfl (n320.ne rfl (n319.ne rfl (n137.ne rfl (n136.ne rfl (n135.ne rfl (n133.ne rfl (n132.ne rfl (n131.ne rfl (n128.ne rfl (n104.ne rfl (n103.ne rfl (n102.ne rfl (n101.ne rfl (n91.ne rfl (n90.ne rfl (n88.ne rfl e87))))))))))))))))))))))))))
      have e341 := n337.ne rfl (n336.ne rfl (n335.ne rfl (n331.ne rfl (n330.ne rfl (n328.ne rfl (n326.ne rfl (n324.ne rfl (n323.ne rfl (n322.ne rfl (n321.ne rfl (n320.ne rfl (n319.ne rfl (n137.ne rfl (n136.ne rfl (n135.ne rfl (n133.ne rfl (n132.ne rfl (n131.ne rfl (n128.ne rfl (n104.ne rfl (n103.ne rfl (n102.ne rfl (n101.ne rfl (n91.ne rfl (n90.ne rfl (n88.ne rfl (n85.ne rfl (n84.ne rfl (n83.ne rfl (n82.ne rfl (n81.ne rfl (n72.ne rfl (n71.ne rfl (n70.ne rfl (n67.ne rfl (n66.ne rfl (n65.ne rfl (n60.ne rfl s5I52))))))))))))))))))))))))))))))))))))))
      have e342 := n337.ne rfl (n336.ne rfl (n335.ne rfl (n331.ne rfl (n330.ne rfl (n328.ne rfl (n326.ne rfl (n324.ne rfl (n323.ne rfl (n322.ne rfl (n321.ne rfl (n320.ne rfl (n319.ne rfl (n137.ne rfl (n136.ne rfl (n135.ne rfl (n133.ne rfl (n132.ne rfl (n131.ne rfl (n128.ne rfl (n104.ne rfl (n103.ne rfl (n102.ne rfl (n101.ne rfl (n91.ne rfl (n90.ne rfl e89)))))))))))))))))))))))))
      have e343 := n337.ne rfl (n336.ne rfl (n335.ne rfl e334))
      have e344 := n337.ne rfl (n336.ne rfl (n335.ne rfl (n331.ne rfl (n330.ne rfl (n328.ne rfl (n326.ne rfl (n324.ne rfl (n323.ne rfl (n322.ne rfl (n321.ne rfl (n320.ne rfl (n319.ne rfl (n137.ne rfl (n136.ne rfl (n135.ne rfl (n133.ne rfl (n132.ne rfl (n131.ne rfl (n128.ne rfl n104.at_)))))))))))))))))))
      have e345 := n337.ne rfl (n336.ne rfl (n335.ne rfl (n331.ne rfl (n330.ne rfl (n328.ne rfl (n326.ne rfl (n324.ne rfl (n323.ne rfl (n322.ne rfl (n321.ne rfl (n320.ne rfl (n319.ne rfl (n137.ne rfl (n136.ne rfl (n135.ne rfl (n133.ne rfl (n132.ne rfl (n131.ne rfl (n128.ne rfl (n104.ne rfl (n103.ne rfl (n102.ne rfl (n101.ne rfl (n91.ne rfl (n90.ne rfl (n88.ne rfl (n85.ne rfl (n84.ne rfl (n83.ne rfl (n82.ne rfl (n81.ne rfl (n72.ne rfl (n71.ne rfl (n70.ne rfl (n67.ne rfl (n66.ne rfl (n65.ne rfl (n60.ne rfl s28I52))))))))))))))))))))))))))))))))))))))
      have e346 := n337.ne rfl (n336.ne rfl (n335.ne rfl (n331.ne rfl (n330.ne rfl (n328.ne rfl (n326.ne rfl (n324.ne rfl (n323.ne rfl (n322.ne rfl (n321.ne rfl (n320.ne rfl (n319.ne rfl (n137.ne rfl (n136.ne rfl (n135.ne rfl (n133.ne rfl (n132.ne rfl (n131.ne rfl (n128.ne rfl (n104.ne rfl (n103.ne rfl (n102.ne rfl (n101.ne rfl (n91.ne rfl (n90.ne rfl (n88.ne rfl (n85.ne rfl (n84.ne rfl (n83.ne rfl (n82.ne rfl (n81.ne rfl (n72.ne rfl (n71.ne rfl (n70.ne rfl (n67.ne rfl (n66.ne rfl (n65.ne rfl (n60.ne rfl s29I52))))))))))))))))))))))))))))))))))))))
      have e347 := n337.ne rfl (n336.ne rfl (n335.ne rfl (n331.ne rfl (n330.ne rfl (n328.ne rfl (n326.ne rfl (n324.ne rfl (n323.ne rfl (n322.ne rfl (n321.ne rfl (n320.ne rfl (n319.ne rfl (n137.ne rfl (n136.ne rfl (n135.ne rfl (n133.ne rfl (n132.ne rfl (n131.ne rfl (n128.ne rfl (n104.ne rfl (n103.ne rfl (n102.ne rfl (n101.ne rfl (n91.ne rfl (n90.ne rfl (n88.ne rfl (n85.ne rfl (n84.ne rfl (n83.ne rfl (n82.ne rfl (n81.ne rfl (n72.ne rfl (n71.ne rfl (n70.ne rfl (n67.ne rfl (n66.ne rfl (n65.ne rfl (n60.ne rfl s30I52))))))))))))))))))))))))))))))))))))))
      refine lp (fun (nL : Nat) (aL : Act) (wL : World) => ∃ i : Nat, nL = R2.length - i ∧ Ok 112 aL ∧ Gr w wL ∧ (aL.eval (.tmp 2) = .bool false) ∧ (aL.eval (.tmp 3) = .slice ra1 R1.length rc1) ∧ (aL.eval (.tmp 5) = .int .i64 (n : Int)) ∧ (aL.eval (.tmp 7) = .string (bs (idC j))) ∧ (aL.eval (.tmp 8) = .slice ra2 R2.length rc2) ∧ (aL.eval (.tmp 10) = .pointer (some ⟨b105, 0, none⟩)) ∧ (aL.eval (.tmp 28) = .slice (some ⟨b41, 0, none⟩) 3 3) ∧ (aL.eval (.tmp 29) = .int .i64 3) ∧ (aL.eval (.tmp 30) = .int .i64 (j : Int)) ∧ (aL.eval (.tmp 62) = .slice ra2 R2.length rc2) ∧ (aL.eval (.tmp 63) = .int .i64 ((R2.length : Nat) : Int)) ∧ (aL.eval (.tmp 64) = .int .i64 (i : Int)) ∧ (Bk wL b41 #[.string (bs [97]), .string (bs [98]), .string (bs [99])] 9) ∧ (Bk wL b105 #[.slice pa nV pc, .slice qa nM qc] 30) ∧ (Gr w14 wL) ∧ (Gr w20 wL) ∧ (Gr w73 wL) ∧ (Gr w92 wL) ∧ (i ≤ R2.length)) _ ⟨0, rfl, n337.ok, G122, e339, e340, e341, e342, e343, e344, e345, e346, e347, (n337.ne rfl (n336.ne rfl n335.at_)), (n337.ne rfl n336.at_), n337.at_, B123, u121b, A124, A125, A126, A127, by omega⟩ ?_
      rintro m348 aI338 w350 ⟨i, hmI338, okI338, GI338, s2I338, s3I338, s5I338, s7I338, s8I338, s10I338, s28I338, s29I338, s30I338, s62I338, s63I338, s64I338, kb41I338, kb105I338, xanch17I338, xanch24I338, xanch79I338, xanch99I338, hiI338⟩ KI338 hKI338
      refine wp_seq_k (fun K351 hK351 => ?_)
      refine wp_region_lit ?_
      refine sv okI338 rfl (wn _ rfl) rfl (o_ltI s64I338 s63I338) (fun an352 n352 => ?_)
      refine wpList_nil ?_
      refine th_n (hK351 _ _ ?_)
      refine wp_seq_k (fun K353 hK353 => ?_)
      by_cases c354 : (i : Int) < ((R2.length : Nat) : Int)
      · refine wp_cond_true ((n352.at_).trans (congrArg Value.bool (decide_eq_true c354))) ?_
        refine wp_skip ?_
        refine th_n (hK353 _ _ ?_)
        refine wp_seq_k (fun K355 hK355 => ?_)
        refine wp_block ?_
        refine wp_seq_k (fun K356 hK356 => ?_)
        refine wp_region_lit ?_
        have h357l : i < List.length R2 := by omega
        obtain ⟨bh357, fh357, h357a, h357b, h357c⟩ := (hr2.gr xanch79I338) (ne_nil_of_lt h357l)
        obtain ⟨xh357, h357x⟩ : ∃ x, (R2)[i]? = some x := ⟨_, List.getElem?_eq_getElem h357l⟩
        refine sv n352.ok rfl (wn _ rfl) rfl (o_iaV (i := i) (s := 8) h357a (n352.ne rfl s62I338) (n352.ne rfl s64I338) Try.underlying22 (by kernel_rfl) h357l) (fun an358 n358 => ?_)
        refine sv n358.ok rfl (wn _ rfl) rfl (o_ldA (k := fh357 + i * 8) n358.at_ (cs := [.string (bs xh357.d.id), .int .i64 (xh357.d.s), .int .i64 (xh357.d.c), .int .i64 (xh357.d.t), .int .i64 (xh357.d.n), .int .i64 (xh357.d.b), .slice xh357.va xh357.d.V.length xh357.vc, .slice xh357.ma xh357.d.M.length xh357.mc]) (fun j v hv => (Below.cell (Gr.refl w350) h357b).trans (h357c _ _ h357x j v hv)) Try.underlying32 rfl (by kernel_rfl)) (fun an359 n359 => ?_)
        refine sal (cs := #[.string (bs []), .int .i64 0, .int .i64 0, .int .i64 0, .int .i64 0, .int .i64 0, .slice none 0 0, .slice none 0 0]) n359.ok rfl (wn _ rfl) rfl (o_al (z := .agg #[.string (bs []), .int .i64 0, .int .i64 0, .int .i64 0, .int .i64 0, .int .i64 0, .slice none 0 0, .slice none 0 0]) (by kernel_rfl)) (fun an360 w362 b361 W363 n360 => ?_)
        have l364 : b41 < b361 := by rw [W363.eq]; exact kb41I338.lt
        have l365 : b105 < b361 := by rw [W363.eq]; exact kb105I338.lt
        have l366 : w.heap.size ≤ b361 := by rw [W363.eq]; exact GI338.size
        have l367 : w14.heap.size ≤ b361 := by rw [W363.eq]; exact xanch17I338.size
        have l368 : w20.heap.size ≤ b361 := by rw [W363.eq]; exact xanch24I338.size
        have l369 : w73.heap.size ≤ b361 := by rw [W363.eq]; exact xanch79I338.size
        have l370 : w92.heap.size ≤ b361 := by rw [W363.eq]; exact xanch99I338.size
        have G371 := GI338.trans W363.gr
        have B372 := kb41I338.gr W363.gr
        have B373 := kb105I338.gr W363.gr
        have A374 := xanch17I338.trans W363.gr
        have A375 := xanch24I338.trans W363.gr
        have A376 := xanch79I338.trans W363.gr
        have A377 := xanch99I338.trans W363.gr
        refine ssR rfl (wn _ rfl) (o_stR n360.at_ (n360.ne rfl n359.at_) W363.bk (by kernel_rfl) rfl (by simp [Value.oneCell'])) W363.bk (fun w378 u379 u379b => ?_)
        have G380 : Gr w w378 := Below.upd G371 l366 u379
        have B381 := B372.upd u379 (Nat.ne_of_lt l364)
        have B382 := B373.upd u379 (Nat.ne_of_lt l365)
        have A383 : Gr w14 w378 := Below.upd A374 l367 u379
        have A384 : Gr w20 w378 := Below.upd A375 l368 u379
        have A385 : Gr w73 w378 := Below.upd A376 l369 u379
        have A386 : Gr w92 w378 := Below.upd A377 l370 u379
        refine wpList_nil ?_
        refine th_n (hK356 _ _ ?_)
        refine wp_seq_k (fun K387 hK387 => ?_)
        refine wp_region_lit ?_
        have e388 := n360.ne rfl (n359.ne rfl (n358.ne rfl (n352.ne rfl s10I338)))
        refine sv n360.ok rfl (wn _ rfl) rfl (o_ldR e388 B382 Try.underlying30 rfl (by kernel_rfl)) (fun an389 n389 => ?_)
        refine sv n389.ok rfl (wn _ rfl) rfl (o_fa (z := 2) (n389.ne rfl n360.at_) Try.underlying32 rfl (by kernel_rfl) rfl rfl) (fun an390 n390 => ?_)
        refine sv n390.ok rfl (wn _ rfl) rfl (o_ldA (k := 1) (cs := [.int .i64 (xh357.d.s), .int .i64 (xh357.d.c)]) n390.at_ (bk_part u379b rfl) Try.underlying24 rfl (by kernel_rfl)) (fun an391 n391 => ?_)
        refine sc n391.ok rfl (wn _ rfl) rfl (o_f2 Try.func40 rfl rfl rfl (n391.ne rfl (n390.ne rfl n389.at_)) n391.at_) (has_past _ (layL (RT.map VerI.d)) (idC j) xh357.d w378 hf (hkk.gr A386) (mem_get hR2 (List.mem_of_getElem? h357x)).1 (okS_dots hM1.ok _ (mem_get hR2 (List.mem_of_getElem? h357x)).2.1)) ?_
        rintro _ w393 ⟨rfl, g394⟩
        refine ⟨_, rfl, fun an392 n392 => ?_⟩
        have G395 := G380.trans g394
        have B396 := B381.gr g394
        have B397 := B382.gr g394
        have B398 := u379b.gr g394
        have A399 := A383.trans g394
        have A400 := A384.trans g394
        have A401 := A385.trans g394
        have A402 := A386.trans g394
        refine sv n392.ok rfl (wn _ rfl) rfl (o_mv n392.at_) (fun an403 n403 => ?_)
        refine sv n403.ok rfl (wn _ rfl) rfl (o_ex n403.at_ rfl) (fun an404 n404 => ?_)
        refine sv n404.ok rfl (wn _ rfl) rfl (o_ex (n404.ne rfl n403.at_) rfl) (fun an405 n405 => ?_)
        refine sv n405.ok rfl (wn _ rfl) rfl (o_as (n405.ne rfl n404.at_)) (fun an406 n406 => ?_)
        refine sv n406.ok rfl (wn _ rfl) rfl (o_as (n406.ne rfl n405.at_)) (fun an407 n407 => ?_)
        refine wpList_nil ?_
        refine th_n (hK387 _ _ ?_)
        refine wp_seq_k (fun K408 hK408 => ?_)
        refine wp_region_lit ?_
        have e409 := n407.ne rfl (n406.ne rfl (n405.ne rfl (n404.ne rfl (n403.ne rfl (n392.ne rfl (n391.ne rfl (n390.ne rfl (n389.ne rfl n360.at_))))))))
        refine sv n407.ok rfl (wn _ rfl) rfl (o_fa (z := 2) e409 Try.underlying32 rfl (by kernel_rfl) rfl rfl) (fun an410 n410 => ?_)
        refine sv n410.ok rfl (wn _ rfl) rfl (o_ldA (k := 6) (cs := [.slice xh357.va xh357.d.V.length xh357.vc, .slice xh357.ma xh357.d.M.length xh357.mc]) n410.at_ (bk_part B398 rfl) Try.underlying30 rfl (by kernel_rfl)) (fun an411 n411 => ?_)
        have e412 := n411.ne rfl (n410.ne rfl (n407.ne rfl (n406.ne rfl (n405.ne rfl (n404.ne rfl (n403.ne rfl (n392.ne rfl (n391.ne rfl (n390.ne rfl (n389.ne rfl e388))))))))))
        refine sv n411.ok rfl (wn _ rfl) rfl (o_ldR e412 B397 Try.underlying30 rfl (by kernel_rfl)) (fun an413 n413 => ?_)
        refine sc n413.ok rfl (wn _ rfl) rfl (o_f2 Try.func41 rfl rfl rfl (n413.ne rfl n411.at_) n413.at_) (within_past _ _ (layL (RT.map VerI.d)) (idC j) xh357.d w393 hf (hkk.gr A402) ((hm2.gr A401) _ (List.mem_of_getElem? h357x)) (mem_get hR2 (List.mem_of_getElem? h357x)).1 (chkOne_zero (hM1.ok.one _ (mem_get hR2 (List.mem_of_getElem? h357x)).2.1)).2.2.1) ?_
        rintro _ w415 ⟨rfl, g416⟩
        refine ⟨_, rfl, fun an414 n414 => ?_⟩
        have G417 := G395.trans g416
        have B418 := B396.gr g416
        have B419 := B397.gr g416
        have B420 := B398.gr g416
        have A421 := A399.trans g416
        have A422 := A400.trans g416
        have A423 := A401.trans g416
        have A424 := A402.trans g416
        refine sv n414.ok rfl (wn _ rfl) rfl (o_mv n414.at_) (fun an425 n425 => ?_)
        refine sv n425.ok rfl (wn _ rfl) rfl (o_ex n425.at_ rfl) (fun an426 n426 => ?_)
        refine sv n426.ok rfl (wn _ rfl) rfl (o_ex (n426.ne rfl n425.at_) rfl) (fun an427 n427 => ?_)
        refine sv n427.ok rfl (wn _ rfl) rfl (o_as (n427.ne rfl n426.at_)) (fun an428 n428 => ?_)
        refine sv n428.ok rfl (wn _ rfl) rfl (o_as (n428.ne rfl n427.at_)) (fun an429 n429 => ?_)
        refine wpList_nil ?_
        refine th_n (hK408 _ _ ?_)
        refine wp_seq_k (fun K430 hK430 => ?_)
        refine wp_region_lit ?_
        have e431 := n429.ne rfl (n428.ne rfl (n427.ne rfl (n426.ne rfl (n425.ne rfl (n414.ne rfl (n413.ne rfl (n411.ne rfl (n410.ne rfl n407.at_))))))))
        refine sv n429.ok rfl (wn _ rfl) rfl (o_mv e431) (fun an432 n432 => ?_)
        refine sv n432.ok rfl (wn _ rfl) rfl (o_neq (b := false) n432.at_ ev_const (by decide)) (fun an433 n433 => ?_)
        refine sv n433.ok rfl (wn _ rfl) rfl (o_mv n433.at_) (fun an434 n434 => ?_)
        have e435 := n434.ne rfl (n433.ne rfl (n432.ne rfl n429.at_))
        refine sv n434.ok rfl (wgT rfl (yl 2 false rfl n434.at_) rfl) rfl (o_mv e435) (fun an436 n436 => ?_)
        refine sv n436.ok rfl (wgT rfl (yl 2 false rfl (n436.ne rfl n434.at_)) rfl) rfl (o_neq (b := false) n436.at_ ev_const (by decide)) (fun an437 n437 => ?_)
        refine sv n437.ok rfl (wn _ rfl) rfl (o_pkF (n437.ne rfl (n436.ne rfl n434.at_)) n437.at_) (fun an438 n438 => ?_)
        refine sv n438.ok rfl (wn _ rfl) rfl (o_mv n438.at_) (fun an439 n439 => ?_)
        have e440 := n439.ne rfl (n438.ne rfl (n437.ne rfl (n436.ne rfl (n434.ne rfl (n433.ne rfl (n432.ne rfl (n429.ne rfl (n428.ne rfl (n427.ne rfl (n426.ne rfl (n425.ne rfl (n414.ne rfl (n413.ne rfl (n411.ne rfl (n410.ne rfl (n407.ne rfl n406.at_))))))))))))))))
        refine sv n439.ok rfl (wgT rfl (yl 6 false rfl n439.at_) rfl) rfl (o_mv e440) (fun an441 n441 => ?_)
        refine sv n441.ok rfl (wgT rfl (yl 6 false rfl (n441.ne rfl n439.at_)) rfl) rfl (o_not n441.at_ rfl) (fun an442 n442 => ?_)
        refine sv n442.ok rfl (wn _ rfl) rfl (o_pkF (n442.ne rfl (n441.ne rfl n439.at_)) n442.at_) (fun an443 n443 => ?_)
        refine sv n443.ok rfl (wn _ rfl) rfl (o_mv n443.at_) (fun an444 n444 => ?_)
        have e445 := n444.ne rfl (n443.ne rfl (n442.ne rfl (n441.ne rfl (n439.ne rfl (n438.ne rfl (n437.ne rfl (n436.ne rfl (n434.ne rfl (n433.ne rfl (n432.ne rfl (n429.ne rfl n428.at_)))))))))))
        refine sv n444.ok rfl (wgT rfl (yl 10 false rfl n444.at_) rfl) rfl (o_mv e445) (fun an446 n446 => ?_)
        refine sv n446.ok rfl (wgT rfl (yl 10 false rfl (n446.ne rfl n444.at_)) rfl) rfl (o_not n446.at_ rfl) (fun an447 n447 => ?_)
        refine sv n447.ok rfl (wn _ rfl) rfl (o_pkF (n447.ne rfl (n446.ne rfl n444.at_)) n447.at_) (fun an448 n448 => ?_)
        refine sv n448.ok rfl (wn _ rfl) rfl (o_mv n448.at_) (fun an449 n449 => ?_)
        have e450 := n449.ne rfl (n448.ne rfl (n447.ne rfl (n446.ne rfl (n444.ne rfl (n443.ne rfl (n442.ne rfl (n441.ne rfl (n439.ne rfl (n438.ne rfl (n437.ne rfl (n436.ne rfl (n434.ne rfl (n433.ne rfl (n432.ne rfl (n429.ne rfl (n428.ne rfl (n427.ne rfl (n426.ne rfl (n425.ne rfl (n414.ne rfl (n413.ne rfl (n411.ne rfl (n410.ne rfl e409)))))))))))))))))))))))
        refine sv n449.ok rfl (wgT rfl (yl 14 false rfl n449.at_) rfl) rfl (o_fa (z := 1) e450 Try.underlying32 rfl (by kernel_rfl) rfl rfl) (fun an451 n451 => ?_)
        refine sv n451.ok rfl (wgT rfl (yl 14 false rfl (n451.ne rfl n449.at_)) rfl) rfl (o_ld n451.at_ (Try.isAgg9 _) (B420.cell _ rfl)) (fun an452 n452 => ?_)
        have e453 := n452.ne rfl (n451.ne rfl (n449.ne rfl (n448.ne rfl (n447.ne rfl (n446.ne rfl (n444.ne rfl (n443.ne rfl (n442.ne rfl (n441.ne rfl (n439.ne rfl (n438.ne rfl (n437.ne rfl (n436.ne rfl (n434.ne rfl (n433.ne rfl (n432.ne rfl (n429.ne rfl (n428.ne rfl (n427.ne rfl (n426.ne rfl (n425.ne rfl (n414.ne rfl (n413.ne rfl (n411.ne rfl (n410.ne rfl (n407.ne rfl (n406.ne rfl (n405.ne rfl (n404.ne rfl (n403.ne rfl (n392.ne rfl (n391.ne rfl (n390.ne rfl (n389.ne rfl (n360.ne rfl (n359.ne rfl (n358.ne rfl (n352.ne rfl s7I338))))))))))))))))))))))))))))))))))))))
        refine sv n452.ok rfl (wgT rfl (yl 14 false rfl (n452.ne rfl (n451.ne rfl n449.at_))) rfl) rfl (o_mv e453) (fun an454 n454 => ?_)
        have e455 := n454.ne rfl (n452.ne rfl (n451.ne rfl n449.at_))
        refine sv n454.ok rfl (wgT rfl (yl 14 false rfl e455) rfl) rfl (o_neSF (n454.ne rfl n452.at_) n454.at_ (mem_get hR2 (List.mem_of_getElem? h357x)).2.2) (fun an456 n456 => ?_)
        refine sv n456.ok rfl (wn _ rfl) rfl (o_pkF (n456.ne rfl e455) n456.at_) (fun an457 n457 => ?_)
        refine wpList_nil ?_
        refine th_n (hK430 _ _ ?_)
        refine wp_cond_false (n457.at_) ?_
        refine wp_skip ?_
        refine ib_n ?_
        refine th_n (hK355 _ _ ?_)
        refine wp_region_lit ?_
        have e458 := n457.ne rfl (n456.ne rfl (n454.ne rfl (n452.ne rfl (n451.ne rfl (n449.ne rfl (n448.ne rfl (n447.ne rfl (n446.ne rfl (n444.ne rfl (n443.ne rfl (n442.ne rfl (n441.ne rfl (n439.ne rfl (n438.ne rfl (n437.ne rfl (n436.ne rfl (n434.ne rfl (n433.ne rfl (n432.ne rfl (n429.ne rfl (n428.ne rfl (n427.ne rfl (n426.ne rfl (n425.ne rfl (n414.ne rfl (n413.ne rfl (n411.ne rfl (n410.ne rfl (n407.ne rfl (n406.ne rfl (n405.ne rfl (n404.ne rfl (n403.ne rfl (n392.ne rfl (n391.ne rfl (n390.ne rfl (n389.ne rfl (n360.ne rfl (n359.ne rfl (n358.ne rfl (n352.ne rfl s64I338)))))))))))))))))))))))))))))))))))))))))
        refine sv n457.ok rfl (wn _ rfl) rfl (o_add (r := ((i + 1 : Nat) : Int)) e458 ev_const (by omega) (by omega)) (fun an459 n459 => ?_)
        refine sv n459.ok rfl (wn _ rfl) rfl (o_mv n459.at_) (fun an460 n460 => ?_)
        refine wpList_nil ?_
        have e461 := n460.ne rfl (n459.ne rfl (n457.ne rfl (n456.ne rfl (n454.ne rfl (n452.ne rfl (n451.ne rfl (n449.ne rfl (n448.ne rfl (n447.ne rfl (n446.ne rfl (n444.ne rfl (n443.ne rfl (n442.ne rfl (n441.ne rfl (n439.ne rfl (n438.ne rfl (n437.ne rfl (n436.ne rfl (n434.ne rfl (n433.ne rfl (n432.ne rfl (n429.ne rfl (n428.ne rfl (n427.ne rfl (n426.ne rfl (n425.ne rfl (n414.ne rfl (n413.ne rfl (n411.ne rfl (n410.ne rfl (n407.ne rfl (n406.ne rfl (n405.ne rfl (n404.ne rfl (n403.ne rfl (n392.ne rfl (n391.ne rfl (n390.ne rfl (n389.ne rfl (n360.ne rfl (n359.ne rfl (n358.ne rfl (n352.ne rfl s2I338)))))))))))))))))))))))))))))))))))))))))))
        have e462 := n460.ne rfl (n459.ne rfl (n457.ne rfl (n456.ne rfl (n454.ne rfl (n452.ne rfl (n451.ne rfl (n449.ne rfl (n448.ne rfl (n447.ne rfl (n446.ne rfl (n444.ne rfl (n443.ne rfl (n442.ne rfl (n441.ne rfl (n439.ne rfl (n438.ne rfl (n437.ne rfl (n436.ne rfl (n434.ne rfl (n433.ne rfl (n432.ne rfl (n429.ne rfl (n428.ne rfl (n427.ne rfl (n426.ne rfl (n425.ne rfl (n414.ne rfl (n413.ne rfl (n411.ne rfl (n410.ne rfl (n407.ne rfl (n406.ne rfl (n405.ne rfl (n404.ne rfl (n403.ne rfl (n392.ne rfl (n391.ne rfl (n390.ne rfl (n389.ne rfl (n360.ne rfl (n359.ne rfl (n358.ne rfl (n352.ne rfl s3I338)))))))))))))))))))))))))))))))))))))))))))
        have e463 := n460.ne rfl (n459.ne rfl (n457.ne rfl (n456.ne rfl (n454.ne rfl (n452.ne rfl (n451.ne rfl (n449.ne rfl (n448.ne rfl (n447.ne rfl (n446.ne rfl (n444.ne rfl (n443.ne rfl (n442.ne rfl (n441.ne rfl (n439.ne rfl (n438.ne rfl (n437.ne rfl (n436.ne rfl (n434.ne rfl (n433.ne rfl (n432.ne rfl (n429.ne rfl (n428.ne rfl (n427.ne rfl (n426.ne rfl (n425.ne rfl (n414.ne rfl (n413.ne rfl (n411.ne rfl (n410.ne rfl (n407.ne rfl (n406.ne rfl (n405.ne rfl (n404.ne rfl (n403.ne rfl (n392.ne rfl (n391.ne rfl (n390.ne rfl (n389.ne rfl (n360.ne rfl (n359.ne rfl (n358.ne rfl (n352.ne rfl s5I338)))))))))))))))))))))))))))))))))))))))))))
        have e464 := n460.ne rfl (n459.ne rfl (n457.ne rfl (n456.ne rfl (n454.ne rfl e453))))
        have e465 := n460.ne rfl (n459.ne rfl (n457.ne rfl (n456.ne rfl (n454.ne rfl (n452.ne rfl (n451.ne rfl (n449.ne rfl (n448.ne rfl (n447.ne rfl (n446.ne rfl (n444.ne rfl (n443.ne rfl (n442.ne rfl (n441.ne rfl (n439.ne rfl (n438.ne rfl (n437.ne rfl (n436.ne rfl (n434.ne rfl (n433.ne rfl (n432.ne rfl (n429.ne rfl (n428.ne rfl (n427.ne rfl (n426.ne rfl (n425.ne rfl (n414.ne rfl (n413.ne rfl (n411.ne rfl (n410.ne rfl (n407.ne rfl (n406.ne rfl (n405.ne rfl (n404.ne rfl (n403.ne rfl (n392.ne rfl (n391.ne rfl (n390.ne rfl (n389.ne rfl (n360.ne rfl (n359.ne rfl (n358.ne rfl (n352.ne rfl s8I338)))))))))))))))))))))))))))))))))))))))))))
        have e466 := n460.ne rfl (n459.ne rfl (n457.ne rfl (n456.ne rfl (n454.ne rfl (n452.ne rfl (n451.ne rfl (n449.ne rfl (n448.ne rfl (n447.ne rfl (n446.ne rfl (n444.ne rfl (n443.ne rfl (n442.ne rfl (n441.ne rfl (n439.ne rfl (n438.ne rfl (n437.ne rfl (n436.ne rfl (n434.ne rfl (n433.ne rfl (n432.ne rfl (n429.ne rfl (n428.ne rfl (n427.ne rfl (n426.ne rfl (n425.ne rfl (n414.ne rfl (n413.ne rfl e412))))))))))))))))))))))))))))
        have e467 := n460.ne rfl (n459.ne rfl (n457.ne rfl (n456.ne rfl (n454.ne rfl (n452.ne rfl (n451.ne rfl (n449.ne rfl (n448.ne rfl (n447.ne rfl (n446.ne rfl (n444.ne rfl (n443.ne rfl (n442.ne rfl (n441.ne rfl (n439.ne rfl (n438.ne rfl (n437.ne rfl (n436.ne rfl (n434.ne rfl (n433.ne rfl (n432.ne rfl (n429.ne rfl (n428.ne rfl (n427.ne rfl (n426.ne rfl (n425.ne rfl (n414.ne rfl (n413.ne rfl (n411.ne rfl (n410.ne rfl (n407.ne rfl (n406.ne rfl (n405.ne rfl (n404.ne rfl (n403.ne rfl (n392.ne rfl (n391.ne rfl (n390.ne rfl (n389.ne rfl (n360.ne rfl (n359.ne rfl (n358.ne rfl (n352.ne rfl s28I338)))))))))))))))))))))))))))))))))))))))))))
        have e468 := n460.ne rfl (n459.ne rfl (n457.ne rfl (n456.ne rfl (n454.ne rfl (n452.ne rfl (n451.ne rfl (n449.ne rfl (n448.ne rfl (n447.ne rfl (n446.ne rfl (n444.ne rfl (n443.ne rfl (n442.ne rfl (n441.ne rfl (n439.ne rfl (n438.ne rfl (n437.ne rfl (n436.ne rfl (n434.ne rfl (n433.ne rfl (n432.ne rfl (n429.ne rfl (n428.ne rfl (n427.ne rfl (n426.ne rfl (n425.ne rfl (n414.ne rfl (n413.ne rfl (n411.ne rfl (n410.ne rfl (n407.ne rfl (n406.ne rfl (n405.ne rfl (n404.ne rfl (n403.ne rfl (n392.ne rfl (n391.ne rfl (n390.ne rfl (n389.ne rfl (n360.ne rfl (n359.ne rfl (n358.ne rfl (n352.ne rfl s29I338)))))))))))))))))))))))))))))))))))))))))))
        have e469 := n460.ne rfl (n459.ne rfl (n457.ne rfl (n456.ne rfl (n454.ne rfl (n452.ne rfl (n451.ne rfl (n449.ne rfl (n448.ne rfl (n447.ne rfl (n446.ne rfl (n444.ne rfl (n443.ne rfl (n442.ne rfl (n441.ne rfl (n439.ne rfl (n438.ne rfl (n437.ne rfl (n436.ne rfl (n434.ne rfl (n433.ne rfl (n432.ne rfl (n429.ne rfl (n428.ne rfl (n427.ne rfl (n426.ne rfl (n425.ne rfl (n414.ne rfl (n413.ne rfl (n411.ne rfl (n410.ne rfl (n407.ne rfl (n406.ne rfl (n405.ne rfl (n404.ne rfl (n403.ne rfl (n392.ne rfl (n391.ne rfl (n390.ne rfl (n389.ne rfl (n360.ne rfl (n359.ne rfl (n358.ne rfl (n352.ne rfl s30I338)))))))))))))))))))))))))))))))))))))))))))
        have e470 := n460.ne rfl (n459.ne rfl (n457.ne rfl (n456.ne rfl (n454.ne rfl (n452.ne rfl (n451.ne rfl (n449.ne rfl (n448.ne rfl (n447.ne rfl (n446.ne rfl (n444.ne rfl (n443.ne rfl (n442.ne rfl (n441.ne rfl (n439.ne rfl (n438.ne rfl (n437.ne rfl (n436.ne rfl (n434.ne rfl (n433.ne rfl (n432.ne rfl (n429.ne rfl (n428.ne rfl (n427.ne rfl (n426.ne rfl (n425.ne rfl (n414.ne rfl (n413.ne rfl (n411.ne rfl (n410.ne rfl (n407.ne rfl (n406.ne rfl (n405.ne rfl (n404.ne rfl (n403.ne rfl (n392.ne rfl (n391.ne rfl (n390.ne rfl (n389.ne rfl (n360.ne rfl (n359.ne rfl (n358.ne rfl (n352.ne rfl s62I338)))))))))))))))))))))))))))))))))))))))))))
        have e471 := n460.ne rfl (n459.ne rfl (n457.ne rfl (n456.ne rfl (n454.ne rfl (n452.ne rfl (n451.ne rfl (n449.ne rfl (n448.ne rfl (n447.ne rfl (n446.ne rfl (n444.ne rfl (n443.ne rfl (n442.ne rfl (n441.ne rfl (n439.ne rfl (n438.ne rfl (n437.ne rfl (n436.ne rfl (n434.ne rfl (n433.ne rfl (n432.ne rfl (n429.ne rfl (n428.ne rfl (n427.ne rfl (n426.ne rfl (n425.ne rfl (n414.ne rfl (n413.ne rfl (n411.ne rfl (n410.ne rfl (n407.ne rfl (n406.ne rfl (n405.ne rfl (n404.ne rfl (n403.ne rfl (n392.ne rfl (n391.ne rfl (n390.ne rfl (n389.ne rfl (n360.ne rfl (n359.ne rfl (n358.ne rfl (n352.ne rfl s63I338)))))))))))))))))))))))))))))))))))))))))))
        exact th_n (hKI338 _ _ _ (by omega) ⟨i + 1, rfl, n460.ok, G417, e461, e462, e463, e464, e465, e466, e467, e468, e469, e470, e471, n460.at_, B418, B419, A421, A422, A423, A424, by omega⟩)
      · refine wp_cond_false ((n352.at_).trans (congrArg Value.bool (decide_eq_false c354))) ?_
        refine wp_exit ?_
        refine th_x ?_
        refine th_x ?_
        refine ib_x ?_
        refine th_n (hK332 _ _ ?_)
        refine wp_region_lit ?_
        refine sv n352.ok rfl (wn _ rfl) rfl (o_mv (n352.ne rfl s5I338)) (fun an472 n472 => ?_)
        refine sv n472.ok rfl (wn _ rfl) rfl (o_mv (n472.ne rfl (n352.ne rfl s8I338))) (fun an473 n473 => ?_)
        refine sv n473.ok rfl (wn _ rfl) rfl (o_len n473.at_ Try.underlying22) (fun an474 n474 => ?_)
        refine sv n474.ok rfl (wn _ rfl) rfl (o_add (r := ((n + R2.length : Nat) : Int)) (n474.ne rfl (n473.ne rfl n472.at_)) n474.at_ (by omega) (by omega)) (fun an475 n475 => ?_)
        refine sv n475.ok rfl (wn _ rfl) rfl (o_as n475.at_) (fun an476 n476 => ?_)
        refine wpList_nil ?_
        refine ib_n ?_
        refine th_n (hK63 _ _ ?_)
        refine wp_region_lit ?_
        have e477 := n476.ne rfl (n475.ne rfl (n474.ne rfl (n473.ne rfl (n472.ne rfl (n352.ne rfl s30I338)))))
        refine sv n476.ok rfl (wn _ rfl) rfl (o_add (r := ((j + 1 : Nat) : Int)) e477 ev_const (by omega) (by omega)) (fun an478 n478 => ?_)
        refine sv n478.ok rfl (wn _ rfl) rfl (o_mv n478.at_) (fun an479 n479 => ?_)
        refine wpList_nil ?_
        have e480 := n479.ne rfl (n478.ne rfl (n476.ne rfl (n475.ne rfl (n474.ne rfl (n473.ne rfl (n472.ne rfl (n352.ne rfl s2I338)))))))
        have e481 := n479.ne rfl (n478.ne rfl (n476.ne rfl (n475.ne rfl (n474.ne rfl (n473.ne rfl (n472.ne rfl (n352.ne rfl s3I338)))))))
        have e482 := n479.ne rfl (n478.ne rfl (n476.ne rfl (n475.ne rfl (n474.ne rfl (n473.ne rfl (n472.ne rfl (n352.ne rfl s28I338)))))))
        have e483 := n479.ne rfl (n478.ne rfl (n476.ne rfl (n475.ne rfl (n474.ne rfl (n473.ne rfl (n472.ne rfl (n352.ne rfl s29I338)))))))
        exact th_n (hKI52 _ _ _ (by omega) ⟨j + 1, n + R2.length, rfl, n479.ok, GI338, e480, e481, (n479.ne rfl (n478.ne rfl n476.at_)), e482, e483, n479.at_, kb41I338, xanch17I338, xanch24I338, by omega, by show _ = sumG _ j + _; rw [hnI52, hl2.2], by omega⟩)
  · refine wp_cond_false ((n60.at_).trans (congrArg Value.bool (decide_eq_false c62))) ?_
    refine wp_exit ?_
    refine th_x ?_
    refine th_x ?_
    refine ib_x ?_
    refine th_n (hK37 _ _ ?_)
    refine wp_seq_k (fun K484 hK484 => ?_)
    refine wp_region_lit ?_
    refine sv n60.ok rfl (wn _ rfl) rfl (o_mv (n60.ne rfl s5I52)) (fun an485 n485 => ?_)
    refine sv n485.ok rfl (wn _ rfl) rfl (o_mv (n485.ne rfl (n60.ne rfl s3I52))) (fun an486 n486 => ?_)
    refine sv n486.ok rfl (wn _ rfl) rfl (o_len n486.at_ Try.underlying22) (fun an487 n487 => ?_)
    refine sv n487.ok rfl (wn _ rfl) rfl (o_eqI (n487.ne rfl (n486.ne rfl n485.at_)) n487.at_) (fun an488 n488 => ?_)
    refine sv n488.ok rfl (wn _ rfl) rfl (o_as n488.at_) (fun an489 n489 => ?_)
    refine wpList_nil ?_
    refine th_n (hK484 _ _ ?_)
    refine wp_ret ?_
    exact ret1 n489.ok rfl (n489.at_) ⟨congrArg (fun b => Ending.returned (Value.bool b)) (decide_eq_true (by have h1 : j = 3 := (by omega); subst h1; have h2 := sumG_all (L := (layL (RT.map VerI.d))) (fun x hx => by obtain ⟨y, hy, rfl⟩ := List.mem_map.1 (hsub x hx); exact hiT y hy); omega)), GI52⟩
end Go.Proofs.Ytoencnbpjjkjnaa
