/- The walk of ShelfPast. -/
import Derived.Test.YtoencnbpjjkjnaaSp5
set_option linter.unusedVariables false
set_option linter.unusedSimpArgs false
namespace Go.Proofs.Ytoencnbpjjkjnaa
open Go.RowKit Rm Gx
theorem o_neDot {ev : Operand → Value} {d : Option Tmp} {ty : TypeId} {p : String} {af : Array Edge} {g : Option (Nat × Bool)} {w : World} {t' : TypeId} {x y : Operand} {a b c e : Int} (hx : ev x = .agg #[.int .i64 a, .int .i64 b]) (hy : ev y = .agg #[.int .i64 c, .int .i64 e]) (h1 : a = c) (h2 : b = e) : (execOp ev (Oper.mk d (.binOp .neq 24 x y t') ty p af g)).run Try.prog w = .ok (.value (.bool false)) w := by
  have q1 := run_eqGuard_agg (P := Try.prog) w .neq 24 x y #[.int .i64 a, .int .i64 b] #[.int .i64 c, .int .i64 e] (by kernel_rfl)
  have q2 := eq_dot a b c e w
  rw [decide_eq_true ⟨h1, h2⟩] at q2
  unfold execOp
  simp only [hx, hy, Sem.run_bind, q1, Result.andThen_ok, run_neq_struct, q2]
  rfl
theorem wi_letter (i : Int) (n : Nat) (h0 : 0 < n) (h1 : n < 1000000) (w : World) : Calls Try.prog 24 #[.int .i64 i, .int .i64 (n : Int)] w fun e w' => ∃ t : Nat, e = .returned (.int .i64 (t : Int)) ∧ t < n ∧ Gr w w' := by
  refine (kwithin_any i n h0 h1 w).mono ?_
  rintro e w' ⟨rfl, g⟩
  exact ⟨wi i n, rfl, wi_lt i n h0, g⟩
theorem r0_dot {w : World} {b f : Nat} {r : VerI} (h : ∀ i x, [r][i]? = some x → ∀ j u, (encVr x)[j]? = some u → w.cell? ⟨b, f + i * 8 + j, none⟩ = some u) : ∀ j u, ([.int .i64 r.d.s, .int .i64 r.d.c] : List Value)[j]? = some u → w.cell? ⟨b, f + 0 * 8 + 1 + j, none⟩ = some u := fun j u hu => by
  have := h 0 r rfl (1 + j) u (by
    match j, hu with
    | 0, hu => exact hu
    | 1, hu => exact hu
    | j + 2, hu => simp at hu)
  rw [← Nat.add_assoc] at this
  exact this
theorem get_one {F : FuncId} {args : Array Value} {w : World} {y : VerD} (h : Calls Try.prog F args w fun e w' => ∃ (R : List VerI) (a : Option Addr) (c : Nat), e = .returned (.tuple #[.slice a R.length c, .int .i64 0]) ∧ R.map VerI.d = [y] ∧ RdA encVr 8 w' a R ∧ MeansV w' R ∧ Gr w w') :
    Calls Try.prog F args w fun e w' => ∃ (r : VerI) (a : Option Addr) (c : Nat), e = .returned (.tuple #[.slice a 1 c, .int .i64 0]) ∧ r.d = y ∧ RdA encVr 8 w' a [r] ∧ Gr w w' := by
  refine h.mono ?_
  rintro e w' ⟨R, a, c, rfl, h1, h2, -, g⟩
  obtain ⟨r, rfl, hr⟩ := one_of h1
  exact ⟨r, a, c, rfl, hr, h2, g⟩
theorem stays {R : List VerI} {Y : List VerD} {a : VerD} (e : R.map VerI.d = Y) (h : a ∈ Y) : (R.any fun x => sameVB a x.d) = true := by
  rw [← e] at h
  obtain ⟨y, hy, q⟩ := List.mem_map.1 h
  exact List.any_eq_true.2 ⟨y, hy, (sameVB_iff _ _).2 q.symm⟩
theorem keep_len {L Y : List VerD} {R : List VerI} {y : VerD} (hL : chkShf L = 0) (e : R.map VerI.d = Y) (h1 : putE L y = 0) (h2 : putL L y = Y) : R.length ≤ 100000 := by
  have h := ((okS_iff _).1 (putL_ok (y := y) hL)).len
  rw [h2, ← e, List.length_map] at h
  omega
set_option maxHeartbeats 8000000 in
set_option maxRecDepth 100000 in
theorem sp1_any (x y : VerI) (b : Nat) (hl : y.d.V.length ≤ 100000 ∧ y.d.M.length ≤ 100000) (w : World) (hm : MeanV w x) (hy : MeanV w y) (hb : Bk w b #[.string (bs y.d.id), .int .i64 (y.d.s), .int .i64 (y.d.c), .int .i64 (y.d.t), .int .i64 (y.d.n), .int .i64 (y.d.b), .slice y.va y.d.V.length y.vc, .slice y.ma y.d.M.length y.mc] 32) :
    Calls Try.prog 35 #[.agg #[.string (bs x.d.id), .int .i64 (x.d.s), .int .i64 (x.d.c), .int .i64 (x.d.t), .int .i64 (x.d.n), .int .i64 (x.d.b), .slice x.va x.d.V.length x.vc, .slice x.ma x.d.M.length x.mc], .pointer (some ⟨b, 0, none⟩)] w fun e w' => e = .returned (.bool (sameVB y.d x.d)) ∧ Gr w w' := by
  refine enter (N := 7) Try.func35 rfl rfl rfl (fun a0 ok0 h0 => ?_)
  have e0_0 : a0.eval (.tmp 0) = .agg #[.string (bs x.d.id), .int .i64 (x.d.s), .int .i64 (x.d.c), .int .i64 (x.d.t), .int .i64 (x.d.n), .int .i64 (x.d.b), .slice x.va x.d.V.length x.vc, .slice x.ma x.d.M.length x.mc] := h0 0 _ rfl
  have e0_1 : a0.eval (.tmp 1) = .pointer (some ⟨b, 0, none⟩) := h0 1 _ rfl
  clear h0
  have G0 := Gr.refl w
  refine wp_seq_k (fun K1 hK1 => ?_)
  refine wp_region_lit ?_
  refine sal (cs := #[.string (bs x.d.id), .int .i64 (x.d.s), .int .i64 (x.d.c), .int .i64 (x.d.t), .int .i64 (x.d.n), .int .i64 (x.d.b), .slice x.va x.d.V.length x.vc, .slice x.ma x.d.M.length x.mc]) ok0 rfl (wn _ rfl) rfl (o_box e0_0) (fun an2 w4 b3 W5 n2 => ?_)
  have l6 : b < b3 := by rw [W5.eq]; exact hb.lt
  have l7 : w.heap.size ≤ b3 := by rw [W5.eq]; exact G0.size
  have G8 := G0.trans W5.gr
  have B9 := hb.gr W5.gr
  refine sv n2.ok rfl (wn _ rfl) rfl (o_as ev_const) (fun an10 n10 => ?_)
  refine wpList_nil ?_
  refine th_n (hK1 _ _ ?_)
  refine wp_seq_k (fun K11 hK11 => ?_)
  refine wp_region_lit ?_
  refine sv n10.ok rfl (wn _ rfl) rfl (o_ldA (k := 0) (cs := [.string (bs y.d.id), .int .i64 (y.d.s), .int .i64 (y.d.c), .int .i64 (y.d.t), .int .i64 (y.d.n), .int .i64 (y.d.b), .slice y.va y.d.V.length y.vc, .slice y.ma y.d.M.length y.mc]) (n10.ne rfl (n2.ne rfl e0_1)) (bk_part B9 rfl) Try.underlying32 rfl (by kernel_rfl)) (fun an12 n12 => ?_)
  refine sv n12.ok rfl (wn _ rfl) rfl (o_ldR (n12.ne rfl (n10.ne rfl n2.at_)) W5.bk Try.underlying32 rfl (by kernel_rfl)) (fun an13 n13 => ?_)
  refine sc n13.ok rfl (wn _ rfl) rfl (o_f2 Try.func33 rfl rfl rfl (n13.ne rfl n12.at_) n13.at_) (samev_any y x hl w4 (MeanV.gr hy G8) (MeanV.gr hm G8)) ?_
  rintro _ w15 ⟨rfl, g16⟩
  refine ⟨_, rfl, fun an14 n14 => ?_⟩
  have G17 := G8.trans g16
  have B18 := B9.gr g16
  have B19 := W5.bk.gr g16
  refine sv n14.ok rfl (wn _ rfl) rfl (o_as n14.at_) (fun an20 n20 => ?_)
  refine wpList_nil ?_
  refine th_n (hK11 _ _ ?_)
  refine wp_ret ?_
  exact ret1 n20.ok rfl (n20.at_) ⟨rfl, G17⟩
set_option maxHeartbeats 8000000 in
set_option maxRecDepth 100000 in
theorem shelfPast_walk (v0 : Value) (L0 : List (List Int)) (x1 : List UInt8) (x2 : Int) (w : World) (h0 : RdLL w v0 L0) :
    Calls Try.prog 5 #[v0, .string (bs x1), .int .i64 (x2)] w fun e w' => e = .returned (.bool true) ∧ Gr w w' := by
  refine enter (N := 92) Try.func5 rfl rfl rfl (fun a0 ok0 h0 => ?_)
  have e0_0 : a0.eval (.tmp 0) = v0 := h0 0 _ rfl
  have e0_1 : a0.eval (.tmp 1) = .string (bs x1) := h0 1 _ rfl
  have e0_2 : a0.eval (.tmp 2) = .int .i64 (x2) := h0 2 _ rfl
  clear h0
  have G0 := Gr.refl w
  refine wp_seq_k (fun K1 hK1 => ?_)
  refine wp_region_lit ?_
  refine sv ok0 rfl (wn _ rfl) rfl (o_as ev_const) (fun an2 n2 => ?_)
  refine wpList_nil ?_
  refine th_n (hK1 _ _ ?_)
  refine wp_seq_k (fun K3 hK3 => ?_)
  refine wp_seq_k (fun K4 hK4 => ?_)
  refine wp_region_lit ?_
  refine sc n2.ok rfl (wn _ rfl) rfl (o_f0 Try.func22 rfl rfl rfl ) (begun_shelf w) ?_
  rintro _ w6 ⟨rfl, g7⟩
  refine ⟨_, rfl, fun an5 n5 => ?_⟩
  have G8 := G0.trans g7
  refine sv n5.ok rfl (wn _ rfl) rfl (o_not n5.at_ rfl) (fun an9 n9 => ?_)
  refine wpList_nil ?_
  refine th_n (hK4 _ _ ?_)
  refine wp_cond_false (n9.at_) ?_
  refine wp_skip ?_
  refine th_n (hK3 _ _ ?_)
  refine wp_seq_k (fun K10 hK10 => ?_)
  refine wp_region_lit ?_
  have e11 := n9.ne rfl (n5.ne rfl (n2.ne rfl e0_0))
  refine sv n9.ok rfl (wn _ rfl) rfl (o_mv e11) (fun an12 n12 => ?_)
  refine sc n12.ok rfl (wn _ rfl) rfl (o_f1 Try.func23 rfl rfl rfl n12.at_) (told_any v0 L0 w6 (h0.gr G8)) ?_
  rintro _ w14 ⟨RT, raT, rcT, vT, rfl, hT, hv, hlT, hrT, hmT, hcT, hsT, g15⟩
  have hTR := hT.tr (by rw [List.length_map]; omega)
  have hlM : (RT.map VerI.d).length ≤ 20 := by rw [List.length_map]; exact hlT
  have hMX := lay_is hTR (fun x hx => hx)
  refine ⟨_, rfl, fun an13 n13 => ?_⟩
  have G16 := G8.trans g15
  have A18 := Gr.refl w14
  refine sc n13.ok rfl (wn _ rfl) rfl (o_f1 Try.func25 rfl rfl rfl n13.at_) (laid_r RT raT rcT w14 (hrT.gr A18) (hmT.gr A18) (by omega) (RT.map VerI.d) ((RT.map VerI.d)) hTR (fun x hx => hx) (rfl)) ?_
  rintro _ w20 ⟨R1, ra1, rc1, rfl, hR1, hr1, hm1, hc1, g21⟩
  have hM1 := lay_is hTR (fun x hx => hx)
  have hX := (okS_iff _).2 hM1.ok
  have hsub := hM1.sub (fun x hx => hx)
  obtain ⟨bd, hbd⟩ : ∃ b, wi x2 1000 = b := ⟨_, rfl⟩
  have hbd2 := wi_lt x2 1000 (by omega)
  refine ⟨_, rfl, fun an19 n19 => ?_⟩
  have G22 := G16.trans g21
  have A23 := A18.trans g21
  have A25 := Gr.refl w20
  refine sv n19.ok rfl (wn _ rfl) rfl (o_mv n19.at_) (fun an26 n26 => ?_)
  refine sv n26.ok rfl (wn _ rfl) rfl (o_ex n26.at_ rfl) (fun an27 n27 => ?_)
  refine sv n27.ok rfl (wn _ rfl) rfl (o_ex (n27.ne rfl n26.at_) rfl) (fun an28 n28 => ?_)
  refine sv n28.ok rfl (wn _ rfl) rfl (o_as (n28.ne rfl n27.at_)) (fun an29 n29 => ?_)
  refine sv n29.ok rfl (wn _ rfl) rfl (o_as (n29.ne rfl n28.at_)) (fun an30 n30 => ?_)
  refine wpList_nil ?_
  refine th_n (hK10 _ _ ?_)
  refine wp_seq_k (fun K31 hK31 => ?_)
  refine wp_seq_k (fun K32 hK32 => ?_)
  refine wp_region_lit ?_
  refine sv n30.ok rfl (wn _ rfl) rfl (o_mv n30.at_) (fun an33 n33 => ?_)
  refine sv n33.ok rfl (wn _ rfl) rfl (o_not n33.at_ rfl) (fun an34 n34 => ?_)
  refine wpList_nil ?_
  refine th_n (hK32 _ _ ?_)
  refine wp_cond_false (n34.at_) ?_
  refine wp_skip ?_
  refine th_n (hK31 _ _ ?_)
  refine wp_seq_k (fun K35 hK35 => ?_)
  refine wp_region_lit ?_
  obtain ⟨i36, i36a, i36b, i36c⟩ := info3_of (show (Try.prog.info? 9).map (fun i => (i.zero, i.size)) = some (some (.string (bs [])), 1) by kernel_rfl)
  refine sals (cs := #[.string (bs [97]), .string (bs [98]), .string (bs [99])]) n34.ok rfl (wn _ rfl) rfl (o_bs (vs := [(0, .string (bs [97])), (1, .string (bs [98])), (2, .string (bs [99]))]) (by simp [ev_const, bs]) Try.underlying58 i36a i36b (by rw [i36c]; rfl) (by rw [i36c]; rfl) (by rw [i36c]; kernel_rfl)) (fun an37 w39 b38 W40 n37 => ?_)
  have l41 : w.heap.size ≤ b38 := by rw [W40.eq]; exact G22.size
  have l42 : w14.heap.size ≤ b38 := by rw [W40.eq]; exact A23.size
  have l43 : w20.heap.size ≤ b38 := by rw [W40.eq]; exact A25.size
  have G44 := G22.trans W40.gr
  have A45 := A23.trans W40.gr
  have A46 := A25.trans W40.gr
  have e47 := n37.ne rfl (n34.ne rfl (n33.ne rfl (n30.ne rfl (n29.ne rfl (n28.ne rfl (n27.ne rfl (n26.ne rfl (n19.ne rfl (n13.ne rfl (n12.ne rfl (n9.ne rfl (n5.ne rfl (n2.ne rfl e0_1)))))))))))))
  refine sv n37.ok rfl (wn _ rfl) rfl (o_mv e47) (fun an48 n48 => ?_)
  refine sv n48.ok rfl (wn _ rfl) rfl (o_lenS n48.at_ Try.underlying9) (fun an49 n49 => ?_)
  refine sc n49.ok rfl (wn _ rfl) rfl (o_f2 Try.func24 rfl rfl rfl n49.at_ ev_const) ((wi_letter ((x1.length : Nat) : Int) 3 (by omega) (by omega) w39)) ?_
  rintro _ w51 ⟨jd, rfl, hjd, g52⟩
  refine ⟨_, rfl, fun an50 n50 => ?_⟩
  have G53 := G44.trans g52
  have B54 := W40.bk.gr g52
  have A55 := A45.trans g52
  have A56 := A46.trans g52
  have e57 := n50.ne rfl (n49.ne rfl (n48.ne rfl n37.at_))
  refine sv n50.ok rfl (wn _ rfl) rfl (o_ia (i := jd) (s := 1) e57 n50.at_ Try.underlying58 (by kernel_rfl) (by omega)) (fun an58 n58 => ?_)
  refine sv n58.ok rfl (wn _ rfl) rfl (o_ld n58.at_ (Try.isAgg9 _) (idC_at _ _ _ _ B54 (by omega))) (fun an59 n59 => ?_)
  refine sv n59.ok rfl (wn _ rfl) rfl (o_as n59.at_) (fun an60 n60 => ?_)
  refine wpList_nil ?_
  refine th_n (hK35 _ _ ?_)
  refine wp_seq_k (fun K61 hK61 => ?_)
  refine wp_region_lit ?_
  have e62 := n60.ne rfl (n59.ne rfl (n58.ne rfl (n50.ne rfl (n49.ne rfl (n48.ne rfl (n37.ne rfl (n34.ne rfl (n33.ne rfl (n30.ne rfl n29.at_)))))))))
  refine sv n60.ok rfl (wn _ rfl) rfl (o_mv e62) (fun an63 n63 => ?_)
  refine sv n63.ok rfl (wn _ rfl) rfl (o_mv (n63.ne rfl n60.at_)) (fun an64 n64 => ?_)
  obtain ⟨hf1, hf2, hf3⟩ := fr_of (pD_few hT hsub (idC jd) hsT)
  obtain ⟨p1, p2, p3, p4, p5⟩ := past_put hT hv hlM hsT (id := (idC jd)) (b := ((bd : Nat) : Int)) (idC_ok _) (by omega)
  refine sc n64.ok rfl (wn _ rfl) rfl (o_f2 Try.func11 rfl rfl rfl (n64.ne rfl n63.at_) n64.at_) ((by have h := past_ok R1 ra1 rc1 (idC jd) (by rw [hR1]; exact hX) w51 (hr1.gr A56) (hm1.gr A56); rw [hR1, hf1, hf2, hf3] at h; exact h)) ?_
  rintro _ w66 ⟨kk, rfl, hkk, g67⟩
  obtain ⟨pa, pc, qa, qc, rfl⟩ := knR_formL hkk
  refine ⟨_, rfl, fun an65 n65 => ?_⟩
  have G68 := G53.trans g67
  have B69 := B54.gr g67
  have A70 := A55.trans g67
  have A71 := A56.trans g67
  have A73 := Gr.refl w66
  refine sv n65.ok rfl (wn _ rfl) rfl (o_mv n65.at_) (fun an74 n74 => ?_)
  refine sv n74.ok rfl (wn _ rfl) rfl (o_ex n74.at_ rfl) (fun an75 n75 => ?_)
  refine sv n75.ok rfl (wn _ rfl) rfl (o_ex (n75.ne rfl n74.at_) rfl) (fun an76 n76 => ?_)
  refine sal (cs := #[.slice none 0 0, .slice none 0 0]) n76.ok rfl (wn _ rfl) rfl (o_al (z := .agg #[.slice none 0 0, .slice none 0 0]) (by kernel_rfl)) (fun an77 w79 b78 W80 n77 => ?_)
  have l81 : b38 < b78 := by rw [W80.eq]; exact B69.lt
  have l82 : w.heap.size ≤ b78 := by rw [W80.eq]; exact G68.size
  have l83 : w14.heap.size ≤ b78 := by rw [W80.eq]; exact A70.size
  have l84 : w20.heap.size ≤ b78 := by rw [W80.eq]; exact A71.size
  have l85 : w66.heap.size ≤ b78 := by rw [W80.eq]; exact A73.size
  have G86 := G68.trans W80.gr
  have B87 := B69.gr W80.gr
  have A88 := A70.trans W80.gr
  have A89 := A71.trans W80.gr
  have A90 := A73.trans W80.gr
  refine ssR rfl (wn _ rfl) (o_stR n77.at_ (n77.ne rfl (n76.ne rfl n75.at_)) W80.bk (by kernel_rfl) rfl (by simp [Value.oneCell'])) W80.bk (fun w91 u92 u92b => ?_)
  have G93 : Gr w w91 := Below.upd G86 l82 u92
  have B94 := B87.upd u92 (Nat.ne_of_lt l81)
  have A95 : Gr w14 w91 := Below.upd A88 l83 u92
  have A96 : Gr w20 w91 := Below.upd A89 l84 u92
  have A97 : Gr w66 w91 := Below.upd A90 l85 u92
  refine sv n77.ok rfl (wn _ rfl) rfl (o_as (n77.ne rfl n76.at_)) (fun an98 n98 => ?_)
  refine wpList_nil ?_
  refine th_n (hK61 _ _ ?_)
  refine wp_seq_k (fun K99 hK99 => ?_)
  refine wp_seq_k (fun K100 hK100 => ?_)
  refine wp_region_lit ?_
  refine sv n98.ok rfl (wn _ rfl) rfl (o_mv n98.at_) (fun an101 n101 => ?_)
  refine sv n101.ok rfl (wn _ rfl) rfl (o_neq (b := false) n101.at_ ev_const (by decide)) (fun an102 n102 => ?_)
  refine wpList_nil ?_
  refine th_n (hK100 _ _ ?_)
  refine wp_cond_false (n102.at_) ?_
  refine wp_skip ?_
  refine th_n (hK99 _ _ ?_)
  refine wp_seq_k (fun K103 hK103 => ?_)
  refine wp_region_lit ?_
  refine sv n102.ok rfl (wn _ rfl) rfl (o_bd (cells := #[.int .i64 0, .int .i64 900]) (vs := [(0, .int .i64 0), (1, .int .i64 900)]) (by simp [ev_const]) (by kernel_rfl)) (fun an104 n104 => ?_)
  refine sal (cs := #[.int .i64 0, .int .i64 0]) n104.ok rfl (wn _ rfl) rfl (o_al (z := .agg #[.int .i64 0, .int .i64 0]) (by kernel_rfl)) (fun an105 w107 b106 W108 n105 => ?_)
  have l109 : b38 < b106 := by rw [W108.eq]; exact B94.lt
  have l110 : b78 < b106 := by rw [W108.eq]; exact u92b.lt
  have l111 : w.heap.size ≤ b106 := by rw [W108.eq]; exact G93.size
  have l112 : w14.heap.size ≤ b106 := by rw [W108.eq]; exact A95.size
  have l113 : w20.heap.size ≤ b106 := by rw [W108.eq]; exact A96.size
  have l114 : w66.heap.size ≤ b106 := by rw [W108.eq]; exact A97.size
  have G115 := G93.trans W108.gr
  have B116 := B94.gr W108.gr
  have B117 := u92b.gr W108.gr
  have A118 := A95.trans W108.gr
  have A119 := A96.trans W108.gr
  have A120 := A97.trans W108.gr
  refine ssR rfl (wn _ rfl) (o_stR n105.at_ (n105.ne rfl n104.at_) W108.bk (by kernel_rfl) rfl (by simp [Value.oneCell'])) W108.bk (fun w121 u122 u122b => ?_)
  have G123 : Gr w w121 := Below.upd G115 l111 u122
  have B124 := B116.upd u122 (Nat.ne_of_lt l109)
  have B125 := B117.upd u122 (Nat.ne_of_lt l110)
  have A126 : Gr w14 w121 := Below.upd A118 l112 u122
  have A127 : Gr w20 w121 := Below.upd A119 l113 u122
  have A128 : Gr w66 w121 := Below.upd A120 l114 u122
  refine wpList_nil ?_
  refine th_n (hK103 _ _ ?_)
  refine wp_seq_k (fun K129 hK129 => ?_)
  refine reg_start (N := 92) (m := 13) (by kernel_rfl) (fun R1300 => ?_)
  have e131 := n105.ne rfl (n104.ne rfl (n102.ne rfl (n101.ne rfl (n98.ne rfl (n77.ne rfl (n76.ne rfl (n75.ne rfl (n74.ne rfl (n65.ne rfl (n64.ne rfl (n63.ne rfl e62)))))))))))
  have R1301 := R1300.snoc (n' := 1) rfl (fun vJ _ => vJ = .slice ra1 R1.length rc1) rfl (fun _ _ _ _ h => h) (fun aS wS pS => by
      exact Does.val (wn _ rfl) (o_mv ((pS.old 7 rfl).trans e131)) (Gr.refl _) rfl rfl)
  have e132 := n105.ne rfl (n104.ne rfl (n102.ne rfl (n101.ne rfl (n98.ne rfl (n77.ne rfl (n76.ne rfl (n75.ne rfl (n74.ne rfl (n65.ne rfl (n64.ne rfl (n63.ne rfl n60.at_)))))))))))
  have R1302 := R1301.snoc (n' := 2) rfl (fun vJ _ => vJ = .string (bs (idC jd))) rfl (fun _ _ _ _ h => h) (fun aS wS pS => by
      exact Does.val (wn _ rfl) (o_mv ((pS.old 1 rfl).trans e132)) (Gr.refl _) rfl rfl)
  have R1303 := R1302.snoc (n' := 3) rfl (fun vJ _ => vJ = .agg #[.int .i64 0, .int .i64 900]) rfl (fun _ _ _ _ h => h) (fun aS wS pS => by
      exact Does.val (wn _ rfl) (o_ldR ((pS.old 11 rfl).trans n105.at_) (Bk.gr u122b (gr_drew pS.gr)) Try.underlying24 rfl (by kernel_rfl)) (Gr.refl _) rfl rfl)
  have e133 := n105.ne rfl (n104.ne rfl (n102.ne rfl (n101.ne rfl (n98.ne rfl (n77.ne rfl (n76.ne rfl (n75.ne rfl (n74.ne rfl (n65.ne rfl (n64.ne rfl (n63.ne rfl (n60.ne rfl (n59.ne rfl (n58.ne rfl (n50.ne rfl (n49.ne rfl (n48.ne rfl (n37.ne rfl (n34.ne rfl (n33.ne rfl (n30.ne rfl (n29.ne rfl (n28.ne rfl (n27.ne rfl (n26.ne rfl (n19.ne rfl (n13.ne rfl (n12.ne rfl (n9.ne rfl (n5.ne rfl (n2.ne rfl e0_2)))))))))))))))))))))))))))))))
  have R1304 := R1303.snoc (n' := 4) rfl (fun vJ _ => vJ = .int .i64 (x2)) rfl (fun _ _ _ _ h => h) (fun aS wS pS => by
      exact Does.val (wn _ rfl) (o_mv ((pS.old 2 rfl).trans e133)) (Gr.refl _) rfl rfl)
  have R1305 := R1304.snoc (n' := 5) rfl (fun vJ _ => vJ = .int .i64 (bd : Int)) rfl (fun _ _ _ _ h => h) (fun aS wS pS => by
      have eR130_3 : aS.eval (.tmp 45) = .int .i64 (x2) := pS.pre 3 rfl
      exact Does.call (wn _ rfl) (o_f2 Try.func24 rfl rfl rfl (eR130_3) ev_const) ((by have h := kwithin_any x2 1000 (by omega) (by omega) wS; rw [hbd] at h; exact h)) (by rintro _ w2 ⟨rfl, g⟩; exact ⟨_, rfl, g, rfl⟩) rfl)
  have e134 := n105.ne rfl (n104.ne rfl (n102.ne rfl (n101.ne rfl (n98.ne rfl n77.at_))))
  have R1306 := R1305.snoc (n' := 6) rfl (fun vJ _ => vJ = .agg #[.slice pa ((ints (formV (pD (layL (RT.map VerI.d)) (idC jd)))).length) pc, .slice qa ((pairs (formM (pD (layL (RT.map VerI.d)) (idC jd)))).length) qc]) rfl (fun _ _ _ _ h => h) (fun aS wS pS => by
      exact Does.val (wn _ rfl) (o_ldR ((pS.old 9 rfl).trans e134) (Bk.gr B125 (gr_drew pS.gr)) Try.underlying30 rfl (by kernel_rfl)) (Gr.refl _) rfl rfl)
  have R1307 := R1306.snoc (n' := 7) rfl (fun vJ _ => vJ = .agg #[.string (bs (idC jd)), .int .i64 0, .int .i64 900, .int .i64 0, .int .i64 0, .int .i64 (bd : Int), .slice pa ((ints (formV (pD (layL (RT.map VerI.d)) (idC jd)))).length) pc, .slice qa ((pairs (formM (pD (layL (RT.map VerI.d)) (idC jd)))).length) qc]) rfl (fun _ _ _ _ h => h) (fun aS wS pS => by
      have eR130_1 : aS.eval (.tmp 43) = .string (bs (idC jd)) := pS.pre 1 rfl
      have eR130_2 : aS.eval (.tmp 44) = .agg #[.int .i64 0, .int .i64 900] := pS.pre 2 rfl
      have eR130_4 : aS.eval (.tmp 46) = .int .i64 (bd : Int) := pS.pre 4 rfl
      have eR130_5 : aS.eval (.tmp 47) = .agg #[.slice pa ((ints (formV (pD (layL (RT.map VerI.d)) (idC jd)))).length) pc, .slice qa ((pairs (formM (pD (layL (RT.map VerI.d)) (idC jd)))).length) qc] := pS.pre 5 rfl
      exact Does.val (wn _ rfl) (o_bd (cells := #[.string (bs (idC jd)), .int .i64 0, .int .i64 900, .int .i64 0, .int .i64 0, .int .i64 (bd : Int), .slice pa ((ints (formV (pD (layL (RT.map VerI.d)) (idC jd)))).length) pc, .slice qa ((pairs (formM (pD (layL (RT.map VerI.d)) (idC jd)))).length) qc]) (vs := [(0, .string (bs (idC jd))), (1, .agg #[.int .i64 0, .int .i64 900]), (3, .int .i64 (bd : Int)), (4, .agg #[.slice pa ((ints (formV (pD (layL (RT.map VerI.d)) (idC jd)))).length) pc, .slice qa ((pairs (formM (pD (layL (RT.map VerI.d)) (idC jd)))).length) qc])]) (by simp [(eR130_1), (eR130_2), (eR130_4), (eR130_5), ev_const]) (by kernel_rfl)) (Gr.refl _) rfl rfl)
  have R1308 := R1307.snoc (n' := 8) rfl (fun vJ wJ => ∃ (R2 : List VerI) (ra2 : Option Addr) (rc2 : Nat), vJ = .tuple #[.slice ra2 R2.length rc2, .int .i64 0] ∧ (R2.map VerI.d = (svIns (svKeep (layL (RT.map VerI.d)) (gonD (idC jd) (pD (layL (RT.map VerI.d)) (idC jd)))) (farV (idC jd) 0 ((bd : Nat) : Int) (pD (layL (RT.map VerI.d)) (idC jd))))) ∧ (RdA encVr 8 wJ ra2 R2) ∧ (MeansV wJ R2)) rfl (fun _ _ _ g ⟨R2, ra2, rc2, h, q0, q1, q2⟩ => ⟨R2, ra2, rc2, h, q0, q1.gr g, q2.gr g⟩) (fun aS wS pS => by
      have eR130_0 : aS.eval (.tmp 42) = .slice ra1 R1.length rc1 := pS.pre 0 rfl
      have eR130_6 : aS.eval (.tmp 48) = .agg #[.string (bs (idC jd)), .int .i64 0, .int .i64 900, .int .i64 0, .int .i64 0, .int .i64 (bd : Int), .slice pa ((ints (formV (pD (layL (RT.map VerI.d)) (idC jd)))).length) pc, .slice qa ((pairs (formM (pD (layL (RT.map VerI.d)) (idC jd)))).length) qc] := pS.pre 6 rfl
      exact Does.call (wn _ rfl) (o_f2 Try.func34 rfl rfl rfl (eR130_0) (eR130_6)) (sput_far R1 ra1 rc1 (idC jd) 0 ((bd : Nat) : Int) (pD (layL (RT.map VerI.d)) (idC jd)) pa qa pc qc wS (hr1.gr (A127.trans (gr_drew pS.gr))) (hm1.gr (A127.trans (gr_drew pS.gr))) (hkk.gr (A128.trans (gr_drew pS.gr))) _ _ hR1 p1 p2) (by rintro _ w2 ⟨R2, ra2, rc2, rfl, hR2, hr2, hm2, g⟩; exact ⟨_, rfl, g, ⟨R2, ra2, rc2, rfl, hR2, hr2, hm2⟩⟩) rfl)
  have R1309 := R1308.snoc (n' := 9) rfl (fun vJ wJ => ∃ (R2 : List VerI) (ra2 : Option Addr) (rc2 : Nat), vJ = .tuple #[.slice ra2 R2.length rc2, .int .i64 0] ∧ (R2.map VerI.d = (svIns (svKeep (layL (RT.map VerI.d)) (gonD (idC jd) (pD (layL (RT.map VerI.d)) (idC jd)))) (farV (idC jd) 0 ((bd : Nat) : Int) (pD (layL (RT.map VerI.d)) (idC jd))))) ∧ (RdA encVr 8 wJ ra2 R2) ∧ (MeansV wJ R2)) rfl (fun _ _ _ g ⟨R2, ra2, rc2, h, q0, q1, q2⟩ => ⟨R2, ra2, rc2, h, q0, q1.gr g, q2.gr g⟩) (fun aS wS pS => by
      obtain ⟨R2, ra2, rc2, eR130_7, hR2, hr2, hm2⟩ := pS.pre 7 rfl
      have eR130_7 : aS.eval (.tmp 49) = .tuple #[.slice ra2 R2.length rc2, .int .i64 0] := eR130_7
      exact Does.val (wn _ rfl) (o_mv (eR130_7)) (Gr.refl _) ⟨R2, ra2, rc2, rfl, hR2, hr2, hm2⟩ rfl)
  have R13010 := R1309.snoc (n' := 10) rfl (fun vJ wJ => ∃ (R2 : List VerI) (ra2 : Option Addr) (rc2 : Nat), vJ = .slice ra2 R2.length rc2 ∧ (R2.map VerI.d = (svIns (svKeep (layL (RT.map VerI.d)) (gonD (idC jd) (pD (layL (RT.map VerI.d)) (idC jd)))) (farV (idC jd) 0 ((bd : Nat) : Int) (pD (layL (RT.map VerI.d)) (idC jd))))) ∧ (RdA encVr 8 wJ ra2 R2) ∧ (MeansV wJ R2)) rfl (fun _ _ _ g ⟨R2, ra2, rc2, h, q0, q1, q2⟩ => ⟨R2, ra2, rc2, h, q0, q1.gr g, q2.gr g⟩) (fun aS wS pS => by
      obtain ⟨R2, ra2, rc2, eR130_8, hR2, hr2, hm2⟩ := pS.pre 8 rfl
      have eR130_8 : aS.eval (.tmp 41) = .tuple #[.slice ra2 R2.length rc2, .int .i64 0] := eR130_8
      exact Does.val (wn _ rfl) (o_ex (eR130_8) rfl) (Gr.refl _) ⟨R2, ra2, rc2, rfl, hR2, hr2, hm2⟩ rfl)
  have R13011 := R13010.snoc (n' := 11) rfl (fun vJ _ => vJ = .int .i64 0) rfl (fun _ _ _ _ h => h) (fun aS wS pS => by
      obtain ⟨R2, ra2, rc2, eR130_8, hR2, hr2, hm2⟩ := pS.pre 8 rfl
      have eR130_8 : aS.eval (.tmp 41) = .tuple #[.slice ra2 R2.length rc2, .int .i64 0] := eR130_8
      exact Does.val (wn _ rfl) (o_ex (eR130_8) rfl) (Gr.refl _) rfl rfl)
  have R13012 := R13011.snoc (n' := 12) rfl (fun vJ wJ => ∃ (R2 : List VerI) (ra2 : Option Addr) (rc2 : Nat), vJ = .slice ra2 R2.length rc2 ∧ (R2.map VerI.d = (svIns (svKeep (layL (RT.map VerI.d)) (gonD (idC jd) (pD (layL (RT.map VerI.d)) (idC jd)))) (farV (idC jd) 0 ((bd : Nat) : Int) (pD (layL (RT.map VerI.d)) (idC jd))))) ∧ (RdA encVr 8 wJ ra2 R2) ∧ (MeansV wJ R2)) rfl (fun _ _ _ g ⟨R2, ra2, rc2, h, q0, q1, q2⟩ => ⟨R2, ra2, rc2, h, q0, q1.gr g, q2.gr g⟩) (fun aS wS pS => by
      obtain ⟨R2, ra2, rc2, eR130_9, hR2, hr2, hm2⟩ := pS.pre 9 rfl
      have eR130_9 : aS.eval (.tmp 50) = .slice ra2 R2.length rc2 := eR130_9
      exact Does.val (wn _ rfl) (o_as (eR130_9)) (Gr.refl _) ⟨R2, ra2, rc2, rfl, hR2, hr2, hm2⟩ rfl)
  have R13013 := R13012.snoc (n' := 13) rfl (fun vJ _ => vJ = .int .i64 0) rfl (fun _ _ _ _ h => h) (fun aS wS pS => by
      have eR130_10 : aS.eval (.tmp 51) = .int .i64 0 := pS.pre 10 rfl
      exact Does.val (wn _ rfl) (o_as (eR130_10)) (Gr.refl _) rfl rfl)
  refine R13013.run (k := 0) (L := #[true, true, true, true, true, true, true, true, true, true, true, true, true]) (by kernel_rfl) (by kernel_rfl) (by kernel_rfl) n105.ok (by kernel_rfl) (by kernel_rfl) (fun ap136 w137 p136 => ?_)
  have g138 := gr_drew p136.gr
  have G139 := G123.trans g138
  have B140 := B124.gr g138
  have B141 := B125.gr g138
  have B142 := u122b.gr g138
  have A143 := A126.trans g138
  have A144 := A127.trans g138
  have A145 := A128.trans g138
  obtain ⟨R2, ra2, rc2, ep136_11, hR2, hr2, hm2⟩ := p136.js 11 rfl
  have ep136_11 : ap136.eval (.tmp 12) = .slice ra2 R2.length rc2 := ep136_11
  have A147 := Gr.refl w137
  refine wpAny_done (by kernel_rfl) ?_ _
  refine th_n (hK129 _ _ ?_)
  refine wp_seq_k (fun K148 hK148 => ?_)
  refine wp_seq_k (fun K149 hK149 => ?_)
  refine wp_region_lit ?_
  have ep136_12 : ap136.eval (.tmp 10) = .int .i64 0 := p136.js 12 rfl
  refine sv p136.ok rfl (wn _ rfl) rfl (o_mv ep136_12) (fun an150 n150 => ?_)
  refine sv n150.ok rfl (wn _ rfl) rfl (o_neq (b := false) n150.at_ ev_const (by decide)) (fun an151 n151 => ?_)
  refine wpList_nil ?_
  refine th_n (hK149 _ _ ?_)
  refine wp_cond_false (n151.at_) ?_
  refine wp_skip ?_
  refine th_n (hK148 _ _ ?_)
  refine wp_seq_k (fun K152 hK152 => ?_)
  refine wp_region_lit ?_
  refine sv n151.ok rfl (wn _ rfl) rfl (o_mv (n151.ne rfl (n150.ne rfl ep136_11))) (fun an153 n153 => ?_)
  have e154 := n153.ne rfl (n151.ne rfl (n150.ne rfl ((p136.old 1 rfl).trans e132)))
  refine sv n153.ok rfl (wn _ rfl) rfl (o_mv e154) (fun an155 n155 => ?_)
  refine sc n155.ok rfl (wn _ rfl) rfl (o_f2 Try.func10 rfl rfl rfl (n155.ne rfl n153.at_) n155.at_) ((get_one (by have h := sget_r R2 ra2 rc2 (idC jd) w137 (hr2.gr A147) (hm2.gr A147) (svIns (svKeep (layL (RT.map VerI.d)) (gonD (idC jd) (pD (layL (RT.map VerI.d)) (idC jd)))) (farV (idC jd) 0 ((bd : Nat) : Int) (pD (layL (RT.map VerI.d)) (idC jd)))) hR2; rw [p3, p4] at h; exact h))) ?_
  rintro _ w157 ⟨r0, ra3, rc3, rfl, hr0, hr3, g158⟩
  obtain ⟨r3b, r3f, rfl, hb3, hc3⟩ := hr3 (List.cons_ne_nil _ _)
  refine ⟨_, rfl, fun an156 n156 => ?_⟩
  have G159 := G139.trans g158
  have B160 := B140.gr g158
  have B161 := B141.gr g158
  have B162 := B142.gr g158
  have A163 := A143.trans g158
  have A164 := A144.trans g158
  have A165 := A145.trans g158
  have A166 := A147.trans g158
  refine sv n156.ok rfl (wn _ rfl) rfl (o_mv n156.at_) (fun an167 n167 => ?_)
  refine sv n167.ok rfl (wn _ rfl) rfl (o_ex n167.at_ rfl) (fun an168 n168 => ?_)
  refine sv n168.ok rfl (wn _ rfl) rfl (o_ex (n168.ne rfl n167.at_) rfl) (fun an169 n169 => ?_)
  refine sv n169.ok rfl (wn _ rfl) rfl (o_as (n169.ne rfl n168.at_)) (fun an170 n170 => ?_)
  refine sv n170.ok rfl (wn _ rfl) rfl (o_as (n170.ne rfl n169.at_)) (fun an171 n171 => ?_)
  refine wpList_nil ?_
  refine th_n (hK152 _ _ ?_)
  refine wp_seq_k (fun K172 hK172 => ?_)
  refine wp_seq_k (fun K173 hK173 => ?_)
  refine h_start [] 15 #[false, false, false, false, false, false, false, false, false, false, false, false, false, false, false] (by kernel_rfl) rfl rfl ?_
  have S174 := Sx.drew [] w157
  have g175 := (Gr.refl w157).drew
  generalize w157.drew = w176 at *
  have G177 := G159.trans g175
  have B178 := B160.gr g175
  have B179 := B161.gr g175
  have B180 := B162.gr g175
  have A181 := A163.trans g175
  have A182 := A164.trans g175
  have A183 := A165.trans g175
  have A184 := A166.trans g175
  refine h_take (i := 0) (fuel := 14) n171.ok rfl rfl rfl (by kernel_rfl) (by kernel_rfl) (by kernel_rfl) (fun _ _ _ _ _ h => h) (wn _ rfl) (fun x hx => o_mv n171.at_) S174 (fun an185 n185 => ?_)
  refine h_take (i := 1) (fuel := 13) n185.ok rfl rfl rfl (by kernel_rfl) (by kernel_rfl) (by kernel_rfl) (fun _ _ _ _ _ h => h) (wn _ rfl) (fun x hx => o_neq (b := false) n185.at_ ev_const (by decide)) S174 (fun an186 n186 => ?_)
  refine h_take (i := 2) (fuel := 12) n186.ok rfl rfl rfl (by kernel_rfl) (by kernel_rfl) (by kernel_rfl) (fun _ _ _ _ _ h => h) (wn _ rfl) (fun x hx => o_mv n186.at_) S174 (fun an187 n187 => ?_)
  have e188 := n187.ne rfl (n186.ne rfl (n185.ne rfl (n171.ne rfl n170.at_)))
  refine h_take (i := 3) (fuel := 11) n187.ok rfl rfl rfl (by kernel_rfl) (by kernel_rfl) (by kernel_rfl) (fun _ _ _ _ _ h => h) (wgT rfl (yl 2 false rfl n187.at_) rfl) (fun x hx => o_mv e188) S174 (fun an189 n189 => ?_)
  refine h_take (i := 4) (fuel := 10) n189.ok rfl rfl rfl (by kernel_rfl) (by kernel_rfl) (by kernel_rfl) (fun _ _ _ _ _ h => h) (wgT rfl (yl 2 false rfl (n189.ne rfl n187.at_)) rfl) (fun x hx => o_len n189.at_ Try.underlying22) S174 (fun an190 n190 => ?_)
  refine h_take (i := 5) (fuel := 9) n190.ok rfl rfl rfl (by kernel_rfl) (by kernel_rfl) (by kernel_rfl) (fun _ _ _ _ _ h => h) (wgT rfl (yl 2 false rfl (n190.ne rfl (n189.ne rfl n187.at_))) rfl) (fun x hx => o_neq (b := false) n190.at_ ev_const (by decide)) S174 (fun an191 n191 => ?_)
  have e192 := n191.ne rfl (n190.ne rfl (n189.ne rfl n187.at_))
  refine h_take (i := 6) (fuel := 8) n191.ok rfl rfl rfl (by kernel_rfl) (by kernel_rfl) (by kernel_rfl) (fun _ _ _ _ _ h => h) (wn _ rfl) (fun x hx => o_pkF e192 n191.at_) S174 (fun an193 n193 => ?_)
  refine h_take (i := 7) (fuel := 7) n193.ok rfl rfl rfl (by kernel_rfl) (by kernel_rfl) (by kernel_rfl) (fun _ _ _ _ _ h => h) (wn _ rfl) (fun x hx => o_mv n193.at_) S174 (fun an194 n194 => ?_)
  have e195 := n194.ne rfl (n193.ne rfl (n191.ne rfl (n190.ne rfl (n189.ne rfl e188))))
  refine h_take (i := 8) (fuel := 6) n194.ok rfl rfl rfl (by kernel_rfl) (by kernel_rfl) (by kernel_rfl) (fun _ _ _ _ _ h => h) (wgT rfl (yl 7 false rfl n194.at_) rfl) (fun x hx => o_mv e195) S174 (fun an196 n196 => ?_)
  refine h_take (i := 9) (fuel := 5) n196.ok rfl rfl rfl (by kernel_rfl) (by kernel_rfl) (by kernel_rfl) (fun _ _ _ _ _ h => h) (wgT rfl (yl 7 false rfl (n196.ne rfl n194.at_)) rfl) (fun x hx => o_iaV (i := 0) (s := 8) rfl n196.at_ ev_const Try.underlying22 (by kernel_rfl) (by decide)) S174 (fun an197 n197 => ?_)
  refine h_take (i := 10) (fuel := 4) n197.ok rfl rfl rfl (by kernel_rfl) (by kernel_rfl) (by kernel_rfl) (fun _ _ _ _ _ h => h) (wgT rfl (yl 7 false rfl (n197.ne rfl (n196.ne rfl n194.at_))) rfl) (fun x hx => o_fa (z := 2) n197.at_ Try.underlying32 rfl (by kernel_rfl) rfl rfl) S174 (fun an198 n198 => ?_)
  have e199 := n198.ne rfl (n197.ne rfl (n196.ne rfl n194.at_))
  refine h_take (i := 11) (fuel := 3) n198.ok rfl rfl rfl (by kernel_rfl) (by kernel_rfl) (by kernel_rfl) (fun _ _ _ _ _ h => h) (wgT rfl (yl 7 false rfl e199) rfl) (fun x hx => o_ldA (k := r3f + 0 * 8 + 1) n198.at_ (cs := [.int .i64 r0.d.s, .int .i64 r0.d.c]) (fun j u hu => (World.cell?_of_block (hx _ (by simp))).trans (r0_dot hc3 j u hu)) Try.underlying24 rfl (by kernel_rfl)) S174 (fun an200 n200 => ?_)
  have e201 := n200.ne rfl (n198.ne rfl (n197.ne rfl (n196.ne rfl (n194.ne rfl (n193.ne rfl (n191.ne rfl (n190.ne rfl (n189.ne rfl (n187.ne rfl (n186.ne rfl (n185.ne rfl (n171.ne rfl (n170.ne rfl (n169.ne rfl (n168.ne rfl (n167.ne rfl (n156.ne rfl (n155.ne rfl (n153.ne rfl (n151.ne rfl (n150.ne rfl ((p136.old 11 rfl).trans n105.at_))))))))))))))))))))))
  refine h_take (i := 12) (fuel := 2) n200.ok rfl rfl rfl (by kernel_rfl) (by kernel_rfl) (by kernel_rfl) (fun _ _ _ _ _ h => h) (wgT rfl (yl 7 false rfl (n200.ne rfl e199)) rfl) (fun x hx => o_ldR e201 (Sx.bk hx B162 (by simp <;> omega)) Try.underlying24 rfl (by kernel_rfl)) S174 (fun an202 n202 => ?_)
  refine h_take (i := 13) (fuel := 1) n202.ok rfl rfl rfl (by kernel_rfl) (by kernel_rfl) (by kernel_rfl) (fun _ _ _ _ _ h => h) (wgT rfl (yl 7 false rfl (n202.ne rfl (n200.ne rfl e199))) rfl) (fun x hx => o_neDot (n202.ne rfl n200.at_) n202.at_ (by rw [hr0]; rfl) (by rw [hr0]; rfl)) S174 (fun an203 n203 => ?_)
  have e204 := n203.ne rfl (n202.ne rfl (n200.ne rfl e199))
  refine h_take (i := 14) (fuel := 0) n203.ok rfl rfl rfl (by kernel_rfl) (by kernel_rfl) (by kernel_rfl) (fun _ _ _ _ _ h => h) (wn _ rfl) (fun x hx => o_pkF e204 n203.at_) S174 (fun an205 n205 => ?_)
  refine wpAnyH_done (by kernel_rfl) ?_ _
  refine th_n (hK173 _ _ ?_)
  refine wp_cond_false (n205.at_) ?_
  refine wp_skip ?_
  refine th_n (hK172 _ _ ?_)
  refine wp_seq_k (fun K206 hK206 => ?_)
  refine wp_seq_k (fun K207 hK207 => ?_)
  refine wp_region_lit ?_
  have e208 := n205.ne rfl (n203.ne rfl (n202.ne rfl (n200.ne rfl (n198.ne rfl (n197.ne rfl (n196.ne rfl (n194.ne rfl (n193.ne rfl (n191.ne rfl (n190.ne rfl (n189.ne rfl (n187.ne rfl (n186.ne rfl (n185.ne rfl (n171.ne rfl (n170.ne rfl (n169.ne rfl (n168.ne rfl (n167.ne rfl (n156.ne rfl (n155.ne rfl (n153.ne rfl (n151.ne rfl (n150.ne rfl ((p136.old 7 rfl).trans e131)))))))))))))))))))))))))
  refine sv n205.ok rfl (wn _ rfl) rfl (o_mv e208) (fun an209 n209 => ?_)
  refine sv n209.ok rfl (wn _ rfl) rfl (o_len n209.at_ Try.underlying22) (fun an210 n210 => ?_)
  refine sv n210.ok rfl (wn _ rfl) rfl (o_mv ev_const) (fun an211 n211 => ?_)
  refine wpList_nil ?_
  refine th_n (hK207 _ _ ?_)
  refine wp_block ?_
  have hl1 : R1.length ≤ 60 := by have h1 := hM1.ok.len; have h2 := congrArg List.length hR1; rw [List.length_map] at h2; omega
  have hl2 : R2.length ≤ 100000 := keep_len hX hR2 p1 p2
  have e213 := n211.ne rfl (n210.ne rfl (n209.ne rfl (n205.ne rfl (n203.ne rfl (n202.ne rfl (n200.ne rfl (n198.ne rfl (n197.ne rfl (n196.ne rfl (n194.ne rfl (n193.ne rfl (n191.ne rfl (n190.ne rfl (n189.ne rfl (n187.ne rfl (n186.ne rfl (n185.ne rfl (n171.ne rfl (n170.ne rfl (n169.ne rfl (n168.ne rfl (n167.ne rfl (n156.ne rfl (n155.ne rfl e154))))))))))))))))))))))))
  have e214 := n211.ne rfl (n210.ne rfl (n209.ne rfl (n205.ne rfl (n203.ne rfl (n202.ne rfl (n200.ne rfl (n198.ne rfl (n197.ne rfl (n196.ne rfl (n194.ne rfl (n193.ne rfl (n191.ne rfl (n190.ne rfl (n189.ne rfl (n187.ne rfl (n186.ne rfl (n185.ne rfl (n171.ne rfl (n170.ne rfl (n169.ne rfl (n168.ne rfl (n167.ne rfl (n156.ne rfl (n155.ne rfl (n153.ne rfl (n151.ne rfl (n150.ne rfl ((p136.old 6 rfl).trans (n105.ne rfl (n104.ne rfl (n102.ne rfl (n101.ne rfl (n98.ne rfl (n77.ne rfl (n76.ne rfl (n75.ne rfl (n74.ne rfl (n65.ne rfl (n64.ne rfl (n63.ne rfl (n60.ne rfl (n59.ne rfl (n58.ne rfl (n50.ne rfl (n49.ne rfl (n48.ne rfl (n37.ne rfl (n34.ne rfl (n33.ne rfl (n30.ne rfl (n29.ne rfl (n28.ne rfl (n27.ne rfl (n26.ne rfl (n19.ne rfl (n13.ne rfl (n12.ne rfl (n9.ne rfl (n5.ne rfl n2.at_)))))))))))))))))))))))))))))))))))))))))))))))))))))))))))
  have e215 := n211.ne rfl (n210.ne rfl (n209.ne rfl (n205.ne rfl (n203.ne rfl (n202.ne rfl (n200.ne rfl (n198.ne rfl (n197.ne rfl (n196.ne rfl (n194.ne rfl (n193.ne rfl (n191.ne rfl (n190.ne rfl (n189.ne rfl (n187.ne rfl (n186.ne rfl (n185.ne rfl (n171.ne rfl (n170.ne rfl (n169.ne rfl (n168.ne rfl (n167.ne rfl (n156.ne rfl (n155.ne rfl (n153.ne rfl (n151.ne rfl (n150.ne rfl ep136_11)))))))))))))))))))))))))))
  refine lp (fun (nL : Nat) (aL : Act) (wL : World) => ∃ i : Nat, nL = R1.length - i ∧ Ok 92 aL ∧ Gr w wL ∧ (aL.eval (.tmp 1) = .string (bs (idC jd))) ∧ (aL.eval (.tmp 6) = .bool false) ∧ (aL.eval (.tmp 12) = .slice ra2 R2.length rc2) ∧ (aL.eval (.tmp 75) = .slice ra1 R1.length rc1) ∧ (aL.eval (.tmp 76) = .int .i64 ((R1.length : Nat) : Int)) ∧ (aL.eval (.tmp 77) = .int .i64 (i : Int)) ∧ (Gr w14 wL) ∧ (Gr w20 wL) ∧ (Gr w66 wL) ∧ (Gr w137 wL) ∧ (i ≤ R1.length)) _ ⟨0, rfl, n211.ok, G177, e213, e214, e215, (n211.ne rfl (n210.ne rfl n209.at_)), (n211.ne rfl n210.at_), n211.at_, A181, A182, A183, A184, by omega⟩ ?_
  rintro m216 aI212 w218 ⟨i, hmI212, okI212, GI212, s1I212, s6I212, s12I212, s75I212, s76I212, s77I212, xanch17I212, xanch24I212, xanch72I212, xanch146I212, hiI212⟩ KI212 hKI212
  refine wp_seq_k (fun K219 hK219 => ?_)
  refine wp_region_lit ?_
  refine sv okI212 rfl (wn _ rfl) rfl (o_ltI s77I212 s76I212) (fun an220 n220 => ?_)
  refine wpList_nil ?_
  refine th_n (hK219 _ _ ?_)
  refine wp_seq_k (fun K221 hK221 => ?_)
  by_cases c222 : (i : Int) < ((R1.length : Nat) : Int)
  · refine wp_cond_true ((n220.at_).trans (congrArg Value.bool (decide_eq_true c222))) ?_
    refine wp_skip ?_
    refine th_n (hK221 _ _ ?_)
    refine wp_seq_k (fun K223 hK223 => ?_)
    refine wp_block ?_
    refine wp_seq_k (fun K224 hK224 => ?_)
    refine wp_region_lit ?_
    have h225l : i < List.length R1 := by omega
    obtain ⟨bh225, fh225, h225a, h225b, h225c⟩ := (hr1.gr xanch24I212) (ne_nil_of_lt h225l)
    obtain ⟨xh225, h225x⟩ : ∃ x, (R1)[i]? = some x := ⟨_, List.getElem?_eq_getElem h225l⟩
    refine sv n220.ok rfl (wn _ rfl) rfl (o_iaV (i := i) (s := 8) h225a (n220.ne rfl s75I212) (n220.ne rfl s77I212) Try.underlying22 (by kernel_rfl) h225l) (fun an226 n226 => ?_)
    refine sv n226.ok rfl (wn _ rfl) rfl (o_ldA (k := fh225 + i * 8) n226.at_ (cs := [.string (bs xh225.d.id), .int .i64 (xh225.d.s), .int .i64 (xh225.d.c), .int .i64 (xh225.d.t), .int .i64 (xh225.d.n), .int .i64 (xh225.d.b), .slice xh225.va xh225.d.V.length xh225.vc, .slice xh225.ma xh225.d.M.length xh225.mc]) (fun j v hv => (Below.cell (Gr.refl w218) h225b).trans (h225c _ _ h225x j v hv)) Try.underlying32 rfl (by kernel_rfl)) (fun an227 n227 => ?_)
    refine sal (cs := #[.string (bs []), .int .i64 0, .int .i64 0, .int .i64 0, .int .i64 0, .int .i64 0, .slice none 0 0, .slice none 0 0]) n227.ok rfl (wn _ rfl) rfl (o_al (z := .agg #[.string (bs []), .int .i64 0, .int .i64 0, .int .i64 0, .int .i64 0, .int .i64 0, .slice none 0 0, .slice none 0 0]) (by kernel_rfl)) (fun an228 w230 b229 W231 n228 => ?_)
    have l232 : w.heap.size ≤ b229 := by rw [W231.eq]; exact GI212.size
    have l233 : w14.heap.size ≤ b229 := by rw [W231.eq]; exact xanch17I212.size
    have l234 : w20.heap.size ≤ b229 := by rw [W231.eq]; exact xanch24I212.size
    have l235 : w66.heap.size ≤ b229 := by rw [W231.eq]; exact xanch72I212.size
    have l236 : w137.heap.size ≤ b229 := by rw [W231.eq]; exact xanch146I212.size
    have G237 := GI212.trans W231.gr
    have A238 := xanch17I212.trans W231.gr
    have A239 := xanch24I212.trans W231.gr
    have A240 := xanch72I212.trans W231.gr
    have A241 := xanch146I212.trans W231.gr
    refine ssR rfl (wn _ rfl) (o_stR n228.at_ (n228.ne rfl n227.at_) W231.bk (by kernel_rfl) rfl (by simp [Value.oneCell'])) W231.bk (fun w242 u243 u243b => ?_)
    have G244 : Gr w w242 := Below.upd G237 l232 u243
    have A245 : Gr w14 w242 := Below.upd A238 l233 u243
    have A246 : Gr w20 w242 := Below.upd A239 l234 u243
    have A247 : Gr w66 w242 := Below.upd A240 l235 u243
    have A248 : Gr w137 w242 := Below.upd A241 l236 u243
    refine wpList_nil ?_
    refine th_n (hK224 _ _ ?_)
    refine wp_seq_k (fun K249 hK249 => ?_)
    refine wp_region_lit ?_
    refine sv n228.ok rfl (wn _ rfl) rfl (o_fa (z := 1) n228.at_ Try.underlying32 rfl (by kernel_rfl) rfl rfl) (fun an250 n250 => ?_)
    refine sv n250.ok rfl (wn _ rfl) rfl (o_ld n250.at_ (Try.isAgg9 _) (u243b.cell _ rfl)) (fun an251 n251 => ?_)
    have e252 := n251.ne rfl (n250.ne rfl (n228.ne rfl (n227.ne rfl (n226.ne rfl (n220.ne rfl s1I212)))))
    refine sv n251.ok rfl (wn _ rfl) rfl (o_mv e252) (fun an253 n253 => ?_)
    refine sv n253.ok rfl (wn _ rfl) rfl (o_neS (n253.ne rfl n251.at_) n253.at_) (fun an254 n254 => ?_)
    refine sv n254.ok rfl (wn _ rfl) rfl (o_mv n254.at_) (fun an255 n255 => ?_)
    by_cases c256 : ¬ xh225.d.id = (idC jd)
    · have e257 := (n255.at_).trans (congrArg Value.bool (decide_eq_true c256))
      have e258 := ((n255.ne rfl n254.at_)).trans (congrArg Value.bool (decide_eq_true c256))
      have e259 := n255.ne rfl (n254.ne rfl (n253.ne rfl (n251.ne rfl (n250.ne rfl (n228.ne rfl (n227.ne rfl (n226.ne rfl (n220.ne rfl s12I212))))))))
      refine sv n255.ok rfl (wgT rfl (yl 4 true rfl e257) rfl) rfl (o_mv e259) (fun an260 n260 => ?_)
      have e261 := n260.ne rfl (n255.ne rfl (n254.ne rfl (n253.ne rfl (n251.ne rfl (n250.ne rfl n228.at_)))))
      refine sv n260.ok rfl (wgT rfl (yl 4 true rfl (n260.ne rfl e257)) rfl) rfl (o_mf (fs := []) (cs := [.pointer (some ⟨b229, 0, none⟩)]) (by simp) (by simp [e261])) (fun an262 n262 => ?_)
      refine sc n262.ok rfl (wgT rfl (yl 4 true rfl (n262.ne rfl (n260.ne rfl e257))) rfl) rfl (o_f2 Try.func29 rfl rfl rfl (n262.ne rfl n260.at_) n262.at_) ((by have h := containsV R2 ra2 rc2 _ [.pointer (some ⟨b229, 0, none⟩)] (fun x => sameVB xh225.d x.d) ⟨_, Try.func35, rfl, rfl⟩ (by omega) w242 (hr2.gr A248) (fun x hx w1 g1 => sp1_any x xh225 b229 (chk_small (chkOne_zero (hT.one _ (hsub _ (by rw [← hR1]; exact List.mem_map_of_mem (List.mem_of_getElem? h225x))))).2.2.1) w1 (((hm2.gr A248) x hx).gr g1) (((hm1.gr A246) _ (List.mem_of_getElem? h225x)).gr g1) (u243b.gr g1)); rw [stays hR2 (p5 _ (by rw [← hR1]; exact List.mem_map_of_mem (List.mem_of_getElem? h225x)) c256)] at h; exact h)) ?_
      rintro _ w264 ⟨rfl, g265⟩
      refine ⟨_, rfl, fun an263 n263 => ?_⟩
      have G266 := G244.trans g265
      have B267 := u243b.gr g265
      have A268 := A245.trans g265
      have A269 := A246.trans g265
      have A270 := A247.trans g265
      have A271 := A248.trans g265
      have e272 := n263.ne rfl (n262.ne rfl (n260.ne rfl e257))
      refine sv n263.ok rfl (wgT rfl (yl 4 true rfl e272) rfl) rfl (o_not n263.at_ rfl) (fun an273 n273 => ?_)
      refine sv n273.ok rfl (wn _ rfl) rfl (o_pkT (n273.ne rfl e272) n273.at_) (fun an274 n274 => ?_)
      refine wpList_nil ?_
      refine th_n (hK249 _ _ ?_)
      refine wp_cond_false (n274.at_) ?_
      refine wp_skip ?_
      refine ib_n ?_
      refine th_n (hK223 _ _ ?_)
      refine wp_region_lit ?_
      have e275 := n274.ne rfl (n273.ne rfl (n263.ne rfl (n262.ne rfl (n260.ne rfl (n255.ne rfl (n254.ne rfl (n253.ne rfl (n251.ne rfl (n250.ne rfl (n228.ne rfl (n227.ne rfl (n226.ne rfl (n220.ne rfl s77I212)))))))))))))
      refine sv n274.ok rfl (wn _ rfl) rfl (o_add (r := ((i + 1 : Nat) : Int)) e275 ev_const (by omega) (by omega)) (fun an276 n276 => ?_)
      refine sv n276.ok rfl (wn _ rfl) rfl (o_mv n276.at_) (fun an277 n277 => ?_)
      refine wpList_nil ?_
      have e278 := n277.ne rfl (n276.ne rfl (n274.ne rfl (n273.ne rfl (n263.ne rfl (n262.ne rfl (n260.ne rfl (n255.ne rfl (n254.ne rfl (n253.ne rfl e252)))))))))
      have e279 := n277.ne rfl (n276.ne rfl (n274.ne rfl (n273.ne rfl (n263.ne rfl (n262.ne rfl (n260.ne rfl (n255.ne rfl (n254.ne rfl (n253.ne rfl (n251.ne rfl (n250.ne rfl (n228.ne rfl (n227.ne rfl (n226.ne rfl (n220.ne rfl s6I212)))))))))))))))
      have e280 := n277.ne rfl (n276.ne rfl (n274.ne rfl (n273.ne rfl (n263.ne rfl (n262.ne rfl (n260.ne rfl e259))))))
      have e281 := n277.ne rfl (n276.ne rfl (n274.ne rfl (n273.ne rfl (n263.ne rfl (n262.ne rfl (n260.ne rfl (n255.ne rfl (n254.ne rfl (n253.ne rfl (n251.ne rfl (n250.ne rfl (n228.ne rfl (n227.ne rfl (n226.ne rfl (n220.ne rfl s75I212)))))))))))))))
      have e282 := n277.ne rfl (n276.ne rfl (n274.ne rfl (n273.ne rfl (n263.ne rfl (n262.ne rfl (n260.ne rfl (n255.ne rfl (n254.ne rfl (n253.ne rfl (n251.ne rfl (n250.ne rfl (n228.ne rfl (n227.ne rfl (n226.ne rfl (n220.ne rfl s76I212)))))))))))))))
      exact th_n (hKI212 _ _ _ (by omega) ⟨i + 1, rfl, n277.ok, G266, e278, e279, e280, e281, e282, n277.at_, A268, A269, A270, A271, by omega⟩)
    · have e283 := (n255.at_).trans (congrArg Value.bool (decide_eq_false c256))
      have e284 := ((n255.ne rfl n254.at_)).trans (congrArg Value.bool (decide_eq_false c256))
      refine sn n255.ok rfl (wgF rfl (yl 4 false rfl e283) rfl) rfl (fun an285 n285 => ?_)
      refine sn n285.ok rfl (wgF rfl (yl 4 false rfl (n285.ne rfl e283)) rfl) rfl (fun an286 n286 => ?_)
      refine sn n286.ok rfl (wgF rfl (yl 4 false rfl (n286.ne rfl (n285.ne rfl e283))) rfl) rfl (fun an287 n287 => ?_)
      have e288 := n287.ne rfl (n286.ne rfl (n285.ne rfl e283))
      refine sn n287.ok rfl (wgF rfl (yl 4 false rfl e288) rfl) rfl (fun an289 n289 => ?_)
      refine sv n289.ok rfl (wn _ rfl) rfl (o_pkF (n289.ne rfl e288) ev_const) (fun an290 n290 => ?_)
      refine wpList_nil ?_
      refine th_n (hK249 _ _ ?_)
      refine wp_cond_false (n290.at_) ?_
      refine wp_skip ?_
      refine ib_n ?_
      refine th_n (hK223 _ _ ?_)
      refine wp_region_lit ?_
      have e291 := n290.ne rfl (n289.ne rfl (n287.ne rfl (n286.ne rfl (n285.ne rfl (n255.ne rfl (n254.ne rfl (n253.ne rfl (n251.ne rfl (n250.ne rfl (n228.ne rfl (n227.ne rfl (n226.ne rfl (n220.ne rfl s77I212)))))))))))))
      refine sv n290.ok rfl (wn _ rfl) rfl (o_add (r := ((i + 1 : Nat) : Int)) e291 ev_const (by omega) (by omega)) (fun an292 n292 => ?_)
      refine sv n292.ok rfl (wn _ rfl) rfl (o_mv n292.at_) (fun an293 n293 => ?_)
      refine wpList_nil ?_
      have e294 := n293.ne rfl (n292.ne rfl (n290.ne rfl (n289.ne rfl (n287.ne rfl (n286.ne rfl (n285.ne rfl (n255.ne rfl (n254.ne rfl (n253.ne rfl e252)))))))))
      have e295 := n293.ne rfl (n292.ne rfl (n290.ne rfl (n289.ne rfl (n287.ne rfl (n286.ne rfl (n285.ne rfl (n255.ne rfl (n254.ne rfl (n253.ne rfl (n251.ne rfl (n250.ne rfl (n228.ne rfl (n227.ne rfl (n226.ne rfl (n220.ne rfl s6I212)))))))))))))))
      have e296 := n293.ne rfl (n292.ne rfl (n290.ne rfl (n289.ne rfl (n287.ne rfl (n286.ne rfl (n285.ne rfl (n255.ne rfl (n254.ne rfl (n253.ne rfl (n251.ne rfl (n250.ne rfl (n228.ne rfl (n227.ne rfl (n226.ne rfl (n220.ne rfl s12I212)))))))))))))))
      have e297 := n293.ne rfl (n292.ne rfl (n290.ne rfl (n289.ne rfl (n287.ne rfl (n286.ne rfl (n285.ne rfl (n255.ne rfl (n254.ne rfl (n253.ne rfl (n251.ne rfl (n250.ne rfl (n228.ne rfl (n227.ne rfl (n226.ne rfl (n220.ne rfl s75I212)))))))))))))))
      have e298 := n293.ne rfl (n292.ne rfl (n290.ne rfl (n289.ne rfl (n287.ne rfl (n286.ne rfl (n285.ne rfl (n255.ne rfl (n254.ne rfl (n253.ne rfl (n251.ne rfl (n250.ne rfl (n228.ne rfl (n227.ne rfl (n226.ne rfl (n220.ne rfl s76I212)))))))))))))))
      exact th_n (hKI212 _ _ _ (by omega) ⟨i + 1, rfl, n293.ok, G244, e294, e295, e296, e297, e298, n293.at_, A245, A246, A247, A248, by omega⟩)
  · refine wp_cond_false ((n220.at_).trans (congrArg Value.bool (decide_eq_false c222))) ?_
    refine wp_exit ?_
    refine th_x ?_
    refine th_x ?_
    refine ib_x ?_
    refine th_n (hK206 _ _ ?_)
    refine wp_seq_k (fun K299 hK299 => ?_)
    refine wp_region_lit ?_
    refine sv n220.ok rfl (wn _ rfl) rfl (o_as ev_const) (fun an300 n300 => ?_)
    refine wpList_nil ?_
    refine th_n (hK299 _ _ ?_)
    refine wp_ret ?_
    exact ret1 n300.ok rfl (n300.at_) ⟨rfl, GI212⟩
end Go.Proofs.Ytoencnbpjjkjnaa
