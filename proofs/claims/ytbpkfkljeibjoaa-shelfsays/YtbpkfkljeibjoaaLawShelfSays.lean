/- The walk of ShelfSays. -/
import Derived.Test.YtbpkfkljeibjoaaSy5
set_option linter.unusedVariables false
set_option linter.unusedSimpArgs false
namespace Go.Proofs.Ytbpkfkljeibjoaa
open Go.RowKit Rm Gx
theorem okS_get {L : List VerD} {id : List UInt8} (h : OkS L) : OkS (svGet L id) where
  len := Nat.le_trans (List.length_filter_le _ _) h.len
  one := fun x hx => h.one x (List.mem_filter.1 hx).1
  sort := h.sort.filter _
  apart := fun v hv x hx => h.apart v (List.mem_filter.1 hv).1 x (List.mem_filter.1 hx).1
theorem get_bad (K : List VerI) (va : Option Addr) (vc : Nat) (id : List UInt8) (hE : ¬ chkShf (K.map VerI.d) = 0) (w : World) (hv : RdA encVr 8 w va K) (hm : MeansV w K) :
    Calls Try.prog 4 #[.slice va K.length vc, .string (bs id)] w fun e w' => ∃ (a : Option Addr) (c : Nat), e = .returned (.tuple #[.slice a 0 c, .int .i64 (chkShf (K.map VerI.d))]) ∧ Gr w w' := by
  refine (sget_r K va vc id w hv hm _ rfl).mono ?_
  rintro e w' ⟨R, a, c, rfl, h1, h2, h3, g⟩
  unfold getL at h1
  rw [if_neg hE] at h1
  have hn : R = [] := List.map_eq_nil_iff.1 h1
  subst hn
  unfold getE
  rw [if_neg hE]
  exact ⟨a, c, rfl, g⟩
theorem get_none (K : List VerI) (va : Option Addr) (vc : Nat) (id : List UInt8) (hE : chkShf (K.map VerI.d) = 0) (hN : svGet (K.map VerI.d) id = []) (w : World) (hv : RdA encVr 8 w va K) (hm : MeansV w K) :
    Calls Try.prog 4 #[.slice va K.length vc, .string (bs id)] w fun e w' => ∃ (a : Option Addr) (c : Nat), e = .returned (.tuple #[.slice a 0 c, .int .i64 4]) ∧ Gr w w' := by
  refine (sget_r K va vc id w hv hm _ rfl).mono ?_
  rintro e w' ⟨R, a, c, rfl, h1, h2, h3, g⟩
  unfold getL at h1
  rw [if_pos hE, hN] at h1
  have hn : R = [] := List.map_eq_nil_iff.1 h1
  subst hn
  unfold getE
  rw [if_pos hE, if_pos hN]
  exact ⟨a, c, rfl, g⟩
theorem get_some (K : List VerI) (va : Option Addr) (vc : Nat) (id : List UInt8) (hE : chkShf (K.map VerI.d) = 0) (hN : ¬ svGet (K.map VerI.d) id = []) (w : World) (hv : RdA encVr 8 w va K) (hm : MeansV w K) :
    Calls Try.prog 4 #[.slice va K.length vc, .string (bs id)] w fun e w' => ∃ (R : List VerI) (a : Option Addr) (c : Nat), e = .returned (.tuple #[.slice a R.length c, .int .i64 0]) ∧ R.map VerI.d = svGet (K.map VerI.d) id ∧ RdA encVr 8 w' a R ∧ MeansV w' R ∧ Gr w w' := by
  refine (sget_r K va vc id w hv hm _ rfl).mono ?_
  rintro e w' ⟨R, a, c, rfl, h1, h2, h3, g⟩
  unfold getL at h1
  rw [if_pos hE] at h1
  unfold getE
  rw [if_pos hE, if_neg hN]
  exact ⟨R, a, c, rfl, h1, h2, h3, g⟩
theorem past_k (K : List VerI) (va : Option Addr) (vc : Nat) (id : List UInt8) (hE : chkShf (K.map VerI.d) = 0) (w : World) (hv : RdA encVr 8 w va K) (hm : MeansV w K) :
    Calls Try.prog 5 #[.slice va K.length vc, .string (bs id)] w fun e w' => ∃ a n c a' m c', e = .returned (.tuple #[.agg #[.slice a n c, .slice a' m c'], .int .i64 (frE (pD (K.map VerI.d) id))]) ∧ KnR w' (.agg #[.slice a n c, .slice a' m c']) (ints (frV (pD (K.map VerI.d) id))) (pairs (frM (pD (K.map VerI.d) id))) ∧ Gr w w' := by
  refine (past_ok K va vc id hE w hv hm).mono ?_
  rintro e w' ⟨k, rfl, h, g⟩
  obtain ⟨a, n, c, a', m, c', rfl⟩ := knR_form h
  exact ⟨a, n, c, a', m, c', rfl, h, g⟩
theorem rpast_k (K : List VerI) (va : Option Addr) (vc : Nat) (id : List UInt8) (hE : chkShf (K.map VerI.d) = 0) (w : World) (hv : RdA encVr 8 w va K) (hm : MeansV w K) :
    Calls Try.prog 13 #[.slice va K.length vc, .string (bs id)] w fun e w' => ∃ a n c a' m c', e = .returned (.tuple #[.agg #[.slice a n c, .slice a' m c'], .int .i64 (frE (pD (K.map VerI.d) id))]) ∧ KnR w' (.agg #[.slice a n c, .slice a' m c']) (ints (frV (pD (K.map VerI.d) id))) (pairs (frM (pD (K.map VerI.d) id))) ∧ Gr w w' := by
  have hO := (okS_iff _).1 hE
  refine (rpast_any K va vc id (by have := hO.len; simpa using this) hO.one w hv hm).mono ?_
  rintro e w' ⟨k, rfl, h, g⟩
  obtain ⟨a, n, c, a', m, c', rfl⟩ := knR_form h
  exact ⟨a, n, c, a', m, c', rfl, h, g⟩
theorem frM_small (D : DS) : (pairs (frM D)).length ≤ 100000 := by
  unfold frM pairs
  rw [List.length_map]
  split
  · omega
  · simp
theorem ida (w : World) : Calls Try.prog 7 #[.string (bs [97])] w fun e w' => e = .returned (.bool true) ∧ Gr w w' := by
  have h := id_any [97] w
  rw [show idB [97] = true by decide] at h
  exact h
set_option maxHeartbeats 8000000 in
set_option maxRecDepth 100000 in
theorem shelfSays_bad (K : List VerI) (y : VerI) (va : Option Addr) (vc : Nat) (l : List UInt8) (hl : l.length ≤ 9223372036854775807) (hyl : y.d.id.length ≤ 9223372036854775807) (hid : ∀ x ∈ K, x.d.id.length ≤ 9223372036854775807) (hE : ¬ chkShf (K.map VerI.d) = 0) (w : World) (hv : RdA encVr 8 w va K) (hm : MeansV w K) (hy : MeanV w y) :
    Calls Try.prog 3 #[.slice va K.length vc, .agg #[.string (bs y.d.id), .int .i64 (y.d.s), .int .i64 (y.d.c), .int .i64 (y.d.t), .int .i64 (y.d.n), .int .i64 (y.d.b), .slice y.va y.d.V.length y.vc, .slice y.ma y.d.M.length y.mc], .string (bs l)] w fun e w' => e = .returned (.bool true) ∧ Gr w w' := by
  refine enter (N := 106) Try.func3 rfl rfl rfl (fun a0 ok0 h0 => ?_)
  have e0_0 : a0.eval (.tmp 0) = .slice va K.length vc := h0 0 _ rfl
  have e0_1 : a0.eval (.tmp 1) = .agg #[.string (bs y.d.id), .int .i64 (y.d.s), .int .i64 (y.d.c), .int .i64 (y.d.t), .int .i64 (y.d.n), .int .i64 (y.d.b), .slice y.va y.d.V.length y.vc, .slice y.ma y.d.M.length y.mc] := h0 1 _ rfl
  have e0_2 : a0.eval (.tmp 2) = .string (bs l) := h0 2 _ rfl
  clear h0
  have G0 := Gr.refl w
  refine wp_seq_k (fun K1 hK1 => ?_)
  refine wp_region_lit ?_
  refine sal (cs := #[.string (bs y.d.id), .int .i64 (y.d.s), .int .i64 (y.d.c), .int .i64 (y.d.t), .int .i64 (y.d.n), .int .i64 (y.d.b), .slice y.va y.d.V.length y.vc, .slice y.ma y.d.M.length y.mc]) ok0 rfl (wn _ rfl) rfl (o_box e0_1) (fun an2 w4 b3 W5 n2 => ?_)
  have l6 : w.heap.size ≤ b3 := by rw [W5.eq]; exact G0.size
  have G7 := G0.trans W5.gr
  refine sv n2.ok rfl (wn _ rfl) rfl (o_as ev_const) (fun an8 n8 => ?_)
  refine wpList_nil ?_
  refine th_n (hK1 _ _ ?_)
  refine wp_seq_k (fun K9 hK9 => ?_)
  refine wp_region_lit ?_
  refine sv n8.ok rfl (wn _ rfl) rfl (o_mv (n8.ne rfl (n2.ne rfl e0_0))) (fun an10 n10 => ?_)
  have e11 := n10.ne rfl (n8.ne rfl (n2.ne rfl e0_2))
  refine sv n10.ok rfl (wn _ rfl) rfl (o_mv e11) (fun an12 n12 => ?_)
  refine sc n12.ok rfl (wn _ rfl) rfl (o_f2 Try.func4 rfl rfl rfl (n12.ne rfl n10.at_) n12.at_) (get_bad K va vc l hE w4 (hv.gr G7) (hm.gr G7)) ?_
  rintro _ w14 ⟨ga, gc, rfl, g15⟩
  refine ⟨_, rfl, fun an13 n13 => ?_⟩
  have G16 := G7.trans g15
  have B17 := W5.bk.gr g15
  refine sv n13.ok rfl (wn _ rfl) rfl (o_mv n13.at_) (fun an18 n18 => ?_)
  refine sv n18.ok rfl (wn _ rfl) rfl (o_ex n18.at_ rfl) (fun an19 n19 => ?_)
  refine sv n19.ok rfl (wn _ rfl) rfl (o_ex (n19.ne rfl n18.at_) rfl) (fun an20 n20 => ?_)
  refine sv n20.ok rfl (wn _ rfl) rfl (o_as (n20.ne rfl n19.at_)) (fun an21 n21 => ?_)
  refine sv n21.ok rfl (wn _ rfl) rfl (o_as (n21.ne rfl n20.at_)) (fun an22 n22 => ?_)
  refine wpList_nil ?_
  refine th_n (hK9 _ _ ?_)
  refine wp_seq_k (fun K23 hK23 => ?_)
  refine wp_region_lit ?_
  have e24 := n22.ne rfl (n21.ne rfl (n20.ne rfl (n19.ne rfl (n18.ne rfl (n13.ne rfl (n12.ne rfl (n10.ne rfl (n8.ne rfl (n2.ne rfl e0_0)))))))))
  refine sv n22.ok rfl (wn _ rfl) rfl (o_mv e24) (fun an25 n25 => ?_)
  have e26 := n25.ne rfl (n22.ne rfl (n21.ne rfl (n20.ne rfl (n19.ne rfl (n18.ne rfl (n13.ne rfl (n12.ne rfl e11)))))))
  refine sv n25.ok rfl (wn _ rfl) rfl (o_mv e26) (fun an27 n27 => ?_)
  refine sc n27.ok rfl (wn _ rfl) rfl (o_f2 Try.func5 rfl rfl rfl (n27.ne rfl n25.at_) n27.at_) (past_bad K va vc l hE w14 (hv.gr G16) (hm.gr G16)) ?_
  rintro _ w29 ⟨rfl, g30⟩
  refine ⟨_, rfl, fun an28 n28 => ?_⟩
  have G31 := G16.trans g30
  have B32 := B17.gr g30
  refine sv n28.ok rfl (wn _ rfl) rfl (o_mv n28.at_) (fun an33 n33 => ?_)
  refine sv n33.ok rfl (wn _ rfl) rfl (o_ex n33.at_ rfl) (fun an34 n34 => ?_)
  refine sv n34.ok rfl (wn _ rfl) rfl (o_ex (n34.ne rfl n33.at_) rfl) (fun an35 n35 => ?_)
  refine sal (cs := #[.slice none 0 0, .slice none 0 0]) n35.ok rfl (wn _ rfl) rfl (o_al (z := .agg #[.slice none 0 0, .slice none 0 0]) (by kernel_rfl)) (fun an36 w38 b37 W39 n36 => ?_)
  have l40 : b3 < b37 := by rw [W39.eq]; exact B32.lt
  have l41 : w.heap.size ≤ b37 := by rw [W39.eq]; exact G31.size
  have G42 := G31.trans W39.gr
  have B43 := B32.gr W39.gr
  refine ssR rfl (wn _ rfl) (o_stR n36.at_ (n36.ne rfl (n35.ne rfl n34.at_)) W39.bk (by kernel_rfl) rfl (by simp [Value.oneCell'])) W39.bk (fun w44 u45 u45b => ?_)
  have G46 : Gr w w44 := Below.upd G42 l41 u45
  have B47 := B43.upd u45 (Nat.ne_of_lt l40)
  refine sv n36.ok rfl (wn _ rfl) rfl (o_as (n36.ne rfl n35.at_)) (fun an48 n48 => ?_)
  refine wpList_nil ?_
  refine th_n (hK23 _ _ ?_)
  refine wp_seq_k (fun K49 hK49 => ?_)
  refine wp_region_lit ?_
  have e50 := n48.ne rfl (n36.ne rfl (n35.ne rfl (n34.ne rfl (n33.ne rfl (n28.ne rfl (n27.ne rfl (n25.ne rfl e24)))))))
  refine sv n48.ok rfl (wn _ rfl) rfl (o_mv e50) (fun an51 n51 => ?_)
  refine sc n51.ok rfl (wn _ rfl) rfl (o_f1 Try.func6 rfl rfl rfl n51.at_) (rshelf_any K va vc hid w44 (hv.gr G46) (hm.gr G46)) ?_
  rintro _ w53 ⟨rfl, g54⟩
  refine ⟨_, rfl, fun an52 n52 => ?_⟩
  have G55 := G46.trans g54
  have B56 := B47.gr g54
  have B57 := u45b.gr g54
  refine sv n52.ok rfl (wn _ rfl) rfl (o_as n52.at_) (fun an58 n58 => ?_)
  refine wpList_nil ?_
  refine th_n (hK49 _ _ ?_)
  refine wp_seq_k (fun K59 hK59 => ?_)
  refine wp_seq_k (fun K60 hK60 => ?_)
  refine reg_start (N := 106) (m := 22) (by kernel_rfl) (fun R610 => ?_)
  have e62 := n58.ne rfl (n52.ne rfl (n51.ne rfl (n48.ne rfl (n36.ne rfl (n35.ne rfl (n34.ne rfl (n33.ne rfl (n28.ne rfl (n27.ne rfl e26)))))))))
  have R611 := R610.snoc (n' := 1) rfl (fun vJ _ => vJ = .string (bs l)) rfl (fun _ _ _ _ h => h) (fun aS wS pS => by
      exact Does.val (wn _ rfl) (o_mv ((pS.old 2 rfl).trans e62)) (Gr.refl _) rfl rfl)
  have R612 := R611.snoc (n' := 2) rfl (fun vJ _ => vJ = .bool (idB l)) rfl (fun _ _ _ _ h => h) (fun aS wS pS => by
      have eR61_0 : aS.eval (.tmp 29) = .string (bs l) := pS.pre 0 rfl
      exact Does.call (wn _ rfl) (o_f1 Try.func7 rfl rfl rfl (eR61_0)) (id_any l wS) (by rintro _ w2 ⟨rfl, g⟩; exact ⟨_, rfl, g, rfl⟩) rfl)
  have R613 := R612.snoc (n' := 3) rfl (fun vJ _ => vJ = .string (bs l)) rfl (fun _ _ _ _ h => h) (fun aS wS pS => by
      exact Does.val (wn _ rfl) (o_mv ((pS.old 2 rfl).trans e62)) (Gr.refl _) rfl rfl)
  have R614 := R613.snoc (n' := 4) rfl (fun vJ _ => vJ = .bool (idB l)) rfl (fun _ _ _ _ h => h) (fun aS wS pS => by
      have eR61_2 : aS.eval (.tmp 31) = .string (bs l) := pS.pre 2 rfl
      exact Does.call (wn _ rfl) (o_f1 Try.func8 rfl rfl rfl (eR61_2)) (rid_any l hl wS) (by rintro _ w2 ⟨rfl, g⟩; exact ⟨_, rfl, g, rfl⟩) rfl)
  have R615 := R614.snoc (n' := 5) rfl (fun vJ _ => vJ = .bool false) rfl (fun _ _ _ _ h => h) (fun aS wS pS => by
      have eR61_1 : aS.eval (.tmp 30) = .bool (idB l) := pS.pre 1 rfl
      have eR61_3 : aS.eval (.tmp 32) = .bool (idB l) := pS.pre 3 rfl
      exact Does.val (wn _ rfl) (o_neqB (b := false) (eR61_1) (eR61_3) (by simp) Try.underlying4) (Gr.refl _) rfl rfl)
  have R616 := R615.snoc (n' := 6) rfl (fun vJ _ => vJ = .bool false) rfl (fun _ _ _ _ h => h) (fun aS wS pS => by
      have eR61_4 : aS.eval (.tmp 33) = .bool false := pS.pre 4 rfl
      exact Does.val (wn _ rfl) (o_mv (eR61_4)) (Gr.refl _) rfl rfl)
  have e63 := n58.ne rfl (n52.ne rfl (n51.ne rfl (n48.ne rfl (n36.ne rfl (n35.ne rfl (n34.ne rfl (n33.ne rfl (n28.ne rfl (n27.ne rfl (n25.ne rfl (n22.ne rfl (n21.ne rfl (n20.ne rfl (n19.ne rfl (n18.ne rfl (n13.ne rfl (n12.ne rfl (n10.ne rfl (n8.ne rfl n2.at_)))))))))))))))))))
  have R617 := R616.snoc (n' := 7) rfl (fun vJ _ => vJ = .agg #[.string (bs y.d.id), .int .i64 (y.d.s), .int .i64 (y.d.c), .int .i64 (y.d.t), .int .i64 (y.d.n), .int .i64 (y.d.b), .slice y.va y.d.V.length y.vc, .slice y.ma y.d.M.length y.mc]) rfl (fun _ _ _ _ h => h) (fun aS wS pS => by
      have eR61_5 : aS.eval (.tmp 34) = .bool false := pS.pre 5 rfl
      exact Does.val (wgT rfl (yl 5 false rfl eR61_5) rfl) (o_ldR ((pS.old 4 rfl).trans e63) (Bk.gr B56 (gr_drew pS.gr)) Try.underlying32 rfl (by kernel_rfl)) (Gr.refl _) rfl rfl)
  have R618 := R617.snoc (n' := 8) rfl (fun vJ _ => vJ = .int .i64 (chkOne y.d)) rfl (fun _ _ _ _ h => h) (fun aS wS pS => by
      have eR61_5 : aS.eval (.tmp 34) = .bool false := pS.pre 5 rfl
      have eR61_6 : aS.eval (.tmp 35) = .agg #[.string (bs y.d.id), .int .i64 (y.d.s), .int .i64 (y.d.c), .int .i64 (y.d.t), .int .i64 (y.d.n), .int .i64 (y.d.b), .slice y.va y.d.V.length y.vc, .slice y.ma y.d.M.length y.mc] := pS.pre 6 rfl
      exact Does.call (wgT rfl (yl 5 false rfl eR61_5) rfl) (o_f1 Try.func9 rfl rfl rfl (eR61_6)) (vone_any y wS (MeanV.gr hy (G55.trans (gr_drew pS.gr)))) (by rintro _ w2 ⟨rfl, g⟩; exact ⟨_, rfl, g, rfl⟩) rfl)
  have R619 := R618.snoc (n' := 9) rfl (fun vJ _ => vJ = .agg #[.string (bs y.d.id), .int .i64 (y.d.s), .int .i64 (y.d.c), .int .i64 (y.d.t), .int .i64 (y.d.n), .int .i64 (y.d.b), .slice y.va y.d.V.length y.vc, .slice y.ma y.d.M.length y.mc]) rfl (fun _ _ _ _ h => h) (fun aS wS pS => by
      have eR61_5 : aS.eval (.tmp 34) = .bool false := pS.pre 5 rfl
      exact Does.val (wgT rfl (yl 5 false rfl eR61_5) rfl) (o_ldR ((pS.old 4 rfl).trans e63) (Bk.gr B56 (gr_drew pS.gr)) Try.underlying32 rfl (by kernel_rfl)) (Gr.refl _) rfl rfl)
  have R6110 := R619.snoc (n' := 10) rfl (fun vJ _ => vJ = .int .i64 (chkOne y.d)) rfl (fun _ _ _ _ h => h) (fun aS wS pS => by
      have eR61_5 : aS.eval (.tmp 34) = .bool false := pS.pre 5 rfl
      have eR61_8 : aS.eval (.tmp 37) = .agg #[.string (bs y.d.id), .int .i64 (y.d.s), .int .i64 (y.d.c), .int .i64 (y.d.t), .int .i64 (y.d.n), .int .i64 (y.d.b), .slice y.va y.d.V.length y.vc, .slice y.ma y.d.M.length y.mc] := pS.pre 8 rfl
      exact Does.call (wgT rfl (yl 5 false rfl eR61_5) rfl) (o_f1 Try.func10 rfl rfl rfl (eR61_8)) (rone_any y hyl wS (MeanV.gr hy (G55.trans (gr_drew pS.gr)))) (by rintro _ w2 ⟨rfl, g⟩; exact ⟨_, rfl, g, rfl⟩) rfl)
  have R6111 := R6110.snoc (n' := 11) rfl (fun vJ _ => vJ = .bool false) rfl (fun _ _ _ _ h => h) (fun aS wS pS => by
      have eR61_5 : aS.eval (.tmp 34) = .bool false := pS.pre 5 rfl
      have eR61_7 : aS.eval (.tmp 36) = .int .i64 (chkOne y.d) := pS.pre 7 rfl
      have eR61_9 : aS.eval (.tmp 38) = .int .i64 (chkOne y.d) := pS.pre 9 rfl
      exact Does.val (wgT rfl (yl 5 false rfl eR61_5) rfl) (o_neq (b := false) (eR61_7) (eR61_9) (by simp [show (chkOne y.d) = (chkOne y.d) from rfl])) (Gr.refl _) rfl rfl)
  have R6112 := R6111.snoc (n' := 12) rfl (fun vJ _ => vJ = .bool false) rfl (fun _ _ _ _ h => h) (fun aS wS pS => by
      have eR61_5 : aS.eval (.tmp 34) = .bool false := pS.pre 5 rfl
      have eR61_10 : aS.eval (.tmp 39) = .bool false := pS.pre 10 rfl
      exact Does.val (wn _ rfl) (o_pkF (eR61_5) (eR61_10)) (Gr.refl _) rfl rfl)
  have R6113 := R6112.snoc (n' := 13) rfl (fun vJ _ => vJ = .bool false) rfl (fun _ _ _ _ h => h) (fun aS wS pS => by
      have eR61_11 : aS.eval (.tmp 40) = .bool false := pS.pre 11 rfl
      exact Does.val (wn _ rfl) (o_mv (eR61_11)) (Gr.refl _) rfl rfl)
  have e64 := n58.ne rfl (n52.ne rfl (n51.ne rfl e50))
  have R6114 := R6113.snoc (n' := 14) rfl (fun vJ _ => vJ = .slice va K.length vc) rfl (fun _ _ _ _ h => h) (fun aS wS pS => by
      have eR61_12 : aS.eval (.tmp 41) = .bool false := pS.pre 12 rfl
      exact Does.val (wgT rfl (yl 12 false rfl eR61_12) rfl) (o_mv ((pS.old 0 rfl).trans e64)) (Gr.refl _) rfl rfl)
  have R6115 := R6114.snoc (n' := 15) rfl (fun vJ _ => vJ = .int .i64 (chkShf (K.map VerI.d))) rfl (fun _ _ _ _ h => h) (fun aS wS pS => by
      have eR61_12 : aS.eval (.tmp 41) = .bool false := pS.pre 12 rfl
      have eR61_13 : aS.eval (.tmp 42) = .slice va K.length vc := pS.pre 13 rfl
      exact Does.call (wgT rfl (yl 12 false rfl eR61_12) rfl) (o_f1 Try.func11 rfl rfl rfl (eR61_13)) (vchk_any K va vc wS (hv.gr (G55.trans (gr_drew pS.gr))) (hm.gr (G55.trans (gr_drew pS.gr)))) (by rintro _ w2 ⟨rfl, g⟩; exact ⟨_, rfl, g, rfl⟩) rfl)
  have R6116 := R6115.snoc (n' := 16) rfl (fun vJ _ => vJ = .int .i64 (chkShf (K.map VerI.d))) rfl (fun _ _ _ _ h => h) (fun aS wS pS => by
      have eR61_12 : aS.eval (.tmp 41) = .bool false := pS.pre 12 rfl
      exact Does.val (wgT rfl (yl 12 false rfl eR61_12) rfl) (o_mv ((pS.old 11 rfl).trans n58.at_)) (Gr.refl _) rfl rfl)
  have R6117 := R6116.snoc (n' := 17) rfl (fun vJ _ => vJ = .bool false) rfl (fun _ _ _ _ h => h) (fun aS wS pS => by
      have eR61_12 : aS.eval (.tmp 41) = .bool false := pS.pre 12 rfl
      have eR61_14 : aS.eval (.tmp 43) = .int .i64 (chkShf (K.map VerI.d)) := pS.pre 14 rfl
      have eR61_15 : aS.eval (.tmp 44) = .int .i64 (chkShf (K.map VerI.d)) := pS.pre 15 rfl
      exact Does.val (wgT rfl (yl 12 false rfl eR61_12) rfl) (o_neq (b := false) (eR61_14) (eR61_15) (by simp [show (chkShf (K.map VerI.d)) = (chkShf (K.map VerI.d)) from rfl])) (Gr.refl _) rfl rfl)
  have R6118 := R6117.snoc (n' := 18) rfl (fun vJ _ => vJ = .bool false) rfl (fun _ _ _ _ h => h) (fun aS wS pS => by
      have eR61_12 : aS.eval (.tmp 41) = .bool false := pS.pre 12 rfl
      have eR61_16 : aS.eval (.tmp 45) = .bool false := pS.pre 16 rfl
      exact Does.val (wn _ rfl) (o_pkF (eR61_12) (eR61_16)) (Gr.refl _) rfl rfl)
  have R6119 := R6118.snoc (n' := 19) rfl (fun vJ _ => vJ = .bool false) rfl (fun _ _ _ _ h => h) (fun aS wS pS => by
      have eR61_17 : aS.eval (.tmp 46) = .bool false := pS.pre 17 rfl
      exact Does.val (wn _ rfl) (o_mv (eR61_17)) (Gr.refl _) rfl rfl)
  have R6120 := R6119.snoc (n' := 20) rfl (fun vJ _ => vJ = .bool true) rfl (fun _ _ _ _ h => h) (fun aS wS pS => by
      have eR61_18 : aS.eval (.tmp 47) = .bool false := pS.pre 18 rfl
      exact Does.call (wgT rfl (yl 18 false rfl eR61_18) rfl) (o_f1 Try.func7 rfl rfl rfl ev_const) (ida wS) (by rintro _ w2 ⟨rfl, g⟩; exact ⟨_, rfl, g, rfl⟩) rfl)
  have R6121 := R6120.snoc (n' := 21) rfl (fun vJ _ => vJ = .bool false) rfl (fun _ _ _ _ h => h) (fun aS wS pS => by
      have eR61_18 : aS.eval (.tmp 47) = .bool false := pS.pre 18 rfl
      have eR61_19 : aS.eval (.tmp 48) = .bool true := pS.pre 19 rfl
      exact Does.val (wgT rfl (yl 18 false rfl eR61_18) rfl) (o_not (eR61_19) rfl) (Gr.refl _) rfl rfl)
  have R6122 := R6121.snoc (n' := 22) rfl (fun vJ _ => vJ = .bool false) rfl (fun _ _ _ _ h => h) (fun aS wS pS => by
      have eR61_18 : aS.eval (.tmp 47) = .bool false := pS.pre 18 rfl
      have eR61_20 : aS.eval (.tmp 49) = .bool false := pS.pre 20 rfl
      exact Does.val (wn _ rfl) (o_pkF (eR61_18) (eR61_20)) (Gr.refl _) rfl rfl)
  refine R6122.run (k := 0) (L := #[true, true, true, true, true, true, true, true, true, true, true, true, true, true, true, true, true, true, true, true, true, true]) (by kernel_rfl) (by kernel_rfl) (by kernel_rfl) n58.ok (by kernel_rfl) (by kernel_rfl) (fun ap66 w67 p66 => ?_)
  have g68 := gr_drew p66.gr
  have G69 := G55.trans g68
  have B70 := B56.gr g68
  have B71 := B57.gr g68
  refine wpAny_done (by kernel_rfl) ?_ _
  refine th_n (hK60 _ _ ?_)
  have ep66_21 : ap66.eval (.tmp 50) = .bool false := p66.js 21 rfl
  refine wp_cond_false (ep66_21) ?_
  refine wp_skip ?_
  refine th_n (hK59 _ _ ?_)
  refine wp_seq_k (fun K72 hK72 => ?_)
  refine wp_seq_k (fun K73 hK73 => ?_)
  refine wp_region_lit ?_
  refine sv p66.ok rfl (wn _ rfl) rfl (o_mv ((p66.old 11 rfl).trans n58.at_)) (fun an74 n74 => ?_)
  refine sv n74.ok rfl (wn _ rfl) rfl (o_neq (b := true) n74.at_ ev_const (by simp [show ¬ (chkShf (K.map VerI.d)) = 0 from hE])) (fun an75 n75 => ?_)
  refine wpList_nil ?_
  refine th_n (hK73 _ _ ?_)
  refine wp_cond_true (n75.at_) ?_
  refine wp_seq_k (fun K76 hK76 => ?_)
  refine wp_region_lit ?_
  have e77 := n75.ne rfl (n74.ne rfl ((p66.old 8 rfl).trans (n58.ne rfl (n52.ne rfl (n51.ne rfl (n48.ne rfl (n36.ne rfl (n35.ne rfl (n34.ne rfl (n33.ne rfl (n28.ne rfl (n27.ne rfl (n25.ne rfl n22.at_)))))))))))))
  refine sv n75.ok rfl (wn _ rfl) rfl (o_mv e77) (fun an78 n78 => ?_)
  have e79 := n78.ne rfl (n75.ne rfl (n74.ne rfl ((p66.old 11 rfl).trans n58.at_)))
  refine sv n78.ok rfl (wn _ rfl) rfl (o_mv e79) (fun an80 n80 => ?_)
  refine sv n80.ok rfl (wn _ rfl) rfl (o_eq (n80.ne rfl n78.at_) n80.at_ (decide_eq_true rfl)) (fun an81 n81 => ?_)
  refine sv n81.ok rfl (wn _ rfl) rfl (o_mv n81.at_) (fun an82 n82 => ?_)
  have e83 := n82.ne rfl (n81.ne rfl (n80.ne rfl (n78.ne rfl (n75.ne rfl (n74.ne rfl ((p66.old 10 rfl).trans (n58.ne rfl (n52.ne rfl (n51.ne rfl n48.at_)))))))))
  refine sv n82.ok rfl (wgT rfl (yl 3 true rfl n82.at_) rfl) rfl (o_mv e83) (fun an84 n84 => ?_)
  have e85 := n84.ne rfl (n82.ne rfl (n81.ne rfl (n80.ne rfl e79)))
  refine sv n84.ok rfl (wgT rfl (yl 3 true rfl (n84.ne rfl n82.at_)) rfl) rfl (o_mv e85) (fun an86 n86 => ?_)
  refine sv n86.ok rfl (wgT rfl (yl 3 true rfl (n86.ne rfl (n84.ne rfl n82.at_))) rfl) rfl (o_eq (n86.ne rfl n84.at_) n86.at_ (decide_eq_true rfl)) (fun an87 n87 => ?_)
  have e88 := n87.ne rfl (n86.ne rfl (n84.ne rfl n82.at_))
  refine sv n87.ok rfl (wn _ rfl) rfl (o_pkT e88 n87.at_) (fun an89 n89 => ?_)
  refine sv n89.ok rfl (wn _ rfl) rfl (o_mv n89.at_) (fun an90 n90 => ?_)
  have e91 := n90.ne rfl (n89.ne rfl (n87.ne rfl (n86.ne rfl (n84.ne rfl (n82.ne rfl (n81.ne rfl (n80.ne rfl (n78.ne rfl (n75.ne rfl (n74.ne rfl ((p66.old 7 rfl).trans (n58.ne rfl (n52.ne rfl (n51.ne rfl (n48.ne rfl (n36.ne rfl (n35.ne rfl (n34.ne rfl (n33.ne rfl (n28.ne rfl (n27.ne rfl (n25.ne rfl (n22.ne rfl n21.at_)))))))))))))))))))))))
  refine sv n90.ok rfl (wgT rfl (yl 8 true rfl n90.at_) rfl) rfl (o_mv e91) (fun an92 n92 => ?_)
  refine sv n92.ok rfl (wgT rfl (yl 8 true rfl (n92.ne rfl n90.at_)) rfl) rfl (o_len n92.at_ Try.underlying22) (fun an93 n93 => ?_)
  refine sv n93.ok rfl (wgT rfl (yl 8 true rfl (n93.ne rfl (n92.ne rfl n90.at_))) rfl) rfl (o_eq (b := true) n93.at_ ev_const (by decide)) (fun an94 n94 => ?_)
  have e95 := n94.ne rfl (n93.ne rfl (n92.ne rfl n90.at_))
  refine sv n94.ok rfl (wn _ rfl) rfl (o_pkT e95 n94.at_) (fun an96 n96 => ?_)
  refine sv n96.ok rfl (wn _ rfl) rfl (o_mv n96.at_) (fun an97 n97 => ?_)
  have e98 := n97.ne rfl (n96.ne rfl (n94.ne rfl (n93.ne rfl (n92.ne rfl (n90.ne rfl (n89.ne rfl (n87.ne rfl (n86.ne rfl (n84.ne rfl (n82.ne rfl (n81.ne rfl (n80.ne rfl (n78.ne rfl (n75.ne rfl (n74.ne rfl ((p66.old 9 rfl).trans (n58.ne rfl (n52.ne rfl (n51.ne rfl (n48.ne rfl n36.at_))))))))))))))))))))
  refine sv n97.ok rfl (wgT rfl (yl 13 true rfl n97.at_) rfl) rfl (o_ldR e98 B71 Try.underlying30 rfl (by kernel_rfl)) (fun an99 n99 => ?_)
  refine sv n99.ok rfl (wgT rfl (yl 13 true rfl (n99.ne rfl n97.at_)) rfl) rfl (o_b0 (cs := #[.slice none 0 0, .slice none 0 0]) Try.underlying30 (by kernel_rfl) (by kernel_rfl)) (fun an100 n100 => ?_)
  refine sc n100.ok rfl (wgT rfl (yl 13 true rfl (n100.ne rfl (n99.ne rfl n97.at_))) rfl) rfl (o_f2 Try.func12 rfl rfl rfl (n100.ne rfl n99.at_) n100.at_) (sameK_t _ _ [] [] w67 (knR_nil _) (knR_nil _) (by simp) (by simp)) ?_
  rintro _ w102 ⟨rfl, g103⟩
  refine ⟨_, rfl, fun an101 n101 => ?_⟩
  have G104 := G69.trans g103
  have B105 := B70.gr g103
  have B106 := B71.gr g103
  have e107 := n101.ne rfl (n100.ne rfl (n99.ne rfl n97.at_))
  refine sv n101.ok rfl (wn _ rfl) rfl (o_pkT e107 n101.at_) (fun an108 n108 => ?_)
  refine sv n108.ok rfl (wn _ rfl) rfl (o_as n108.at_) (fun an109 n109 => ?_)
  refine wpList_nil ?_
  refine th_n (hK76 _ _ ?_)
  refine wp_ret ?_
  refine th_r ?_
  exact ret1 n109.ok rfl (n109.at_) ⟨rfl, G104⟩
set_option maxHeartbeats 8000000 in
set_option maxRecDepth 100000 in
theorem shelfSays_none (K : List VerI) (y : VerI) (va : Option Addr) (vc : Nat) (l : List UInt8) (hl : l.length ≤ 9223372036854775807) (hyl : y.d.id.length ≤ 9223372036854775807) (hid : ∀ x ∈ K, x.d.id.length ≤ 9223372036854775807) (hE : chkShf (K.map VerI.d) = 0) (hN : svGet (K.map VerI.d) l = []) (w : World) (hv : RdA encVr 8 w va K) (hm : MeansV w K) (hy : MeanV w y) :
    Calls Try.prog 3 #[.slice va K.length vc, .agg #[.string (bs y.d.id), .int .i64 (y.d.s), .int .i64 (y.d.c), .int .i64 (y.d.t), .int .i64 (y.d.n), .int .i64 (y.d.b), .slice y.va y.d.V.length y.vc, .slice y.ma y.d.M.length y.mc], .string (bs l)] w fun e w' => e = .returned (.bool true) ∧ Gr w w' := by
  refine enter (N := 106) Try.func3 rfl rfl rfl (fun a0 ok0 h0 => ?_)
  have e0_0 : a0.eval (.tmp 0) = .slice va K.length vc := h0 0 _ rfl
  have e0_1 : a0.eval (.tmp 1) = .agg #[.string (bs y.d.id), .int .i64 (y.d.s), .int .i64 (y.d.c), .int .i64 (y.d.t), .int .i64 (y.d.n), .int .i64 (y.d.b), .slice y.va y.d.V.length y.vc, .slice y.ma y.d.M.length y.mc] := h0 1 _ rfl
  have e0_2 : a0.eval (.tmp 2) = .string (bs l) := h0 2 _ rfl
  clear h0
  have G0 := Gr.refl w
  refine wp_seq_k (fun K1 hK1 => ?_)
  refine wp_region_lit ?_
  refine sal (cs := #[.string (bs y.d.id), .int .i64 (y.d.s), .int .i64 (y.d.c), .int .i64 (y.d.t), .int .i64 (y.d.n), .int .i64 (y.d.b), .slice y.va y.d.V.length y.vc, .slice y.ma y.d.M.length y.mc]) ok0 rfl (wn _ rfl) rfl (o_box e0_1) (fun an2 w4 b3 W5 n2 => ?_)
  have l6 : w.heap.size ≤ b3 := by rw [W5.eq]; exact G0.size
  have G7 := G0.trans W5.gr
  refine sv n2.ok rfl (wn _ rfl) rfl (o_as ev_const) (fun an8 n8 => ?_)
  refine wpList_nil ?_
  refine th_n (hK1 _ _ ?_)
  refine wp_seq_k (fun K9 hK9 => ?_)
  refine wp_region_lit ?_
  refine sv n8.ok rfl (wn _ rfl) rfl (o_mv (n8.ne rfl (n2.ne rfl e0_0))) (fun an10 n10 => ?_)
  have e11 := n10.ne rfl (n8.ne rfl (n2.ne rfl e0_2))
  refine sv n10.ok rfl (wn _ rfl) rfl (o_mv e11) (fun an12 n12 => ?_)
  refine sc n12.ok rfl (wn _ rfl) rfl (o_f2 Try.func4 rfl rfl rfl (n12.ne rfl n10.at_) n12.at_) (get_none K va vc l hE hN w4 (hv.gr G7) (hm.gr G7)) ?_
  rintro _ w14 ⟨ga, gc, rfl, g15⟩
  refine ⟨_, rfl, fun an13 n13 => ?_⟩
  have G16 := G7.trans g15
  have B17 := W5.bk.gr g15
  refine sv n13.ok rfl (wn _ rfl) rfl (o_mv n13.at_) (fun an18 n18 => ?_)
  refine sv n18.ok rfl (wn _ rfl) rfl (o_ex n18.at_ rfl) (fun an19 n19 => ?_)
  refine sv n19.ok rfl (wn _ rfl) rfl (o_ex (n19.ne rfl n18.at_) rfl) (fun an20 n20 => ?_)
  refine sv n20.ok rfl (wn _ rfl) rfl (o_as (n20.ne rfl n19.at_)) (fun an21 n21 => ?_)
  refine sv n21.ok rfl (wn _ rfl) rfl (o_as (n21.ne rfl n20.at_)) (fun an22 n22 => ?_)
  refine wpList_nil ?_
  refine th_n (hK9 _ _ ?_)
  refine wp_seq_k (fun K23 hK23 => ?_)
  refine wp_region_lit ?_
  have e24 := n22.ne rfl (n21.ne rfl (n20.ne rfl (n19.ne rfl (n18.ne rfl (n13.ne rfl (n12.ne rfl (n10.ne rfl (n8.ne rfl (n2.ne rfl e0_0)))))))))
  refine sv n22.ok rfl (wn _ rfl) rfl (o_mv e24) (fun an25 n25 => ?_)
  have e26 := n25.ne rfl (n22.ne rfl (n21.ne rfl (n20.ne rfl (n19.ne rfl (n18.ne rfl (n13.ne rfl (n12.ne rfl e11)))))))
  refine sv n25.ok rfl (wn _ rfl) rfl (o_mv e26) (fun an27 n27 => ?_)
  refine sc n27.ok rfl (wn _ rfl) rfl (o_f2 Try.func5 rfl rfl rfl (n27.ne rfl n25.at_) n27.at_) (past_k K va vc l hE w14 (hv.gr G16) (hm.gr G16)) ?_
  rintro _ w29 ⟨pa, pn, pc, qa, qn, qc, rfl, hk, g30⟩
  refine ⟨_, rfl, fun an28 n28 => ?_⟩
  have G31 := G16.trans g30
  have B32 := B17.gr g30
  have A34 := Gr.refl w29
  refine sv n28.ok rfl (wn _ rfl) rfl (o_mv n28.at_) (fun an35 n35 => ?_)
  refine sv n35.ok rfl (wn _ rfl) rfl (o_ex n35.at_ rfl) (fun an36 n36 => ?_)
  refine sv n36.ok rfl (wn _ rfl) rfl (o_ex (n36.ne rfl n35.at_) rfl) (fun an37 n37 => ?_)
  refine sal (cs := #[.slice none 0 0, .slice none 0 0]) n37.ok rfl (wn _ rfl) rfl (o_al (z := .agg #[.slice none 0 0, .slice none 0 0]) (by kernel_rfl)) (fun an38 w40 b39 W41 n38 => ?_)
  have l42 : b3 < b39 := by rw [W41.eq]; exact B32.lt
  have l43 : w.heap.size ≤ b39 := by rw [W41.eq]; exact G31.size
  have l44 : w29.heap.size ≤ b39 := by rw [W41.eq]; exact A34.size
  have G45 := G31.trans W41.gr
  have B46 := B32.gr W41.gr
  have A47 := A34.trans W41.gr
  refine ssR rfl (wn _ rfl) (o_stR n38.at_ (n38.ne rfl (n37.ne rfl n36.at_)) W41.bk (by kernel_rfl) rfl (by simp [Value.oneCell'])) W41.bk (fun w48 u49 u49b => ?_)
  have G50 : Gr w w48 := Below.upd G45 l43 u49
  have B51 := B46.upd u49 (Nat.ne_of_lt l42)
  have A52 : Gr w29 w48 := Below.upd A47 l44 u49
  refine sv n38.ok rfl (wn _ rfl) rfl (o_as (n38.ne rfl n37.at_)) (fun an53 n53 => ?_)
  refine wpList_nil ?_
  refine th_n (hK23 _ _ ?_)
  refine wp_seq_k (fun K54 hK54 => ?_)
  refine wp_region_lit ?_
  have e55 := n53.ne rfl (n38.ne rfl (n37.ne rfl (n36.ne rfl (n35.ne rfl (n28.ne rfl (n27.ne rfl (n25.ne rfl e24)))))))
  refine sv n53.ok rfl (wn _ rfl) rfl (o_mv e55) (fun an56 n56 => ?_)
  refine sc n56.ok rfl (wn _ rfl) rfl (o_f1 Try.func6 rfl rfl rfl n56.at_) ((by have h := rshelf_any K va vc hid w48 (hv.gr G50) (hm.gr G50); rw [hE] at h; exact h)) ?_
  rintro _ w58 ⟨rfl, g59⟩
  refine ⟨_, rfl, fun an57 n57 => ?_⟩
  have G60 := G50.trans g59
  have B61 := B51.gr g59
  have B62 := u49b.gr g59
  have A63 := A52.trans g59
  refine sv n57.ok rfl (wn _ rfl) rfl (o_as n57.at_) (fun an64 n64 => ?_)
  refine wpList_nil ?_
  refine th_n (hK54 _ _ ?_)
  refine wp_seq_k (fun K65 hK65 => ?_)
  refine wp_seq_k (fun K66 hK66 => ?_)
  refine reg_start (N := 106) (m := 22) (by kernel_rfl) (fun R670 => ?_)
  have e68 := n64.ne rfl (n57.ne rfl (n56.ne rfl (n53.ne rfl (n38.ne rfl (n37.ne rfl (n36.ne rfl (n35.ne rfl (n28.ne rfl (n27.ne rfl e26)))))))))
  have R671 := R670.snoc (n' := 1) rfl (fun vJ _ => vJ = .string (bs l)) rfl (fun _ _ _ _ h => h) (fun aS wS pS => by
      exact Does.val (wn _ rfl) (o_mv ((pS.old 2 rfl).trans e68)) (Gr.refl _) rfl rfl)
  have R672 := R671.snoc (n' := 2) rfl (fun vJ _ => vJ = .bool (idB l)) rfl (fun _ _ _ _ h => h) (fun aS wS pS => by
      have eR67_0 : aS.eval (.tmp 29) = .string (bs l) := pS.pre 0 rfl
      exact Does.call (wn _ rfl) (o_f1 Try.func7 rfl rfl rfl (eR67_0)) (id_any l wS) (by rintro _ w2 ⟨rfl, g⟩; exact ⟨_, rfl, g, rfl⟩) rfl)
  have R673 := R672.snoc (n' := 3) rfl (fun vJ _ => vJ = .string (bs l)) rfl (fun _ _ _ _ h => h) (fun aS wS pS => by
      exact Does.val (wn _ rfl) (o_mv ((pS.old 2 rfl).trans e68)) (Gr.refl _) rfl rfl)
  have R674 := R673.snoc (n' := 4) rfl (fun vJ _ => vJ = .bool (idB l)) rfl (fun _ _ _ _ h => h) (fun aS wS pS => by
      have eR67_2 : aS.eval (.tmp 31) = .string (bs l) := pS.pre 2 rfl
      exact Does.call (wn _ rfl) (o_f1 Try.func8 rfl rfl rfl (eR67_2)) (rid_any l hl wS) (by rintro _ w2 ⟨rfl, g⟩; exact ⟨_, rfl, g, rfl⟩) rfl)
  have R675 := R674.snoc (n' := 5) rfl (fun vJ _ => vJ = .bool false) rfl (fun _ _ _ _ h => h) (fun aS wS pS => by
      have eR67_1 : aS.eval (.tmp 30) = .bool (idB l) := pS.pre 1 rfl
      have eR67_3 : aS.eval (.tmp 32) = .bool (idB l) := pS.pre 3 rfl
      exact Does.val (wn _ rfl) (o_neqB (b := false) (eR67_1) (eR67_3) (by simp) Try.underlying4) (Gr.refl _) rfl rfl)
  have R676 := R675.snoc (n' := 6) rfl (fun vJ _ => vJ = .bool false) rfl (fun _ _ _ _ h => h) (fun aS wS pS => by
      have eR67_4 : aS.eval (.tmp 33) = .bool false := pS.pre 4 rfl
      exact Does.val (wn _ rfl) (o_mv (eR67_4)) (Gr.refl _) rfl rfl)
  have e69 := n64.ne rfl (n57.ne rfl (n56.ne rfl (n53.ne rfl (n38.ne rfl (n37.ne rfl (n36.ne rfl (n35.ne rfl (n28.ne rfl (n27.ne rfl (n25.ne rfl (n22.ne rfl (n21.ne rfl (n20.ne rfl (n19.ne rfl (n18.ne rfl (n13.ne rfl (n12.ne rfl (n10.ne rfl (n8.ne rfl n2.at_)))))))))))))))))))
  have R677 := R676.snoc (n' := 7) rfl (fun vJ _ => vJ = .agg #[.string (bs y.d.id), .int .i64 (y.d.s), .int .i64 (y.d.c), .int .i64 (y.d.t), .int .i64 (y.d.n), .int .i64 (y.d.b), .slice y.va y.d.V.length y.vc, .slice y.ma y.d.M.length y.mc]) rfl (fun _ _ _ _ h => h) (fun aS wS pS => by
      have eR67_5 : aS.eval (.tmp 34) = .bool false := pS.pre 5 rfl
      exact Does.val (wgT rfl (yl 5 false rfl eR67_5) rfl) (o_ldR ((pS.old 4 rfl).trans e69) (Bk.gr B61 (gr_drew pS.gr)) Try.underlying32 rfl (by kernel_rfl)) (Gr.refl _) rfl rfl)
  have R678 := R677.snoc (n' := 8) rfl (fun vJ _ => vJ = .int .i64 (chkOne y.d)) rfl (fun _ _ _ _ h => h) (fun aS wS pS => by
      have eR67_5 : aS.eval (.tmp 34) = .bool false := pS.pre 5 rfl
      have eR67_6 : aS.eval (.tmp 35) = .agg #[.string (bs y.d.id), .int .i64 (y.d.s), .int .i64 (y.d.c), .int .i64 (y.d.t), .int .i64 (y.d.n), .int .i64 (y.d.b), .slice y.va y.d.V.length y.vc, .slice y.ma y.d.M.length y.mc] := pS.pre 6 rfl
      exact Does.call (wgT rfl (yl 5 false rfl eR67_5) rfl) (o_f1 Try.func9 rfl rfl rfl (eR67_6)) (vone_any y wS (MeanV.gr hy (G60.trans (gr_drew pS.gr)))) (by rintro _ w2 ⟨rfl, g⟩; exact ⟨_, rfl, g, rfl⟩) rfl)
  have R679 := R678.snoc (n' := 9) rfl (fun vJ _ => vJ = .agg #[.string (bs y.d.id), .int .i64 (y.d.s), .int .i64 (y.d.c), .int .i64 (y.d.t), .int .i64 (y.d.n), .int .i64 (y.d.b), .slice y.va y.d.V.length y.vc, .slice y.ma y.d.M.length y.mc]) rfl (fun _ _ _ _ h => h) (fun aS wS pS => by
      have eR67_5 : aS.eval (.tmp 34) = .bool false := pS.pre 5 rfl
      exact Does.val (wgT rfl (yl 5 false rfl eR67_5) rfl) (o_ldR ((pS.old 4 rfl).trans e69) (Bk.gr B61 (gr_drew pS.gr)) Try.underlying32 rfl (by kernel_rfl)) (Gr.refl _) rfl rfl)
  have R6710 := R679.snoc (n' := 10) rfl (fun vJ _ => vJ = .int .i64 (chkOne y.d)) rfl (fun _ _ _ _ h => h) (fun aS wS pS => by
      have eR67_5 : aS.eval (.tmp 34) = .bool false := pS.pre 5 rfl
      have eR67_8 : aS.eval (.tmp 37) = .agg #[.string (bs y.d.id), .int .i64 (y.d.s), .int .i64 (y.d.c), .int .i64 (y.d.t), .int .i64 (y.d.n), .int .i64 (y.d.b), .slice y.va y.d.V.length y.vc, .slice y.ma y.d.M.length y.mc] := pS.pre 8 rfl
      exact Does.call (wgT rfl (yl 5 false rfl eR67_5) rfl) (o_f1 Try.func10 rfl rfl rfl (eR67_8)) (rone_any y hyl wS (MeanV.gr hy (G60.trans (gr_drew pS.gr)))) (by rintro _ w2 ⟨rfl, g⟩; exact ⟨_, rfl, g, rfl⟩) rfl)
  have R6711 := R6710.snoc (n' := 11) rfl (fun vJ _ => vJ = .bool false) rfl (fun _ _ _ _ h => h) (fun aS wS pS => by
      have eR67_5 : aS.eval (.tmp 34) = .bool false := pS.pre 5 rfl
      have eR67_7 : aS.eval (.tmp 36) = .int .i64 (chkOne y.d) := pS.pre 7 rfl
      have eR67_9 : aS.eval (.tmp 38) = .int .i64 (chkOne y.d) := pS.pre 9 rfl
      exact Does.val (wgT rfl (yl 5 false rfl eR67_5) rfl) (o_neq (b := false) (eR67_7) (eR67_9) (by simp [show (chkOne y.d) = (chkOne y.d) from rfl])) (Gr.refl _) rfl rfl)
  have R6712 := R6711.snoc (n' := 12) rfl (fun vJ _ => vJ = .bool false) rfl (fun _ _ _ _ h => h) (fun aS wS pS => by
      have eR67_5 : aS.eval (.tmp 34) = .bool false := pS.pre 5 rfl
      have eR67_10 : aS.eval (.tmp 39) = .bool false := pS.pre 10 rfl
      exact Does.val (wn _ rfl) (o_pkF (eR67_5) (eR67_10)) (Gr.refl _) rfl rfl)
  have R6713 := R6712.snoc (n' := 13) rfl (fun vJ _ => vJ = .bool false) rfl (fun _ _ _ _ h => h) (fun aS wS pS => by
      have eR67_11 : aS.eval (.tmp 40) = .bool false := pS.pre 11 rfl
      exact Does.val (wn _ rfl) (o_mv (eR67_11)) (Gr.refl _) rfl rfl)
  have e70 := n64.ne rfl (n57.ne rfl (n56.ne rfl e55))
  have R6714 := R6713.snoc (n' := 14) rfl (fun vJ _ => vJ = .slice va K.length vc) rfl (fun _ _ _ _ h => h) (fun aS wS pS => by
      have eR67_12 : aS.eval (.tmp 41) = .bool false := pS.pre 12 rfl
      exact Does.val (wgT rfl (yl 12 false rfl eR67_12) rfl) (o_mv ((pS.old 0 rfl).trans e70)) (Gr.refl _) rfl rfl)
  have R6715 := R6714.snoc (n' := 15) rfl (fun vJ _ => vJ = .int .i64 0) rfl (fun _ _ _ _ h => h) (fun aS wS pS => by
      have eR67_12 : aS.eval (.tmp 41) = .bool false := pS.pre 12 rfl
      have eR67_13 : aS.eval (.tmp 42) = .slice va K.length vc := pS.pre 13 rfl
      exact Does.call (wgT rfl (yl 12 false rfl eR67_12) rfl) (o_f1 Try.func11 rfl rfl rfl (eR67_13)) ((by have h := vchk_any K va vc wS (hv.gr (G60.trans (gr_drew pS.gr))) (hm.gr (G60.trans (gr_drew pS.gr))); rw [hE] at h; exact h)) (by rintro _ w2 ⟨rfl, g⟩; exact ⟨_, rfl, g, rfl⟩) rfl)
  have R6716 := R6715.snoc (n' := 16) rfl (fun vJ _ => vJ = .int .i64 0) rfl (fun _ _ _ _ h => h) (fun aS wS pS => by
      have eR67_12 : aS.eval (.tmp 41) = .bool false := pS.pre 12 rfl
      exact Does.val (wgT rfl (yl 12 false rfl eR67_12) rfl) (o_mv ((pS.old 11 rfl).trans n64.at_)) (Gr.refl _) rfl rfl)
  have R6717 := R6716.snoc (n' := 17) rfl (fun vJ _ => vJ = .bool false) rfl (fun _ _ _ _ h => h) (fun aS wS pS => by
      have eR67_12 : aS.eval (.tmp 41) = .bool false := pS.pre 12 rfl
      have eR67_14 : aS.eval (.tmp 43) = .int .i64 0 := pS.pre 14 rfl
      have eR67_15 : aS.eval (.tmp 44) = .int .i64 0 := pS.pre 15 rfl
      exact Does.val (wgT rfl (yl 12 false rfl eR67_12) rfl) (o_neq (b := false) (eR67_14) (eR67_15) (by decide)) (Gr.refl _) rfl rfl)
  have R6718 := R6717.snoc (n' := 18) rfl (fun vJ _ => vJ = .bool false) rfl (fun _ _ _ _ h => h) (fun aS wS pS => by
      have eR67_12 : aS.eval (.tmp 41) = .bool false := pS.pre 12 rfl
      have eR67_16 : aS.eval (.tmp 45) = .bool false := pS.pre 16 rfl
      exact Does.val (wn _ rfl) (o_pkF (eR67_12) (eR67_16)) (Gr.refl _) rfl rfl)
  have R6719 := R6718.snoc (n' := 19) rfl (fun vJ _ => vJ = .bool false) rfl (fun _ _ _ _ h => h) (fun aS wS pS => by
      have eR67_17 : aS.eval (.tmp 46) = .bool false := pS.pre 17 rfl
      exact Does.val (wn _ rfl) (o_mv (eR67_17)) (Gr.refl _) rfl rfl)
  have R6720 := R6719.snoc (n' := 20) rfl (fun vJ _ => vJ = .bool true) rfl (fun _ _ _ _ h => h) (fun aS wS pS => by
      have eR67_18 : aS.eval (.tmp 47) = .bool false := pS.pre 18 rfl
      exact Does.call (wgT rfl (yl 18 false rfl eR67_18) rfl) (o_f1 Try.func7 rfl rfl rfl ev_const) (ida wS) (by rintro _ w2 ⟨rfl, g⟩; exact ⟨_, rfl, g, rfl⟩) rfl)
  have R6721 := R6720.snoc (n' := 21) rfl (fun vJ _ => vJ = .bool false) rfl (fun _ _ _ _ h => h) (fun aS wS pS => by
      have eR67_18 : aS.eval (.tmp 47) = .bool false := pS.pre 18 rfl
      have eR67_19 : aS.eval (.tmp 48) = .bool true := pS.pre 19 rfl
      exact Does.val (wgT rfl (yl 18 false rfl eR67_18) rfl) (o_not (eR67_19) rfl) (Gr.refl _) rfl rfl)
  have R6722 := R6721.snoc (n' := 22) rfl (fun vJ _ => vJ = .bool false) rfl (fun _ _ _ _ h => h) (fun aS wS pS => by
      have eR67_18 : aS.eval (.tmp 47) = .bool false := pS.pre 18 rfl
      have eR67_20 : aS.eval (.tmp 49) = .bool false := pS.pre 20 rfl
      exact Does.val (wn _ rfl) (o_pkF (eR67_18) (eR67_20)) (Gr.refl _) rfl rfl)
  refine R6722.run (k := 0) (L := #[true, true, true, true, true, true, true, true, true, true, true, true, true, true, true, true, true, true, true, true, true, true]) (by kernel_rfl) (by kernel_rfl) (by kernel_rfl) n64.ok (by kernel_rfl) (by kernel_rfl) (fun ap72 w73 p72 => ?_)
  have g74 := gr_drew p72.gr
  have G75 := G60.trans g74
  have B76 := B61.gr g74
  have B77 := B62.gr g74
  have A78 := A63.trans g74
  refine wpAny_done (by kernel_rfl) ?_ _
  refine th_n (hK66 _ _ ?_)
  have ep72_21 : ap72.eval (.tmp 50) = .bool false := p72.js 21 rfl
  refine wp_cond_false (ep72_21) ?_
  refine wp_skip ?_
  refine th_n (hK65 _ _ ?_)
  refine wp_seq_k (fun K79 hK79 => ?_)
  refine wp_seq_k (fun K80 hK80 => ?_)
  refine wp_region_lit ?_
  refine sv p72.ok rfl (wn _ rfl) rfl (o_mv ((p72.old 11 rfl).trans n64.at_)) (fun an81 n81 => ?_)
  refine sv n81.ok rfl (wn _ rfl) rfl (o_neq (b := false) n81.at_ ev_const (by decide)) (fun an82 n82 => ?_)
  refine wpList_nil ?_
  refine th_n (hK80 _ _ ?_)
  refine wp_cond_false (n82.at_) ?_
  refine wp_skip ?_
  refine th_n (hK79 _ _ ?_)
  refine wp_seq_k (fun K83 hK83 => ?_)
  refine wp_region_lit ?_
  have e84 := n82.ne rfl (n81.ne rfl ((p72.old 0 rfl).trans e70))
  refine sv n82.ok rfl (wn _ rfl) rfl (o_mv e84) (fun an85 n85 => ?_)
  have e86 := n85.ne rfl (n82.ne rfl (n81.ne rfl ((p72.old 2 rfl).trans e68)))
  refine sv n85.ok rfl (wn _ rfl) rfl (o_mv e86) (fun an87 n87 => ?_)
  refine sc n87.ok rfl (wn _ rfl) rfl (o_f2 Try.func13 rfl rfl rfl (n87.ne rfl n85.at_) n87.at_) (rpast_k K va vc l hE w73 (hv.gr G75) (hm.gr G75)) ?_
  rintro _ w89 ⟨pa2, pn2, pc2, qa2, qn2, qc2, rfl, hk2, g90⟩
  refine ⟨_, rfl, fun an88 n88 => ?_⟩
  have G91 := G75.trans g90
  have B92 := B76.gr g90
  have B93 := B77.gr g90
  have A94 := A78.trans g90
  have A96 := Gr.refl w89
  refine sv n88.ok rfl (wn _ rfl) rfl (o_mv n88.at_) (fun an97 n97 => ?_)
  refine sv n97.ok rfl (wn _ rfl) rfl (o_ex n97.at_ rfl) (fun an98 n98 => ?_)
  refine sv n98.ok rfl (wn _ rfl) rfl (o_ex (n98.ne rfl n97.at_) rfl) (fun an99 n99 => ?_)
  refine sal (cs := #[.slice none 0 0, .slice none 0 0]) n99.ok rfl (wn _ rfl) rfl (o_al (z := .agg #[.slice none 0 0, .slice none 0 0]) (by kernel_rfl)) (fun an100 w102 b101 W103 n100 => ?_)
  have l104 : b3 < b101 := by rw [W103.eq]; exact B92.lt
  have l105 : b39 < b101 := by rw [W103.eq]; exact B93.lt
  have l106 : w.heap.size ≤ b101 := by rw [W103.eq]; exact G91.size
  have l107 : w29.heap.size ≤ b101 := by rw [W103.eq]; exact A94.size
  have l108 : w89.heap.size ≤ b101 := by rw [W103.eq]; exact A96.size
  have G109 := G91.trans W103.gr
  have B110 := B92.gr W103.gr
  have B111 := B93.gr W103.gr
  have A112 := A94.trans W103.gr
  have A113 := A96.trans W103.gr
  refine ssR rfl (wn _ rfl) (o_stR n100.at_ (n100.ne rfl (n99.ne rfl n98.at_)) W103.bk (by kernel_rfl) rfl (by simp [Value.oneCell'])) W103.bk (fun w114 u115 u115b => ?_)
  have G116 : Gr w w114 := Below.upd G109 l106 u115
  have B117 := B110.upd u115 (Nat.ne_of_lt l104)
  have B118 := B111.upd u115 (Nat.ne_of_lt l105)
  have A119 : Gr w29 w114 := Below.upd A112 l107 u115
  have A120 : Gr w89 w114 := Below.upd A113 l108 u115
  refine sv n100.ok rfl (wn _ rfl) rfl (o_as (n100.ne rfl n99.at_)) (fun an121 n121 => ?_)
  refine wpList_nil ?_
  refine th_n (hK83 _ _ ?_)
  refine wp_seq_k (fun K122 hK122 => ?_)
  refine wp_seq_k (fun K123 hK123 => ?_)
  refine wp_region_lit ?_
  have e124 := n121.ne rfl (n100.ne rfl (n99.ne rfl (n98.ne rfl (n97.ne rfl (n88.ne rfl (n87.ne rfl (n85.ne rfl (n82.ne rfl (n81.ne rfl ((p72.old 10 rfl).trans (n64.ne rfl (n57.ne rfl (n56.ne rfl n53.at_)))))))))))))
  refine sv n121.ok rfl (wn _ rfl) rfl (o_mv e124) (fun an125 n125 => ?_)
  refine sv n125.ok rfl (wn _ rfl) rfl (o_mv (n125.ne rfl n121.at_)) (fun an126 n126 => ?_)
  refine sv n126.ok rfl (wn _ rfl) rfl (o_neq (b := false) (n126.ne rfl n125.at_) n126.at_ (by simp [show (frE (pD (K.map VerI.d) l)) = (frE (pD (K.map VerI.d) l)) from rfl])) (fun an127 n127 => ?_)
  refine sv n127.ok rfl (wn _ rfl) rfl (o_mv n127.at_) (fun an128 n128 => ?_)
  have e129 := n128.ne rfl (n127.ne rfl (n126.ne rfl (n125.ne rfl (n121.ne rfl (n100.ne rfl (n99.ne rfl (n98.ne rfl (n97.ne rfl (n88.ne rfl (n87.ne rfl (n85.ne rfl (n82.ne rfl (n81.ne rfl ((p72.old 9 rfl).trans (n64.ne rfl (n57.ne rfl (n56.ne rfl (n53.ne rfl n38.at_))))))))))))))))))
  refine sv n128.ok rfl (wgT rfl (yl 3 false rfl n128.at_) rfl) rfl (o_ldR e129 B118 Try.underlying30 rfl (by kernel_rfl)) (fun an130 n130 => ?_)
  have e131 := n130.ne rfl (n128.ne rfl (n127.ne rfl (n126.ne rfl (n125.ne rfl (n121.ne rfl n100.at_)))))
  refine sv n130.ok rfl (wgT rfl (yl 3 false rfl (n130.ne rfl n128.at_)) rfl) rfl (o_ldR e131 u115b Try.underlying30 rfl (by kernel_rfl)) (fun an132 n132 => ?_)
  refine sc n132.ok rfl (wgT rfl (yl 3 false rfl (n132.ne rfl (n130.ne rfl n128.at_))) rfl) rfl (o_f2 Try.func12 rfl rfl rfl (n132.ne rfl n130.at_) n132.at_) (sameK_t _ _ _ _ w114 (hk.gr A119) (hk2.gr A120) (frV_small _) (frM_small _)) ?_
  rintro _ w134 ⟨rfl, g135⟩
  refine ⟨_, rfl, fun an133 n133 => ?_⟩
  have G136 := G116.trans g135
  have B137 := B117.gr g135
  have B138 := B118.gr g135
  have B139 := u115b.gr g135
  have A140 := A119.trans g135
  have A141 := A120.trans g135
  have e142 := n133.ne rfl (n132.ne rfl (n130.ne rfl n128.at_))
  refine sv n133.ok rfl (wgT rfl (yl 3 false rfl e142) rfl) rfl (o_not n133.at_ rfl) (fun an143 n143 => ?_)
  refine sv n143.ok rfl (wn _ rfl) rfl (o_pkF (n143.ne rfl e142) n143.at_) (fun an144 n144 => ?_)
  refine wpList_nil ?_
  refine th_n (hK123 _ _ ?_)
  refine wp_cond_false (n144.at_) ?_
  refine wp_skip ?_
  refine th_n (hK122 _ _ ?_)
  refine wp_seq_k (fun K145 hK145 => ?_)
  refine wp_region_lit ?_
  have e146 := n144.ne rfl (n143.ne rfl (n133.ne rfl (n132.ne rfl (n130.ne rfl (n128.ne rfl (n127.ne rfl (n126.ne rfl (n125.ne rfl (n121.ne rfl (n100.ne rfl (n99.ne rfl (n98.ne rfl (n97.ne rfl (n88.ne rfl (n87.ne rfl (n85.ne rfl e84))))))))))))))))
  refine sv n144.ok rfl (wn _ rfl) rfl (o_mv e146) (fun an147 n147 => ?_)
  have e148 := n147.ne rfl (n144.ne rfl (n143.ne rfl (n133.ne rfl (n132.ne rfl (n130.ne rfl (n128.ne rfl (n127.ne rfl (n126.ne rfl (n125.ne rfl (n121.ne rfl (n100.ne rfl (n99.ne rfl (n98.ne rfl (n97.ne rfl (n88.ne rfl (n87.ne rfl e86))))))))))))))))
  refine sv n147.ok rfl (wn _ rfl) rfl (o_mv e148) (fun an149 n149 => ?_)
  refine sc n149.ok rfl (wn _ rfl) rfl (o_f2 Try.func14 rfl rfl rfl (n149.ne rfl n147.at_) n149.at_) (rget_any K va vc l w134 (by have := ((okS_iff _).1 hE).len; rw [List.length_map] at this; omega) (hv.gr G136) (hm.gr G136)) ?_
  rintro _ w151 ⟨R2, ra, rc, rfl, hR2, hO2, hRK, hRl, g152⟩
  have hn2 : R2 = [] := List.map_eq_nil_iff.1 (hR2.trans hN)
  subst hn2
  refine ⟨_, rfl, fun an150 n150 => ?_⟩
  have G153 := G136.trans g152
  have B154 := B137.gr g152
  have B155 := B138.gr g152
  have B156 := B139.gr g152
  have A157 := A140.trans g152
  have A158 := A141.trans g152
  refine sv n150.ok rfl (wn _ rfl) rfl (o_as n150.at_) (fun an159 n159 => ?_)
  refine wpList_nil ?_
  refine th_n (hK145 _ _ ?_)
  refine wp_seq_k (fun K160 hK160 => ?_)
  refine wp_seq_k (fun K161 hK161 => ?_)
  refine wp_region_lit ?_
  refine sv n159.ok rfl (wn _ rfl) rfl (o_mv n159.at_) (fun an162 n162 => ?_)
  refine sv n162.ok rfl (wn _ rfl) rfl (o_len n162.at_ Try.underlying22) (fun an163 n163 => ?_)
  refine sv n163.ok rfl (wn _ rfl) rfl (o_eq (b := true) n163.at_ ev_const (by decide)) (fun an164 n164 => ?_)
  refine wpList_nil ?_
  refine th_n (hK161 _ _ ?_)
  refine wp_cond_true (n164.at_) ?_
  refine wp_seq_k (fun K165 hK165 => ?_)
  refine wp_region_lit ?_
  have e166 := n164.ne rfl (n163.ne rfl (n162.ne rfl (n159.ne rfl (n150.ne rfl (n149.ne rfl (n147.ne rfl (n144.ne rfl (n143.ne rfl (n133.ne rfl (n132.ne rfl (n130.ne rfl (n128.ne rfl (n127.ne rfl (n126.ne rfl (n125.ne rfl (n121.ne rfl (n100.ne rfl (n99.ne rfl (n98.ne rfl (n97.ne rfl (n88.ne rfl (n87.ne rfl (n85.ne rfl (n82.ne rfl (n81.ne rfl ((p72.old 8 rfl).trans (n64.ne rfl (n57.ne rfl (n56.ne rfl (n53.ne rfl (n38.ne rfl (n37.ne rfl (n36.ne rfl (n35.ne rfl (n28.ne rfl (n27.ne rfl (n25.ne rfl n22.at_)))))))))))))))))))))))))))))))))))))
  refine sv n164.ok rfl (wn _ rfl) rfl (o_mv e166) (fun an167 n167 => ?_)
  refine sv n167.ok rfl (wn _ rfl) rfl (o_eq (b := true) n167.at_ ev_const (by decide)) (fun an168 n168 => ?_)
  refine sv n168.ok rfl (wn _ rfl) rfl (o_mv n168.at_) (fun an169 n169 => ?_)
  have e170 := n169.ne rfl (n168.ne rfl (n167.ne rfl (n164.ne rfl (n163.ne rfl (n162.ne rfl (n159.ne rfl (n150.ne rfl (n149.ne rfl (n147.ne rfl (n144.ne rfl (n143.ne rfl (n133.ne rfl (n132.ne rfl (n130.ne rfl (n128.ne rfl (n127.ne rfl (n126.ne rfl (n125.ne rfl (n121.ne rfl (n100.ne rfl (n99.ne rfl (n98.ne rfl (n97.ne rfl (n88.ne rfl (n87.ne rfl (n85.ne rfl (n82.ne rfl (n81.ne rfl ((p72.old 7 rfl).trans (n64.ne rfl (n57.ne rfl (n56.ne rfl (n53.ne rfl (n38.ne rfl (n37.ne rfl (n36.ne rfl (n35.ne rfl (n28.ne rfl (n27.ne rfl (n25.ne rfl (n22.ne rfl n21.at_)))))))))))))))))))))))))))))))))))))))))
  refine sv n169.ok rfl (wgT rfl (yl 2 true rfl n169.at_) rfl) rfl (o_mv e170) (fun an171 n171 => ?_)
  refine sv n171.ok rfl (wgT rfl (yl 2 true rfl (n171.ne rfl n169.at_)) rfl) rfl (o_len n171.at_ Try.underlying22) (fun an172 n172 => ?_)
  refine sv n172.ok rfl (wgT rfl (yl 2 true rfl (n172.ne rfl (n171.ne rfl n169.at_))) rfl) rfl (o_eq (b := true) n172.at_ ev_const (by decide)) (fun an173 n173 => ?_)
  have e174 := n173.ne rfl (n172.ne rfl (n171.ne rfl n169.at_))
  refine sv n173.ok rfl (wn _ rfl) rfl (o_pkT e174 n173.at_) (fun an175 n175 => ?_)
  refine sv n175.ok rfl (wn _ rfl) rfl (o_as n175.at_) (fun an176 n176 => ?_)
  refine wpList_nil ?_
  refine th_n (hK165 _ _ ?_)
  refine wp_ret ?_
  refine th_r ?_
  exact ret1 n176.ok rfl (n176.at_) ⟨rfl, G153⟩
set_option maxHeartbeats 8000000 in
set_option maxRecDepth 100000 in
theorem shelfSays_some (K : List VerI) (y : VerI) (va : Option Addr) (vc : Nat) (l : List UInt8) (hl : l.length ≤ 9223372036854775807) (hyl : y.d.id.length ≤ 9223372036854775807) (hid : ∀ x ∈ K, x.d.id.length ≤ 9223372036854775807) (hE : chkShf (K.map VerI.d) = 0) (hN : ¬ svGet (K.map VerI.d) l = []) (w : World) (hv : RdA encVr 8 w va K) (hm : MeansV w K) (hy : MeanV w y) :
    Calls Try.prog 3 #[.slice va K.length vc, .agg #[.string (bs y.d.id), .int .i64 (y.d.s), .int .i64 (y.d.c), .int .i64 (y.d.t), .int .i64 (y.d.n), .int .i64 (y.d.b), .slice y.va y.d.V.length y.vc, .slice y.ma y.d.M.length y.mc], .string (bs l)] w fun e w' => e = .returned (.bool true) ∧ Gr w w' := by
  refine enter (N := 106) Try.func3 rfl rfl rfl (fun a0 ok0 h0 => ?_)
  have e0_0 : a0.eval (.tmp 0) = .slice va K.length vc := h0 0 _ rfl
  have e0_1 : a0.eval (.tmp 1) = .agg #[.string (bs y.d.id), .int .i64 (y.d.s), .int .i64 (y.d.c), .int .i64 (y.d.t), .int .i64 (y.d.n), .int .i64 (y.d.b), .slice y.va y.d.V.length y.vc, .slice y.ma y.d.M.length y.mc] := h0 1 _ rfl
  have e0_2 : a0.eval (.tmp 2) = .string (bs l) := h0 2 _ rfl
  clear h0
  have G0 := Gr.refl w
  refine wp_seq_k (fun K1 hK1 => ?_)
  refine wp_region_lit ?_
  refine sal (cs := #[.string (bs y.d.id), .int .i64 (y.d.s), .int .i64 (y.d.c), .int .i64 (y.d.t), .int .i64 (y.d.n), .int .i64 (y.d.b), .slice y.va y.d.V.length y.vc, .slice y.ma y.d.M.length y.mc]) ok0 rfl (wn _ rfl) rfl (o_box e0_1) (fun an2 w4 b3 W5 n2 => ?_)
  have l6 : w.heap.size ≤ b3 := by rw [W5.eq]; exact G0.size
  have G7 := G0.trans W5.gr
  refine sv n2.ok rfl (wn _ rfl) rfl (o_as ev_const) (fun an8 n8 => ?_)
  refine wpList_nil ?_
  refine th_n (hK1 _ _ ?_)
  refine wp_seq_k (fun K9 hK9 => ?_)
  refine wp_region_lit ?_
  refine sv n8.ok rfl (wn _ rfl) rfl (o_mv (n8.ne rfl (n2.ne rfl e0_0))) (fun an10 n10 => ?_)
  have e11 := n10.ne rfl (n8.ne rfl (n2.ne rfl e0_2))
  refine sv n10.ok rfl (wn _ rfl) rfl (o_mv e11) (fun an12 n12 => ?_)
  refine sc n12.ok rfl (wn _ rfl) rfl (o_f2 Try.func4 rfl rfl rfl (n12.ne rfl n10.at_) n12.at_) (get_some K va vc l hE hN w4 (hv.gr G7) (hm.gr G7)) ?_
  rintro _ w14 ⟨R, ga, gc, rfl, hR, hr, hmr, g15⟩
  refine ⟨_, rfl, fun an13 n13 => ?_⟩
  have G16 := G7.trans g15
  have B17 := W5.bk.gr g15
  have A19 := Gr.refl w14
  refine sv n13.ok rfl (wn _ rfl) rfl (o_mv n13.at_) (fun an20 n20 => ?_)
  refine sv n20.ok rfl (wn _ rfl) rfl (o_ex n20.at_ rfl) (fun an21 n21 => ?_)
  refine sv n21.ok rfl (wn _ rfl) rfl (o_ex (n21.ne rfl n20.at_) rfl) (fun an22 n22 => ?_)
  refine sv n22.ok rfl (wn _ rfl) rfl (o_as (n22.ne rfl n21.at_)) (fun an23 n23 => ?_)
  refine sv n23.ok rfl (wn _ rfl) rfl (o_as (n23.ne rfl n22.at_)) (fun an24 n24 => ?_)
  refine wpList_nil ?_
  refine th_n (hK9 _ _ ?_)
  refine wp_seq_k (fun K25 hK25 => ?_)
  refine wp_region_lit ?_
  have e26 := n24.ne rfl (n23.ne rfl (n22.ne rfl (n21.ne rfl (n20.ne rfl (n13.ne rfl (n12.ne rfl (n10.ne rfl (n8.ne rfl (n2.ne rfl e0_0)))))))))
  refine sv n24.ok rfl (wn _ rfl) rfl (o_mv e26) (fun an27 n27 => ?_)
  have e28 := n27.ne rfl (n24.ne rfl (n23.ne rfl (n22.ne rfl (n21.ne rfl (n20.ne rfl (n13.ne rfl (n12.ne rfl e11)))))))
  refine sv n27.ok rfl (wn _ rfl) rfl (o_mv e28) (fun an29 n29 => ?_)
  refine sc n29.ok rfl (wn _ rfl) rfl (o_f2 Try.func5 rfl rfl rfl (n29.ne rfl n27.at_) n29.at_) (past_k K va vc l hE w14 (hv.gr G16) (hm.gr G16)) ?_
  rintro _ w31 ⟨pa, pn, pc, qa, qn, qc, rfl, hk, g32⟩
  refine ⟨_, rfl, fun an30 n30 => ?_⟩
  have G33 := G16.trans g32
  have B34 := B17.gr g32
  have A35 := A19.trans g32
  have A37 := Gr.refl w31
  refine sv n30.ok rfl (wn _ rfl) rfl (o_mv n30.at_) (fun an38 n38 => ?_)
  refine sv n38.ok rfl (wn _ rfl) rfl (o_ex n38.at_ rfl) (fun an39 n39 => ?_)
  refine sv n39.ok rfl (wn _ rfl) rfl (o_ex (n39.ne rfl n38.at_) rfl) (fun an40 n40 => ?_)
  refine sal (cs := #[.slice none 0 0, .slice none 0 0]) n40.ok rfl (wn _ rfl) rfl (o_al (z := .agg #[.slice none 0 0, .slice none 0 0]) (by kernel_rfl)) (fun an41 w43 b42 W44 n41 => ?_)
  have l45 : b3 < b42 := by rw [W44.eq]; exact B34.lt
  have l46 : w.heap.size ≤ b42 := by rw [W44.eq]; exact G33.size
  have l47 : w14.heap.size ≤ b42 := by rw [W44.eq]; exact A35.size
  have l48 : w31.heap.size ≤ b42 := by rw [W44.eq]; exact A37.size
  have G49 := G33.trans W44.gr
  have B50 := B34.gr W44.gr
  have A51 := A35.trans W44.gr
  have A52 := A37.trans W44.gr
  refine ssR rfl (wn _ rfl) (o_stR n41.at_ (n41.ne rfl (n40.ne rfl n39.at_)) W44.bk (by kernel_rfl) rfl (by simp [Value.oneCell'])) W44.bk (fun w53 u54 u54b => ?_)
  have G55 : Gr w w53 := Below.upd G49 l46 u54
  have B56 := B50.upd u54 (Nat.ne_of_lt l45)
  have A57 : Gr w14 w53 := Below.upd A51 l47 u54
  have A58 : Gr w31 w53 := Below.upd A52 l48 u54
  refine sv n41.ok rfl (wn _ rfl) rfl (o_as (n41.ne rfl n40.at_)) (fun an59 n59 => ?_)
  refine wpList_nil ?_
  refine th_n (hK25 _ _ ?_)
  refine wp_seq_k (fun K60 hK60 => ?_)
  refine wp_region_lit ?_
  have e61 := n59.ne rfl (n41.ne rfl (n40.ne rfl (n39.ne rfl (n38.ne rfl (n30.ne rfl (n29.ne rfl (n27.ne rfl e26)))))))
  refine sv n59.ok rfl (wn _ rfl) rfl (o_mv e61) (fun an62 n62 => ?_)
  refine sc n62.ok rfl (wn _ rfl) rfl (o_f1 Try.func6 rfl rfl rfl n62.at_) ((by have h := rshelf_any K va vc hid w53 (hv.gr G55) (hm.gr G55); rw [hE] at h; exact h)) ?_
  rintro _ w64 ⟨rfl, g65⟩
  refine ⟨_, rfl, fun an63 n63 => ?_⟩
  have G66 := G55.trans g65
  have B67 := B56.gr g65
  have B68 := u54b.gr g65
  have A69 := A57.trans g65
  have A70 := A58.trans g65
  refine sv n63.ok rfl (wn _ rfl) rfl (o_as n63.at_) (fun an71 n71 => ?_)
  refine wpList_nil ?_
  refine th_n (hK60 _ _ ?_)
  refine wp_seq_k (fun K72 hK72 => ?_)
  refine wp_seq_k (fun K73 hK73 => ?_)
  refine reg_start (N := 106) (m := 22) (by kernel_rfl) (fun R740 => ?_)
  have e75 := n71.ne rfl (n63.ne rfl (n62.ne rfl (n59.ne rfl (n41.ne rfl (n40.ne rfl (n39.ne rfl (n38.ne rfl (n30.ne rfl (n29.ne rfl e28)))))))))
  have R741 := R740.snoc (n' := 1) rfl (fun vJ _ => vJ = .string (bs l)) rfl (fun _ _ _ _ h => h) (fun aS wS pS => by
      exact Does.val (wn _ rfl) (o_mv ((pS.old 2 rfl).trans e75)) (Gr.refl _) rfl rfl)
  have R742 := R741.snoc (n' := 2) rfl (fun vJ _ => vJ = .bool (idB l)) rfl (fun _ _ _ _ h => h) (fun aS wS pS => by
      have eR74_0 : aS.eval (.tmp 29) = .string (bs l) := pS.pre 0 rfl
      exact Does.call (wn _ rfl) (o_f1 Try.func7 rfl rfl rfl (eR74_0)) (id_any l wS) (by rintro _ w2 ⟨rfl, g⟩; exact ⟨_, rfl, g, rfl⟩) rfl)
  have R743 := R742.snoc (n' := 3) rfl (fun vJ _ => vJ = .string (bs l)) rfl (fun _ _ _ _ h => h) (fun aS wS pS => by
      exact Does.val (wn _ rfl) (o_mv ((pS.old 2 rfl).trans e75)) (Gr.refl _) rfl rfl)
  have R744 := R743.snoc (n' := 4) rfl (fun vJ _ => vJ = .bool (idB l)) rfl (fun _ _ _ _ h => h) (fun aS wS pS => by
      have eR74_2 : aS.eval (.tmp 31) = .string (bs l) := pS.pre 2 rfl
      exact Does.call (wn _ rfl) (o_f1 Try.func8 rfl rfl rfl (eR74_2)) (rid_any l hl wS) (by rintro _ w2 ⟨rfl, g⟩; exact ⟨_, rfl, g, rfl⟩) rfl)
  have R745 := R744.snoc (n' := 5) rfl (fun vJ _ => vJ = .bool false) rfl (fun _ _ _ _ h => h) (fun aS wS pS => by
      have eR74_1 : aS.eval (.tmp 30) = .bool (idB l) := pS.pre 1 rfl
      have eR74_3 : aS.eval (.tmp 32) = .bool (idB l) := pS.pre 3 rfl
      exact Does.val (wn _ rfl) (o_neqB (b := false) (eR74_1) (eR74_3) (by simp) Try.underlying4) (Gr.refl _) rfl rfl)
  have R746 := R745.snoc (n' := 6) rfl (fun vJ _ => vJ = .bool false) rfl (fun _ _ _ _ h => h) (fun aS wS pS => by
      have eR74_4 : aS.eval (.tmp 33) = .bool false := pS.pre 4 rfl
      exact Does.val (wn _ rfl) (o_mv (eR74_4)) (Gr.refl _) rfl rfl)
  have e76 := n71.ne rfl (n63.ne rfl (n62.ne rfl (n59.ne rfl (n41.ne rfl (n40.ne rfl (n39.ne rfl (n38.ne rfl (n30.ne rfl (n29.ne rfl (n27.ne rfl (n24.ne rfl (n23.ne rfl (n22.ne rfl (n21.ne rfl (n20.ne rfl (n13.ne rfl (n12.ne rfl (n10.ne rfl (n8.ne rfl n2.at_)))))))))))))))))))
  have R747 := R746.snoc (n' := 7) rfl (fun vJ _ => vJ = .agg #[.string (bs y.d.id), .int .i64 (y.d.s), .int .i64 (y.d.c), .int .i64 (y.d.t), .int .i64 (y.d.n), .int .i64 (y.d.b), .slice y.va y.d.V.length y.vc, .slice y.ma y.d.M.length y.mc]) rfl (fun _ _ _ _ h => h) (fun aS wS pS => by
      have eR74_5 : aS.eval (.tmp 34) = .bool false := pS.pre 5 rfl
      exact Does.val (wgT rfl (yl 5 false rfl eR74_5) rfl) (o_ldR ((pS.old 4 rfl).trans e76) (Bk.gr B67 (gr_drew pS.gr)) Try.underlying32 rfl (by kernel_rfl)) (Gr.refl _) rfl rfl)
  have R748 := R747.snoc (n' := 8) rfl (fun vJ _ => vJ = .int .i64 (chkOne y.d)) rfl (fun _ _ _ _ h => h) (fun aS wS pS => by
      have eR74_5 : aS.eval (.tmp 34) = .bool false := pS.pre 5 rfl
      have eR74_6 : aS.eval (.tmp 35) = .agg #[.string (bs y.d.id), .int .i64 (y.d.s), .int .i64 (y.d.c), .int .i64 (y.d.t), .int .i64 (y.d.n), .int .i64 (y.d.b), .slice y.va y.d.V.length y.vc, .slice y.ma y.d.M.length y.mc] := pS.pre 6 rfl
      exact Does.call (wgT rfl (yl 5 false rfl eR74_5) rfl) (o_f1 Try.func9 rfl rfl rfl (eR74_6)) (vone_any y wS (MeanV.gr hy (G66.trans (gr_drew pS.gr)))) (by rintro _ w2 ⟨rfl, g⟩; exact ⟨_, rfl, g, rfl⟩) rfl)
  have R749 := R748.snoc (n' := 9) rfl (fun vJ _ => vJ = .agg #[.string (bs y.d.id), .int .i64 (y.d.s), .int .i64 (y.d.c), .int .i64 (y.d.t), .int .i64 (y.d.n), .int .i64 (y.d.b), .slice y.va y.d.V.length y.vc, .slice y.ma y.d.M.length y.mc]) rfl (fun _ _ _ _ h => h) (fun aS wS pS => by
      have eR74_5 : aS.eval (.tmp 34) = .bool false := pS.pre 5 rfl
      exact Does.val (wgT rfl (yl 5 false rfl eR74_5) rfl) (o_ldR ((pS.old 4 rfl).trans e76) (Bk.gr B67 (gr_drew pS.gr)) Try.underlying32 rfl (by kernel_rfl)) (Gr.refl _) rfl rfl)
  have R7410 := R749.snoc (n' := 10) rfl (fun vJ _ => vJ = .int .i64 (chkOne y.d)) rfl (fun _ _ _ _ h => h) (fun aS wS pS => by
      have eR74_5 : aS.eval (.tmp 34) = .bool false := pS.pre 5 rfl
      have eR74_8 : aS.eval (.tmp 37) = .agg #[.string (bs y.d.id), .int .i64 (y.d.s), .int .i64 (y.d.c), .int .i64 (y.d.t), .int .i64 (y.d.n), .int .i64 (y.d.b), .slice y.va y.d.V.length y.vc, .slice y.ma y.d.M.length y.mc] := pS.pre 8 rfl
      exact Does.call (wgT rfl (yl 5 false rfl eR74_5) rfl) (o_f1 Try.func10 rfl rfl rfl (eR74_8)) (rone_any y hyl wS (MeanV.gr hy (G66.trans (gr_drew pS.gr)))) (by rintro _ w2 ⟨rfl, g⟩; exact ⟨_, rfl, g, rfl⟩) rfl)
  have R7411 := R7410.snoc (n' := 11) rfl (fun vJ _ => vJ = .bool false) rfl (fun _ _ _ _ h => h) (fun aS wS pS => by
      have eR74_5 : aS.eval (.tmp 34) = .bool false := pS.pre 5 rfl
      have eR74_7 : aS.eval (.tmp 36) = .int .i64 (chkOne y.d) := pS.pre 7 rfl
      have eR74_9 : aS.eval (.tmp 38) = .int .i64 (chkOne y.d) := pS.pre 9 rfl
      exact Does.val (wgT rfl (yl 5 false rfl eR74_5) rfl) (o_neq (b := false) (eR74_7) (eR74_9) (by simp [show (chkOne y.d) = (chkOne y.d) from rfl])) (Gr.refl _) rfl rfl)
  have R7412 := R7411.snoc (n' := 12) rfl (fun vJ _ => vJ = .bool false) rfl (fun _ _ _ _ h => h) (fun aS wS pS => by
      have eR74_5 : aS.eval (.tmp 34) = .bool false := pS.pre 5 rfl
      have eR74_10 : aS.eval (.tmp 39) = .bool false := pS.pre 10 rfl
      exact Does.val (wn _ rfl) (o_pkF (eR74_5) (eR74_10)) (Gr.refl _) rfl rfl)
  have R7413 := R7412.snoc (n' := 13) rfl (fun vJ _ => vJ = .bool false) rfl (fun _ _ _ _ h => h) (fun aS wS pS => by
      have eR74_11 : aS.eval (.tmp 40) = .bool false := pS.pre 11 rfl
      exact Does.val (wn _ rfl) (o_mv (eR74_11)) (Gr.refl _) rfl rfl)
  have e77 := n71.ne rfl (n63.ne rfl (n62.ne rfl e61))
  have R7414 := R7413.snoc (n' := 14) rfl (fun vJ _ => vJ = .slice va K.length vc) rfl (fun _ _ _ _ h => h) (fun aS wS pS => by
      have eR74_12 : aS.eval (.tmp 41) = .bool false := pS.pre 12 rfl
      exact Does.val (wgT rfl (yl 12 false rfl eR74_12) rfl) (o_mv ((pS.old 0 rfl).trans e77)) (Gr.refl _) rfl rfl)
  have R7415 := R7414.snoc (n' := 15) rfl (fun vJ _ => vJ = .int .i64 0) rfl (fun _ _ _ _ h => h) (fun aS wS pS => by
      have eR74_12 : aS.eval (.tmp 41) = .bool false := pS.pre 12 rfl
      have eR74_13 : aS.eval (.tmp 42) = .slice va K.length vc := pS.pre 13 rfl
      exact Does.call (wgT rfl (yl 12 false rfl eR74_12) rfl) (o_f1 Try.func11 rfl rfl rfl (eR74_13)) ((by have h := vchk_any K va vc wS (hv.gr (G66.trans (gr_drew pS.gr))) (hm.gr (G66.trans (gr_drew pS.gr))); rw [hE] at h; exact h)) (by rintro _ w2 ⟨rfl, g⟩; exact ⟨_, rfl, g, rfl⟩) rfl)
  have R7416 := R7415.snoc (n' := 16) rfl (fun vJ _ => vJ = .int .i64 0) rfl (fun _ _ _ _ h => h) (fun aS wS pS => by
      have eR74_12 : aS.eval (.tmp 41) = .bool false := pS.pre 12 rfl
      exact Does.val (wgT rfl (yl 12 false rfl eR74_12) rfl) (o_mv ((pS.old 11 rfl).trans n71.at_)) (Gr.refl _) rfl rfl)
  have R7417 := R7416.snoc (n' := 17) rfl (fun vJ _ => vJ = .bool false) rfl (fun _ _ _ _ h => h) (fun aS wS pS => by
      have eR74_12 : aS.eval (.tmp 41) = .bool false := pS.pre 12 rfl
      have eR74_14 : aS.eval (.tmp 43) = .int .i64 0 := pS.pre 14 rfl
      have eR74_15 : aS.eval (.tmp 44) = .int .i64 0 := pS.pre 15 rfl
      exact Does.val (wgT rfl (yl 12 false rfl eR74_12) rfl) (o_neq (b := false) (eR74_14) (eR74_15) (by decide)) (Gr.refl _) rfl rfl)
  have R7418 := R7417.snoc (n' := 18) rfl (fun vJ _ => vJ = .bool false) rfl (fun _ _ _ _ h => h) (fun aS wS pS => by
      have eR74_12 : aS.eval (.tmp 41) = .bool false := pS.pre 12 rfl
      have eR74_16 : aS.eval (.tmp 45) = .bool false := pS.pre 16 rfl
      exact Does.val (wn _ rfl) (o_pkF (eR74_12) (eR74_16)) (Gr.refl _) rfl rfl)
  have R7419 := R7418.snoc (n' := 19) rfl (fun vJ _ => vJ = .bool false) rfl (fun _ _ _ _ h => h) (fun aS wS pS => by
      have eR74_17 : aS.eval (.tmp 46) = .bool false := pS.pre 17 rfl
      exact Does.val (wn _ rfl) (o_mv (eR74_17)) (Gr.refl _) rfl rfl)
  have R7420 := R7419.snoc (n' := 20) rfl (fun vJ _ => vJ = .bool true) rfl (fun _ _ _ _ h => h) (fun aS wS pS => by
      have eR74_18 : aS.eval (.tmp 47) = .bool false := pS.pre 18 rfl
      exact Does.call (wgT rfl (yl 18 false rfl eR74_18) rfl) (o_f1 Try.func7 rfl rfl rfl ev_const) (ida wS) (by rintro _ w2 ⟨rfl, g⟩; exact ⟨_, rfl, g, rfl⟩) rfl)
  have R7421 := R7420.snoc (n' := 21) rfl (fun vJ _ => vJ = .bool false) rfl (fun _ _ _ _ h => h) (fun aS wS pS => by
      have eR74_18 : aS.eval (.tmp 47) = .bool false := pS.pre 18 rfl
      have eR74_19 : aS.eval (.tmp 48) = .bool true := pS.pre 19 rfl
      exact Does.val (wgT rfl (yl 18 false rfl eR74_18) rfl) (o_not (eR74_19) rfl) (Gr.refl _) rfl rfl)
  have R7422 := R7421.snoc (n' := 22) rfl (fun vJ _ => vJ = .bool false) rfl (fun _ _ _ _ h => h) (fun aS wS pS => by
      have eR74_18 : aS.eval (.tmp 47) = .bool false := pS.pre 18 rfl
      have eR74_20 : aS.eval (.tmp 49) = .bool false := pS.pre 20 rfl
      exact Does.val (wn _ rfl) (o_pkF (eR74_18) (eR74_20)) (Gr.refl _) rfl rfl)
  refine R7422.run (k := 0) (L := #[true, true, true, true, true, true, true, true, true, true, true, true, true, true, true, true, true, true, true, true, true, true]) (by kernel_rfl) (by kernel_rfl) (by kernel_rfl) n71.ok (by kernel_rfl) (by kernel_rfl) (fun ap79 w80 p79 => ?_)
  have g81 := gr_drew p79.gr
  have G82 := G66.trans g81
  have B83 := B67.gr g81
  have B84 := B68.gr g81
  have A85 := A69.trans g81
  have A86 := A70.trans g81
  refine wpAny_done (by kernel_rfl) ?_ _
  refine th_n (hK73 _ _ ?_)
  have ep79_21 : ap79.eval (.tmp 50) = .bool false := p79.js 21 rfl
  refine wp_cond_false (ep79_21) ?_
  refine wp_skip ?_
  refine th_n (hK72 _ _ ?_)
  refine wp_seq_k (fun K87 hK87 => ?_)
  refine wp_seq_k (fun K88 hK88 => ?_)
  refine wp_region_lit ?_
  refine sv p79.ok rfl (wn _ rfl) rfl (o_mv ((p79.old 11 rfl).trans n71.at_)) (fun an89 n89 => ?_)
  refine sv n89.ok rfl (wn _ rfl) rfl (o_neq (b := false) n89.at_ ev_const (by decide)) (fun an90 n90 => ?_)
  refine wpList_nil ?_
  refine th_n (hK88 _ _ ?_)
  refine wp_cond_false (n90.at_) ?_
  refine wp_skip ?_
  refine th_n (hK87 _ _ ?_)
  refine wp_seq_k (fun K91 hK91 => ?_)
  refine wp_region_lit ?_
  have e92 := n90.ne rfl (n89.ne rfl ((p79.old 0 rfl).trans e77))
  refine sv n90.ok rfl (wn _ rfl) rfl (o_mv e92) (fun an93 n93 => ?_)
  have e94 := n93.ne rfl (n90.ne rfl (n89.ne rfl ((p79.old 2 rfl).trans e75)))
  refine sv n93.ok rfl (wn _ rfl) rfl (o_mv e94) (fun an95 n95 => ?_)
  refine sc n95.ok rfl (wn _ rfl) rfl (o_f2 Try.func13 rfl rfl rfl (n95.ne rfl n93.at_) n95.at_) (rpast_k K va vc l hE w80 (hv.gr G82) (hm.gr G82)) ?_
  rintro _ w97 ⟨pa2, pn2, pc2, qa2, qn2, qc2, rfl, hk2, g98⟩
  refine ⟨_, rfl, fun an96 n96 => ?_⟩
  have G99 := G82.trans g98
  have B100 := B83.gr g98
  have B101 := B84.gr g98
  have A102 := A85.trans g98
  have A103 := A86.trans g98
  have A105 := Gr.refl w97
  refine sv n96.ok rfl (wn _ rfl) rfl (o_mv n96.at_) (fun an106 n106 => ?_)
  refine sv n106.ok rfl (wn _ rfl) rfl (o_ex n106.at_ rfl) (fun an107 n107 => ?_)
  refine sv n107.ok rfl (wn _ rfl) rfl (o_ex (n107.ne rfl n106.at_) rfl) (fun an108 n108 => ?_)
  refine sal (cs := #[.slice none 0 0, .slice none 0 0]) n108.ok rfl (wn _ rfl) rfl (o_al (z := .agg #[.slice none 0 0, .slice none 0 0]) (by kernel_rfl)) (fun an109 w111 b110 W112 n109 => ?_)
  have l113 : b3 < b110 := by rw [W112.eq]; exact B100.lt
  have l114 : b42 < b110 := by rw [W112.eq]; exact B101.lt
  have l115 : w.heap.size ≤ b110 := by rw [W112.eq]; exact G99.size
  have l116 : w14.heap.size ≤ b110 := by rw [W112.eq]; exact A102.size
  have l117 : w31.heap.size ≤ b110 := by rw [W112.eq]; exact A103.size
  have l118 : w97.heap.size ≤ b110 := by rw [W112.eq]; exact A105.size
  have G119 := G99.trans W112.gr
  have B120 := B100.gr W112.gr
  have B121 := B101.gr W112.gr
  have A122 := A102.trans W112.gr
  have A123 := A103.trans W112.gr
  have A124 := A105.trans W112.gr
  refine ssR rfl (wn _ rfl) (o_stR n109.at_ (n109.ne rfl (n108.ne rfl n107.at_)) W112.bk (by kernel_rfl) rfl (by simp [Value.oneCell'])) W112.bk (fun w125 u126 u126b => ?_)
  have G127 : Gr w w125 := Below.upd G119 l115 u126
  have B128 := B120.upd u126 (Nat.ne_of_lt l113)
  have B129 := B121.upd u126 (Nat.ne_of_lt l114)
  have A130 : Gr w14 w125 := Below.upd A122 l116 u126
  have A131 : Gr w31 w125 := Below.upd A123 l117 u126
  have A132 : Gr w97 w125 := Below.upd A124 l118 u126
  refine sv n109.ok rfl (wn _ rfl) rfl (o_as (n109.ne rfl n108.at_)) (fun an133 n133 => ?_)
  refine wpList_nil ?_
  refine th_n (hK91 _ _ ?_)
  refine wp_seq_k (fun K134 hK134 => ?_)
  refine wp_seq_k (fun K135 hK135 => ?_)
  refine wp_region_lit ?_
  have e136 := n133.ne rfl (n109.ne rfl (n108.ne rfl (n107.ne rfl (n106.ne rfl (n96.ne rfl (n95.ne rfl (n93.ne rfl (n90.ne rfl (n89.ne rfl ((p79.old 10 rfl).trans (n71.ne rfl (n63.ne rfl (n62.ne rfl n59.at_)))))))))))))
  refine sv n133.ok rfl (wn _ rfl) rfl (o_mv e136) (fun an137 n137 => ?_)
  refine sv n137.ok rfl (wn _ rfl) rfl (o_mv (n137.ne rfl n133.at_)) (fun an138 n138 => ?_)
  refine sv n138.ok rfl (wn _ rfl) rfl (o_neq (b := false) (n138.ne rfl n137.at_) n138.at_ (by simp [show (frE (pD (K.map VerI.d) l)) = (frE (pD (K.map VerI.d) l)) from rfl])) (fun an139 n139 => ?_)
  refine sv n139.ok rfl (wn _ rfl) rfl (o_mv n139.at_) (fun an140 n140 => ?_)
  have e141 := n140.ne rfl (n139.ne rfl (n138.ne rfl (n137.ne rfl (n133.ne rfl (n109.ne rfl (n108.ne rfl (n107.ne rfl (n106.ne rfl (n96.ne rfl (n95.ne rfl (n93.ne rfl (n90.ne rfl (n89.ne rfl ((p79.old 9 rfl).trans (n71.ne rfl (n63.ne rfl (n62.ne rfl (n59.ne rfl n41.at_))))))))))))))))))
  refine sv n140.ok rfl (wgT rfl (yl 3 false rfl n140.at_) rfl) rfl (o_ldR e141 B129 Try.underlying30 rfl (by kernel_rfl)) (fun an142 n142 => ?_)
  have e143 := n142.ne rfl (n140.ne rfl (n139.ne rfl (n138.ne rfl (n137.ne rfl (n133.ne rfl n109.at_)))))
  refine sv n142.ok rfl (wgT rfl (yl 3 false rfl (n142.ne rfl n140.at_)) rfl) rfl (o_ldR e143 u126b Try.underlying30 rfl (by kernel_rfl)) (fun an144 n144 => ?_)
  refine sc n144.ok rfl (wgT rfl (yl 3 false rfl (n144.ne rfl (n142.ne rfl n140.at_))) rfl) rfl (o_f2 Try.func12 rfl rfl rfl (n144.ne rfl n142.at_) n144.at_) (sameK_t _ _ _ _ w125 (hk.gr A131) (hk2.gr A132) (frV_small _) (frM_small _)) ?_
  rintro _ w146 ⟨rfl, g147⟩
  refine ⟨_, rfl, fun an145 n145 => ?_⟩
  have G148 := G127.trans g147
  have B149 := B128.gr g147
  have B150 := B129.gr g147
  have B151 := u126b.gr g147
  have A152 := A130.trans g147
  have A153 := A131.trans g147
  have A154 := A132.trans g147
  have e155 := n145.ne rfl (n144.ne rfl (n142.ne rfl n140.at_))
  refine sv n145.ok rfl (wgT rfl (yl 3 false rfl e155) rfl) rfl (o_not n145.at_ rfl) (fun an156 n156 => ?_)
  refine sv n156.ok rfl (wn _ rfl) rfl (o_pkF (n156.ne rfl e155) n156.at_) (fun an157 n157 => ?_)
  refine wpList_nil ?_
  refine th_n (hK135 _ _ ?_)
  refine wp_cond_false (n157.at_) ?_
  refine wp_skip ?_
  refine th_n (hK134 _ _ ?_)
  refine wp_seq_k (fun K158 hK158 => ?_)
  refine wp_region_lit ?_
  have e159 := n157.ne rfl (n156.ne rfl (n145.ne rfl (n144.ne rfl (n142.ne rfl (n140.ne rfl (n139.ne rfl (n138.ne rfl (n137.ne rfl (n133.ne rfl (n109.ne rfl (n108.ne rfl (n107.ne rfl (n106.ne rfl (n96.ne rfl (n95.ne rfl (n93.ne rfl e92))))))))))))))))
  refine sv n157.ok rfl (wn _ rfl) rfl (o_mv e159) (fun an160 n160 => ?_)
  have e161 := n160.ne rfl (n157.ne rfl (n156.ne rfl (n145.ne rfl (n144.ne rfl (n142.ne rfl (n140.ne rfl (n139.ne rfl (n138.ne rfl (n137.ne rfl (n133.ne rfl (n109.ne rfl (n108.ne rfl (n107.ne rfl (n106.ne rfl (n96.ne rfl (n95.ne rfl e94))))))))))))))))
  refine sv n160.ok rfl (wn _ rfl) rfl (o_mv e161) (fun an162 n162 => ?_)
  refine sc n162.ok rfl (wn _ rfl) rfl (o_f2 Try.func14 rfl rfl rfl (n162.ne rfl n160.at_) n162.at_) (rget_any K va vc l w146 (by have := ((okS_iff _).1 hE).len; rw [List.length_map] at this; omega) (hv.gr G148) (hm.gr G148)) ?_
  rintro _ w164 ⟨R2, ra, rc, rfl, hR2, hO2, hRK, hRl, g165⟩
  have hn2 : ¬ R2.length = 0 := fun q => hN (by rw [← hR2, List.eq_nil_of_length_eq_zero q]; rfl)
  have hr2 := RdA.own encVr_ok hO2 rfl
  refine ⟨_, rfl, fun an163 n163 => ?_⟩
  have G166 := G148.trans g165
  have B167 := B149.gr g165
  have B168 := B150.gr g165
  have B169 := B151.gr g165
  have A170 := A152.trans g165
  have A171 := A153.trans g165
  have A172 := A154.trans g165
  have A174 := Gr.refl w164
  refine sv n163.ok rfl (wn _ rfl) rfl (o_as n163.at_) (fun an175 n175 => ?_)
  refine wpList_nil ?_
  refine th_n (hK158 _ _ ?_)
  refine wp_seq_k (fun K176 hK176 => ?_)
  refine wp_seq_k (fun K177 hK177 => ?_)
  refine wp_region_lit ?_
  refine sv n175.ok rfl (wn _ rfl) rfl (o_mv n175.at_) (fun an178 n178 => ?_)
  refine sv n178.ok rfl (wn _ rfl) rfl (o_len n178.at_ Try.underlying22) (fun an179 n179 => ?_)
  refine sv n179.ok rfl (wn _ rfl) rfl (o_eq n179.at_ ev_const (decide_eq_false (show ¬ ((R2.length : Nat) : Int) = 0 by omega))) (fun an180 n180 => ?_)
  refine wpList_nil ?_
  refine th_n (hK177 _ _ ?_)
  refine wp_cond_false (n180.at_) ?_
  refine wp_skip ?_
  refine th_n (hK176 _ _ ?_)
  refine wp_seq_k (fun K181 hK181 => ?_)
  refine wp_region_lit ?_
  have e182 := n180.ne rfl (n179.ne rfl (n178.ne rfl (n175.ne rfl (n163.ne rfl (n162.ne rfl (n160.ne rfl (n157.ne rfl (n156.ne rfl (n145.ne rfl (n144.ne rfl (n142.ne rfl (n140.ne rfl (n139.ne rfl (n138.ne rfl (n137.ne rfl (n133.ne rfl (n109.ne rfl (n108.ne rfl (n107.ne rfl (n106.ne rfl (n96.ne rfl (n95.ne rfl (n93.ne rfl (n90.ne rfl (n89.ne rfl ((p79.old 8 rfl).trans (n71.ne rfl (n63.ne rfl (n62.ne rfl (n59.ne rfl (n41.ne rfl (n40.ne rfl (n39.ne rfl (n38.ne rfl (n30.ne rfl (n29.ne rfl (n27.ne rfl n24.at_)))))))))))))))))))))))))))))))))))))
  refine sv n180.ok rfl (wn _ rfl) rfl (o_mv e182) (fun an183 n183 => ?_)
  refine sv n183.ok rfl (wn _ rfl) rfl (o_eq (b := true) n183.at_ ev_const (by decide)) (fun an184 n184 => ?_)
  refine sv n184.ok rfl (wn _ rfl) rfl (o_mv n184.at_) (fun an185 n185 => ?_)
  have e186 := n185.ne rfl (n184.ne rfl (n183.ne rfl (n180.ne rfl (n179.ne rfl (n178.ne rfl (n175.ne rfl (n163.ne rfl (n162.ne rfl (n160.ne rfl (n157.ne rfl (n156.ne rfl (n145.ne rfl (n144.ne rfl (n142.ne rfl (n140.ne rfl (n139.ne rfl (n138.ne rfl (n137.ne rfl (n133.ne rfl (n109.ne rfl (n108.ne rfl (n107.ne rfl (n106.ne rfl (n96.ne rfl (n95.ne rfl (n93.ne rfl (n90.ne rfl (n89.ne rfl ((p79.old 7 rfl).trans (n71.ne rfl (n63.ne rfl (n62.ne rfl (n59.ne rfl (n41.ne rfl (n40.ne rfl (n39.ne rfl (n38.ne rfl (n30.ne rfl (n29.ne rfl (n27.ne rfl (n24.ne rfl n23.at_)))))))))))))))))))))))))))))))))))))))))
  refine sv n185.ok rfl (wgT rfl (yl 2 true rfl n185.at_) rfl) rfl (o_mv e186) (fun an187 n187 => ?_)
  have e188 := n187.ne rfl (n185.ne rfl (n184.ne rfl (n183.ne rfl (n180.ne rfl (n179.ne rfl (n178.ne rfl n175.at_))))))
  refine sv n187.ok rfl (wgT rfl (yl 2 true rfl (n187.ne rfl n185.at_)) rfl) rfl (o_mv e188) (fun an189 n189 => ?_)
  refine sc n189.ok rfl (wgT rfl (yl 2 true rfl (n189.ne rfl (n187.ne rfl n185.at_))) rfl) rfl (o_f2 Try.func15 rfl rfl rfl (n189.ne rfl n187.at_) n189.at_) (same_eq R R2 ga ra gc rc _ (okS_get ((okS_iff _).1 hE)) hR hR2 w164 (hr.gr A170) (hmr.gr A170) (hr2.gr A174) (fun x hx => (hm x (hRK x hx)).gr G166)) ?_
  rintro _ w191 ⟨rfl, g192⟩
  refine ⟨_, rfl, fun an190 n190 => ?_⟩
  have G193 := G166.trans g192
  have B194 := B167.gr g192
  have B195 := B168.gr g192
  have B196 := B169.gr g192
  have A197 := A170.trans g192
  have A198 := A171.trans g192
  have A199 := A172.trans g192
  have A200 := A174.trans g192
  have e201 := n190.ne rfl (n189.ne rfl (n187.ne rfl n185.at_))
  refine sv n190.ok rfl (wn _ rfl) rfl (o_pkT e201 n190.at_) (fun an202 n202 => ?_)
  refine sv n202.ok rfl (wn _ rfl) rfl (o_as n202.at_) (fun an203 n203 => ?_)
  refine wpList_nil ?_
  refine th_n (hK181 _ _ ?_)
  refine wp_ret ?_
  exact ret1 n203.ok rfl (n203.at_) ⟨rfl, G193⟩
theorem shelfSays_walk (K : List VerI) (y : VerI) (va : Option Addr) (vc : Nat) (l : List UInt8) (hl : l.length ≤ 9223372036854775807) (hyl : y.d.id.length ≤ 9223372036854775807) (hid : ∀ x ∈ K, x.d.id.length ≤ 9223372036854775807) (w : World) (hv : RdA encVr 8 w va K) (hm : MeansV w K) (hy : MeanV w y) :
    Calls Try.prog 3 #[.slice va K.length vc, .agg (encVr y).toArray, .string (bs l)] w fun e w' => e = .returned (.bool true) ∧ Gr w w' := by
  by_cases hE : chkShf (K.map VerI.d) = 0
  · by_cases hN : svGet (K.map VerI.d) l = []
    · exact shelfSays_none K y va vc l hl hyl hid hE hN w hv hm hy
    · exact shelfSays_some K y va vc l hl hyl hid hE hN w hv hm hy
  · exact shelfSays_bad K y va vc l hl hyl hid hE w hv hm hy
end Go.Proofs.Ytbpkfkljeibjoaa
