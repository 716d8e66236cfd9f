/- The walk of ShelfOrder. -/
import Derived.Test.YtoencnbpjjkjnaaSo5
set_option linter.unusedVariables false
set_option linter.unusedSimpArgs false
namespace Go.Proofs.Ytoencnbpjjkjnaa
open Go.RowKit Rm Gx
theorem told_dots {v : List Nat} {T : List VerD} (hT : ToldV v T) (hv : ∀ s, s < 5 → cv v s ≤ 20) {x : VerD} (hx : x ∈ T) : 0 ≤ x.s ∧ x.s < 5 ∧ 0 ≤ x.c ∧ x.c < 1024 := hT.dot hv hx
/-- a version stands just where no other one is over it -/
theorem stands {T : List VerD} {K R : List VerI} (hK : K.map VerI.d = T) (hM : IsMax T (R.map VerI.d)) {a : VerI} (ha : a ∈ K) : (R.any fun b => sameVB a.d b.d) = !(K.any fun b => ovB b.d a.d) := by
  rw [Bool.eq_iff_iff, List.any_eq_true, Bool.not_eq_true', List.any_eq_false]
  have hm := hM.mem a.d
  constructor
  · rintro ⟨b, hb, e⟩ y hy
    have e2 := (sameVB_iff _ _).1 e
    have h1 := hm.1 (by rw [e2]; exact List.mem_map_of_mem hb)
    rw [Bool.not_eq_true]
    exact h1.2 y.d (by rw [← hK]; exact List.mem_map_of_mem hy)
  · intro h
    have h1 := hm.2 ⟨by rw [← hK]; exact List.mem_map_of_mem ha, fun z hz => by
      rw [← hK] at hz
      obtain ⟨y, hy, rfl⟩ := List.mem_map.1 hz
      exact (Bool.not_eq_true _).mp (h y hy)⟩
    obtain ⟨b, hb, e⟩ := List.mem_map.1 h1
    exact ⟨b, hb, (sameVB_iff _ _).2 e.symm⟩
set_option maxHeartbeats 8000000 in
set_option maxRecDepth 100000 in
theorem shelfOrder_walk (v0 : Value) (L0 : List (List Int)) (x1 : Int) (w : World) (h0 : RdLL w v0 L0) :
    Calls Try.prog 4 #[v0, .int .i64 (x1)] w fun e w' => e = .returned (.bool true) ∧ Gr w w' := by
  refine enter (N := 94) Try.func4 rfl rfl rfl (fun a0 ok0 h0 => ?_)
  have e0_0 : a0.eval (.tmp 0) = v0 := h0 0 _ rfl
  have e0_1 : a0.eval (.tmp 1) = .int .i64 (x1) := h0 1 _ rfl
  clear h0
  have G0 := Gr.refl w
  refine wp_seq_k (fun K1 hK1 => ?_)
  refine wp_region_lit ?_
  refine sv ok0 rfl (wn _ rfl) rfl (o_as ev_const) (fun an2 n2 => ?_)
  refine wpList_nil ?_
  refine th_n (hK1 _ _ ?_)
  refine wp_seq_k (fun K3 hK3 => ?_)
  refine wp_seq_k (fun K4 hK4 => ?_)
  refine wp_region_lit ?_
  refine sc n2.ok rfl (wn _ rfl) rfl (o_f0 Try.func22 rfl rfl rfl ) (begun_shelf w) ?_
  rintro _ w6 ⟨rfl, g7⟩
  refine ⟨_, rfl, fun an5 n5 => ?_⟩
  have G8 := G0.trans g7
  refine sv n5.ok rfl (wn _ rfl) rfl (o_not n5.at_ rfl) (fun an9 n9 => ?_)
  refine wpList_nil ?_
  refine th_n (hK4 _ _ ?_)
  refine wp_cond_false (n9.at_) ?_
  refine wp_skip ?_
  refine th_n (hK3 _ _ ?_)
  refine wp_seq_k (fun K10 hK10 => ?_)
  refine wp_region_lit ?_
  have e11 := n9.ne rfl (n5.ne rfl (n2.ne rfl e0_0))
  refine sv n9.ok rfl (wn _ rfl) rfl (o_mv e11) (fun an12 n12 => ?_)
  refine sc n12.ok rfl (wn _ rfl) rfl (o_f1 Try.func23 rfl rfl rfl n12.at_) (told_any v0 L0 w6 (h0.gr G8)) ?_
  rintro _ w14 ⟨RT, raT, rcT, vT, rfl, hT, hv, hlT, hrT, hmT, hcT, g15⟩
  have hTR := hT.tr (by rw [List.length_map]; omega)
  have hlM : (RT.map VerI.d).length ≤ 20 := by rw [List.length_map]; exact hlT
  have hMX := lay_is hTR (fun x hx => hx)
  refine ⟨_, rfl, fun an13 n13 => ?_⟩
  have G16 := G8.trans g15
  have A18 := Gr.refl w14
  refine sv n13.ok rfl (wn _ rfl) rfl (o_as n13.at_) (fun an19 n19 => ?_)
  refine wpList_nil ?_
  refine th_n (hK10 _ _ ?_)
  refine wp_seq_k (fun K20 hK20 => ?_)
  refine wp_region_lit ?_
  have e21 := n19.ne rfl (n13.ne rfl (n12.ne rfl (n9.ne rfl (n5.ne rfl (n2.ne rfl e0_1)))))
  refine sv n19.ok rfl (wn _ rfl) rfl (o_mv e21) (fun an22 n22 => ?_)
  refine sv n22.ok rfl (wn _ rfl) rfl (o_mv (n22.ne rfl n19.at_)) (fun an23 n23 => ?_)
  refine sv n23.ok rfl (wn _ rfl) rfl (o_len n23.at_ Try.underlying22) (fun an24 n24 => ?_)
  refine sv n24.ok rfl (wn _ rfl) rfl (o_add (r := ((RT.length + 1 : Nat) : Int)) n24.at_ ev_const (by omega) (by omega)) (fun an25 n25 => ?_)
  have e26 := n25.ne rfl (n24.ne rfl (n23.ne rfl n22.at_))
  refine sc n25.ok rfl (wn _ rfl) rfl (o_f2 Try.func24 rfl rfl rfl e26 n25.at_) (within_le x1 RT.length (by omega) w14) ?_
  rintro _ w28 ⟨tq, rfl, htq, g29⟩
  refine ⟨_, rfl, fun an27 n27 => ?_⟩
  have G30 := G16.trans g29
  have A31 := A18.trans g29
  refine sv n27.ok rfl (wn _ rfl) rfl (o_as n27.at_) (fun an32 n32 => ?_)
  refine wpList_nil ?_
  refine th_n (hK20 _ _ ?_)
  refine wp_seq_k (fun K33 hK33 => ?_)
  refine wp_region_lit ?_
  have e34 := n32.ne rfl (n27.ne rfl (n25.ne rfl (n24.ne rfl (n23.ne rfl (n22.ne rfl n19.at_)))))
  refine sv n32.ok rfl (wn _ rfl) rfl (o_mv e34) (fun an35 n35 => ?_)
  refine sc n35.ok rfl (wn _ rfl) rfl (o_f1 Try.func25 rfl rfl rfl n35.at_) (laid_r RT raT rcT w28 (hrT.gr A31) (hmT.gr A31) (by omega) (RT.map VerI.d) ((RT.map VerI.d)) hTR (fun x hx => hx) (rfl)) ?_
  rintro _ w37 ⟨R1, ra1, rc1, rfl, hR1, hr1, hm1, g38⟩
  have hM1 := lay_is hTR (fun x hx => hx)
  refine ⟨_, rfl, fun an36 n36 => ?_⟩
  have G39 := G30.trans g38
  have A40 := A31.trans g38
  have A42 := Gr.refl w37
  refine sv n36.ok rfl (wn _ rfl) rfl (o_mv n36.at_) (fun an43 n43 => ?_)
  refine sv n43.ok rfl (wn _ rfl) rfl (o_ex n43.at_ rfl) (fun an44 n44 => ?_)
  refine sv n44.ok rfl (wn _ rfl) rfl (o_ex (n44.ne rfl n43.at_) rfl) (fun an45 n45 => ?_)
  refine sv n45.ok rfl (wn _ rfl) rfl (o_as (n45.ne rfl n44.at_)) (fun an46 n46 => ?_)
  refine sv n46.ok rfl (wn _ rfl) rfl (o_as (n46.ne rfl n45.at_)) (fun an47 n47 => ?_)
  refine wpList_nil ?_
  refine th_n (hK33 _ _ ?_)
  refine wp_seq_k (fun K48 hK48 => ?_)
  refine reg_start (N := 94) (m := 15) (by kernel_rfl) (fun R490 => ?_)
  have e50 := n47.ne rfl (n46.ne rfl (n45.ne rfl (n44.ne rfl (n43.ne rfl (n36.ne rfl (n35.ne rfl e34))))))
  have R491 := R490.snoc (n' := 1) rfl (fun vJ _ => vJ = .slice raT RT.length rcT) rfl (fun _ _ _ _ h => h) (fun aS wS pS => by
      exact Does.val (wn _ rfl) (o_mv ((pS.old 5 rfl).trans e50)) (Gr.refl _) rfl rfl)
  have e51 := n47.ne rfl (n46.ne rfl (n45.ne rfl (n44.ne rfl (n43.ne rfl (n36.ne rfl (n35.ne rfl n32.at_))))))
  have R492 := R491.snoc (n' := 2) rfl (fun vJ _ => vJ = .int .i64 (tq : Int)) rfl (fun _ _ _ _ h => h) (fun aS wS pS => by
      exact Does.val (wn _ rfl) (o_mv ((pS.old 1 rfl).trans e51)) (Gr.refl _) rfl rfl)
  have R493 := R492.snoc (n' := 3) rfl (fun vJ _ => vJ = .slice (offA raT rcT tq 8) ((RT.drop tq).length) (rcT - tq)) rfl (fun _ _ _ _ h => h) (fun aS wS pS => by
      have eR49_0 : aS.eval (.tmp 31) = .slice raT RT.length rcT := pS.pre 0 rfl
      have eR49_1 : aS.eval (.tmp 32) = .int .i64 (tq : Int) := pS.pre 1 rfl
      exact Does.val (wn _ rfl) (o_cutA (k := tq) (s := 8) (m := (RT.drop tq).length) (eR49_0) (eR49_1) Try.underlying22 (by kernel_rfl) (by omega) hcT.1 hcT.2 List.length_drop) (Gr.refl _) rfl rfl)
  have R494 := R493.snoc (n' := 4) rfl (fun vJ _ => vJ = .slice raT RT.length rcT) rfl (fun _ _ _ _ h => h) (fun aS wS pS => by
      exact Does.val (wn _ rfl) (o_mv ((pS.old 5 rfl).trans e50)) (Gr.refl _) rfl rfl)
  have R495 := R494.snoc (n' := 5) rfl (fun vJ _ => vJ = .slice raT RT.length rcT) rfl (fun _ _ _ _ h => h) (fun aS wS pS => by
      exact Does.val (wn _ rfl) (o_mv ((pS.old 5 rfl).trans e50)) (Gr.refl _) rfl rfl)
  have R496 := R495.snoc (n' := 6) rfl (fun vJ _ => vJ = .int .i64 (tq : Int)) rfl (fun _ _ _ _ h => h) (fun aS wS pS => by
      exact Does.val (wn _ rfl) (o_mv ((pS.old 1 rfl).trans e51)) (Gr.refl _) rfl rfl)
  have R497 := R496.snoc (n' := 7) rfl (fun vJ _ => vJ = .slice raT ((RT.take tq).length) rcT) rfl (fun _ _ _ _ h => h) (fun aS wS pS => by
      have eR49_4 : aS.eval (.tmp 35) = .slice raT RT.length rcT := pS.pre 4 rfl
      have eR49_5 : aS.eval (.tmp 36) = .int .i64 (tq : Int) := pS.pre 5 rfl
      exact Does.val (wn _ rfl) (o_cutT (k := tq) (s := 8) (m := (RT.take tq).length) (eR49_4) (eR49_5) Try.underlying22 (by kernel_rfl) (by have := hcT.1; omega) (by rw [List.length_take]; omega)) (Gr.refl _) rfl rfl)
  have R498 := R497.snoc (n' := 8) rfl (fun vJ wJ => ∃ b53 : Nat, vJ = .slice (some ⟨b53, 0, none⟩) 3 3 ∧ w37.heap.size ≤ b53 ∧ Bk wJ b53 #[.slice (offA raT rcT tq 8) ((RT.drop tq).length) (rcT - tq), .slice raT RT.length rcT, .slice raT ((RT.take tq).length) rcT] 22) rfl (fun _ _ _ g ⟨b, h1, h2, h3⟩ => ⟨b, h1, h2, h3.gr g⟩) (fun aS wS pS => by
      have eR49_2 : aS.eval (.tmp 33) = .slice (offA raT rcT tq 8) ((RT.drop tq).length) (rcT - tq) := pS.pre 2 rfl
      have eR49_3 : aS.eval (.tmp 34) = .slice raT RT.length rcT := pS.pre 3 rfl
      have eR49_6 : aS.eval (.tmp 37) = .slice raT ((RT.take tq).length) rcT := pS.pre 6 rfl
      obtain ⟨i52, i52a, i52b, i52c⟩ := info3_of (show (Try.prog.info? 22).map (fun i => (i.zero, i.size)) = some (some (.slice none 0 0), 1) by kernel_rfl)
      exact Does.val (wn _ rfl) (o_bs (vs := [(0, .slice (offA raT rcT tq 8) ((RT.drop tq).length) (rcT - tq)), (1, .slice raT RT.length rcT), (2, .slice raT ((RT.take tq).length) rcT)]) (by simp [(eR49_2), (eR49_3), (eR49_6), ev_const]) Try.underlying100 i52a i52b (by rw [i52c]; rfl) (by rw [i52c]; rfl) (by rw [i52c]; kernel_rfl)) ((Gr.refl _).alloc _) ⟨_, rfl, pS.gr.size, (New.mk' _ _ _).bk⟩ rfl)
  have R499 := R498.snoc (n' := 9) rfl (fun vJ wJ => ∃ (ca : Option Addr) (cc : Nat), vJ = .slice ca ((RT.drop tq ++ RT ++ RT.take tq).length) cc ∧ (RdA encVr 8 wJ ca (RT.drop tq ++ RT ++ RT.take tq))) rfl (fun _ _ _ g ⟨ca, cc, h, q0⟩ => ⟨ca, cc, h, q0.gr g⟩) (fun aS wS pS => by
      obtain ⟨b53, eR49_7, geb53, bkb53⟩ := pS.pre 7 rfl
      have eR49_7 : aS.eval (.tmp 38) = .slice (some ⟨b53, 0, none⟩) 3 3 := eR49_7
      exact Does.call (wn _ rfl) (o_f1 Try.func26 rfl rfl rfl (eR49_7)) (concatV3 (RT.drop tq) RT (RT.take tq) (offA raT rcT tq 8) raT raT (rcT - tq) rcT rcT b53 _ wS (by rw [List.length_drop]; omega) (by omega) (by rw [List.length_take]; omega) (by rw [List.length_drop]; have := hcT.1; omega) hcT.1 (by rw [List.length_take]; have := hcT.1; omega) (fun q => by rw [hcT.2 (offA_none q)]; exact Nat.zero_sub _) hcT.2 hcT.2 (RdA.drop (k := tq) (hrT.gr (A40.trans (gr_drew pS.gr))) hcT.1) (hrT.gr (A40.trans (gr_drew pS.gr))) (RdA.take (hrT.gr (A40.trans (gr_drew pS.gr)))) bkb53) (by rintro _ w2 ⟨ca, cc, rfl, hCr, g⟩; exact ⟨_, rfl, g, ⟨ca, cc, rfl, hCr⟩⟩) rfl)
  have R4910 := R499.snoc (n' := 10) rfl (fun vJ wJ => ∃ (Rb : List VerI) (rab : Option Addr) (rcb : Nat), vJ = .tuple #[.slice rab Rb.length rcb, .bool true] ∧ (Rb.map VerI.d = layL (List.map VerI.d (RT.drop tq ++ RT ++ RT.take tq))) ∧ (RdA encVr 8 wJ rab Rb) ∧ (MeansV wJ Rb)) rfl (fun _ _ _ g ⟨Rb, rab, rcb, h, q0, q1, q2⟩ => ⟨Rb, rab, rcb, h, q0, q1.gr g, q2.gr g⟩) (fun aS wS pS => by
      obtain ⟨ca, cc, eR49_8, hCr⟩ := pS.pre 8 rfl
      have eR49_8 : aS.eval (.tmp 39) = .slice ca ((RT.drop tq ++ RT ++ RT.take tq).length) cc := eR49_8
      exact Does.call (wn _ rfl) (o_f1 Try.func25 rfl rfl rfl (eR49_8)) (laid_r (RT.drop tq ++ RT ++ RT.take tq) ca cc wS hCr (means_sub (hmT.gr (A40.trans (gr_drew pS.gr))) (fun x hx => (rot_mem RT tq x).1 hx)) (by rw [List.length_append, List.length_append, List.length_drop, List.length_take]; omega) (RT.map VerI.d) (List.map VerI.d (RT.drop tq ++ RT ++ RT.take tq)) hTR (fun x hx => (mapd_mem (rot_mem RT tq) x).1 hx) rfl) (by rintro _ w2 ⟨Rb, rab, rcb, rfl, hRb, hrb, hmb, g⟩; exact ⟨_, rfl, g, ⟨Rb, rab, rcb, rfl, hRb, hrb, hmb⟩⟩) rfl)
  have R4911 := R4910.snoc (n' := 11) rfl (fun vJ wJ => ∃ (Rb : List VerI) (rab : Option Addr) (rcb : Nat), vJ = .tuple #[.slice rab Rb.length rcb, .bool true] ∧ (Rb.map VerI.d = layL (List.map VerI.d (RT.drop tq ++ RT ++ RT.take tq))) ∧ (RdA encVr 8 wJ rab Rb) ∧ (MeansV wJ Rb)) rfl (fun _ _ _ g ⟨Rb, rab, rcb, h, q0, q1, q2⟩ => ⟨Rb, rab, rcb, h, q0, q1.gr g, q2.gr g⟩) (fun aS wS pS => by
      obtain ⟨Rb, rab, rcb, eR49_9, hRb, hrb, hmb⟩ := pS.pre 9 rfl
      have eR49_9 : aS.eval (.tmp 40) = .tuple #[.slice rab Rb.length rcb, .bool true] := eR49_9
      exact Does.val (wn _ rfl) (o_mv (eR49_9)) (Gr.refl _) ⟨Rb, rab, rcb, rfl, hRb, hrb, hmb⟩ rfl)
  have R4912 := R4911.snoc (n' := 12) rfl (fun vJ wJ => ∃ (Rb : List VerI) (rab : Option Addr) (rcb : Nat), vJ = .slice rab Rb.length rcb ∧ (Rb.map VerI.d = layL (List.map VerI.d (RT.drop tq ++ RT ++ RT.take tq))) ∧ (RdA encVr 8 wJ rab Rb) ∧ (MeansV wJ Rb)) rfl (fun _ _ _ g ⟨Rb, rab, rcb, h, q0, q1, q2⟩ => ⟨Rb, rab, rcb, h, q0, q1.gr g, q2.gr g⟩) (fun aS wS pS => by
      obtain ⟨Rb, rab, rcb, eR49_10, hRb, hrb, hmb⟩ := pS.pre 10 rfl
      have eR49_10 : aS.eval (.tmp 30) = .tuple #[.slice rab Rb.length rcb, .bool true] := eR49_10
      exact Does.val (wn _ rfl) (o_ex (eR49_10) rfl) (Gr.refl _) ⟨Rb, rab, rcb, rfl, hRb, hrb, hmb⟩ rfl)
  have R4913 := R4912.snoc (n' := 13) rfl (fun vJ _ => vJ = .bool true) rfl (fun _ _ _ _ h => h) (fun aS wS pS => by
      obtain ⟨Rb, rab, rcb, eR49_10, hRb, hrb, hmb⟩ := pS.pre 10 rfl
      have eR49_10 : aS.eval (.tmp 30) = .tuple #[.slice rab Rb.length rcb, .bool true] := eR49_10
      exact Does.val (wn _ rfl) (o_ex (eR49_10) rfl) (Gr.refl _) rfl rfl)
  have R4914 := R4913.snoc (n' := 14) rfl (fun vJ wJ => ∃ (Rb : List VerI) (rab : Option Addr) (rcb : Nat), vJ = .slice rab Rb.length rcb ∧ (Rb.map VerI.d = layL (List.map VerI.d (RT.drop tq ++ RT ++ RT.take tq))) ∧ (RdA encVr 8 wJ rab Rb) ∧ (MeansV wJ Rb)) rfl (fun _ _ _ g ⟨Rb, rab, rcb, h, q0, q1, q2⟩ => ⟨Rb, rab, rcb, h, q0, q1.gr g, q2.gr g⟩) (fun aS wS pS => by
      obtain ⟨Rb, rab, rcb, eR49_11, hRb, hrb, hmb⟩ := pS.pre 11 rfl
      have eR49_11 : aS.eval (.tmp 41) = .slice rab Rb.length rcb := eR49_11
      exact Does.val (wn _ rfl) (o_as (eR49_11)) (Gr.refl _) ⟨Rb, rab, rcb, rfl, hRb, hrb, hmb⟩ rfl)
  have R4915 := R4914.snoc (n' := 15) rfl (fun vJ _ => vJ = .bool true) rfl (fun _ _ _ _ h => h) (fun aS wS pS => by
      have eR49_12 : aS.eval (.tmp 42) = .bool true := pS.pre 12 rfl
      exact Does.val (wn _ rfl) (o_as (eR49_12)) (Gr.refl _) rfl rfl)
  refine R4915.run (k := 0) (L := #[true, true, true, true, true, true, true, true, true, true, true, true, true, true, true]) (by kernel_rfl) (by kernel_rfl) (by kernel_rfl) n47.ok (by kernel_rfl) (by kernel_rfl) (fun ap55 w56 p55 => ?_)
  have g57 := gr_drew p55.gr
  have G58 := G39.trans g57
  have A59 := A40.trans g57
  have A60 := A42.trans g57
  obtain ⟨b53, ep55_7, geb53, bkb53⟩ := p55.js 7 rfl
  have ep55_7 : ap55.eval (.tmp 38) = .slice (some ⟨b53, 0, none⟩) 3 3 := ep55_7
  have l61 : w.heap.size ≤ b53 := Nat.le_trans G39.size geb53
  have l62 : w14.heap.size ≤ b53 := Nat.le_trans A40.size geb53
  have l63 : w37.heap.size ≤ b53 := Nat.le_trans A42.size geb53
  obtain ⟨ca, cc, ep55_8, hCr⟩ := p55.js 8 rfl
  have ep55_8 : ap55.eval (.tmp 39) = .slice ca ((RT.drop tq ++ RT ++ RT.take tq).length) cc := ep55_8
  obtain ⟨Rb, rab, rcb, ep55_13, hRb, hrb, hmb⟩ := p55.js 13 rfl
  have ep55_13 : ap55.eval (.tmp 8) = .slice rab Rb.length rcb := ep55_13
  have hEb : Rb.map VerI.d = layL (RT.map VerI.d) := hRb.trans (lay_same hTR (fun x hx => (mapd_mem (rot_mem RT tq) x).1 hx) (fun x hx => hx) (mapd_mem (rot_mem RT tq)))
  have A65 := Gr.refl w56
  refine wpAny_done (by kernel_rfl) ?_ _
  refine th_n (hK48 _ _ ?_)
  refine wp_seq_k (fun K66 hK66 => ?_)
  refine wp_region_lit ?_
  refine sv p55.ok rfl (wn _ rfl) rfl (o_mv ((p55.old 5 rfl).trans e50)) (fun an67 n67 => ?_)
  obtain ⟨base, z68⟩ : ∃ n, n = w56.heap.size := ⟨_, rfl⟩
  have l69 : b53 < base := by rw [z68]; exact bkb53.lt
  have l70 : w.heap.size ≤ base := by rw [z68]; exact G58.size
  have z71 : base ≤ w56.heap.size := Nat.le_of_eq z68
  have l72 : w14.heap.size ≤ base := by rw [z68]; exact A59.size
  have l73 : w37.heap.size ≤ base := by rw [z68]; exact A60.size
  have l74 : w56.heap.size ≤ base := by rw [z68]; exact A65.size
  refine sc n67.ok rfl (wn _ rfl) rfl (o_f1 Try.func27 rfl rfl rfl n67.at_) (cloneVr RT raT rcT w56 (by omega) hcT.1 hcT.2 (hrT.gr A59)) ?_
  rintro _ w76 ⟨kb, kc, rfl, hKO, g77⟩
  have hKO1 := hKO
  rw [← z68] at hKO1
  refine ⟨_, rfl, fun an75 n75 => ?_⟩
  have G78 := G58.trans g77
  have B79 := bkb53.gr g77
  have A80 := A59.trans g77
  have A81 := A60.trans g77
  have A82 := A65.trans g77
  have z83 := Nat.le_trans z71 g77.size
  refine sv n75.ok rfl (wn _ rfl) rfl (o_as n75.at_) (fun an84 n84 => ?_)
  refine wpList_nil ?_
  refine th_n (hK66 _ _ ?_)
  refine wp_seq_k (fun K85 hK85 => ?_)
  refine wp_region_lit ?_
  refine sv n84.ok rfl (wn _ rfl) rfl (o_mv n84.at_) (fun an86 n86 => ?_)
  refine sc n86.ok rfl (wn _ rfl) rfl (o_f1 Try.func28 rfl rfl rfl n86.at_) (reverseV RT kb kc base (by omega) w w76 G78 l70 z83 hKO1) ?_
  rintro _ w88 ⟨M, rfl, hMl, hMm, hO2, g89⟩
  refine ⟨_, rfl, fun an87 n87 => ?_⟩
  have G90 := Gr.grown G78 g89 (fun k e => Nat.le_trans l70 (ow_lt hKO1 k e))
  have B91 := B79.grown g89 (ow_lt hKO1) l69
  have A92 : Gr w14 w88 := Gr.grown A80 g89 (fun k e => Nat.le_trans l72 (ow_lt hKO1 k e))
  have A93 : Gr w37 w88 := Gr.grown A81 g89 (fun k e => Nat.le_trans l73 (ow_lt hKO1 k e))
  have A94 : Gr w56 w88 := Gr.grown A82 g89 (fun k e => Nat.le_trans l74 (ow_lt hKO1 k e))
  have z95 := Nat.le_trans z83 g89.size
  refine wpList_nil ?_
  refine th_n (hK85 _ _ ?_)
  refine wp_seq_k (fun K96 hK96 => ?_)
  refine wp_region_lit ?_
  refine sv n87.ok rfl (wn _ rfl) rfl (o_mv (n87.ne rfl (n86.ne rfl n84.at_))) (fun an97 n97 => ?_)
  refine sc n97.ok rfl (wn _ rfl) rfl (o_f1 Try.func25 rfl rfl rfl n97.at_) ((by have h := laid_r M kb kc w88 (RdA.own encVr_ok hO2 rfl) (means_sub (hmT.gr A92) (fun x hx => (hMm x).1 hx)) (by rw [hMl]; omega) (RT.map VerI.d) (List.map VerI.d M) hTR (fun x hx => (mapd_mem hMm x).1 hx) rfl; rw [hMl] at h; exact h)) ?_
  rintro _ w99 ⟨Rc, rac, rcc, rfl, hRc, hrc, hmc, g100⟩
  have hEc : Rc.map VerI.d = layL (RT.map VerI.d) := hRc.trans (lay_same hTR (fun x hx => (mapd_mem hMm x).1 hx) (fun x hx => hx) (mapd_mem hMm))
  refine ⟨_, rfl, fun an98 n98 => ?_⟩
  have G101 := G90.trans g100
  have B102 := B91.gr g100
  have A103 := A92.trans g100
  have A104 := A93.trans g100
  have A105 := A94.trans g100
  have z106 := Nat.le_trans z95 g100.size
  have O107 := ow_gr hO2 g100
  have A109 := Gr.refl w99
  refine sv n98.ok rfl (wn _ rfl) rfl (o_mv n98.at_) (fun an110 n110 => ?_)
  refine sv n110.ok rfl (wn _ rfl) rfl (o_ex n110.at_ rfl) (fun an111 n111 => ?_)
  refine sv n111.ok rfl (wn _ rfl) rfl (o_ex (n111.ne rfl n110.at_) rfl) (fun an112 n112 => ?_)
  refine sv n112.ok rfl (wn _ rfl) rfl (o_as (n112.ne rfl n111.at_)) (fun an113 n113 => ?_)
  refine sv n113.ok rfl (wn _ rfl) rfl (o_as (n113.ne rfl n112.at_)) (fun an114 n114 => ?_)
  refine wpList_nil ?_
  refine th_n (hK96 _ _ ?_)
  refine wp_seq_k (fun K115 hK115 => ?_)
  refine wp_seq_k (fun K116 hK116 => ?_)
  refine wp_region_lit ?_
  have e117 := n114.ne rfl (n113.ne rfl (n112.ne rfl (n111.ne rfl (n110.ne rfl (n98.ne rfl (n97.ne rfl (n87.ne rfl (n86.ne rfl (n84.ne rfl (n75.ne rfl (n67.ne rfl ((p55.old 7 rfl).trans n47.at_))))))))))))
  refine sv n114.ok rfl (wn _ rfl) rfl (o_mv e117) (fun an118 n118 => ?_)
  refine sv n118.ok rfl (wn _ rfl) rfl (o_not n118.at_ rfl) (fun an119 n119 => ?_)
  refine sv n119.ok rfl (wn _ rfl) rfl (o_mv n119.at_) (fun an120 n120 => ?_)
  have ep55_14 : ap55.eval (.tmp 9) = .bool true := p55.js 14 rfl
  have e121 := n120.ne rfl (n119.ne rfl (n118.ne rfl (n114.ne rfl (n113.ne rfl (n112.ne rfl (n111.ne rfl (n110.ne rfl (n98.ne rfl (n97.ne rfl (n87.ne rfl (n86.ne rfl (n84.ne rfl (n75.ne rfl (n67.ne rfl ep55_14))))))))))))))
  refine sv n120.ok rfl (wgT rfl (yl 2 false rfl n120.at_) rfl) rfl (o_mv e121) (fun an122 n122 => ?_)
  refine sv n122.ok rfl (wgT rfl (yl 2 false rfl (n122.ne rfl n120.at_)) rfl) rfl (o_not n122.at_ rfl) (fun an123 n123 => ?_)
  refine sv n123.ok rfl (wn _ rfl) rfl (o_pkF (n123.ne rfl (n122.ne rfl n120.at_)) n123.at_) (fun an124 n124 => ?_)
  refine sv n124.ok rfl (wn _ rfl) rfl (o_mv n124.at_) (fun an125 n125 => ?_)
  have e126 := n125.ne rfl (n124.ne rfl (n123.ne rfl (n122.ne rfl (n120.ne rfl (n119.ne rfl (n118.ne rfl n114.at_))))))
  refine sv n125.ok rfl (wgT rfl (yl 6 false rfl n125.at_) rfl) rfl (o_mv e126) (fun an127 n127 => ?_)
  refine sv n127.ok rfl (wgT rfl (yl 6 false rfl (n127.ne rfl n125.at_)) rfl) rfl (o_not n127.at_ rfl) (fun an128 n128 => ?_)
  refine sv n128.ok rfl (wn _ rfl) rfl (o_pkF (n128.ne rfl (n127.ne rfl n125.at_)) n128.at_) (fun an129 n129 => ?_)
  refine sv n129.ok rfl (wn _ rfl) rfl (o_mv n129.at_) (fun an130 n130 => ?_)
  have e131 := n130.ne rfl (n129.ne rfl (n128.ne rfl (n127.ne rfl (n125.ne rfl (n124.ne rfl (n123.ne rfl (n122.ne rfl (n120.ne rfl (n119.ne rfl (n118.ne rfl (n114.ne rfl (n113.ne rfl (n112.ne rfl (n111.ne rfl (n110.ne rfl (n98.ne rfl (n97.ne rfl (n87.ne rfl (n86.ne rfl (n84.ne rfl (n75.ne rfl (n67.ne rfl ((p55.old 6 rfl).trans (n47.ne rfl n46.at_))))))))))))))))))))))))
  refine sv n130.ok rfl (wgT rfl (yl 10 false rfl n130.at_) rfl) rfl (o_mv e131) (fun an132 n132 => ?_)
  have e133 := n132.ne rfl (n130.ne rfl (n129.ne rfl (n128.ne rfl (n127.ne rfl (n125.ne rfl (n124.ne rfl (n123.ne rfl (n122.ne rfl (n120.ne rfl (n119.ne rfl (n118.ne rfl (n114.ne rfl (n113.ne rfl (n112.ne rfl (n111.ne rfl (n110.ne rfl (n98.ne rfl (n97.ne rfl (n87.ne rfl (n86.ne rfl (n84.ne rfl (n75.ne rfl (n67.ne rfl ep55_13)))))))))))))))))))))))
  refine sv n132.ok rfl (wgT rfl (yl 10 false rfl (n132.ne rfl n130.at_)) rfl) rfl (o_mv e133) (fun an134 n134 => ?_)
  refine sc n134.ok rfl (wgT rfl (yl 10 false rfl (n134.ne rfl (n132.ne rfl n130.at_))) rfl) rfl (o_f2 Try.func21 rfl rfl rfl (n134.ne rfl n132.at_) n134.at_) (same_eq R1 Rb ra1 rab rc1 rcb (layL (RT.map VerI.d)) hMX.ok hR1 hEb w99 (hr1.gr A104) (hm1.gr A104) (hrb.gr A105) (hmb.gr A105)) ?_
  rintro _ w136 ⟨rfl, g137⟩
  refine ⟨_, rfl, fun an135 n135 => ?_⟩
  have G138 := G101.trans g137
  have B139 := B102.gr g137
  have A140 := A103.trans g137
  have A141 := A104.trans g137
  have A142 := A105.trans g137
  have A143 := A109.trans g137
  have z144 := Nat.le_trans z106 g137.size
  have O145 := ow_gr O107 g137
  have e146 := n135.ne rfl (n134.ne rfl (n132.ne rfl n130.at_))
  refine sv n135.ok rfl (wgT rfl (yl 10 false rfl e146) rfl) rfl (o_not n135.at_ rfl) (fun an147 n147 => ?_)
  refine sv n147.ok rfl (wn _ rfl) rfl (o_pkF (n147.ne rfl e146) n147.at_) (fun an148 n148 => ?_)
  refine sv n148.ok rfl (wn _ rfl) rfl (o_mv n148.at_) (fun an149 n149 => ?_)
  have e150 := n149.ne rfl (n148.ne rfl (n147.ne rfl (n135.ne rfl (n134.ne rfl (n132.ne rfl e131)))))
  refine sv n149.ok rfl (wgT rfl (yl 16 false rfl n149.at_) rfl) rfl (o_mv e150) (fun an151 n151 => ?_)
  have e152 := n151.ne rfl (n149.ne rfl (n148.ne rfl (n147.ne rfl (n135.ne rfl (n134.ne rfl (n132.ne rfl (n130.ne rfl (n129.ne rfl (n128.ne rfl (n127.ne rfl (n125.ne rfl (n124.ne rfl (n123.ne rfl (n122.ne rfl (n120.ne rfl (n119.ne rfl (n118.ne rfl (n114.ne rfl n113.at_))))))))))))))))))
  refine sv n151.ok rfl (wgT rfl (yl 16 false rfl (n151.ne rfl n149.at_)) rfl) rfl (o_mv e152) (fun an153 n153 => ?_)
  refine sc n153.ok rfl (wgT rfl (yl 16 false rfl (n153.ne rfl (n151.ne rfl n149.at_))) rfl) rfl (o_f2 Try.func21 rfl rfl rfl (n153.ne rfl n151.at_) n153.at_) (same_eq R1 Rc ra1 rac rc1 rcc (layL (RT.map VerI.d)) hMX.ok hR1 hEc w136 (hr1.gr A141) (hm1.gr A141) (hrc.gr A143) (hmc.gr A143)) ?_
  rintro _ w155 ⟨rfl, g156⟩
  refine ⟨_, rfl, fun an154 n154 => ?_⟩
  have G157 := G138.trans g156
  have B158 := B139.gr g156
  have A159 := A140.trans g156
  have A160 := A141.trans g156
  have A161 := A142.trans g156
  have A162 := A143.trans g156
  have z163 := Nat.le_trans z144 g156.size
  have O164 := ow_gr O145 g156
  have e165 := n154.ne rfl (n153.ne rfl (n151.ne rfl n149.at_))
  refine sv n154.ok rfl (wgT rfl (yl 16 false rfl e165) rfl) rfl (o_not n154.at_ rfl) (fun an166 n166 => ?_)
  refine sv n166.ok rfl (wn _ rfl) rfl (o_pkF (n166.ne rfl e165) n166.at_) (fun an167 n167 => ?_)
  refine sv n167.ok rfl (wn _ rfl) rfl (o_mv n167.at_) (fun an168 n168 => ?_)
  have e169 := n168.ne rfl (n167.ne rfl (n166.ne rfl (n154.ne rfl (n153.ne rfl (n151.ne rfl e150)))))
  refine sv n168.ok rfl (wgT rfl (yl 22 false rfl n168.at_) rfl) rfl (o_mv e169) (fun an170 n170 => ?_)
  refine sc n170.ok rfl (wgT rfl (yl 22 false rfl (n170.ne rfl n168.at_)) rfl) rfl (o_f1 Try.func17 rfl rfl rfl n170.at_) ((vchk_any R1 ra1 rc1 w155 (hr1.gr A160) (hm1.gr A160)).mono fun e w' h => (by rw [hR1, (okS_iff _).2 hMX.ok] at h; exact h)) ?_
  rintro _ w172 ⟨rfl, g173⟩
  refine ⟨_, rfl, fun an171 n171 => ?_⟩
  have G174 := G157.trans g173
  have B175 := B158.gr g173
  have A176 := A159.trans g173
  have A177 := A160.trans g173
  have A178 := A161.trans g173
  have A179 := A162.trans g173
  have z180 := Nat.le_trans z163 g173.size
  have O181 := ow_gr O164 g173
  refine sv n171.ok rfl (wgT rfl (yl 22 false rfl (n171.ne rfl (n170.ne rfl n168.at_))) rfl) rfl (o_neq (b := false) n171.at_ ev_const (by decide)) (fun an182 n182 => ?_)
  have e183 := n182.ne rfl (n171.ne rfl (n170.ne rfl n168.at_))
  refine sv n182.ok rfl (wn _ rfl) rfl (o_pkF e183 n182.at_) (fun an184 n184 => ?_)
  refine wpList_nil ?_
  refine th_n (hK116 _ _ ?_)
  refine wp_cond_false (n184.at_) ?_
  refine wp_skip ?_
  refine th_n (hK115 _ _ ?_)
  refine wp_seq_k (fun K185 hK185 => ?_)
  refine wp_seq_k (fun K186 hK186 => ?_)
  refine wp_region_lit ?_
  have e187 := n184.ne rfl (n182.ne rfl (n171.ne rfl (n170.ne rfl (n168.ne rfl (n167.ne rfl (n166.ne rfl (n154.ne rfl (n153.ne rfl (n151.ne rfl (n149.ne rfl (n148.ne rfl (n147.ne rfl (n135.ne rfl (n134.ne rfl (n132.ne rfl (n130.ne rfl (n129.ne rfl (n128.ne rfl (n127.ne rfl (n125.ne rfl (n124.ne rfl (n123.ne rfl (n122.ne rfl (n120.ne rfl (n119.ne rfl (n118.ne rfl (n114.ne rfl (n113.ne rfl (n112.ne rfl (n111.ne rfl (n110.ne rfl (n98.ne rfl (n97.ne rfl (n87.ne rfl (n86.ne rfl (n84.ne rfl (n75.ne rfl (n67.ne rfl ((p55.old 5 rfl).trans e50)))))))))))))))))))))))))))))))))))))))
  refine sv n184.ok rfl (wn _ rfl) rfl (o_mv e187) (fun an188 n188 => ?_)
  refine sv n188.ok rfl (wn _ rfl) rfl (o_len n188.at_ Try.underlying22) (fun an189 n189 => ?_)
  refine sv n189.ok rfl (wn _ rfl) rfl (o_mv ev_const) (fun an190 n190 => ?_)
  refine wpList_nil ?_
  refine th_n (hK186 _ _ ?_)
  refine wp_block ?_
  have e192 := n190.ne rfl (n189.ne rfl (n188.ne rfl (n184.ne rfl (n182.ne rfl (n171.ne rfl (n170.ne rfl (n168.ne rfl (n167.ne rfl (n166.ne rfl (n154.ne rfl (n153.ne rfl (n151.ne rfl (n149.ne rfl (n148.ne rfl (n147.ne rfl (n135.ne rfl (n134.ne rfl (n132.ne rfl (n130.ne rfl (n129.ne rfl (n128.ne rfl (n127.ne rfl (n125.ne rfl (n124.ne rfl (n123.ne rfl (n122.ne rfl (n120.ne rfl (n119.ne rfl (n118.ne rfl (n114.ne rfl (n113.ne rfl (n112.ne rfl (n111.ne rfl (n110.ne rfl (n98.ne rfl (n97.ne rfl (n87.ne rfl (n86.ne rfl (n84.ne rfl (n75.ne rfl (n67.ne rfl ((p55.old 4 rfl).trans (n47.ne rfl (n46.ne rfl (n45.ne rfl (n44.ne rfl (n43.ne rfl (n36.ne rfl (n35.ne rfl (n32.ne rfl (n27.ne rfl (n25.ne rfl (n24.ne rfl (n23.ne rfl (n22.ne rfl (n19.ne rfl (n13.ne rfl (n12.ne rfl (n9.ne rfl (n5.ne rfl n2.at_))))))))))))))))))))))))))))))))))))))))))))))))))))))))))))
  have e193 := n190.ne rfl (n189.ne rfl (n188.ne rfl e187))
  have e194 := n190.ne rfl (n189.ne rfl (n188.ne rfl (n184.ne rfl (n182.ne rfl (n171.ne rfl (n170.ne rfl e169))))))
  refine lp (fun (nL : Nat) (aL : Act) (wL : World) => ∃ i : Nat, nL = RT.length - i ∧ Ok 94 aL ∧ Gr w wL ∧ (aL.eval (.tmp 4) = .bool false) ∧ (aL.eval (.tmp 5) = .slice raT RT.length rcT) ∧ (aL.eval (.tmp 6) = .slice ra1 R1.length rc1) ∧ (aL.eval (.tmp 79) = .slice raT RT.length rcT) ∧ (aL.eval (.tmp 80) = .int .i64 ((RT.length : Nat) : Int)) ∧ (aL.eval (.tmp 81) = .int .i64 (i : Int)) ∧ (World.ownsRow wL base 32 8 (.slice kb M.length kc) (M.length) ((flatE encVr M))) ∧ (base ≤ wL.heap.size) ∧ (Gr w14 wL) ∧ (Gr w37 wL) ∧ (Gr w56 wL) ∧ (Gr w99 wL) ∧ (i ≤ RT.length)) _ ⟨0, rfl, n190.ok, G174, e192, e193, e194, (n190.ne rfl (n189.ne rfl n188.at_)), (n190.ne rfl n189.at_), n190.at_, O181, z180, A176, A177, A178, A179, by omega⟩ ?_
  rintro m195 aI191 w197 ⟨i, hmI191, okI191, GI191, s4I191, s5I191, s6I191, s79I191, s80I191, s81I191, okrI191, zbaseI191, xanch17I191, xanch41I191, xanch64I191, xanch108I191, hiI191⟩ KI191 hKI191
  refine wp_seq_k (fun K198 hK198 => ?_)
  refine wp_region_lit ?_
  refine sv okI191 rfl (wn _ rfl) rfl (o_ltI s81I191 s80I191) (fun an199 n199 => ?_)
  refine wpList_nil ?_
  refine th_n (hK198 _ _ ?_)
  refine wp_seq_k (fun K200 hK200 => ?_)
  by_cases c201 : (i : Int) < ((RT.length : Nat) : Int)
  · refine wp_cond_true ((n199.at_).trans (congrArg Value.bool (decide_eq_true c201))) ?_
    refine wp_skip ?_
    refine th_n (hK200 _ _ ?_)
    refine wp_seq_k (fun K202 hK202 => ?_)
    refine wp_block ?_
    refine wp_seq_k (fun K203 hK203 => ?_)
    refine wp_region_lit ?_
    have h204l : i < List.length RT := by omega
    obtain ⟨bh204, fh204, h204a, h204b, h204c⟩ := (hrT.gr xanch17I191) (ne_nil_of_lt h204l)
    obtain ⟨xh204, h204x⟩ : ∃ x, (RT)[i]? = some x := ⟨_, List.getElem?_eq_getElem h204l⟩
    refine sv n199.ok rfl (wn _ rfl) rfl (o_iaV (i := i) (s := 8) h204a (n199.ne rfl s79I191) (n199.ne rfl s81I191) Try.underlying22 (by kernel_rfl) h204l) (fun an205 n205 => ?_)
    refine sv n205.ok rfl (wn _ rfl) rfl (o_ldA (k := fh204 + i * 8) n205.at_ (cs := [.string (bs xh204.d.id), .int .i64 (xh204.d.s), .int .i64 (xh204.d.c), .int .i64 (xh204.d.t), .int .i64 (xh204.d.n), .int .i64 (xh204.d.b), .slice xh204.va xh204.d.V.length xh204.vc, .slice xh204.ma xh204.d.M.length xh204.mc]) (fun j v hv => (Below.cell (Gr.refl w197) h204b).trans (h204c _ _ h204x j v hv)) Try.underlying32 rfl (by kernel_rfl)) (fun an206 n206 => ?_)
    refine sal (cs := #[.string (bs []), .int .i64 0, .int .i64 0, .int .i64 0, .int .i64 0, .int .i64 0, .slice none 0 0, .slice none 0 0]) n206.ok rfl (wn _ rfl) rfl (o_al (z := .agg #[.string (bs []), .int .i64 0, .int .i64 0, .int .i64 0, .int .i64 0, .int .i64 0, .slice none 0 0, .slice none 0 0]) (by kernel_rfl)) (fun an207 w209 b208 W210 n207 => ?_)
    have l211 : w.heap.size ≤ b208 := by rw [W210.eq]; exact GI191.size
    have l212 : w14.heap.size ≤ b208 := by rw [W210.eq]; exact xanch17I191.size
    have l213 : w37.heap.size ≤ b208 := by rw [W210.eq]; exact xanch41I191.size
    have l214 : w56.heap.size ≤ b208 := by rw [W210.eq]; exact xanch64I191.size
    have l215 : w99.heap.size ≤ b208 := by rw [W210.eq]; exact xanch108I191.size
    have l216 : ∀ k, Value.ownBlock (.slice kb M.length kc) = some k → k < b208 := fun k e => by rw [W210.eq]; exact ow_in okrI191 k e
    have G217 := GI191.trans W210.gr
    have A218 := xanch17I191.trans W210.gr
    have A219 := xanch41I191.trans W210.gr
    have A220 := xanch64I191.trans W210.gr
    have A221 := xanch108I191.trans W210.gr
    have z222 := Nat.le_trans zbaseI191 W210.gr.size
    have O223 := ow_gr okrI191 W210.gr
    refine ssR rfl (wn _ rfl) (o_stR n207.at_ (n207.ne rfl n206.at_) W210.bk (by kernel_rfl) rfl (by simp [Value.oneCell'])) W210.bk (fun w224 u225 u225b => ?_)
    have G226 : Gr w w224 := Below.upd G217 l211 u225
    have A227 : Gr w14 w224 := Below.upd A218 l212 u225
    have A228 : Gr w37 w224 := Below.upd A219 l213 u225
    have A229 : Gr w56 w224 := Below.upd A220 l214 u225
    have A230 : Gr w99 w224 := Below.upd A221 l215 u225
    have z231 : base ≤ w224.heap.size := by rw [u225.size]; exact z222
    have O232 := ow_upd_ne O223 u225 l216
    refine wpList_nil ?_
    refine th_n (hK203 _ _ ?_)
    refine wp_seq_k (fun K233 hK233 => ?_)
    refine wp_region_lit ?_
    have e234 := n207.ne rfl (n206.ne rfl (n205.ne rfl (n199.ne rfl s5I191)))
    refine sv n207.ok rfl (wn _ rfl) rfl (o_mv e234) (fun an235 n235 => ?_)
    refine sv n235.ok rfl (wn _ rfl) rfl (o_mf (fs := []) (cs := [.pointer (some ⟨b208, 0, none⟩)]) (by simp) (by simp [(n235.ne rfl n207.at_)])) (fun an236 n236 => ?_)
    refine sc n236.ok rfl (wn _ rfl) rfl (o_f2 Try.func29 rfl rfl rfl (n236.ne rfl n235.at_) n236.at_) ((containsV RT raT rcT _ [.pointer (some ⟨b208, 0, none⟩)] (fun x => ovB x.d xh204.d) ⟨_, Try.func30, rfl, rfl⟩ (by omega) w224 (hrT.gr A227) (fun x hx w1 g1 => by obtain ⟨d1, d2, d3, d4⟩ := told_dots hT hv (List.mem_map_of_mem (f := VerI.d) (List.mem_of_getElem? h204x)); exact so1_any x xh204 b208 (chkOne_zero (hT.one _ (List.mem_map_of_mem hx))).2.2.1 d1 d2 d3 d4 w1 (((hmT.gr A227) x hx).gr g1) (u225b.gr g1)))) ?_
    rintro _ w238 ⟨rfl, g239⟩
    refine ⟨_, rfl, fun an237 n237 => ?_⟩
    have G240 := G226.trans g239
    have B241 := u225b.gr g239
    have A242 := A227.trans g239
    have A243 := A228.trans g239
    have A244 := A229.trans g239
    have A245 := A230.trans g239
    have z246 := Nat.le_trans z231 g239.size
    have O247 := ow_gr O232 g239
    refine sv n237.ok rfl (wn _ rfl) rfl (o_as n237.at_) (fun an248 n248 => ?_)
    refine wpList_nil ?_
    refine th_n (hK233 _ _ ?_)
    refine wp_seq_k (fun K249 hK249 => ?_)
    refine wp_region_lit ?_
    have e250 := n248.ne rfl (n237.ne rfl (n236.ne rfl (n235.ne rfl (n207.ne rfl (n206.ne rfl (n205.ne rfl (n199.ne rfl s6I191)))))))
    refine sv n248.ok rfl (wn _ rfl) rfl (o_mv e250) (fun an251 n251 => ?_)
    have e252 := n251.ne rfl (n248.ne rfl (n237.ne rfl (n236.ne rfl (n235.ne rfl n207.at_))))
    refine sv n251.ok rfl (wn _ rfl) rfl (o_mf (fs := []) (cs := [.pointer (some ⟨b208, 0, none⟩)]) (by simp) (by simp [e252])) (fun an253 n253 => ?_)
    refine sc n253.ok rfl (wn _ rfl) rfl (o_f2 Try.func29 rfl rfl rfl (n253.ne rfl n251.at_) n253.at_) (containsV R1 ra1 rc1 _ [.pointer (some ⟨b208, 0, none⟩)] (fun x => sameVB xh204.d x.d) ⟨_, Try.func32, rfl, rfl⟩ (by have h2 := hMX.ok.len; have h3 := congrArg List.length hR1; rw [List.length_map] at h3; omega) w238 (hr1.gr A243) (fun x hx w1 g1 => so2_any x xh204 b208 (chk_small (chkOne_zero (hT.one _ (List.mem_map_of_mem (List.mem_of_getElem? h204x)))).2.2.1) w1 (((hm1.gr A243) x hx).gr g1) (((hmT.gr A242) _ (List.mem_of_getElem? h204x)).gr g1) (B241.gr g1))) ?_
    rintro _ w255 ⟨rfl, g256⟩
    refine ⟨_, rfl, fun an254 n254 => ?_⟩
    have G257 := G240.trans g256
    have B258 := B241.gr g256
    have A259 := A242.trans g256
    have A260 := A243.trans g256
    have A261 := A244.trans g256
    have A262 := A245.trans g256
    have z263 := Nat.le_trans z246 g256.size
    have O264 := ow_gr O247 g256
    have e265 := n254.ne rfl (n253.ne rfl (n251.ne rfl n248.at_))
    refine sv n254.ok rfl (wn _ rfl) rfl (o_mv e265) (fun an266 n266 => ?_)
    refine sv n266.ok rfl (wn _ rfl) rfl (o_eqB (b := false) (n266.ne rfl n254.at_) n266.at_ (by rw [stands (K := RT) rfl (by rw [hR1]; exact hMX) (List.mem_of_getElem? h204x)]; cases (RT.any fun x => ovB x.d xh204.d) <;> rfl) Try.underlying4) (fun an267 n267 => ?_)
    refine wpList_nil ?_
    refine th_n (hK249 _ _ ?_)
    refine wp_cond_false (n267.at_) ?_
    refine wp_skip ?_
    refine ib_n ?_
    refine th_n (hK202 _ _ ?_)
    refine wp_region_lit ?_
    have e268 := n267.ne rfl (n266.ne rfl (n254.ne rfl (n253.ne rfl (n251.ne rfl (n248.ne rfl (n237.ne rfl (n236.ne rfl (n235.ne rfl (n207.ne rfl (n206.ne rfl (n205.ne rfl (n199.ne rfl s81I191))))))))))))
    refine sv n267.ok rfl (wn _ rfl) rfl (o_add (r := ((i + 1 : Nat) : Int)) e268 ev_const (by omega) (by omega)) (fun an269 n269 => ?_)
    refine sv n269.ok rfl (wn _ rfl) rfl (o_mv n269.at_) (fun an270 n270 => ?_)
    refine wpList_nil ?_
    have e271 := n270.ne rfl (n269.ne rfl (n267.ne rfl (n266.ne rfl (n254.ne rfl (n253.ne rfl (n251.ne rfl (n248.ne rfl (n237.ne rfl (n236.ne rfl (n235.ne rfl (n207.ne rfl (n206.ne rfl (n205.ne rfl (n199.ne rfl s4I191))))))))))))))
    have e272 := n270.ne rfl (n269.ne rfl (n267.ne rfl (n266.ne rfl (n254.ne rfl (n253.ne rfl (n251.ne rfl (n248.ne rfl (n237.ne rfl (n236.ne rfl (n235.ne rfl e234))))))))))
    have e273 := n270.ne rfl (n269.ne rfl (n267.ne rfl (n266.ne rfl (n254.ne rfl (n253.ne rfl (n251.ne rfl e250))))))
    have e274 := n270.ne rfl (n269.ne rfl (n267.ne rfl (n266.ne rfl (n254.ne rfl (n253.ne rfl (n251.ne rfl (n248.ne rfl (n237.ne rfl (n236.ne rfl (n235.ne rfl (n207.ne rfl (n206.ne rfl (n205.ne rfl (n199.ne rfl s79I191))))))))))))))
    have e275 := n270.ne rfl (n269.ne rfl (n267.ne rfl (n266.ne rfl (n254.ne rfl (n253.ne rfl (n251.ne rfl (n248.ne rfl (n237.ne rfl (n236.ne rfl (n235.ne rfl (n207.ne rfl (n206.ne rfl (n205.ne rfl (n199.ne rfl s80I191))))))))))))))
    exact th_n (hKI191 _ _ _ (by omega) ⟨i + 1, rfl, n270.ok, G257, e271, e272, e273, e274, e275, n270.at_, O264, z263, A259, A260, A261, A262, by omega⟩)
  · refine wp_cond_false ((n199.at_).trans (congrArg Value.bool (decide_eq_false c201))) ?_
    refine wp_exit ?_
    refine th_x ?_
    refine th_x ?_
    refine ib_x ?_
    refine th_n (hK185 _ _ ?_)
    refine wp_seq_k (fun K276 hK276 => ?_)
    refine wp_region_lit ?_
    refine sv n199.ok rfl (wn _ rfl) rfl (o_as ev_const) (fun an277 n277 => ?_)
    refine wpList_nil ?_
    refine th_n (hK276 _ _ ?_)
    refine wp_ret ?_
    exact ret1 n277.ok rfl (n277.at_) ⟨rfl, GI191⟩
end Go.Proofs.Ytoencnbpjjkjnaa
