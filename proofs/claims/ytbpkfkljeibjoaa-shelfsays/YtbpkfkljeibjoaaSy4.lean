/- Joined: ShC, ShD, GxH, GxC, ShF, ShG, KmE, ShH, ShI, ShJ, OpenA, OpenK, KmF, GxF, KmV, ShL, XOf, ShM, ShN, ShO, ShP, ShSort, ShComp, ShQ. -/
import Derived.Test.YtbpkfkljeibjoaaSy3
import Derived.Laws.IdiomCopy
import Derived.Lib.AppendZerosOnto
import Derived.Lib.Overlaps
import Derived.Test.YtbpkfkljeibjoaaProg
import Derived.Deep.SlicePairs
import Derived.ProofKit
import Derived.KernelRfl
import Derived.Lib.AppendZeros
import Derived.Laws.AppendOwnNone
import Derived.SizedLaws
/- The order of versions; what a version supersedes; shelf.Check. -/
set_option linter.unusedVariables false
set_option linter.unusedSimpArgs false
namespace Rm
open Go Go.RowKit Gx
def cmpP (a b c d : Int) : Int := orC (Lib.compareInt a c) (Lib.compareInt b d)
theorem chkRow_at {K : List VerI} {p : Option VerD} {i : Nat} {x : VerI} (h : K[i]? = some x) : chkRow p ((K.map VerI.d).drop i) = if chkOne x.d = 0 then (if (p.any fun y => decide (0 ≤ cmpV y x.d)) = true then 3 else chkRow (some x.d) ((K.map VerI.d).drop (i + 1))) else chkOne x.d := by
  obtain ⟨hi, e⟩ := List.getElem?_eq_some_iff.1 h
  rw [List.drop_eq_getElem_cons (by simpa using hi), List.getElem_map, e]
  rfl
/-- the version ahead of place i -/
def prevV (K : List VerI) (i : Nat) : Option VerD := if i = 0 then none else (K[i - 1]?).map VerI.d
theorem prevV_succ {K : List VerI} {i : Nat} {x : VerI} (h : K[i]? = some x) : prevV K (i + 1) = some x.d := by
  unfold prevV
  rw [if_neg (by omega), Nat.add_sub_cancel, h]
  rfl
theorem chkRow_all {K : List VerI} : ∀ {p : Option VerD}, chkRow p (K.map VerI.d) = 0 → ∀ x ∈ K, okVr x := by
  induction K with
  | nil => intro p _ x hx; cases hx
  | cons a K ih =>
    intro p h x hx
    rw [List.map_cons] at h
    unfold chkRow at h
    by_cases h1 : chkOne a.d = 0
    · rw [if_pos h1] at h
      split at h
      · cases h
      · rcases List.mem_cons.1 hx with rfl | hx
        · exact h1
        · exact ih h x hx
    · rw [if_neg h1] at h
      exact absurd h h1
end Rm
namespace Go.Proofs.Ytbpkfkljeibjoaa
open Go.RowKit Rm Gx
set_option maxHeartbeats 8000000 in
set_option maxRecDepth 100000 in
theorem nanS (l : List UInt8) (w : World) :
    Calls Try.prog 70 #[.string (bs l)] w fun e w' => e = .returned (.bool false) ∧ Gr w w' := by
  refine enter (N := 6) Try.func70 rfl rfl rfl (fun a0 ok0 h0 => ?_)
  have e0_0 : a0.eval (.tmp 0) = .string (bs l) := h0 0 _ rfl
  clear h0
  have G0 := Gr.refl w
  refine wp_seq_k (fun K1 hK1 => ?_)
  refine wp_region_lit ?_
  refine sv ok0 rfl (wn _ rfl) rfl (o_as ev_const) (fun an2 n2 => ?_)
  refine wpList_nil ?_
  refine th_n (hK1 _ _ ?_)
  refine wp_seq_k (fun K3 hK3 => ?_)
  refine wp_region_lit ?_
  refine sv n2.ok rfl (wn _ rfl) rfl (o_mv (n2.ne rfl e0_0)) (fun an4 n4 => ?_)
  refine sv n4.ok rfl (wn _ rfl) rfl (o_mv (n4.ne rfl (n2.ne rfl e0_0))) (fun an5 n5 => ?_)
  refine sv n5.ok rfl (wn _ rfl) rfl (o_neSs (n5.ne rfl n4.at_) n5.at_) (fun an6 n6 => ?_)
  refine sv n6.ok rfl (wn _ rfl) rfl (o_as n6.at_) (fun an7 n7 => ?_)
  refine wpList_nil ?_
  refine th_n (hK3 _ _ ?_)
  refine wp_ret ?_
  exact ret1 n7.ok rfl (n7.at_) ⟨rfl, G0⟩
set_option maxHeartbeats 8000000 in
set_option maxRecDepth 100000 in
theorem cmpStr (l m : List UInt8) (w : World) :
    Calls Try.prog 58 #[.string (bs l), .string (bs m)] w fun e w' => e = .returned (.int .i64 (cmpS l m)) ∧ Gr w w' := by
  refine enter (N := 20) Try.func58 rfl rfl rfl (fun a0 ok0 h0 => ?_)
  have e0_0 : a0.eval (.tmp 0) = .string (bs l) := h0 0 _ rfl
  have e0_1 : a0.eval (.tmp 1) = .string (bs m) := h0 1 _ rfl
  clear h0
  have G0 := Gr.refl w
  refine wp_seq_k (fun K1 hK1 => ?_)
  refine wp_region_lit ?_
  refine sv ok0 rfl (wn _ rfl) rfl (o_as ev_const) (fun an2 n2 => ?_)
  refine wpList_nil ?_
  refine th_n (hK1 _ _ ?_)
  refine wp_seq_k (fun K3 hK3 => ?_)
  refine wp_region_lit ?_
  refine sv n2.ok rfl (wn _ rfl) rfl (o_mv (n2.ne rfl e0_0)) (fun an4 n4 => ?_)
  refine sc n4.ok rfl (wn _ rfl) rfl (o_f1 Try.func70 rfl rfl rfl n4.at_) (nanS l w) ?_
  rintro _ w6 ⟨rfl, g7⟩
  refine ⟨_, rfl, fun an5 n5 => ?_⟩
  have G8 := G0.trans g7
  refine sv n5.ok rfl (wn _ rfl) rfl (o_as n5.at_) (fun an9 n9 => ?_)
  refine wpList_nil ?_
  refine th_n (hK3 _ _ ?_)
  refine wp_seq_k (fun K10 hK10 => ?_)
  refine wp_region_lit ?_
  have e11 := n9.ne rfl (n5.ne rfl (n4.ne rfl (n2.ne rfl e0_1)))
  refine sv n9.ok rfl (wn _ rfl) rfl (o_mv e11) (fun an12 n12 => ?_)
  refine sc n12.ok rfl (wn _ rfl) rfl (o_f1 Try.func70 rfl rfl rfl n12.at_) (nanS m w6) ?_
  rintro _ w14 ⟨rfl, g15⟩
  refine ⟨_, rfl, fun an13 n13 => ?_⟩
  have G16 := G8.trans g15
  refine sv n13.ok rfl (wn _ rfl) rfl (o_as n13.at_) (fun an17 n17 => ?_)
  refine wpList_nil ?_
  refine th_n (hK10 _ _ ?_)
  refine wp_seq_k (fun K18 hK18 => ?_)
  refine wp_seq_k (fun K19 hK19 => ?_)
  refine wp_region_lit ?_
  have e20 := n17.ne rfl (n13.ne rfl (n12.ne rfl n9.at_))
  refine sv n17.ok rfl (wn _ rfl) rfl (o_mv e20) (fun an21 n21 => ?_)
  refine wpList_nil ?_
  refine th_n (hK19 _ _ ?_)
  refine wp_cond_false (n21.at_) ?_
  refine wp_skip ?_
  refine th_n (hK18 _ _ ?_)
  refine wp_seq_k (fun K22 hK22 => ?_)
  refine wp_seq_k (fun K23 hK23 => ?_)
  refine wp_region_lit ?_
  refine sv n21.ok rfl (wn _ rfl) rfl (o_mv (n21.ne rfl n17.at_)) (fun an24 n24 => ?_)
  refine wpList_nil ?_
  refine th_n (hK23 _ _ ?_)
  refine wp_cond_false (n24.at_) ?_
  refine wp_skip ?_
  refine th_n (hK22 _ _ ?_)
  refine wp_seq_k (fun K25 hK25 => ?_)
  refine wp_seq_k (fun K26 hK26 => ?_)
  refine wp_region_lit ?_
  have e27 := n24.ne rfl (n21.ne rfl (n17.ne rfl (n13.ne rfl (n12.ne rfl (n9.ne rfl (n5.ne rfl (n4.ne rfl (n2.ne rfl e0_0))))))))
  refine sv n24.ok rfl (wn _ rfl) rfl (o_mv e27) (fun an28 n28 => ?_)
  have e29 := n28.ne rfl (n24.ne rfl (n21.ne rfl (n17.ne rfl (n13.ne rfl (n12.ne rfl e11)))))
  refine sv n28.ok rfl (wn _ rfl) rfl (o_mv e29) (fun an30 n30 => ?_)
  refine sv n30.ok rfl (wn _ rfl) rfl (o_ltS (n30.ne rfl n28.at_) n30.at_) (fun an31 n31 => ?_)
  refine wpList_nil ?_
  refine th_n (hK26 _ _ ?_)
  cases c32 : (Op.bytesLess l m)
  · refine wp_cond_false ((n31.at_).trans (congrArg Value.bool (c32))) ?_
    refine wp_skip ?_
    refine th_n (hK25 _ _ ?_)
    refine wp_seq_k (fun K33 hK33 => ?_)
    refine wp_seq_k (fun K34 hK34 => ?_)
    refine wp_region_lit ?_
    have e35 := n31.ne rfl (n30.ne rfl (n28.ne rfl e27))
    refine sv n31.ok rfl (wn _ rfl) rfl (o_mv e35) (fun an36 n36 => ?_)
    have e37 := n36.ne rfl (n31.ne rfl (n30.ne rfl e29))
    refine sv n36.ok rfl (wn _ rfl) rfl (o_mv e37) (fun an38 n38 => ?_)
    refine sv n38.ok rfl (wn _ rfl) rfl (o_gtS (n38.ne rfl n36.at_) n38.at_) (fun an39 n39 => ?_)
    refine wpList_nil ?_
    refine th_n (hK34 _ _ ?_)
    cases c40 : (!(Op.bytesLess l m || decide (l = m)))
    · refine wp_cond_false ((n39.at_).trans (congrArg Value.bool (c40))) ?_
      refine wp_skip ?_
      refine th_n (hK33 _ _ ?_)
      refine wp_seq_k (fun K41 hK41 => ?_)
      refine wp_region_lit ?_
      refine sv n39.ok rfl (wn _ rfl) rfl (o_as ev_const) (fun an42 n42 => ?_)
      refine wpList_nil ?_
      refine th_n (hK41 _ _ ?_)
      refine wp_ret ?_
      exact ret1 n42.ok rfl (n42.at_) ⟨congrArg (fun n => Ending.returned (Value.int .i64 n)) (Eq.symm (by unfold cmpS; rw [if_neg (by rw [c32]; simp), if_neg (by rw [c40]; simp)])), G16⟩
    · refine wp_cond_true ((n39.at_).trans (congrArg Value.bool (c40))) ?_
      refine wp_seq_k (fun K43 hK43 => ?_)
      refine wp_region_lit ?_
      refine sv n39.ok rfl (wn _ rfl) rfl (o_as ev_const) (fun an44 n44 => ?_)
      refine wpList_nil ?_
      refine th_n (hK43 _ _ ?_)
      refine wp_ret ?_
      refine th_r ?_
      exact ret1 n44.ok rfl (n44.at_) ⟨congrArg (fun n => Ending.returned (Value.int .i64 n)) (Eq.symm (by unfold cmpS; rw [if_neg (by rw [c32]; simp), if_pos c40])), G16⟩
  · refine wp_cond_true ((n31.at_).trans (congrArg Value.bool (c32))) ?_
    refine wp_seq_k (fun K45 hK45 => ?_)
    refine wp_region_lit ?_
    refine sv n31.ok rfl (wn _ rfl) rfl (o_as ev_const) (fun an46 n46 => ?_)
    refine wpList_nil ?_
    refine th_n (hK45 _ _ ?_)
    refine wp_ret ?_
    refine th_r ?_
    exact ret1 n46.ok rfl (n46.at_) ⟨congrArg (fun n => Ending.returned (Value.int .i64 n)) (Eq.symm (by unfold cmpS; rw [if_pos c32])), G16⟩
set_option maxHeartbeats 8000000 in
set_option maxRecDepth 100000 in
theorem cmpDots_any (a b c d : Int) (w : World) :
    Calls Try.prog 50 #[.agg #[.int .i64 (a), .int .i64 (b)], .agg #[.int .i64 (c), .int .i64 (d)]] w fun e w' => e = .returned (.int .i64 (cmpP a b c d)) ∧ Gr w w' := by
  refine enter (N := 17) Try.func50 rfl rfl rfl (fun a0 ok0 h0 => ?_)
  have e0_0 : a0.eval (.tmp 0) = .agg #[.int .i64 (a), .int .i64 (b)] := h0 0 _ rfl
  have e0_1 : a0.eval (.tmp 1) = .agg #[.int .i64 (c), .int .i64 (d)] := h0 1 _ rfl
  clear h0
  have G0 := Gr.refl w
  refine wp_seq_k (fun K1 hK1 => ?_)
  refine wp_region_lit ?_
  refine sal (cs := #[.int .i64 (a), .int .i64 (b)]) ok0 rfl (wn _ rfl) rfl (o_box e0_0) (fun an2 w4 b3 W5 n2 => ?_)
  have l6 : w.heap.size ≤ b3 := by rw [W5.eq]; exact G0.size
  have G7 := G0.trans W5.gr
  refine sal (cs := #[.int .i64 (c), .int .i64 (d)]) n2.ok rfl (wn _ rfl) rfl (o_box (n2.ne rfl e0_1)) (fun an8 w10 b9 W11 n8 => ?_)
  have l12 : b3 < b9 := by rw [W11.eq]; exact W5.bk.lt
  have l13 : w.heap.size ≤ b9 := by rw [W11.eq]; exact G7.size
  have G14 := G7.trans W11.gr
  have B15 := W5.bk.gr W11.gr
  refine sv n8.ok rfl (wn _ rfl) rfl (o_as ev_const) (fun an16 n16 => ?_)
  refine wpList_nil ?_
  refine th_n (hK1 _ _ ?_)
  refine wp_seq_k (fun K17 hK17 => ?_)
  refine reg_start (N := 17) (m := 13) (by kernel_rfl) (fun R180 => ?_)
  have R181 := R180.snoc (n' := 1) rfl (fun vJ _ => vJ = .pointer (some ⟨b3, 0, none⟩)) rfl (fun _ _ _ _ h => h) (fun aS wS pS => by
      exact Does.val (wn _ rfl) (o_fa (z := 1) ((pS.old 2 rfl).trans (n16.ne rfl (n8.ne rfl n2.at_))) Try.underlying24 rfl (by kernel_rfl) rfl rfl) (Gr.refl _) rfl rfl)
  have R182 := R181.snoc (n' := 2) rfl (fun vJ _ => vJ = .int .i64 (a)) rfl (fun _ _ _ _ h => h) (fun aS wS pS => by
      have eR18_0 : aS.eval (.tmp 5) = .pointer (some ⟨b3, 0, none⟩) := pS.pre 0 rfl
      exact Does.val (wn _ rfl) (o_ld (eR18_0) (Try.isAgg3 _) ((Bk.gr B15 (gr_drew pS.gr)).cell _ rfl)) (Gr.refl _) rfl rfl)
  have R183 := R182.snoc (n' := 3) rfl (fun vJ _ => vJ = .pointer (some ⟨b9, 0, none⟩)) rfl (fun _ _ _ _ h => h) (fun aS wS pS => by
      exact Does.val (wn _ rfl) (o_fa (z := 1) ((pS.old 3 rfl).trans (n16.ne rfl n8.at_)) Try.underlying24 rfl (by kernel_rfl) rfl rfl) (Gr.refl _) rfl rfl)
  have R184 := R183.snoc (n' := 4) rfl (fun vJ _ => vJ = .int .i64 (c)) rfl (fun _ _ _ _ h => h) (fun aS wS pS => by
      have eR18_2 : aS.eval (.tmp 7) = .pointer (some ⟨b9, 0, none⟩) := pS.pre 2 rfl
      exact Does.val (wn _ rfl) (o_ld (eR18_2) (Try.isAgg3 _) ((Bk.gr W11.bk (gr_drew pS.gr)).cell _ rfl)) (Gr.refl _) rfl rfl)
  have R185 := R184.snoc (n' := 5) rfl (fun vJ _ => vJ = .int .i64 (Lib.compareInt a c)) rfl (fun _ _ _ _ h => h) (fun aS wS pS => by
      have eR18_1 : aS.eval (.tmp 6) = .int .i64 (a) := pS.pre 1 rfl
      have eR18_3 : aS.eval (.tmp 8) = .int .i64 (c) := pS.pre 3 rfl
      exact Does.call (wn _ rfl) (o_f2 Try.func67 rfl rfl rfl (eR18_1) (eR18_3)) (cmpG a c wS) (by rintro _ w2 ⟨rfl, g⟩; exact ⟨_, rfl, g, rfl⟩) rfl)
  have R186 := R185.snoc (n' := 6) rfl (fun vJ _ => vJ = .pointer (some ⟨b3, 1, none⟩)) rfl (fun _ _ _ _ h => h) (fun aS wS pS => by
      exact Does.val (wn _ rfl) (o_fa (z := 1) ((pS.old 2 rfl).trans (n16.ne rfl (n8.ne rfl n2.at_))) Try.underlying24 rfl (by kernel_rfl) rfl rfl) (Gr.refl _) rfl rfl)
  have R187 := R186.snoc (n' := 7) rfl (fun vJ _ => vJ = .int .i64 (b)) rfl (fun _ _ _ _ h => h) (fun aS wS pS => by
      have eR18_5 : aS.eval (.tmp 10) = .pointer (some ⟨b3, 1, none⟩) := pS.pre 5 rfl
      exact Does.val (wn _ rfl) (o_ld (eR18_5) (Try.isAgg3 _) ((Bk.gr B15 (gr_drew pS.gr)).cell _ rfl)) (Gr.refl _) rfl rfl)
  have R188 := R187.snoc (n' := 8) rfl (fun vJ _ => vJ = .pointer (some ⟨b9, 1, none⟩)) rfl (fun _ _ _ _ h => h) (fun aS wS pS => by
      exact Does.val (wn _ rfl) (o_fa (z := 1) ((pS.old 3 rfl).trans (n16.ne rfl n8.at_)) Try.underlying24 rfl (by kernel_rfl) rfl rfl) (Gr.refl _) rfl rfl)
  have R189 := R188.snoc (n' := 9) rfl (fun vJ _ => vJ = .int .i64 (d)) rfl (fun _ _ _ _ h => h) (fun aS wS pS => by
      have eR18_7 : aS.eval (.tmp 12) = .pointer (some ⟨b9, 1, none⟩) := pS.pre 7 rfl
      exact Does.val (wn _ rfl) (o_ld (eR18_7) (Try.isAgg3 _) ((Bk.gr W11.bk (gr_drew pS.gr)).cell _ rfl)) (Gr.refl _) rfl rfl)
  have R1810 := R189.snoc (n' := 10) rfl (fun vJ _ => vJ = .int .i64 (Lib.compareInt b d)) rfl (fun _ _ _ _ h => h) (fun aS wS pS => by
      have eR18_6 : aS.eval (.tmp 11) = .int .i64 (b) := pS.pre 6 rfl
      have eR18_8 : aS.eval (.tmp 13) = .int .i64 (d) := pS.pre 8 rfl
      exact Does.call (wn _ rfl) (o_f2 Try.func67 rfl rfl rfl (eR18_6) (eR18_8)) (cmpG b d wS) (by rintro _ w2 ⟨rfl, g⟩; exact ⟨_, rfl, g, rfl⟩) rfl)
  have R1811 := R1810.snoc (n' := 11) rfl (fun vJ wJ => ∃ b20 : Nat, vJ = .slice (some ⟨b20, 0, none⟩) 2 2 ∧ w10.heap.size ≤ b20 ∧ Bk wJ b20 #[.int .i64 (Lib.compareInt a c), .int .i64 (Lib.compareInt b d)] 3) rfl (fun _ _ _ g ⟨b, h1, h2, h3⟩ => ⟨b, h1, h2, h3.gr g⟩) (fun aS wS pS => by
      have eR18_4 : aS.eval (.tmp 9) = .int .i64 (Lib.compareInt a c) := pS.pre 4 rfl
      have eR18_9 : aS.eval (.tmp 14) = .int .i64 (Lib.compareInt b d) := pS.pre 9 rfl
      obtain ⟨i19, i19a, i19b, i19c⟩ := info3_of (show (Try.prog.info? 3).map (fun i => (i.zero, i.size)) = some (some (.int .i64 0), 1) by kernel_rfl)
      exact Does.val (wn _ rfl) (o_bs (vs := [(0, .int .i64 (Lib.compareInt a c)), (1, .int .i64 (Lib.compareInt b d))]) (by simp [(eR18_4), (eR18_9), ev_const]) Try.underlying27 i19a i19b (by rw [i19c]; rfl) (by rw [i19c]; rfl) (by rw [i19c]; kernel_rfl)) ((Gr.refl _).alloc _) ⟨_, rfl, pS.gr.size, (New.mk' _ _ _).bk⟩ rfl)
  have R1812 := R1811.snoc (n' := 12) rfl (fun vJ _ => vJ = .int .i64 (orC (Lib.compareInt a c) (Lib.compareInt b d))) rfl (fun _ _ _ _ h => h) (fun aS wS pS => by
      obtain ⟨b20, eR18_10, geb20, bkb20⟩ := pS.pre 10 rfl
      have eR18_10 : aS.eval (.tmp 15) = .slice (some ⟨b20, 0, none⟩) 2 2 := eR18_10
      exact Does.call (wn _ rfl) (o_f1 Try.func57 rfl rfl rfl (eR18_10)) (orG (Lib.compareInt a c) (Lib.compareInt b d) _ _ wS bkb20) (by rintro _ w2 ⟨rfl, g⟩; exact ⟨_, rfl, g, rfl⟩) rfl)
  have R1813 := R1812.snoc (n' := 13) rfl (fun vJ _ => vJ = .int .i64 (orC (Lib.compareInt a c) (Lib.compareInt b d))) rfl (fun _ _ _ _ h => h) (fun aS wS pS => by
      have eR18_11 : aS.eval (.tmp 16) = .int .i64 (orC (Lib.compareInt a c) (Lib.compareInt b d)) := pS.pre 11 rfl
      exact Does.val (wn _ rfl) (o_as (eR18_11)) (Gr.refl _) rfl rfl)
  refine R1813.run (k := 0) (L := #[true, true, true, true, true, true, true, true, true, true, true, true, true]) (by kernel_rfl) (by kernel_rfl) (by kernel_rfl) n16.ok (by kernel_rfl) (by kernel_rfl) (fun ap22 w23 p22 => ?_)
  have g24 := gr_drew p22.gr
  have G25 := G14.trans g24
  have B26 := B15.gr g24
  have B27 := W11.bk.gr g24
  obtain ⟨b20, ep22_10, geb20, bkb20⟩ := p22.js 10 rfl
  have ep22_10 : ap22.eval (.tmp 15) = .slice (some ⟨b20, 0, none⟩) 2 2 := ep22_10
  have l28 : b3 < b20 := Nat.lt_of_lt_of_le B15.lt geb20
  have l29 : b9 < b20 := Nat.lt_of_lt_of_le W11.bk.lt geb20
  have l30 : w.heap.size ≤ b20 := Nat.le_trans G14.size geb20
  refine wpAny_done (by kernel_rfl) ?_ _
  refine th_n (hK17 _ _ ?_)
  refine wp_ret ?_
  have ep22_12 : ap22.eval (.tmp 4) = .int .i64 (orC (Lib.compareInt a c) (Lib.compareInt b d)) := p22.js 12 rfl
  exact ret1 p22.ok rfl (ep22_12) ⟨rfl, G25⟩
set_option maxHeartbeats 8000000 in
set_option maxRecDepth 100000 in
theorem cmpVr_any (x y : VerI) (w : World) :
    Calls Try.prog 34 #[.agg #[.string (bs x.d.id), .int .i64 (x.d.s), .int .i64 (x.d.c), .int .i64 (x.d.t), .int .i64 (x.d.n), .int .i64 (x.d.b), .slice x.va x.d.V.length x.vc, .slice x.ma x.d.M.length x.mc], .agg #[.string (bs y.d.id), .int .i64 (y.d.s), .int .i64 (y.d.c), .int .i64 (y.d.t), .int .i64 (y.d.n), .int .i64 (y.d.b), .slice y.va y.d.V.length y.vc, .slice y.ma y.d.M.length y.mc]] w fun e w' => e = .returned (.int .i64 (cmpV x.d y.d)) ∧ Gr w w' := by
  refine enter (N := 17) Try.func34 rfl rfl rfl (fun a0 ok0 h0 => ?_)
  have e0_0 : a0.eval (.tmp 0) = .agg #[.string (bs x.d.id), .int .i64 (x.d.s), .int .i64 (x.d.c), .int .i64 (x.d.t), .int .i64 (x.d.n), .int .i64 (x.d.b), .slice x.va x.d.V.length x.vc, .slice x.ma x.d.M.length x.mc] := h0 0 _ rfl
  have e0_1 : a0.eval (.tmp 1) = .agg #[.string (bs y.d.id), .int .i64 (y.d.s), .int .i64 (y.d.c), .int .i64 (y.d.t), .int .i64 (y.d.n), .int .i64 (y.d.b), .slice y.va y.d.V.length y.vc, .slice y.ma y.d.M.length y.mc] := h0 1 _ rfl
  clear h0
  have G0 := Gr.refl w
  refine wp_seq_k (fun K1 hK1 => ?_)
  refine wp_region_lit ?_
  refine sal (cs := #[.string (bs x.d.id), .int .i64 (x.d.s), .int .i64 (x.d.c), .int .i64 (x.d.t), .int .i64 (x.d.n), .int .i64 (x.d.b), .slice x.va x.d.V.length x.vc, .slice x.ma x.d.M.length x.mc]) ok0 rfl (wn _ rfl) rfl (o_box e0_0) (fun an2 w4 b3 W5 n2 => ?_)
  have l6 : w.heap.size ≤ b3 := by rw [W5.eq]; exact G0.size
  have G7 := G0.trans W5.gr
  refine sal (cs := #[.string (bs y.d.id), .int .i64 (y.d.s), .int .i64 (y.d.c), .int .i64 (y.d.t), .int .i64 (y.d.n), .int .i64 (y.d.b), .slice y.va y.d.V.length y.vc, .slice y.ma y.d.M.length y.mc]) n2.ok rfl (wn _ rfl) rfl (o_box (n2.ne rfl e0_1)) (fun an8 w10 b9 W11 n8 => ?_)
  have l12 : b3 < b9 := by rw [W11.eq]; exact W5.bk.lt
  have l13 : w.heap.size ≤ b9 := by rw [W11.eq]; exact G7.size
  have G14 := G7.trans W11.gr
  have B15 := W5.bk.gr W11.gr
  refine sv n8.ok rfl (wn _ rfl) rfl (o_as ev_const) (fun an16 n16 => ?_)
  refine wpList_nil ?_
  refine th_n (hK1 _ _ ?_)
  refine wp_seq_k (fun K17 hK17 => ?_)
  refine reg_start (N := 17) (m := 13) (by kernel_rfl) (fun R180 => ?_)
  have R181 := R180.snoc (n' := 1) rfl (fun vJ _ => vJ = .pointer (some ⟨b3, 0, none⟩)) rfl (fun _ _ _ _ h => h) (fun aS wS pS => by
      exact Does.val (wn _ rfl) (o_fa (z := 1) ((pS.old 2 rfl).trans (n16.ne rfl (n8.ne rfl n2.at_))) Try.underlying32 rfl (by kernel_rfl) rfl rfl) (Gr.refl _) rfl rfl)
  have R182 := R181.snoc (n' := 2) rfl (fun vJ _ => vJ = .string (bs x.d.id)) rfl (fun _ _ _ _ h => h) (fun aS wS pS => by
      have eR18_0 : aS.eval (.tmp 5) = .pointer (some ⟨b3, 0, none⟩) := pS.pre 0 rfl
      exact Does.val (wn _ rfl) (o_ld (eR18_0) (Try.isAgg9 _) ((Bk.gr B15 (gr_drew pS.gr)).cell _ rfl)) (Gr.refl _) rfl rfl)
  have R183 := R182.snoc (n' := 3) rfl (fun vJ _ => vJ = .pointer (some ⟨b9, 0, none⟩)) rfl (fun _ _ _ _ h => h) (fun aS wS pS => by
      exact Does.val (wn _ rfl) (o_fa (z := 1) ((pS.old 3 rfl).trans (n16.ne rfl n8.at_)) Try.underlying32 rfl (by kernel_rfl) rfl rfl) (Gr.refl _) rfl rfl)
  have R184 := R183.snoc (n' := 4) rfl (fun vJ _ => vJ = .string (bs y.d.id)) rfl (fun _ _ _ _ h => h) (fun aS wS pS => by
      have eR18_2 : aS.eval (.tmp 7) = .pointer (some ⟨b9, 0, none⟩) := pS.pre 2 rfl
      exact Does.val (wn _ rfl) (o_ld (eR18_2) (Try.isAgg9 _) ((Bk.gr W11.bk (gr_drew pS.gr)).cell _ rfl)) (Gr.refl _) rfl rfl)
  have R185 := R184.snoc (n' := 5) rfl (fun vJ _ => vJ = .int .i64 (cmpS x.d.id y.d.id)) rfl (fun _ _ _ _ h => h) (fun aS wS pS => by
      have eR18_1 : aS.eval (.tmp 6) = .string (bs x.d.id) := pS.pre 1 rfl
      have eR18_3 : aS.eval (.tmp 8) = .string (bs y.d.id) := pS.pre 3 rfl
      exact Does.call (wn _ rfl) (o_f2 Try.func58 rfl rfl rfl (eR18_1) (eR18_3)) (cmpStr x.d.id y.d.id wS) (by rintro _ w2 ⟨rfl, g⟩; exact ⟨_, rfl, g, rfl⟩) rfl)
  have R186 := R185.snoc (n' := 6) rfl (fun vJ _ => vJ = .pointer (some ⟨b3, 1, none⟩)) rfl (fun _ _ _ _ h => h) (fun aS wS pS => by
      exact Does.val (wn _ rfl) (o_fa (z := 2) ((pS.old 2 rfl).trans (n16.ne rfl (n8.ne rfl n2.at_))) Try.underlying32 rfl (by kernel_rfl) rfl rfl) (Gr.refl _) rfl rfl)
  have R187 := R186.snoc (n' := 7) rfl (fun vJ _ => vJ = .agg #[.int .i64 (x.d.s), .int .i64 (x.d.c)]) rfl (fun _ _ _ _ h => h) (fun aS wS pS => by
      have eR18_5 : aS.eval (.tmp 10) = .pointer (some ⟨b3, 1, none⟩) := pS.pre 5 rfl
      exact Does.val (wn _ rfl) (o_ldA (k := 1) (cs := [.int .i64 (x.d.s), .int .i64 (x.d.c)]) (eR18_5) (bk_part (Bk.gr B15 (gr_drew pS.gr)) rfl) Try.underlying24 rfl (by kernel_rfl)) (Gr.refl _) rfl rfl)
  have R188 := R187.snoc (n' := 8) rfl (fun vJ _ => vJ = .pointer (some ⟨b9, 1, none⟩)) rfl (fun _ _ _ _ h => h) (fun aS wS pS => by
      exact Does.val (wn _ rfl) (o_fa (z := 2) ((pS.old 3 rfl).trans (n16.ne rfl n8.at_)) Try.underlying32 rfl (by kernel_rfl) rfl rfl) (Gr.refl _) rfl rfl)
  have R189 := R188.snoc (n' := 9) rfl (fun vJ _ => vJ = .agg #[.int .i64 (y.d.s), .int .i64 (y.d.c)]) rfl (fun _ _ _ _ h => h) (fun aS wS pS => by
      have eR18_7 : aS.eval (.tmp 12) = .pointer (some ⟨b9, 1, none⟩) := pS.pre 7 rfl
      exact Does.val (wn _ rfl) (o_ldA (k := 1) (cs := [.int .i64 (y.d.s), .int .i64 (y.d.c)]) (eR18_7) (bk_part (Bk.gr W11.bk (gr_drew pS.gr)) rfl) Try.underlying24 rfl (by kernel_rfl)) (Gr.refl _) rfl rfl)
  have R1810 := R189.snoc (n' := 10) rfl (fun vJ _ => vJ = .int .i64 (cmpP x.d.s x.d.c y.d.s y.d.c)) rfl (fun _ _ _ _ h => h) (fun aS wS pS => by
      have eR18_6 : aS.eval (.tmp 11) = .agg #[.int .i64 (x.d.s), .int .i64 (x.d.c)] := pS.pre 6 rfl
      have eR18_8 : aS.eval (.tmp 13) = .agg #[.int .i64 (y.d.s), .int .i64 (y.d.c)] := pS.pre 8 rfl
      exact Does.call (wn _ rfl) (o_f2 Try.func50 rfl rfl rfl (eR18_6) (eR18_8)) (cmpDots_any x.d.s x.d.c y.d.s y.d.c wS) (by rintro _ w2 ⟨rfl, g⟩; exact ⟨_, rfl, g, rfl⟩) rfl)
  have R1811 := R1810.snoc (n' := 11) rfl (fun vJ wJ => ∃ b20 : Nat, vJ = .slice (some ⟨b20, 0, none⟩) 2 2 ∧ w10.heap.size ≤ b20 ∧ Bk wJ b20 #[.int .i64 (cmpS x.d.id y.d.id), .int .i64 (cmpP x.d.s x.d.c y.d.s y.d.c)] 3) rfl (fun _ _ _ g ⟨b, h1, h2, h3⟩ => ⟨b, h1, h2, h3.gr g⟩) (fun aS wS pS => by
      have eR18_4 : aS.eval (.tmp 9) = .int .i64 (cmpS x.d.id y.d.id) := pS.pre 4 rfl
      have eR18_9 : aS.eval (.tmp 14) = .int .i64 (cmpP x.d.s x.d.c y.d.s y.d.c) := pS.pre 9 rfl
      obtain ⟨i19, i19a, i19b, i19c⟩ := info3_of (show (Try.prog.info? 3).map (fun i => (i.zero, i.size)) = some (some (.int .i64 0), 1) by kernel_rfl)
      exact Does.val (wn _ rfl) (o_bs (vs := [(0, .int .i64 (cmpS x.d.id y.d.id)), (1, .int .i64 (cmpP x.d.s x.d.c y.d.s y.d.c))]) (by simp [(eR18_4), (eR18_9), ev_const]) Try.underlying27 i19a i19b (by rw [i19c]; rfl) (by rw [i19c]; rfl) (by rw [i19c]; kernel_rfl)) ((Gr.refl _).alloc _) ⟨_, rfl, pS.gr.size, (New.mk' _ _ _).bk⟩ rfl)
  have R1812 := R1811.snoc (n' := 12) rfl (fun vJ _ => vJ = .int .i64 (orC (cmpS x.d.id y.d.id) (cmpP x.d.s x.d.c y.d.s y.d.c))) rfl (fun _ _ _ _ h => h) (fun aS wS pS => by
      obtain ⟨b20, eR18_10, geb20, bkb20⟩ := pS.pre 10 rfl
      have eR18_10 : aS.eval (.tmp 15) = .slice (some ⟨b20, 0, none⟩) 2 2 := eR18_10
      exact Does.call (wn _ rfl) (o_f1 Try.func57 rfl rfl rfl (eR18_10)) (orG (cmpS x.d.id y.d.id) (cmpP x.d.s x.d.c y.d.s y.d.c) _ _ wS bkb20) (by rintro _ w2 ⟨rfl, g⟩; exact ⟨_, rfl, g, rfl⟩) rfl)
  have R1813 := R1812.snoc (n' := 13) rfl (fun vJ _ => vJ = .int .i64 (orC (cmpS x.d.id y.d.id) (cmpP x.d.s x.d.c y.d.s y.d.c))) rfl (fun _ _ _ _ h => h) (fun aS wS pS => by
      have eR18_11 : aS.eval (.tmp 16) = .int .i64 (orC (cmpS x.d.id y.d.id) (cmpP x.d.s x.d.c y.d.s y.d.c)) := pS.pre 11 rfl
      exact Does.val (wn _ rfl) (o_as (eR18_11)) (Gr.refl _) rfl rfl)
  refine R1813.run (k := 0) (L := #[true, true, true, true, true, true, true, true, true, true, true, true, true]) (by kernel_rfl) (by kernel_rfl) (by kernel_rfl) n16.ok (by kernel_rfl) (by kernel_rfl) (fun ap22 w23 p22 => ?_)
  have g24 := gr_drew p22.gr
  have G25 := G14.trans g24
  have B26 := B15.gr g24
  have B27 := W11.bk.gr g24
  obtain ⟨b20, ep22_10, geb20, bkb20⟩ := p22.js 10 rfl
  have ep22_10 : ap22.eval (.tmp 15) = .slice (some ⟨b20, 0, none⟩) 2 2 := ep22_10
  have l28 : b3 < b20 := Nat.lt_of_lt_of_le B15.lt geb20
  have l29 : b9 < b20 := Nat.lt_of_lt_of_le W11.bk.lt geb20
  have l30 : w.heap.size ≤ b20 := Nat.le_trans G14.size geb20
  refine wpAny_done (by kernel_rfl) ?_ _
  refine th_n (hK17 _ _ ?_)
  refine wp_ret ?_
  have ep22_12 : ap22.eval (.tmp 4) = .int .i64 (orC (cmpS x.d.id y.d.id) (cmpP x.d.s x.d.c y.d.s y.d.c)) := p22.js 12 rfl
  exact ret1 p22.ok rfl (ep22_12) ⟨rfl, G25⟩
set_option maxHeartbeats 8000000 in
set_option maxRecDepth 100000 in
theorem supBy_any (y : VerI) (w : World) :
    Calls Try.prog 36 #[.agg #[.string (bs y.d.id), .int .i64 (y.d.s), .int .i64 (y.d.c), .int .i64 (y.d.t), .int .i64 (y.d.n), .int .i64 (y.d.b), .slice y.va y.d.V.length y.vc, .slice y.ma y.d.M.length y.mc]] w fun e w' => ∃ b, e = .returned (.func (.func 60) #[] #[.pointer (some ⟨b, 0, none⟩)]) ∧ w.heap.size ≤ b ∧ Bk w' b #[.string (bs y.d.id), .int .i64 (y.d.s), .int .i64 (y.d.c), .int .i64 (y.d.t), .int .i64 (y.d.n), .int .i64 (y.d.b), .slice y.va y.d.V.length y.vc, .slice y.ma y.d.M.length y.mc] 32 ∧ Gr w w' := by
  refine enter (N := 4) Try.func36 rfl rfl rfl (fun a0 ok0 h0 => ?_)
  have e0_0 : a0.eval (.tmp 0) = .agg #[.string (bs y.d.id), .int .i64 (y.d.s), .int .i64 (y.d.c), .int .i64 (y.d.t), .int .i64 (y.d.n), .int .i64 (y.d.b), .slice y.va y.d.V.length y.vc, .slice y.ma y.d.M.length y.mc] := h0 0 _ rfl
  clear h0
  have G0 := Gr.refl w
  refine wp_seq_k (fun K1 hK1 => ?_)
  refine wp_region_lit ?_
  refine sal (cs := #[.string (bs y.d.id), .int .i64 (y.d.s), .int .i64 (y.d.c), .int .i64 (y.d.t), .int .i64 (y.d.n), .int .i64 (y.d.b), .slice y.va y.d.V.length y.vc, .slice y.ma y.d.M.length y.mc]) ok0 rfl (wn _ rfl) rfl (o_box e0_0) (fun an2 w4 b3 W5 n2 => ?_)
  have l6 : w.heap.size ≤ b3 := by rw [W5.eq]; exact G0.size
  have G7 := G0.trans W5.gr
  refine sv n2.ok rfl (wn _ rfl) rfl (o_as ev_const) (fun an8 n8 => ?_)
  refine wpList_nil ?_
  refine th_n (hK1 _ _ ?_)
  refine wp_seq_k (fun K9 hK9 => ?_)
  refine wp_region_lit ?_
  refine sv n8.ok rfl (wn _ rfl) rfl (o_mf (fs := []) (cs := [.pointer (some ⟨b3, 0, none⟩)]) (by simp) (by simp [(n8.ne rfl n2.at_)])) (fun an10 n10 => ?_)
  refine sv n10.ok rfl (wn _ rfl) rfl (o_as n10.at_) (fun an11 n11 => ?_)
  refine wpList_nil ?_
  refine th_n (hK9 _ _ ?_)
  refine wp_ret ?_
  exact ret1 n11.ok rfl (n11.at_) ⟨b3, rfl, l6, W5.bk, G7⟩
set_option maxHeartbeats 8000000 in
set_option maxRecDepth 100000 in
theorem supBy1_any (x y : VerI) (b : Nat) (hx : okVr x) (hy : chkK y.d.V y.d.M = 0) (w : World) (hm : MeanV w y) (hb : Bk w b #[.string (bs y.d.id), .int .i64 (y.d.s), .int .i64 (y.d.c), .int .i64 (y.d.t), .int .i64 (y.d.n), .int .i64 (y.d.b), .slice y.va y.d.V.length y.vc, .slice y.ma y.d.M.length y.mc] 32) :
    Calls Try.prog 60 #[.agg #[.string (bs x.d.id), .int .i64 (x.d.s), .int .i64 (x.d.c), .int .i64 (x.d.t), .int .i64 (x.d.n), .int .i64 (x.d.b), .slice x.va x.d.V.length x.vc, .slice x.ma x.d.M.length x.mc], .pointer (some ⟨b, 0, none⟩)] w fun e w' => e = .returned (.bool (ovB y.d x.d)) ∧ Gr w w' := by
  refine enter (N := 16) Try.func60 rfl rfl rfl (fun a0 ok0 h0 => ?_)
  have e0_0 : a0.eval (.tmp 0) = .agg #[.string (bs x.d.id), .int .i64 (x.d.s), .int .i64 (x.d.c), .int .i64 (x.d.t), .int .i64 (x.d.n), .int .i64 (x.d.b), .slice x.va x.d.V.length x.vc, .slice x.ma x.d.M.length x.mc] := h0 0 _ rfl
  have e0_1 : a0.eval (.tmp 1) = .pointer (some ⟨b, 0, none⟩) := h0 1 _ rfl
  clear h0
  have G0 := Gr.refl w
  refine wp_seq_k (fun K1 hK1 => ?_)
  refine wp_region_lit ?_
  refine sal (cs := #[.string (bs x.d.id), .int .i64 (x.d.s), .int .i64 (x.d.c), .int .i64 (x.d.t), .int .i64 (x.d.n), .int .i64 (x.d.b), .slice x.va x.d.V.length x.vc, .slice x.ma x.d.M.length x.mc]) ok0 rfl (wn _ rfl) rfl (o_box e0_0) (fun an2 w4 b3 W5 n2 => ?_)
  have l6 : b < b3 := by rw [W5.eq]; exact hb.lt
  have l7 : w.heap.size ≤ b3 := by rw [W5.eq]; exact G0.size
  have G8 := G0.trans W5.gr
  have B9 := hb.gr W5.gr
  refine sv n2.ok rfl (wn _ rfl) rfl (o_as ev_const) (fun an10 n10 => ?_)
  refine wpList_nil ?_
  refine th_n (hK1 _ _ ?_)
  refine wp_seq_k (fun K11 hK11 => ?_)
  refine wp_region_lit ?_
  refine sv n10.ok rfl (wn _ rfl) rfl (o_fa (z := 1) (n10.ne rfl n2.at_) Try.underlying32 rfl (by kernel_rfl) rfl rfl) (fun an12 n12 => ?_)
  refine sv n12.ok rfl (wn _ rfl) rfl (o_ld n12.at_ (Try.isAgg9 _) (W5.bk.cell _ rfl)) (fun an13 n13 => ?_)
  have e14 := n13.ne rfl (n12.ne rfl (n10.ne rfl (n2.ne rfl e0_1)))
  refine sv n13.ok rfl (wn _ rfl) rfl (o_fa (z := 1) e14 Try.underlying32 rfl (by kernel_rfl) rfl rfl) (fun an15 n15 => ?_)
  refine sv n15.ok rfl (wn _ rfl) rfl (o_ld n15.at_ (Try.isAgg9 _) (B9.cell _ rfl)) (fun an16 n16 => ?_)
  refine sv n16.ok rfl (wn _ rfl) rfl (o_eqS (n16.ne rfl (n15.ne rfl n13.at_)) n16.at_) (fun an17 n17 => ?_)
  refine sv n17.ok rfl (wn _ rfl) rfl (o_mv n17.at_) (fun an18 n18 => ?_)
  by_cases c19 : x.d.id = y.d.id
  · have e20 := (n18.at_).trans (congrArg Value.bool (decide_eq_true c19))
    have e21 := ((n18.ne rfl n17.at_)).trans (congrArg Value.bool (decide_eq_true c19))
    have e22 := n18.ne rfl (n17.ne rfl (n16.ne rfl (n15.ne rfl e14)))
    refine sv n18.ok rfl (wgT rfl (yl 5 true rfl e20) rfl) rfl (o_fa (z := 2) e22 Try.underlying32 rfl (by kernel_rfl) rfl rfl) (fun an23 n23 => ?_)
    refine sv n23.ok rfl (wgT rfl (yl 5 true rfl (n23.ne rfl e20)) rfl) rfl (o_ldA (k := 6) (cs := [.slice y.va y.d.V.length y.vc, .slice y.ma y.d.M.length y.mc]) n23.at_ (bk_part B9 rfl) Try.underlying30 rfl (by kernel_rfl)) (fun an24 n24 => ?_)
    have e25 := n24.ne rfl (n23.ne rfl (n18.ne rfl (n17.ne rfl (n16.ne rfl (n15.ne rfl (n13.ne rfl (n12.ne rfl (n10.ne rfl n2.at_))))))))
    refine sv n24.ok rfl (wgT rfl (yl 5 true rfl (n24.ne rfl (n23.ne rfl e20))) rfl) rfl (o_fa (z := 2) e25 Try.underlying32 rfl (by kernel_rfl) rfl rfl) (fun an26 n26 => ?_)
    have e27 := n26.ne rfl (n24.ne rfl (n23.ne rfl e20))
    refine sv n26.ok rfl (wgT rfl (yl 5 true rfl e27) rfl) rfl (o_ldA (k := 1) (cs := [.int .i64 (x.d.s), .int .i64 (x.d.c)]) n26.at_ (bk_part W5.bk rfl) Try.underlying24 rfl (by kernel_rfl)) (fun an28 n28 => ?_)
    refine sc n28.ok rfl (wgT rfl (yl 5 true rfl (n28.ne rfl e27)) rfl) rfl (o_f2 Try.func28 rfl rfl rfl (n28.ne rfl (n26.ne rfl n24.at_)) n28.at_) (vhas_any y.va y.ma y.vc y.mc y.d.V y.d.M x.d.s x.d.c hy (argB_dot (chkOne_zero hx).2.1) w4 (MeanV.gr hm G8)) ?_
    rintro _ w30 ⟨rfl, g31⟩
    refine ⟨_, rfl, fun an29 n29 => ?_⟩
    have G32 := G8.trans g31
    have B33 := B9.gr g31
    have B34 := W5.bk.gr g31
    refine sv n29.ok rfl (wn _ rfl) rfl (o_pkT (n29.ne rfl (n28.ne rfl e27)) n29.at_) (fun an35 n35 => ?_)
    refine sv n35.ok rfl (wn _ rfl) rfl (o_as n35.at_) (fun an36 n36 => ?_)
    refine wpList_nil ?_
    refine th_n (hK11 _ _ ?_)
    refine wp_ret ?_
    exact ret1 n36.ok rfl (n36.at_) ⟨by unfold ovB; rw [decide_eq_true c19]; rfl, G32⟩
  · have e37 := (n18.at_).trans (congrArg Value.bool (decide_eq_false c19))
    have e38 := ((n18.ne rfl n17.at_)).trans (congrArg Value.bool (decide_eq_false c19))
    refine sn n18.ok rfl (wgF rfl (yl 5 false rfl e37) rfl) rfl (fun an39 n39 => ?_)
    refine sn n39.ok rfl (wgF rfl (yl 5 false rfl (n39.ne rfl e37)) rfl) rfl (fun an40 n40 => ?_)
    refine sn n40.ok rfl (wgF rfl (yl 5 false rfl (n40.ne rfl (n39.ne rfl e37))) rfl) rfl (fun an41 n41 => ?_)
    have e42 := n41.ne rfl (n40.ne rfl (n39.ne rfl e37))
    refine sn n41.ok rfl (wgF rfl (yl 5 false rfl e42) rfl) rfl (fun an43 n43 => ?_)
    refine sn n43.ok rfl (wgF rfl (yl 5 false rfl (n43.ne rfl e42)) rfl) rfl (fun an44 n44 => ?_)
    refine sv n44.ok rfl (wn _ rfl) rfl (o_pkF (n44.ne rfl (n43.ne rfl e42)) ev_const) (fun an45 n45 => ?_)
    refine sv n45.ok rfl (wn _ rfl) rfl (o_as n45.at_) (fun an46 n46 => ?_)
    refine wpList_nil ?_
    refine th_n (hK11 _ _ ?_)
    refine wp_ret ?_
    exact ret1 n46.ok rfl (n46.at_) ⟨by unfold ovB; rw [decide_eq_false c19]; rfl, G8⟩
set_option maxHeartbeats 8000000 in
set_option maxRecDepth 100000 in
theorem indexV (K : List VerI) (va : Option Addr) (vc : Nat) (f : FuncId) (caps : List Value) (p : VerI → Bool) (hf : FnOk Try.prog f) (hl : K.length ≤ 100000) (w : World) (hv : RdA encVr 8 w va K) (hc : ∀ x ∈ K, ∀ w1, Gr w w1 → Calls Try.prog f (.agg #[.string (bs x.d.id), .int .i64 (x.d.s), .int .i64 (x.d.c), .int .i64 (x.d.t), .int .i64 (x.d.n), .int .i64 (x.d.b), .slice x.va x.d.V.length x.vc, .slice x.ma x.d.M.length x.mc] :: caps).toArray w1 fun e w2 => e = .returned (.bool (p x)) ∧ Gr w1 w2) :
    Calls Try.prog 59 #[.slice va K.length vc, .func (.func f) #[] caps.toArray] w fun e w' => e = .returned (.int .i64 (ixF p K 0)) ∧ Gr w w' := by
  refine enter (N := 19) Try.func59 rfl rfl rfl (fun a0 ok0 h0 => ?_)
  have e0_0 : a0.eval (.tmp 0) = .slice va K.length vc := h0 0 _ rfl
  have e0_1 : a0.eval (.tmp 1) = .func (.func f) #[] caps.toArray := h0 1 _ rfl
  clear h0
  have G0 := Gr.refl w
  refine wp_seq_k (fun K1 hK1 => ?_)
  refine wp_region_lit ?_
  refine sv ok0 rfl (wn _ rfl) rfl (o_as ev_const) (fun an2 n2 => ?_)
  refine wpList_nil ?_
  refine th_n (hK1 _ _ ?_)
  refine wp_seq_k (fun K3 hK3 => ?_)
  refine wp_seq_k (fun K4 hK4 => ?_)
  refine wp_region_lit ?_
  refine sv n2.ok rfl (wn _ rfl) rfl (o_mv (n2.ne rfl e0_0)) (fun an5 n5 => ?_)
  refine sv n5.ok rfl (wn _ rfl) rfl (o_len n5.at_ Try.underlying22) (fun an6 n6 => ?_)
  refine sv n6.ok rfl (wn _ rfl) rfl (o_mv ev_const) (fun an7 n7 => ?_)
  refine wpList_nil ?_
  refine th_n (hK4 _ _ ?_)
  refine wp_block ?_
  have e9 := n7.ne rfl (n6.ne rfl (n5.ne rfl (n2.ne rfl e0_0)))
  have e10 := n7.ne rfl (n6.ne rfl (n5.ne rfl (n2.ne rfl e0_1)))
  have e11 := n7.ne rfl (n6.ne rfl (n5.ne rfl n2.at_))
  refine lp (fun (nL : Nat) (aL : Act) (wL : World) => ∃ i : Nat, nL = K.length - i ∧ Ok 19 aL ∧ Gr w wL ∧ (aL.eval (.tmp 0) = .slice va K.length vc) ∧ (aL.eval (.tmp 1) = .func (.func f) #[] caps.toArray) ∧ (aL.eval (.tmp 4) = .int .i64 0) ∧ (aL.eval (.tmp 7) = .int .i64 ((K.length : Nat) : Int)) ∧ (aL.eval (.tmp 8) = .int .i64 (i : Int)) ∧ (i ≤ K.length) ∧ (∀ k y, k < i → K[k]? = some y → p y = false)) _ ⟨0, rfl, n7.ok, G0, e9, e10, e11, (n7.ne rfl n6.at_), n7.at_, by omega, fun k y hk => by omega⟩ ?_
  rintro m12 aI8 w14 ⟨i, hmI8, okI8, GI8, s0I8, s1I8, s4I8, s7I8, s8I8, hiI8, hbI8⟩ KI8 hKI8
  refine wp_seq_k (fun K15 hK15 => ?_)
  refine wp_region_lit ?_
  refine sv okI8 rfl (wn _ rfl) rfl (o_ltI s8I8 s7I8) (fun an16 n16 => ?_)
  refine wpList_nil ?_
  refine th_n (hK15 _ _ ?_)
  refine wp_seq_k (fun K17 hK17 => ?_)
  by_cases c18 : (i : Int) < ((K.length : Nat) : Int)
  · refine wp_cond_true ((n16.at_).trans (congrArg Value.bool (decide_eq_true c18))) ?_
    refine wp_skip ?_
    refine th_n (hK17 _ _ ?_)
    refine wp_seq_k (fun K19 hK19 => ?_)
    refine wp_block ?_
    refine wp_seq_k (fun K20 hK20 => ?_)
    refine wp_region_lit ?_
    refine sv n16.ok rfl (wn _ rfl) rfl (o_mv (n16.ne rfl s8I8)) (fun an21 n21 => ?_)
    refine sv n21.ok rfl (wn _ rfl) rfl (o_as n21.at_) (fun an22 n22 => ?_)
    refine wpList_nil ?_
    refine th_n (hK20 _ _ ?_)
    refine wp_seq_k (fun K23 hK23 => ?_)
    refine wp_region_lit ?_
    have e24 := n22.ne rfl (n21.ne rfl (n16.ne rfl s1I8))
    refine sv n22.ok rfl (wn _ rfl) rfl (o_mv e24) (fun an25 n25 => ?_)
    have e26 := n25.ne rfl (n22.ne rfl (n21.ne rfl (n16.ne rfl s0I8)))
    refine sv n25.ok rfl (wn _ rfl) rfl (o_mv e26) (fun an27 n27 => ?_)
    refine sv n27.ok rfl (wn _ rfl) rfl (o_mv (n27.ne rfl (n25.ne rfl n22.at_))) (fun an28 n28 => ?_)
    have h29l : i < List.length K := by omega
    obtain ⟨bh29, fh29, h29a, h29b, h29c⟩ := hv (ne_nil_of_lt h29l)
    obtain ⟨xh29, h29x⟩ : ∃ x, (K)[i]? = some x := ⟨_, List.getElem?_eq_getElem h29l⟩
    refine sv n28.ok rfl (wn _ rfl) rfl (o_iaV (i := i) (s := 8) h29a (n28.ne rfl n27.at_) n28.at_ Try.underlying22 (by kernel_rfl) h29l) (fun an30 n30 => ?_)
    refine sv n30.ok rfl (wn _ rfl) rfl (o_ldA (k := fh29 + i * 8) n30.at_ (cs := [.string (bs xh29.d.id), .int .i64 (xh29.d.s), .int .i64 (xh29.d.c), .int .i64 (xh29.d.t), .int .i64 (xh29.d.n), .int .i64 (xh29.d.b), .slice xh29.va xh29.d.V.length xh29.vc, .slice xh29.ma xh29.d.M.length xh29.mc]) (fun j v hv => (Below.cell GI8 h29b).trans (h29c _ _ h29x j v hv)) Try.underlying32 rfl (by kernel_rfl)) (fun an31 n31 => ?_)
    have e32 := n31.ne rfl (n30.ne rfl (n28.ne rfl (n27.ne rfl n25.at_)))
    refine sc n31.ok rfl (wn _ rfl) rfl (o_fv1 (caps := caps) hf e32 n31.at_) (hc _ (List.mem_of_getElem? h29x) w14 GI8) ?_
    rintro _ w34 ⟨rfl, g35⟩
    refine ⟨_, rfl, fun an33 n33 => ?_⟩
    have G36 := GI8.trans g35
    refine wpList_nil ?_
    refine th_n (hK23 _ _ ?_)
    cases c37 : (p xh29)
    · refine wp_cond_false ((n33.at_).trans (congrArg Value.bool (c37))) ?_
      refine wp_skip ?_
      refine ib_n ?_
      refine th_n (hK19 _ _ ?_)
      refine wp_region_lit ?_
      have e38 := n33.ne rfl (n31.ne rfl (n30.ne rfl (n28.ne rfl (n27.ne rfl (n25.ne rfl (n22.ne rfl (n21.ne rfl (n16.ne rfl s8I8))))))))
      refine sv n33.ok rfl (wn _ rfl) rfl (o_add (r := ((i + 1 : Nat) : Int)) e38 ev_const (by omega) (by omega)) (fun an39 n39 => ?_)
      refine sv n39.ok rfl (wn _ rfl) rfl (o_mv n39.at_) (fun an40 n40 => ?_)
      refine wpList_nil ?_
      have e41 := n40.ne rfl (n39.ne rfl (n33.ne rfl (n31.ne rfl (n30.ne rfl (n28.ne rfl (n27.ne rfl e26))))))
      have e42 := n40.ne rfl (n39.ne rfl (n33.ne rfl (n31.ne rfl (n30.ne rfl (n28.ne rfl (n27.ne rfl (n25.ne rfl e24)))))))
      have e43 := n40.ne rfl (n39.ne rfl (n33.ne rfl (n31.ne rfl (n30.ne rfl (n28.ne rfl (n27.ne rfl (n25.ne rfl (n22.ne rfl (n21.ne rfl (n16.ne rfl s4I8))))))))))
      have e44 := n40.ne rfl (n39.ne rfl (n33.ne rfl (n31.ne rfl (n30.ne rfl (n28.ne rfl (n27.ne rfl (n25.ne rfl (n22.ne rfl (n21.ne rfl (n16.ne rfl s7I8))))))))))
      exact th_n (hKI8 _ _ _ (by omega) ⟨i + 1, rfl, n40.ok, G36, e41, e42, e43, e44, n40.at_, by omega, fun k y hk hy => by
          rcases Nat.lt_or_ge k i with q | q
          · exact hbI8 k y q hy
          · obtain rfl : k = i := by omega
            rw [h29x] at hy
            cases hy
            exact c37⟩)
    · refine wp_cond_true ((n33.at_).trans (congrArg Value.bool (c37))) ?_
      refine wp_seq_k (fun K45 hK45 => ?_)
      refine wp_region_lit ?_
      have e46 := n33.ne rfl (n31.ne rfl (n30.ne rfl (n28.ne rfl (n27.ne rfl (n25.ne rfl n22.at_)))))
      refine sv n33.ok rfl (wn _ rfl) rfl (o_mv e46) (fun an47 n47 => ?_)
      refine sv n47.ok rfl (wn _ rfl) rfl (o_as n47.at_) (fun an48 n48 => ?_)
      refine wpList_nil ?_
      refine th_n (hK45 _ _ ?_)
      refine wp_ret ?_
      refine ib_r ?_
      refine th_r ?_
      refine th_r ?_
      refine ib_r ?_
      refine th_r ?_
      exact ret1 n48.ok rfl (n48.at_) ⟨congrArg (fun n => Ending.returned (Value.int .i64 n)) ((ixF_some K 0 i _ h29x c37 hbI8).trans (congrArg Int.ofNat (Nat.zero_add _))).symm, G36⟩
  · refine wp_cond_false ((n16.at_).trans (congrArg Value.bool (decide_eq_false c18))) ?_
    refine wp_exit ?_
    refine th_x ?_
    refine th_x ?_
    refine ib_x ?_
    refine th_n (hK3 _ _ ?_)
    refine wp_seq_k (fun K49 hK49 => ?_)
    refine wp_region_lit ?_
    refine sv n16.ok rfl (wn _ rfl) rfl (o_as ev_const) (fun an50 n50 => ?_)
    refine wpList_nil ?_
    refine th_n (hK49 _ _ ?_)
    refine wp_ret ?_
    exact ret1 n50.ok rfl (n50.at_) ⟨congrArg (fun n => Ending.returned (Value.int .i64 n)) (ixF_none K 0 (fun x hx => by
        obtain ⟨k, hk⟩ := List.getElem?_of_mem hx
        have hlt := (List.getElem?_eq_some_iff.1 hk).1
        exact hbI8 k x (by omega) hk)).symm, GI8⟩
set_option maxHeartbeats 8000000 in
set_option maxRecDepth 100000 in
theorem containsV (K : List VerI) (va : Option Addr) (vc : Nat) (f : FuncId) (caps : List Value) (p : VerI → Bool) (hf : FnOk Try.prog f) (hl : K.length ≤ 100000) (w : World) (hv : RdA encVr 8 w va K) (hc : ∀ x ∈ K, ∀ w1, Gr w w1 → Calls Try.prog f (.agg #[.string (bs x.d.id), .int .i64 (x.d.s), .int .i64 (x.d.c), .int .i64 (x.d.t), .int .i64 (x.d.n), .int .i64 (x.d.b), .slice x.va x.d.V.length x.vc, .slice x.ma x.d.M.length x.mc] :: caps).toArray w1 fun e w2 => e = .returned (.bool (p x)) ∧ Gr w1 w2) :
    Calls Try.prog 35 #[.slice va K.length vc, .func (.func f) #[] caps.toArray] w fun e w' => e = .returned (.bool (K.any p)) ∧ Gr w w' := by
  refine enter (N := 9) Try.func35 rfl rfl rfl (fun a0 ok0 h0 => ?_)
  have e0_0 : a0.eval (.tmp 0) = .slice va K.length vc := h0 0 _ rfl
  have e0_1 : a0.eval (.tmp 1) = .func (.func f) #[] caps.toArray := h0 1 _ rfl
  clear h0
  have G0 := Gr.refl w
  refine wp_seq_k (fun K1 hK1 => ?_)
  refine wp_region_lit ?_
  refine sv ok0 rfl (wn _ rfl) rfl (o_as ev_const) (fun an2 n2 => ?_)
  refine wpList_nil ?_
  refine th_n (hK1 _ _ ?_)
  refine wp_seq_k (fun K3 hK3 => ?_)
  refine wp_region_lit ?_
  refine sv n2.ok rfl (wn _ rfl) rfl (o_mv (n2.ne rfl e0_0)) (fun an4 n4 => ?_)
  refine sv n4.ok rfl (wn _ rfl) rfl (o_mv (n4.ne rfl (n2.ne rfl e0_1))) (fun an5 n5 => ?_)
  refine sc n5.ok rfl (wn _ rfl) rfl (o_f2 Try.func59 rfl rfl rfl (n5.ne rfl n4.at_) n5.at_) (indexV K va vc f caps p hf hl w (hv.gr G0) (fun x hx w1 g1 => hc x hx w1 (G0.trans g1))) ?_
  rintro _ w7 ⟨rfl, g8⟩
  refine ⟨_, rfl, fun an6 n6 => ?_⟩
  have G9 := G0.trans g8
  refine sv n6.ok rfl (wn _ rfl) rfl (o_geI n6.at_ ev_const) (fun an10 n10 => ?_)
  refine sv n10.ok rfl (wn _ rfl) rfl (o_as n10.at_) (fun an11 n11 => ?_)
  refine wpList_nil ?_
  refine th_n (hK3 _ _ ?_)
  refine wp_ret ?_
  exact ret1 n11.ok rfl (n11.at_) ⟨congrArg (fun b => Ending.returned (Value.bool b)) (ixF_any p K 0), G9⟩
set_option maxHeartbeats 8000000 in
set_option maxRecDepth 100000 in
theorem vchk_any (K : List VerI) (va : Option Addr) (vc : Nat) (w : World) (hv : RdA encVr 8 w va K) (hm : MeansV w K) :
    Calls Try.prog 11 #[.slice va K.length vc] w fun e w' => e = .returned (.int .i64 (chkShf (K.map VerI.d))) ∧ Gr w w' := by
  refine enter (N := 47) Try.func11 rfl rfl rfl (fun a0 ok0 h0 => ?_)
  have e0_0 : a0.eval (.tmp 0) = .slice va K.length vc := h0 0 _ rfl
  clear h0
  have G0 := Gr.refl w
  refine wp_seq_k (fun K1 hK1 => ?_)
  refine wp_region_lit ?_
  refine sv ok0 rfl (wn _ rfl) rfl (o_as ev_const) (fun an2 n2 => ?_)
  refine wpList_nil ?_
  refine th_n (hK1 _ _ ?_)
  refine wp_seq_k (fun K3 hK3 => ?_)
  refine wp_seq_k (fun K4 hK4 => ?_)
  refine wp_region_lit ?_
  refine sv n2.ok rfl (wn _ rfl) rfl (o_mv (n2.ne rfl e0_0)) (fun an5 n5 => ?_)
  refine sv n5.ok rfl (wn _ rfl) rfl (o_len n5.at_ Try.underlying22) (fun an6 n6 => ?_)
  refine sv n6.ok rfl (wn _ rfl) rfl (o_gtI n6.at_ ev_const) (fun an7 n7 => ?_)
  refine wpList_nil ?_
  refine th_n (hK4 _ _ ?_)
  by_cases c8 : (60 : Int) < ((K.length : Nat) : Int)
  · refine wp_cond_true ((n7.at_).trans (congrArg Value.bool (decide_eq_true c8))) ?_
    refine wp_seq_k (fun K9 hK9 => ?_)
    refine wp_region_lit ?_
    refine sv n7.ok rfl (wn _ rfl) rfl (o_as ev_const) (fun an10 n10 => ?_)
    refine wpList_nil ?_
    refine th_n (hK9 _ _ ?_)
    refine wp_ret ?_
    refine th_r ?_
    exact ret1 n10.ok rfl (n10.at_) ⟨congrArg (fun n => Ending.returned (Value.int .i64 n)) (Eq.symm (by unfold chkShf; rw [if_pos (by rw [List.length_map]; omega)])), G0⟩
  · refine wp_cond_false ((n7.at_).trans (congrArg Value.bool (decide_eq_false c8))) ?_
    refine wp_skip ?_
    refine th_n (hK3 _ _ ?_)
    refine wp_seq_k (fun K11 hK11 => ?_)
    refine wp_seq_k (fun K12 hK12 => ?_)
    refine wp_region_lit ?_
    have e13 := n7.ne rfl (n6.ne rfl (n5.ne rfl (n2.ne rfl e0_0)))
    refine sv n7.ok rfl (wn _ rfl) rfl (o_mv e13) (fun an14 n14 => ?_)
    refine sv n14.ok rfl (wn _ rfl) rfl (o_len n14.at_ Try.underlying22) (fun an15 n15 => ?_)
    refine sv n15.ok rfl (wn _ rfl) rfl (o_mv ev_const) (fun an16 n16 => ?_)
    refine wpList_nil ?_
    refine th_n (hK12 _ _ ?_)
    refine wp_block ?_
    have e18 := n16.ne rfl (n15.ne rfl (n14.ne rfl e13))
    have e19 := n16.ne rfl (n15.ne rfl (n14.ne rfl (n7.ne rfl (n6.ne rfl (n5.ne rfl n2.at_)))))
    refine lp (fun (nL : Nat) (aL : Act) (wL : World) => ∃ i : Nat, nL = K.length - i ∧ Ok 47 aL ∧ Gr w wL ∧ (aL.eval (.tmp 0) = .slice va K.length vc) ∧ (aL.eval (.tmp 2) = .int .i64 0) ∧ (aL.eval (.tmp 11) = .slice va K.length vc) ∧ (aL.eval (.tmp 12) = .int .i64 ((K.length : Nat) : Int)) ∧ (aL.eval (.tmp 13) = .int .i64 (i : Int)) ∧ (i ≤ K.length) ∧ (chkRow none (K.map VerI.d) = chkRow (prevV K i) ((K.map VerI.d).drop i))) _ ⟨0, rfl, n16.ok, G0, e18, e19, (n16.ne rfl (n15.ne rfl n14.at_)), (n16.ne rfl n15.at_), n16.at_, by omega, rfl⟩ ?_
    rintro m20 aI17 w22 ⟨i, hmI17, okI17, GI17, s0I17, s2I17, s11I17, s12I17, s13I17, hiI17, hgI17⟩ KI17 hKI17
    refine wp_seq_k (fun K23 hK23 => ?_)
    refine wp_region_lit ?_
    refine sv okI17 rfl (wn _ rfl) rfl (o_ltI s13I17 s12I17) (fun an24 n24 => ?_)
    refine wpList_nil ?_
    refine th_n (hK23 _ _ ?_)
    refine wp_seq_k (fun K25 hK25 => ?_)
    by_cases c26 : (i : Int) < ((K.length : Nat) : Int)
    · refine wp_cond_true ((n24.at_).trans (congrArg Value.bool (decide_eq_true c26))) ?_
      refine wp_skip ?_
      refine th_n (hK25 _ _ ?_)
      refine wp_seq_k (fun K27 hK27 => ?_)
      refine wp_block ?_
      refine wp_seq_k (fun K28 hK28 => ?_)
      refine wp_region_lit ?_
      refine sv n24.ok rfl (wn _ rfl) rfl (o_mv (n24.ne rfl s13I17)) (fun an29 n29 => ?_)
      have h30l : i < List.length K := by omega
      obtain ⟨bh30, fh30, h30a, h30b, h30c⟩ := hv (ne_nil_of_lt h30l)
      obtain ⟨xh30, h30x⟩ : ∃ x, (K)[i]? = some x := ⟨_, List.getElem?_eq_getElem h30l⟩
      refine sv n29.ok rfl (wn _ rfl) rfl (o_iaV (i := i) (s := 8) h30a (n29.ne rfl (n24.ne rfl s11I17)) (n29.ne rfl (n24.ne rfl s13I17)) Try.underlying22 (by kernel_rfl) h30l) (fun an31 n31 => ?_)
      refine sv n31.ok rfl (wn _ rfl) rfl (o_ldA (k := fh30 + i * 8) n31.at_ (cs := [.string (bs xh30.d.id), .int .i64 (xh30.d.s), .int .i64 (xh30.d.c), .int .i64 (xh30.d.t), .int .i64 (xh30.d.n), .int .i64 (xh30.d.b), .slice xh30.va xh30.d.V.length xh30.vc, .slice xh30.ma xh30.d.M.length xh30.mc]) (fun j v hv => (Below.cell GI17 h30b).trans (h30c _ _ h30x j v hv)) Try.underlying32 rfl (by kernel_rfl)) (fun an32 n32 => ?_)
      refine sal (cs := #[.string (bs []), .int .i64 0, .int .i64 0, .int .i64 0, .int .i64 0, .int .i64 0, .slice none 0 0, .slice none 0 0]) n32.ok rfl (wn _ rfl) rfl (o_al (z := .agg #[.string (bs []), .int .i64 0, .int .i64 0, .int .i64 0, .int .i64 0, .int .i64 0, .slice none 0 0, .slice none 0 0]) (by kernel_rfl)) (fun an33 w35 b34 W36 n33 => ?_)
      have l37 : w.heap.size ≤ b34 := by rw [W36.eq]; exact GI17.size
      have G38 := GI17.trans W36.gr
      have e39 := n33.ne rfl (n32.ne rfl (n31.ne rfl n29.at_))
      refine sv n33.ok rfl (wn _ rfl) rfl (o_as e39) (fun an40 n40 => ?_)
      refine ssR rfl (wn _ rfl) (o_stR (n40.ne rfl n33.at_) (n40.ne rfl (n33.ne rfl n32.at_)) W36.bk (by kernel_rfl) rfl (by simp [Value.oneCell'])) W36.bk (fun w41 u42 u42b => ?_)
      have G43 : Gr w w41 := Below.upd G38 l37 u42
      refine wpList_nil ?_
      refine th_n (hK28 _ _ ?_)
      refine wp_seq_k (fun K44 hK44 => ?_)
      refine wp_seq_k (fun K45 hK45 => ?_)
      refine wp_region_lit ?_
      refine sv n40.ok rfl (wn _ rfl) rfl (o_ldR (n40.ne rfl n33.at_) u42b Try.underlying32 rfl (by kernel_rfl)) (fun an46 n46 => ?_)
      refine sc n46.ok rfl (wn _ rfl) rfl (o_f1 Try.func9 rfl rfl rfl n46.at_) (vone_any xh30 w41 ((hm _ (List.mem_of_getElem? h30x)).gr G43)) ?_
      rintro _ w48 ⟨rfl, g49⟩
      refine ⟨_, rfl, fun an47 n47 => ?_⟩
      have G50 := G43.trans g49
      have B51 := u42b.gr g49
      refine sv n47.ok rfl (wn _ rfl) rfl (o_as n47.at_) (fun an52 n52 => ?_)
      refine wpList_nil ?_
      refine th_n (hK45 _ _ ?_)
      refine wp_seq_k (fun K53 hK53 => ?_)
      refine wp_region_lit ?_
      refine sv n52.ok rfl (wn _ rfl) rfl (o_mv n52.at_) (fun an54 n54 => ?_)
      refine sv n54.ok rfl (wn _ rfl) rfl (o_neI n54.at_ ev_const) (fun an55 n55 => ?_)
      refine wpList_nil ?_
      refine th_n (hK53 _ _ ?_)
      by_cases c56 : ¬ (chkOne xh30.d) = 0
      · refine wp_cond_true ((n55.at_).trans (congrArg Value.bool (decide_eq_true c56))) ?_
        refine wp_seq_k (fun K57 hK57 => ?_)
        refine wp_region_lit ?_
        refine sv n55.ok rfl (wn _ rfl) rfl (o_mv (n55.ne rfl (n54.ne rfl n52.at_))) (fun an58 n58 => ?_)
        refine sv n58.ok rfl (wn _ rfl) rfl (o_as n58.at_) (fun an59 n59 => ?_)
        refine wpList_nil ?_
        refine th_n (hK57 _ _ ?_)
        refine wp_ret ?_
        refine th_r ?_
        refine ib_r ?_
        refine th_r ?_
        refine th_r ?_
        refine ib_r ?_
        refine th_r ?_
        exact ret1 n59.ok rfl (n59.at_) ⟨congrArg (fun n => Ending.returned (Value.int .i64 n)) (Eq.symm (by unfold chkShf; have e4 : chkRow none (K.map VerI.d) = chkOne xh30.d := (by rw [hgI17, chkRow_at h30x, if_neg c56]); rw [if_neg (by rw [List.length_map]; omega), if_neg (by rw [e4]; exact c56), e4])), G50⟩
      · refine wp_cond_false ((n55.at_).trans (congrArg Value.bool (decide_eq_false c56))) ?_
        refine wp_skip ?_
        refine th_n (hK44 _ _ ?_)
        refine wp_seq_k (fun K60 hK60 => ?_)
        rcases Nat.eq_zero_or_pos i with hi0 | hi0
        · have hi1 := hi0
          refine reg_start (N := 47) (m := 12) (by kernel_rfl) (fun R610 => ?_)
          have e62 := n55.ne rfl (n54.ne rfl (n52.ne rfl (n47.ne rfl (n46.ne rfl n40.at_))))
          have R611 := R610.snoc (n' := 1) rfl (fun vJ _ => vJ = .int .i64 (i : Int)) rfl (fun _ _ _ _ h => h) (fun aS wS pS => by
              exact Does.val (wn _ rfl) (o_mv ((pS.old 3 rfl).trans e62)) (Gr.refl _) rfl rfl)
          have R612 := R611.snoc (n' := 2) rfl (fun vJ _ => vJ = .bool false) rfl (fun _ _ _ _ h => h) (fun aS wS pS => by
              have eR61_0 : aS.eval (.tmp 23) = .int .i64 (i : Int) := pS.pre 0 rfl
              exact Does.val (wn _ rfl) (o_gtr (eR61_0) ev_const (decide_eq_false (show ¬ (i : Int) > 0 by omega))) (Gr.refl _) rfl rfl)
          have R613 := R612.snoc (n' := 3) rfl (fun vJ _ => vJ = .bool false) rfl (fun _ _ _ _ h => h) (fun aS wS pS => by
              have eR61_1 : aS.eval (.tmp 24) = .bool false := pS.pre 1 rfl
              exact Does.val (wn _ rfl) (o_mv (eR61_1)) (Gr.refl _) rfl rfl)
          have R614 := R613.snoc (n' := 4) rfl (fun vJ _ => vJ = undef) rfl (fun _ _ _ _ h => h) (fun aS wS pS => by
              have eR61_2 : aS.eval (.tmp 25) = .bool false := pS.pre 2 rfl
              exact Does.not (wgF rfl (yl 2 false rfl eR61_2) rfl) rfl rfl)
          have R615 := R614.snoc (n' := 5) rfl (fun vJ _ => vJ = undef) rfl (fun _ _ _ _ h => h) (fun aS wS pS => by
              have eR61_2 : aS.eval (.tmp 25) = .bool false := pS.pre 2 rfl
              exact Does.not (wgF rfl (yl 2 false rfl eR61_2) rfl) rfl rfl)
          have R616 := R615.snoc (n' := 6) rfl (fun vJ _ => vJ = undef) rfl (fun _ _ _ _ h => h) (fun aS wS pS => by
              have eR61_2 : aS.eval (.tmp 25) = .bool false := pS.pre 2 rfl
              exact Does.not (wgF rfl (yl 2 false rfl eR61_2) rfl) rfl rfl)
          have R617 := R616.snoc (n' := 7) rfl (fun vJ _ => vJ = undef) rfl (fun _ _ _ _ h => h) (fun aS wS pS => by
              have eR61_2 : aS.eval (.tmp 25) = .bool false := pS.pre 2 rfl
              exact Does.not (wgF rfl (yl 2 false rfl eR61_2) rfl) rfl rfl)
          have R618 := R617.snoc (n' := 8) rfl (fun vJ _ => vJ = undef) rfl (fun _ _ _ _ h => h) (fun aS wS pS => by
              have eR61_2 : aS.eval (.tmp 25) = .bool false := pS.pre 2 rfl
              exact Does.not (wgF rfl (yl 2 false rfl eR61_2) rfl) rfl rfl)
          have R619 := R618.snoc (n' := 9) rfl (fun vJ _ => vJ = undef) rfl (fun _ _ _ _ h => h) (fun aS wS pS => by
              have eR61_2 : aS.eval (.tmp 25) = .bool false := pS.pre 2 rfl
              exact Does.not (wgF rfl (yl 2 false rfl eR61_2) rfl) rfl rfl)
          have R6110 := R619.snoc (n' := 10) rfl (fun vJ _ => vJ = undef) rfl (fun _ _ _ _ h => h) (fun aS wS pS => by
              have eR61_2 : aS.eval (.tmp 25) = .bool false := pS.pre 2 rfl
              exact Does.not (wgF rfl (yl 2 false rfl eR61_2) rfl) rfl rfl)
          have R6111 := R6110.snoc (n' := 11) rfl (fun vJ _ => vJ = undef) rfl (fun _ _ _ _ h => h) (fun aS wS pS => by
              have eR61_2 : aS.eval (.tmp 25) = .bool false := pS.pre 2 rfl
              exact Does.not (wgF rfl (yl 2 false rfl eR61_2) rfl) rfl rfl)
          have R6112 := R6111.snoc (n' := 12) rfl (fun vJ _ => vJ = .bool false) rfl (fun _ _ _ _ h => h) (fun aS wS pS => by
              have eR61_2 : aS.eval (.tmp 25) = .bool false := pS.pre 2 rfl
              exact Does.val (wn _ rfl) (o_pkF (eR61_2) ev_const) (Gr.refl _) rfl rfl)
          refine R6112.run (k := 0) (L := #[true, true, true, true, true, true, true, true, true, true, true, true]) (by kernel_rfl) (by kernel_rfl) (by kernel_rfl) n55.ok (by kernel_rfl) (by kernel_rfl) (fun ap64 w65 p64 => ?_)
          have g66 := gr_drew p64.gr
          have G67 := G50.trans g66
          have B68 := B51.gr g66
          refine wpAny_done (by kernel_rfl) ?_ _
          refine th_n (hK60 _ _ ?_)
          have ep64_11 : ap64.eval (.tmp 34) = .bool false := p64.js 11 rfl
          refine wp_cond_false (ep64_11) ?_
          refine wp_skip ?_
          refine ib_n ?_
          refine th_n (hK27 _ _ ?_)
          refine wp_region_lit ?_
          have e69 := (p64.old 13 rfl).trans (n55.ne rfl (n54.ne rfl (n52.ne rfl (n47.ne rfl (n46.ne rfl (n40.ne rfl (n33.ne rfl (n32.ne rfl (n31.ne rfl (n29.ne rfl (n24.ne rfl s13I17)))))))))))
          refine sv p64.ok rfl (wn _ rfl) rfl (o_add (r := ((i + 1 : Nat) : Int)) e69 ev_const (by omega) (by omega)) (fun an70 n70 => ?_)
          refine sv n70.ok rfl (wn _ rfl) rfl (o_mv n70.at_) (fun an71 n71 => ?_)
          refine wpList_nil ?_
          have e72 := n71.ne rfl (n70.ne rfl ((p64.old 0 rfl).trans (n55.ne rfl (n54.ne rfl (n52.ne rfl (n47.ne rfl (n46.ne rfl (n40.ne rfl (n33.ne rfl (n32.ne rfl (n31.ne rfl (n29.ne rfl (n24.ne rfl s0I17)))))))))))))
          have e73 := n71.ne rfl (n70.ne rfl ((p64.old 2 rfl).trans (n55.ne rfl (n54.ne rfl (n52.ne rfl (n47.ne rfl (n46.ne rfl (n40.ne rfl (n33.ne rfl (n32.ne rfl (n31.ne rfl (n29.ne rfl (n24.ne rfl s2I17)))))))))))))
          have e74 := n71.ne rfl (n70.ne rfl ((p64.old 11 rfl).trans (n55.ne rfl (n54.ne rfl (n52.ne rfl (n47.ne rfl (n46.ne rfl (n40.ne rfl (n33.ne rfl (n32.ne rfl (n31.ne rfl (n29.ne rfl (n24.ne rfl s11I17)))))))))))))
          have e75 := n71.ne rfl (n70.ne rfl ((p64.old 12 rfl).trans (n55.ne rfl (n54.ne rfl (n52.ne rfl (n47.ne rfl (n46.ne rfl (n40.ne rfl (n33.ne rfl (n32.ne rfl (n31.ne rfl (n29.ne rfl (n24.ne rfl s12I17)))))))))))))
          exact th_n (hKI17 _ _ _ (by omega) ⟨i + 1, rfl, n71.ok, G67, e72, e73, e74, e75, n71.at_, by omega, by rw [hgI17, chkRow_at h30x, if_pos (Decidable.of_not_not c56), if_neg (by rw [show prevV K i = none from by unfold prevV; rw [if_pos (by omega)]]; simp), prevV_succ h30x]⟩)
        · have hi1 := hi0
          obtain ⟨p1, hp1⟩ : ∃ p1, p1 = i - 1 := ⟨_, rfl⟩
          refine reg_start (N := 47) (m := 12) (by kernel_rfl) (fun R760 => ?_)
          have e77 := n55.ne rfl (n54.ne rfl (n52.ne rfl (n47.ne rfl (n46.ne rfl n40.at_))))
          have R761 := R760.snoc (n' := 1) rfl (fun vJ _ => vJ = .int .i64 (i : Int)) rfl (fun _ _ _ _ h => h) (fun aS wS pS => by
              exact Does.val (wn _ rfl) (o_mv ((pS.old 3 rfl).trans e77)) (Gr.refl _) rfl rfl)
          have R762 := R761.snoc (n' := 2) rfl (fun vJ _ => vJ = .bool true) rfl (fun _ _ _ _ h => h) (fun aS wS pS => by
              have eR76_0 : aS.eval (.tmp 23) = .int .i64 (i : Int) := pS.pre 0 rfl
              exact Does.val (wn _ rfl) (o_gtr (eR76_0) ev_const (decide_eq_true (show (i : Int) > 0 by omega))) (Gr.refl _) rfl rfl)
          have R763 := R762.snoc (n' := 3) rfl (fun vJ _ => vJ = .bool true) rfl (fun _ _ _ _ h => h) (fun aS wS pS => by
              have eR76_1 : aS.eval (.tmp 24) = .bool true := pS.pre 1 rfl
              exact Does.val (wn _ rfl) (o_mv (eR76_1)) (Gr.refl _) rfl rfl)
          have e78 := n55.ne rfl (n54.ne rfl (n52.ne rfl (n47.ne rfl (n46.ne rfl (n40.ne rfl (n33.ne rfl (n32.ne rfl (n31.ne rfl (n29.ne rfl (n24.ne rfl s0I17))))))))))
          have R764 := R763.snoc (n' := 4) rfl (fun vJ _ => vJ = .slice va K.length vc) rfl (fun _ _ _ _ h => h) (fun aS wS pS => by
              have eR76_2 : aS.eval (.tmp 25) = .bool true := pS.pre 2 rfl
              exact Does.val (wgT rfl (yl 2 true rfl eR76_2) rfl) (o_mv ((pS.old 0 rfl).trans e78)) (Gr.refl _) rfl rfl)
          have R765 := R764.snoc (n' := 5) rfl (fun vJ _ => vJ = .int .i64 (i : Int)) rfl (fun _ _ _ _ h => h) (fun aS wS pS => by
              have eR76_2 : aS.eval (.tmp 25) = .bool true := pS.pre 2 rfl
              exact Does.val (wgT rfl (yl 2 true rfl eR76_2) rfl) (o_mv ((pS.old 3 rfl).trans e77)) (Gr.refl _) rfl rfl)
          have R766 := R765.snoc (n' := 6) rfl (fun vJ _ => vJ = .int .i64 (p1 : Int)) rfl (fun _ _ _ _ h => h) (fun aS wS pS => by
              have eR76_2 : aS.eval (.tmp 25) = .bool true := pS.pre 2 rfl
              have eR76_4 : aS.eval (.tmp 27) = .int .i64 (i : Int) := pS.pre 4 rfl
              exact Does.val (wgT rfl (yl 2 true rfl eR76_2) rfl) (o_sub (r := ((p1 : Nat) : Int)) (eR76_4) ev_const (by omega) (by omega)) (Gr.refl _) rfl rfl)
          have h79l : p1 < List.length K := by omega
          obtain ⟨bh79, fh79, h79a, h79b, h79c⟩ := hv (ne_nil_of_lt h79l)
          obtain ⟨xh79, h79x⟩ : ∃ x, (K)[p1]? = some x := ⟨_, List.getElem?_eq_getElem h79l⟩
          have R767 := R766.snoc (n' := 7) rfl (fun vJ _ => vJ = .pointer (some ⟨bh79, fh79 + p1 * 8, none⟩)) rfl (fun _ _ _ _ h => h) (fun aS wS pS => by
              have eR76_2 : aS.eval (.tmp 25) = .bool true := pS.pre 2 rfl
              have eR76_3 : aS.eval (.tmp 26) = .slice va K.length vc := pS.pre 3 rfl
              have eR76_5 : aS.eval (.tmp 28) = .int .i64 (p1 : Int) := pS.pre 5 rfl
              exact Does.val (wgT rfl (yl 2 true rfl eR76_2) rfl) (o_iaV (i := p1) (s := 8) h79a (eR76_3) (eR76_5) Try.underlying22 (by kernel_rfl) h79l) (Gr.refl _) rfl rfl)
          have R768 := R767.snoc (n' := 8) rfl (fun vJ _ => vJ = .agg #[.string (bs xh79.d.id), .int .i64 (xh79.d.s), .int .i64 (xh79.d.c), .int .i64 (xh79.d.t), .int .i64 (xh79.d.n), .int .i64 (xh79.d.b), .slice xh79.va xh79.d.V.length xh79.vc, .slice xh79.ma xh79.d.M.length xh79.mc]) rfl (fun _ _ _ _ h => h) (fun aS wS pS => by
              have eR76_2 : aS.eval (.tmp 25) = .bool true := pS.pre 2 rfl
              have eR76_6 : aS.eval (.tmp 29) = .pointer (some ⟨bh79, fh79 + p1 * 8, none⟩) := pS.pre 6 rfl
              exact Does.val (wgT rfl (yl 2 true rfl eR76_2) rfl) (o_ldA (k := fh79 + p1 * 8) (eR76_6) (cs := [.string (bs xh79.d.id), .int .i64 (xh79.d.s), .int .i64 (xh79.d.c), .int .i64 (xh79.d.t), .int .i64 (xh79.d.n), .int .i64 (xh79.d.b), .slice xh79.va xh79.d.V.length xh79.vc, .slice xh79.ma xh79.d.M.length xh79.mc]) (fun j v hv => (Below.cell (G50.trans (gr_drew pS.gr)) h79b).trans (h79c _ _ h79x j v hv)) Try.underlying32 rfl (by kernel_rfl)) (Gr.refl _) rfl rfl)
          have e80 := n55.ne rfl (n54.ne rfl (n52.ne rfl (n47.ne rfl (n46.ne rfl (n40.ne rfl n33.at_)))))
          have R769 := R768.snoc (n' := 9) rfl (fun vJ _ => vJ = .agg #[.string (bs xh30.d.id), .int .i64 (xh30.d.s), .int .i64 (xh30.d.c), .int .i64 (xh30.d.t), .int .i64 (xh30.d.n), .int .i64 (xh30.d.b), .slice xh30.va xh30.d.V.length xh30.vc, .slice xh30.ma xh30.d.M.length xh30.mc]) rfl (fun _ _ _ _ h => h) (fun aS wS pS => by
              have eR76_2 : aS.eval (.tmp 25) = .bool true := pS.pre 2 rfl
              exact Does.val (wgT rfl (yl 2 true rfl eR76_2) rfl) (o_ldR ((pS.old 4 rfl).trans e80) (Bk.gr B51 (gr_drew pS.gr)) Try.underlying32 rfl (by kernel_rfl)) (Gr.refl _) rfl rfl)
          have R7610 := R769.snoc (n' := 10) rfl (fun vJ _ => vJ = .int .i64 (cmpV xh79.d xh30.d)) rfl (fun _ _ _ _ h => h) (fun aS wS pS => by
              have eR76_2 : aS.eval (.tmp 25) = .bool true := pS.pre 2 rfl
              have eR76_7 : aS.eval (.tmp 30) = .agg #[.string (bs xh79.d.id), .int .i64 (xh79.d.s), .int .i64 (xh79.d.c), .int .i64 (xh79.d.t), .int .i64 (xh79.d.n), .int .i64 (xh79.d.b), .slice xh79.va xh79.d.V.length xh79.vc, .slice xh79.ma xh79.d.M.length xh79.mc] := pS.pre 7 rfl
              have eR76_8 : aS.eval (.tmp 31) = .agg #[.string (bs xh30.d.id), .int .i64 (xh30.d.s), .int .i64 (xh30.d.c), .int .i64 (xh30.d.t), .int .i64 (xh30.d.n), .int .i64 (xh30.d.b), .slice xh30.va xh30.d.V.length xh30.vc, .slice xh30.ma xh30.d.M.length xh30.mc] := pS.pre 8 rfl
              exact Does.call (wgT rfl (yl 2 true rfl eR76_2) rfl) (o_f2 Try.func34 rfl rfl rfl (eR76_7) (eR76_8)) (cmpVr_any xh79 xh30 wS) (by rintro _ w2 ⟨rfl, g⟩; exact ⟨_, rfl, g, rfl⟩) rfl)
          have R7611 := R7610.snoc (n' := 11) rfl (fun vJ _ => vJ = .bool (decide ((0 : Int) ≤ (cmpV xh79.d xh30.d)))) rfl (fun _ _ _ _ h => h) (fun aS wS pS => by
              have eR76_2 : aS.eval (.tmp 25) = .bool true := pS.pre 2 rfl
              have eR76_9 : aS.eval (.tmp 32) = .int .i64 (cmpV xh79.d xh30.d) := pS.pre 9 rfl
              exact Does.val (wgT rfl (yl 2 true rfl eR76_2) rfl) (o_geI (eR76_9) ev_const) (Gr.refl _) rfl rfl)
          have R7612 := R7611.snoc (n' := 12) rfl (fun vJ _ => vJ = .bool (decide ((0 : Int) ≤ (cmpV xh79.d xh30.d)))) rfl (fun _ _ _ _ h => h) (fun aS wS pS => by
              have eR76_2 : aS.eval (.tmp 25) = .bool true := pS.pre 2 rfl
              have eR76_10 : aS.eval (.tmp 33) = .bool (decide ((0 : Int) ≤ (cmpV xh79.d xh30.d))) := pS.pre 10 rfl
              exact Does.val (wn _ rfl) (o_pkT (eR76_2) (eR76_10)) (Gr.refl _) rfl rfl)
          refine R7612.run (k := 0) (L := #[true, true, true, true, true, true, true, true, true, true, true, true]) (by kernel_rfl) (by kernel_rfl) (by kernel_rfl) n55.ok (by kernel_rfl) (by kernel_rfl) (fun ap82 w83 p82 => ?_)
          have g84 := gr_drew p82.gr
          have G85 := G50.trans g84
          have B86 := B51.gr g84
          refine wpAny_done (by kernel_rfl) ?_ _
          refine th_n (hK60 _ _ ?_)
          have ep82_11 : ap82.eval (.tmp 34) = .bool (decide ((0 : Int) ≤ (cmpV xh79.d xh30.d))) := p82.js 11 rfl
          by_cases c87 : (0 : Int) ≤ (cmpV xh79.d xh30.d)
          · refine wp_cond_true ((ep82_11).trans (congrArg Value.bool (decide_eq_true c87))) ?_
            refine wp_seq_k (fun K88 hK88 => ?_)
            refine wp_region_lit ?_
            refine sv p82.ok rfl (wn _ rfl) rfl (o_as ev_const) (fun an89 n89 => ?_)
            refine wpList_nil ?_
            refine th_n (hK88 _ _ ?_)
            refine wp_ret ?_
            refine ib_r ?_
            refine th_r ?_
            refine th_r ?_
            refine ib_r ?_
            refine th_r ?_
            exact ret1 n89.ok rfl (n89.at_) ⟨congrArg (fun n => Ending.returned (Value.int .i64 n)) (Eq.symm (by unfold chkShf; have e3 : chkRow none (K.map VerI.d) = 3 := (by rw [hgI17, chkRow_at h30x, if_pos (Decidable.of_not_not c56), if_pos (by rw [show prevV K i = some xh79.d from by unfold prevV; rw [if_neg (by omega), ← hp1, h79x]; rfl]; simp only [Option.any_some, decide_eq_true_eq]; exact c87)]); rw [if_neg (by rw [List.length_map]; omega), if_neg (by rw [e3]; decide), e3])), G85⟩
          · refine wp_cond_false ((ep82_11).trans (congrArg Value.bool (decide_eq_false c87))) ?_
            refine wp_skip ?_
            refine ib_n ?_
            refine th_n (hK27 _ _ ?_)
            refine wp_region_lit ?_
            have e90 := (p82.old 13 rfl).trans (n55.ne rfl (n54.ne rfl (n52.ne rfl (n47.ne rfl (n46.ne rfl (n40.ne rfl (n33.ne rfl (n32.ne rfl (n31.ne rfl (n29.ne rfl (n24.ne rfl s13I17)))))))))))
            refine sv p82.ok rfl (wn _ rfl) rfl (o_add (r := ((i + 1 : Nat) : Int)) e90 ev_const (by omega) (by omega)) (fun an91 n91 => ?_)
            refine sv n91.ok rfl (wn _ rfl) rfl (o_mv n91.at_) (fun an92 n92 => ?_)
            refine wpList_nil ?_
            have e93 := n92.ne rfl (n91.ne rfl ((p82.old 0 rfl).trans e78))
            have e94 := n92.ne rfl (n91.ne rfl ((p82.old 2 rfl).trans (n55.ne rfl (n54.ne rfl (n52.ne rfl (n47.ne rfl (n46.ne rfl (n40.ne rfl (n33.ne rfl (n32.ne rfl (n31.ne rfl (n29.ne rfl (n24.ne rfl s2I17)))))))))))))
            have e95 := n92.ne rfl (n91.ne rfl ((p82.old 11 rfl).trans (n55.ne rfl (n54.ne rfl (n52.ne rfl (n47.ne rfl (n46.ne rfl (n40.ne rfl (n33.ne rfl (n32.ne rfl (n31.ne rfl (n29.ne rfl (n24.ne rfl s11I17)))))))))))))
            have e96 := n92.ne rfl (n91.ne rfl ((p82.old 12 rfl).trans (n55.ne rfl (n54.ne rfl (n52.ne rfl (n47.ne rfl (n46.ne rfl (n40.ne rfl (n33.ne rfl (n32.ne rfl (n31.ne rfl (n29.ne rfl (n24.ne rfl s12I17)))))))))))))
            exact th_n (hKI17 _ _ _ (by omega) ⟨i + 1, rfl, n92.ok, G85, e93, e94, e95, e96, n92.at_, by omega, by rw [hgI17, chkRow_at h30x, if_pos (Decidable.of_not_not c56), if_neg (by rw [show prevV K i = some xh79.d from by unfold prevV; rw [if_neg (by omega), ← hp1, h79x]; rfl]; simp only [Option.any_some, decide_eq_true_eq]; exact c87), prevV_succ h30x]⟩)
    · refine wp_cond_false ((n24.at_).trans (congrArg Value.bool (decide_eq_false c26))) ?_
      refine wp_exit ?_
      refine th_x ?_
      refine th_x ?_
      refine ib_x ?_
      refine th_n (hK11 _ _ ?_)
      refine wp_seq_k (fun K97 hK97 => ?_)
      refine wp_seq_k (fun K98 hK98 => ?_)
      refine wp_region_lit ?_
      refine sv n24.ok rfl (wn _ rfl) rfl (o_mv (n24.ne rfl s0I17)) (fun an99 n99 => ?_)
      refine sv n99.ok rfl (wn _ rfl) rfl (o_len n99.at_ Try.underlying22) (fun an100 n100 => ?_)
      refine sv n100.ok rfl (wn _ rfl) rfl (o_mv ev_const) (fun an101 n101 => ?_)
      refine wpList_nil ?_
      refine th_n (hK98 _ _ ?_)
      refine wp_block ?_
      have hz : chkRow none (K.map VerI.d) = 0 := by rw [hgI17, List.drop_eq_nil_of_le (by simp; omega)]; cases prevV K i <;> rfl
      have hok := chkRow_all hz
      have e103 := n101.ne rfl (n100.ne rfl (n99.ne rfl (n24.ne rfl s0I17)))
      have e104 := n101.ne rfl (n100.ne rfl (n99.ne rfl (n24.ne rfl s2I17)))
      refine lp (fun (nL : Nat) (aL : Act) (wL : World) => ∃ k : Nat, nL = K.length - k ∧ Ok 47 aL ∧ Gr w wL ∧ (aL.eval (.tmp 0) = .slice va K.length vc) ∧ (aL.eval (.tmp 2) = .int .i64 0) ∧ (aL.eval (.tmp 36) = .slice va K.length vc) ∧ (aL.eval (.tmp 37) = .int .i64 ((K.length : Nat) : Int)) ∧ (aL.eval (.tmp 38) = .int .i64 (k : Int)) ∧ (k ≤ K.length) ∧ (∀ j y, j < k → K[j]? = some y → (K.any fun z => ovB y.d z.d) = false)) _ ⟨0, rfl, n101.ok, GI17, e103, e104, (n101.ne rfl (n100.ne rfl n99.at_)), (n101.ne rfl n100.at_), n101.at_, by omega, fun j y hj => by omega⟩ ?_
      rintro m105 aI102 w107 ⟨k, hmI102, okI102, GI102, s0I102, s2I102, s36I102, s37I102, s38I102, hkI102, hnI102⟩ KI102 hKI102
      refine wp_seq_k (fun K108 hK108 => ?_)
      refine wp_region_lit ?_
      refine sv okI102 rfl (wn _ rfl) rfl (o_ltI s38I102 s37I102) (fun an109 n109 => ?_)
      refine wpList_nil ?_
      refine th_n (hK108 _ _ ?_)
      refine wp_seq_k (fun K110 hK110 => ?_)
      by_cases c111 : (k : Int) < ((K.length : Nat) : Int)
      · refine wp_cond_true ((n109.at_).trans (congrArg Value.bool (decide_eq_true c111))) ?_
        refine wp_skip ?_
        refine th_n (hK110 _ _ ?_)
        refine wp_seq_k (fun K112 hK112 => ?_)
        refine wp_block ?_
        refine wp_seq_k (fun K113 hK113 => ?_)
        refine wp_region_lit ?_
        have h114l : k < List.length K := by omega
        obtain ⟨bh114, fh114, h114a, h114b, h114c⟩ := hv (ne_nil_of_lt h114l)
        obtain ⟨xh114, h114x⟩ : ∃ x, (K)[k]? = some x := ⟨_, List.getElem?_eq_getElem h114l⟩
        refine sv n109.ok rfl (wn _ rfl) rfl (o_iaV (i := k) (s := 8) h114a (n109.ne rfl s36I102) (n109.ne rfl s38I102) Try.underlying22 (by kernel_rfl) h114l) (fun an115 n115 => ?_)
        refine sv n115.ok rfl (wn _ rfl) rfl (o_ldA (k := fh114 + k * 8) n115.at_ (cs := [.string (bs xh114.d.id), .int .i64 (xh114.d.s), .int .i64 (xh114.d.c), .int .i64 (xh114.d.t), .int .i64 (xh114.d.n), .int .i64 (xh114.d.b), .slice xh114.va xh114.d.V.length xh114.vc, .slice xh114.ma xh114.d.M.length xh114.mc]) (fun j v hv => (Below.cell GI102 h114b).trans (h114c _ _ h114x j v hv)) Try.underlying32 rfl (by kernel_rfl)) (fun an116 n116 => ?_)
        refine sal (cs := #[.string (bs []), .int .i64 0, .int .i64 0, .int .i64 0, .int .i64 0, .int .i64 0, .slice none 0 0, .slice none 0 0]) n116.ok rfl (wn _ rfl) rfl (o_al (z := .agg #[.string (bs []), .int .i64 0, .int .i64 0, .int .i64 0, .int .i64 0, .int .i64 0, .slice none 0 0, .slice none 0 0]) (by kernel_rfl)) (fun an117 w119 b118 W120 n117 => ?_)
        have l121 : w.heap.size ≤ b118 := by rw [W120.eq]; exact GI102.size
        have G122 := GI102.trans W120.gr
        refine ssR rfl (wn _ rfl) (o_stR n117.at_ (n117.ne rfl n116.at_) W120.bk (by kernel_rfl) rfl (by simp [Value.oneCell'])) W120.bk (fun w123 u124 u124b => ?_)
        have G125 : Gr w w123 := Below.upd G122 l121 u124
        refine wpList_nil ?_
        refine th_n (hK113 _ _ ?_)
        refine wp_seq_k (fun K126 hK126 => ?_)
        refine wp_region_lit ?_
        have e127 := n117.ne rfl (n116.ne rfl (n115.ne rfl (n109.ne rfl s0I102)))
        refine sv n117.ok rfl (wn _ rfl) rfl (o_mv e127) (fun an128 n128 => ?_)
        refine sv n128.ok rfl (wn _ rfl) rfl (o_ldR (n128.ne rfl n117.at_) u124b Try.underlying32 rfl (by kernel_rfl)) (fun an129 n129 => ?_)
        refine sc n129.ok rfl (wn _ rfl) rfl (o_f1 Try.func36 rfl rfl rfl n129.at_) (supBy_any xh114 w123) ?_
        rintro _ w131 ⟨cS, rfl, -, hbS, g132⟩
        refine ⟨_, rfl, fun an130 n130 => ?_⟩
        have G133 := G125.trans g132
        have B134 := u124b.gr g132
        have A136 := Gr.refl w131
        refine sc n130.ok rfl (wn _ rfl) rfl (o_f2 Try.func35 rfl rfl rfl (n130.ne rfl (n129.ne rfl n128.at_)) n130.at_) (containsV K va vc _ [.pointer (some ⟨cS, 0, none⟩)] (fun y => ovB xh114.d y.d) ⟨_, Try.func60, rfl, rfl⟩ (by omega) w131 (hv.gr G133) (fun y hy w1 g1 => supBy1_any y xh114 cS (hok y hy) (chkOne_zero (hok _ (List.mem_of_getElem? h114x))).2.2.1 w1 ((hm _ (List.mem_of_getElem? h114x)).gr (G133.trans g1)) (((hbS.gr A136)).gr g1))) ?_
        rintro _ w138 ⟨rfl, g139⟩
        refine ⟨_, rfl, fun an137 n137 => ?_⟩
        have G140 := G133.trans g139
        have B141 := B134.gr g139
        have A142 := A136.trans g139
        refine wpList_nil ?_
        refine th_n (hK126 _ _ ?_)
        cases c143 : (K.any fun y => ovB xh114.d y.d)
        · refine wp_cond_false ((n137.at_).trans (congrArg Value.bool (c143))) ?_
          refine wp_skip ?_
          refine ib_n ?_
          refine th_n (hK112 _ _ ?_)
          refine wp_region_lit ?_
          have e144 := n137.ne rfl (n130.ne rfl (n129.ne rfl (n128.ne rfl (n117.ne rfl (n116.ne rfl (n115.ne rfl (n109.ne rfl s38I102)))))))
          refine sv n137.ok rfl (wn _ rfl) rfl (o_add (r := ((k + 1 : Nat) : Int)) e144 ev_const (by omega) (by omega)) (fun an145 n145 => ?_)
          refine sv n145.ok rfl (wn _ rfl) rfl (o_mv n145.at_) (fun an146 n146 => ?_)
          refine wpList_nil ?_
          have e147 := n146.ne rfl (n145.ne rfl (n137.ne rfl (n130.ne rfl (n129.ne rfl (n128.ne rfl e127)))))
          have e148 := n146.ne rfl (n145.ne rfl (n137.ne rfl (n130.ne rfl (n129.ne rfl (n128.ne rfl (n117.ne rfl (n116.ne rfl (n115.ne rfl (n109.ne rfl s2I102)))))))))
          have e149 := n146.ne rfl (n145.ne rfl (n137.ne rfl (n130.ne rfl (n129.ne rfl (n128.ne rfl (n117.ne rfl (n116.ne rfl (n115.ne rfl (n109.ne rfl s36I102)))))))))
          have e150 := n146.ne rfl (n145.ne rfl (n137.ne rfl (n130.ne rfl (n129.ne rfl (n128.ne rfl (n117.ne rfl (n116.ne rfl (n115.ne rfl (n109.ne rfl s37I102)))))))))
          exact th_n (hKI102 _ _ _ (by omega) ⟨k + 1, rfl, n146.ok, G140, e147, e148, e149, e150, n146.at_, by omega, fun j y hj hy => by
              rcases Nat.lt_or_ge j k with q | q
              · exact hnI102 j y q hy
              · obtain rfl : j = k := by omega
                rw [h114x] at hy
                cases hy
                exact c143⟩)
        · refine wp_cond_true ((n137.at_).trans (congrArg Value.bool (c143))) ?_
          refine wp_seq_k (fun K151 hK151 => ?_)
          refine wp_region_lit ?_
          refine sv n137.ok rfl (wn _ rfl) rfl (o_as ev_const) (fun an152 n152 => ?_)
          refine wpList_nil ?_
          refine th_n (hK151 _ _ ?_)
          refine wp_ret ?_
          refine ib_r ?_
          refine th_r ?_
          refine th_r ?_
          refine ib_r ?_
          refine th_r ?_
          exact ret1 n152.ok rfl (n152.at_) ⟨congrArg (fun n => Ending.returned (Value.int .i64 n)) (Eq.symm (by unfold chkShf; rw [if_neg (by rw [List.length_map]; omega), if_pos hz, if_pos]; rw [List.any_map, List.any_eq_true]; exact ⟨_, List.mem_of_getElem? h114x, by show ((K.map VerI.d).any _) = true; rw [List.any_map]; exact c143⟩)), G140⟩
      · refine wp_cond_false ((n109.at_).trans (congrArg Value.bool (decide_eq_false c111))) ?_
        refine wp_exit ?_
        refine th_x ?_
        refine th_x ?_
        refine ib_x ?_
        refine th_n (hK97 _ _ ?_)
        refine wp_seq_k (fun K153 hK153 => ?_)
        refine wp_region_lit ?_
        refine sv n109.ok rfl (wn _ rfl) rfl (o_as ev_const) (fun an154 n154 => ?_)
        refine wpList_nil ?_
        refine th_n (hK153 _ _ ?_)
        refine wp_ret ?_
        exact ret1 n154.ok rfl (n154.at_) ⟨congrArg (fun n => Ending.returned (Value.int .i64 n)) (Eq.symm (by unfold chkShf; rw [if_neg (by rw [List.length_map]; omega), if_pos hz, if_neg]; rw [List.any_map, Bool.not_eq_true, List.any_eq_false]; intro y hy; obtain ⟨j, hj⟩ := List.getElem?_of_mem hy; have hjl := (List.getElem?_eq_some_iff.1 hj).1; have q := hnI102 j y (by omega) hj; show ¬ ((K.map VerI.d).any _) = true; rw [List.any_map]; rw [Bool.not_eq_true]; exact q)), GI102⟩
end Go.Proofs.Ytbpkfkljeibjoaa

/- What a version owns; clone, without. -/
set_option linter.unusedVariables false
set_option linter.unusedSimpArgs false
namespace Go.Proofs.Ytbpkfkljeibjoaa
open Go.RowKit Rm Gx
/-- the types that a set of dots is of -/
def shT : List TypeId := [3, 24]
/-- blocks of these types stand -/
def TkS (w w' : World) : Prop := ∀ (k : Nat) (cs : Array Value) (t : TypeId) (fr : Nat × Nat), w.heap[k]? = some (.cells cs t fr) → shT.contains t = true → w'.heap[k]? = w.heap[k]?
theorem tks_gr {w w' : World} (g : Gr w w') : TkS w w' := fun k cs t fr h _ => Below.block g k (Array.getElem?_eq_some_iff.1 h).1
theorem tks_upd {w w' : World} {b : Nat} {cs : Array Value} {t : TypeId} (u : Upd w w' b) (h : Bk w b cs t) (ht : shT.contains t = false) : TkS w w' := fun k cs' t' fr h' ht' => u.oth k (fun e => by
  subst e
  unfold Bk at h
  rw [h] at h'
  injection h' with h'
  injection h' with _ h2
  subst h2
  rw [ht] at ht'
  cases ht')
theorem tks_grown {w w' : World} {base s n : Nat} {t : TypeId} {v : Value} {xs : List Value} (h : w.ownsRow base t s v n xs) (g : w.grownBy w' v.ownBlock) (ht : shT.contains t = false) : TkS w w' := fun k cs t' fr h' ht' => g.block k (Array.getElem?_eq_some_iff.1 h').1 (fun e => by
  obtain ⟨-, ⟨rfl, -⟩ | ⟨b, cap, cur, rfl, -, hg, -⟩⟩ := h
  · cases e
  · obtain rfl : k = b := by simpa [Value.ownBlock] using e
    rw [hg] at h'
    injection h' with h'
    injection h' with _ h2
    subst h2
    rw [ht] at ht'
    cases ht')
theorem ow_tks {w w' : World} {base s n : Nat} {t : TypeId} {v : Value} {xs : List Value} (h : w.ownsRow base t s v n xs) (k : TkS w w') (ht : shT.contains t = true) : w'.ownsRow base t s v n xs := by
  obtain ⟨h1, h2 | ⟨b, cap, cur, rfl, h3, hg, h4⟩⟩ := h
  · exact ⟨h1, .inl h2⟩
  · exact ⟨h1, .inr ⟨b, cap, cur, rfl, h3, (k b cur t (0, 0) hg ht).trans hg, h4⟩⟩
theorem KnO.tks {base : Nat} {w w' : World} {k : Value} {v : List Nat} {m : List (Nat × Nat)} (h : KnO base w k v m) (q : TkS w w') : KnO base w' k v m := by
  obtain ⟨vv, mv, e, h1, h2⟩ := h
  exact ⟨vv, mv, e, ow_tks h1 q (by decide), ow_tks h2 q (by decide)⟩
/-- a version that owns its set of dots -/
def OwnVr (base : Nat) (w : World) (x : VerI) : Prop := ∃ v m, x.d.V = ints v ∧ x.d.M = pairs m ∧ KnO base w x.k v m
theorem OwnVr.tk {base : Nat} {w w' : World} {x : VerI} (h : OwnVr base w x) (k : TkS w w') : OwnVr base w' x := by
  obtain ⟨v, m, h1, h2, h3⟩ := h
  exact ⟨v, m, h1, h2, h3.tks k⟩
theorem OwnVr.mean {base : Nat} {w : World} {x : VerI} (h : OwnVr base w x) : MeanV w x := by
  obtain ⟨v, m, h1, h2, h3⟩ := h
  unfold MeanV
  rw [h1, h2]
  exact h3.rd
theorem OwnVr.base {base base' : Nat} {w : World} {x : VerI} (h : OwnVr base w x) (hb : base' ≤ base) : OwnVr base' w x := by
  obtain ⟨v, m, h1, h2, h3⟩ := h
  exact ⟨v, m, h1, h2, h3.less hb⟩
def OwnsVr (base : Nat) (w : World) (K : List VerI) : Prop := ∀ x ∈ K, OwnVr base w x
theorem OwnsVr.tk {base : Nat} {w w' : World} {K : List VerI} (h : OwnsVr base w K) (k : TkS w w') : OwnsVr base w' K := fun x hx => (h x hx).tk k
theorem OwnsVr.mean {base : Nat} {w : World} {K : List VerI} (h : OwnsVr base w K) : MeansV w K := fun x hx => (h x hx).mean
theorem OwnsVr.base {base base' : Nat} {w : World} {K : List VerI} (h : OwnsVr base w K) (hb : base' ≤ base) : OwnsVr base' w K := fun x hx => (h x hx).base hb
theorem OwnsVr.snoc {base : Nat} {w : World} {K : List VerI} {x : VerI} (h : OwnsVr base w K) (hx : OwnVr base w x) : OwnsVr base w (K ++ [x]) := fun y hy => by
  rcases List.mem_append.1 hy with hy | hy
  · exact h y hy
  · rw [List.mem_singleton.1 hy]; exact hx
theorem mem0 (s c : Nat) (i : inR s c) : memB [] [] s c = false := by
  cases q : memB [] [] s c
  · rfl
  · rw [memB_iff] at q
    simp [cv] at q
    have := i.2.1
    omega
theorem kclone (k : Value) (V : List Int) (M : List (Int × Int)) (w : World) (hk : KnR w k V M) (hc : chkK V M = 0) :
    Calls Try.prog 18 #[k, .agg #[.slice none 0 0, .slice none 0 0]] w fun e w' => ∃ va vc ma mc, e = .returned (.tuple #[.agg #[.slice va V.length vc, .slice ma M.length mc], .int .i64 0]) ∧ (∃ v m, V = ints v ∧ M = pairs m ∧ KnO w.heap.size w' (.agg #[.slice va V.length vc, .slice ma M.length mc]) v m) ∧ Gr w w' := by
  obtain ⟨v, m, rfl, rfl, ok, hl⟩ := chkK_zero hc
  have ok0 : OkV [] [] := ⟨by simp, by simp, by simp, by simp, by simp⟩
  refine (join_ok k _ v [] m [] w hk (knR_nil w) ok ok0 hl (by simp)).mono ?_
  rintro e w' ⟨h, g⟩
  have he : EqD (orD (memB v m) (memB [] [])) (memB v m) := fun s c i => by simp only [orD, mem0 s c i, Bool.or_false]
  obtain ⟨k2, h1, h2⟩ := frmK.one (h.congr he)
  obtain ⟨q1, q2⟩ := form_self ok
  unfold frE at h1
  unfold frV frM at h2
  rw [q2, if_pos hl] at h1
  rw [q2, if_pos hl, if_pos hl, q1] at h2
  obtain ⟨va, vc, ma, mc, rfl⟩ := h2.form
  exact ⟨va, vc, ma, mc, h1, ⟨v, m, rfl, rfl, h2⟩, g⟩
theorem wo_step {K R : List VerI} {p : VerI → Bool} {i : Nat} {x y : VerI} (h : R.map VerI.d = ((K.take i).filter fun x => !p x).map VerI.d) (hx : K[i]? = some x) (hp : p x = false) (hy : y.d = x.d) : (R ++ [y]).map VerI.d = ((K.take (i + 1)).filter fun x => !p x).map VerI.d := by
  rw [List.map_append, h, List.take_add_one, hx, List.filter_append, List.map_append]
  simp [hp, hy]
theorem wo_skip {K R : List VerI} {p : VerI → Bool} {i : Nat} {x : VerI} (h : R.map VerI.d = ((K.take i).filter fun x => !p x).map VerI.d) (hx : K[i]? = some x) (hp : p x = true) : R.map VerI.d = ((K.take (i + 1)).filter fun x => !p x).map VerI.d := by
  rw [h, List.take_add_one, hx, List.filter_append]
  simp [hp]
theorem ow1_tk {base : Nat} {w w' : World} {V : List Int} {M : List (Int × Int)} {k : Value} (h : ∃ v m, V = ints v ∧ M = pairs m ∧ KnO base w k v m) (q : TkS w w') : ∃ v m, V = ints v ∧ M = pairs m ∧ KnO base w' k v m := by
  obtain ⟨v, m, h1, h2, h3⟩ := h
  exact ⟨v, m, h1, h2, h3.tks q⟩
theorem ow1_le {base base' : Nat} {w : World} {V : List Int} {M : List (Int × Int)} {k : Value} (h : ∃ v m, V = ints v ∧ M = pairs m ∧ KnO base w k v m) (q : base' ≤ base) : ∃ v m, V = ints v ∧ M = pairs m ∧ KnO base' w k v m := by
  obtain ⟨v, m, h1, h2, h3⟩ := h
  exact ⟨v, m, h1, h2, h3.less q⟩
set_option maxHeartbeats 8000000 in
set_option maxRecDepth 100000 in
theorem clone_any (x : VerI) (hx : okVr x) (w : World) (hm : MeanV w x) :
    Calls Try.prog 44 #[.agg #[.string (bs x.d.id), .int .i64 (x.d.s), .int .i64 (x.d.c), .int .i64 (x.d.t), .int .i64 (x.d.n), .int .i64 (x.d.b), .slice x.va x.d.V.length x.vc, .slice x.ma x.d.M.length x.mc]] w fun e w' => ∃ y : VerI, y.d = x.d ∧ e = .returned (.agg #[.string (bs y.d.id), .int .i64 (y.d.s), .int .i64 (y.d.c), .int .i64 (y.d.t), .int .i64 (y.d.n), .int .i64 (y.d.b), .slice y.va y.d.V.length y.vc, .slice y.ma y.d.M.length y.mc]) ∧ OwnVr w.heap.size w' y ∧ Gr w w' := by
  refine enter (N := 12) Try.func44 rfl rfl rfl (fun a0 ok0 h0 => ?_)
  have e0_0 : a0.eval (.tmp 0) = .agg #[.string (bs x.d.id), .int .i64 (x.d.s), .int .i64 (x.d.c), .int .i64 (x.d.t), .int .i64 (x.d.n), .int .i64 (x.d.b), .slice x.va x.d.V.length x.vc, .slice x.ma x.d.M.length x.mc] := h0 0 _ rfl
  clear h0
  have G0 := Gr.refl w
  refine wp_seq_k (fun K1 hK1 => ?_)
  refine wp_region_lit ?_
  refine sal (cs := #[.string (bs x.d.id), .int .i64 (x.d.s), .int .i64 (x.d.c), .int .i64 (x.d.t), .int .i64 (x.d.n), .int .i64 (x.d.b), .slice x.va x.d.V.length x.vc, .slice x.ma x.d.M.length x.mc]) ok0 rfl (wn _ rfl) rfl (o_box e0_0) (fun an2 w4 b3 W5 n2 => ?_)
  have l6 : w.heap.size ≤ b3 := by rw [W5.eq]; exact G0.size
  have G7 := G0.trans W5.gr
  refine sal (cs := #[.string (bs []), .int .i64 0, .int .i64 0, .int .i64 0, .int .i64 0, .int .i64 0, .slice none 0 0, .slice none 0 0]) n2.ok rfl (wn _ rfl) rfl (o_al (z := .agg #[.string (bs []), .int .i64 0, .int .i64 0, .int .i64 0, .int .i64 0, .int .i64 0, .slice none 0 0, .slice none 0 0]) (by kernel_rfl)) (fun an8 w10 b9 W11 n8 => ?_)
  have l12 : b3 < b9 := by rw [W11.eq]; exact W5.bk.lt
  have l13 : w.heap.size ≤ b9 := by rw [W11.eq]; exact G7.size
  have G14 := G7.trans W11.gr
  have B15 := W5.bk.gr W11.gr
  refine wpList_nil ?_
  refine th_n (hK1 _ _ ?_)
  refine wp_seq_k (fun K16 hK16 => ?_)
  refine wp_region_lit ?_
  refine sv n8.ok rfl (wn _ rfl) rfl (o_fa (z := 2) (n8.ne rfl n2.at_) Try.underlying32 rfl (by kernel_rfl) rfl rfl) (fun an17 n17 => ?_)
  refine sv n17.ok rfl (wn _ rfl) rfl (o_ldA (k := 6) (cs := [.slice x.va x.d.V.length x.vc, .slice x.ma x.d.M.length x.mc]) n17.at_ (bk_part B15 rfl) Try.underlying30 rfl (by kernel_rfl)) (fun an18 n18 => ?_)
  refine sv n18.ok rfl (wn _ rfl) rfl (o_b0 (cs := #[.slice none 0 0, .slice none 0 0]) Try.underlying30 (by kernel_rfl) (by kernel_rfl)) (fun an19 n19 => ?_)
  refine sc n19.ok rfl (wn _ rfl) rfl (o_f2 Try.func18 rfl rfl rfl (n19.ne rfl n18.at_) n19.at_) (kclone _ x.d.V x.d.M w10 (MeanV.gr hm G14) (chkOne_zero hx).2.2.1) ?_
  rintro _ w21 ⟨va1, vc1, ma1, mc1, rfl, hk1, g22⟩
  have hk2 := ow1_le hk1 G14.size
  refine ⟨_, rfl, fun an20 n20 => ?_⟩
  have G23 := G14.trans g22
  have B24 := B15.gr g22
  have B25 := W11.bk.gr g22
  refine sv n20.ok rfl (wn _ rfl) rfl (o_mv n20.at_) (fun an26 n26 => ?_)
  refine sv n26.ok rfl (wn _ rfl) rfl (o_ex n26.at_ rfl) (fun an27 n27 => ?_)
  refine sv n27.ok rfl (wn _ rfl) rfl (o_ex (n27.ne rfl n26.at_) rfl) (fun an28 n28 => ?_)
  have e29 := n28.ne rfl (n27.ne rfl (n26.ne rfl (n20.ne rfl (n19.ne rfl (n18.ne rfl (n17.ne rfl (n8.ne rfl n2.at_)))))))
  refine sv n28.ok rfl (wn _ rfl) rfl (o_fa (z := 2) e29 Try.underlying32 rfl (by kernel_rfl) rfl rfl) (fun an30 n30 => ?_)
  refine ssP (vs := [.slice va1 x.d.V.length vc1, .slice ma1 x.d.M.length mc1]) (cs' := #[.string (bs x.d.id), .int .i64 (x.d.s), .int .i64 (x.d.c), .int .i64 (x.d.t), .int .i64 (x.d.n), .int .i64 (x.d.b), .slice va1 x.d.V.length vc1, .slice ma1 x.d.M.length mc1]) (wn _ rfl) n30.at_ (n30.ne rfl (n28.ne rfl n27.at_)) (by kernel_rfl) B24 rfl (by simp [Value.oneCell']) rfl (fun w31 u32 u32b => ?_)
  have G33 : Gr w w31 := Below.upd G23 l6 u32
  have B34 := B25.upd u32 (Nat.ne_of_gt l12)
  have F35 := ow1_tk hk2 (tks_upd u32 B24 (by decide))
  refine wpList_nil ?_
  refine th_n (hK16 _ _ ?_)
  refine wp_seq_k (fun K36 hK36 => ?_)
  refine wp_region_lit ?_
  refine sv n30.ok rfl (wn _ rfl) rfl (o_ldR (n30.ne rfl e29) u32b Try.underlying32 rfl (by kernel_rfl)) (fun an37 n37 => ?_)
  have e38 := n37.ne rfl (n30.ne rfl (n28.ne rfl (n27.ne rfl (n26.ne rfl (n20.ne rfl (n19.ne rfl (n18.ne rfl (n17.ne rfl n8.at_))))))))
  refine ssR rfl (wn _ rfl) (o_stR e38 n37.at_ B34 (by kernel_rfl) rfl (by simp [Value.oneCell'])) B34 (fun w39 u40 u40b => ?_)
  have G41 : Gr w w39 := Below.upd G33 l13 u40
  have B42 := u32b.upd u40 (Nat.ne_of_lt l12)
  have F43 := ow1_tk F35 (tks_upd u40 B34 (by decide))
  refine wpList_nil ?_
  refine th_n (hK36 _ _ ?_)
  refine wp_ret ?_
  exact ret1 n37.ok rfl (⟨_, _, e38, ld_row u40b Try.underlying32 rfl (by kernel_rfl)⟩) ⟨⟨x.d, va1, vc1, ma1, mc1⟩, rfl, rfl, F43, G41⟩
set_option maxHeartbeats 8000000 in
set_option maxRecDepth 100000 in
theorem without_any (K : List VerI) (va : Option Addr) (vc : Nat) (f : FuncId) (caps : List Value) (p : VerI → Bool) (hf : FnOk Try.prog f) (hl : K.length ≤ 1000) (hok : ∀ x ∈ K, okVr x) (w : World) (hv : RdA encVr 8 w va K) (hm : MeansV w K) (hc : ∀ x ∈ K, ∀ w1, Gr w w1 → Calls Try.prog f (.agg #[.string (bs x.d.id), .int .i64 (x.d.s), .int .i64 (x.d.c), .int .i64 (x.d.t), .int .i64 (x.d.n), .int .i64 (x.d.b), .slice x.va x.d.V.length x.vc, .slice x.ma x.d.M.length x.mc] :: caps).toArray w1 fun e w2 => e = .returned (.bool (p x)) ∧ Gr w1 w2) :
    Calls Try.prog 16 #[.slice va K.length vc, .func (.func f) #[] caps.toArray] w fun e w' => ∃ (R : List VerI) (v : Value), e = .returned v ∧ R.map VerI.d = (K.filter fun x => !p x).map VerI.d ∧ w'.ownsRow w.heap.size 32 8 v R.length (flatE encVr R) ∧ OwnsVr w.heap.size w' R ∧ Gr w w' := by
  refine enter (N := 25) Try.func16 rfl rfl rfl (fun a0 ok0 h0 => ?_)
  have e0_0 : a0.eval (.tmp 0) = .slice va K.length vc := h0 0 _ rfl
  have e0_1 : a0.eval (.tmp 1) = .func (.func f) #[] caps.toArray := h0 1 _ rfl
  clear h0
  have G0 := Gr.refl w
  obtain ⟨base, z1⟩ : ∃ n, n = w.heap.size := ⟨_, rfl⟩
  have l2 : w.heap.size ≤ base := by rw [z1]; exact G0.size
  have z3 : base ≤ w.heap.size := Nat.le_of_eq z1
  have O4 := World.ownsRow_nil w base 32 8
  have hps : OwnsVr base w ([] : List VerI) := fun x hx => by cases hx
  refine wp_seq_k (fun K5 hK5 => ?_)
  refine wp_region_lit ?_
  refine sv ok0 rfl (wn _ rfl) rfl (o_as ev_const) (fun an6 n6 => ?_)
  refine wpList_nil ?_
  refine th_n (hK5 _ _ ?_)
  refine wp_seq_k (fun K7 hK7 => ?_)
  refine wp_region_lit ?_
  refine sv n6.ok rfl (wn _ rfl) rfl (o_as ev_const) (fun an8 n8 => ?_)
  refine wpList_nil ?_
  refine th_n (hK7 _ _ ?_)
  refine wp_seq_k (fun K9 hK9 => ?_)
  refine wp_seq_k (fun K10 hK10 => ?_)
  refine wp_region_lit ?_
  refine sv n8.ok rfl (wn _ rfl) rfl (o_mv (n8.ne rfl (n6.ne rfl e0_0))) (fun an11 n11 => ?_)
  refine sv n11.ok rfl (wn _ rfl) rfl (o_len n11.at_ Try.underlying22) (fun an12 n12 => ?_)
  refine sv n12.ok rfl (wn _ rfl) rfl (o_mv ev_const) (fun an13 n13 => ?_)
  refine wpList_nil ?_
  refine th_n (hK10 _ _ ?_)
  refine wp_block ?_
  have e15 := n13.ne rfl (n12.ne rfl (n11.ne rfl (n8.ne rfl (n6.ne rfl e0_1))))
  have e16 := n13.ne rfl (n12.ne rfl (n11.ne rfl (n8.ne rfl n6.at_)))
  have e17 := n13.ne rfl (n12.ne rfl (n11.ne rfl n8.at_))
  refine lp (fun (nL : Nat) (aL : Act) (wL : World) => ∃ i : Nat, ∃ R : List VerI, ∃ ra : Option Addr, ∃ rc : Nat, nL = K.length - i ∧ Ok 25 aL ∧ Gr w wL ∧ (aL.eval (.tmp 1) = .func (.func f) #[] caps.toArray) ∧ (aL.eval (.tmp 4) = .slice none 0 0) ∧ (aL.eval (.tmp 5) = .slice ra (R.length) rc) ∧ (aL.eval (.tmp 8) = .slice va K.length vc) ∧ (aL.eval (.tmp 9) = .int .i64 ((K.length : Nat) : Int)) ∧ (aL.eval (.tmp 10) = .int .i64 (i : Int)) ∧ (OwnsVr base wL R) ∧ (World.ownsRow wL base 32 8 (.slice ra (R.length) rc) (R.length) ((flatE encVr R))) ∧ (base ≤ wL.heap.size) ∧ (i ≤ K.length) ∧ (R.map VerI.d = ((K.take i).filter fun x => !p x).map VerI.d)) _ ⟨0, [], none, 0, rfl, n13.ok, G0, e15, e16, e17, (n13.ne rfl (n12.ne rfl n11.at_)), (n13.ne rfl n12.at_), n13.at_, hps, O4, z3, by omega, rfl⟩ ?_
  rintro m18 aI14 w20 ⟨i, R, ra, rc, hmI14, okI14, GI14, s1I14, s4I14, s5I14, s8I14, s9I14, s10I14, fpsI14, orI14, zbaseI14, hiI14, hRI14⟩ KI14 hKI14
  have hRlI14 : R.length ≤ i := by
    have h1 := congrArg List.length hRI14
    rw [List.length_map, List.length_map] at h1
    have h2 := List.length_filter_le (fun x => !p x) (K.take i)
    rw [List.length_take] at h2
    omega
  refine wp_seq_k (fun K21 hK21 => ?_)
  refine wp_region_lit ?_
  refine sv okI14 rfl (wn _ rfl) rfl (o_ltI s10I14 s9I14) (fun an22 n22 => ?_)
  refine wpList_nil ?_
  refine th_n (hK21 _ _ ?_)
  refine wp_seq_k (fun K23 hK23 => ?_)
  by_cases c24 : (i : Int) < ((K.length : Nat) : Int)
  · refine wp_cond_true ((n22.at_).trans (congrArg Value.bool (decide_eq_true c24))) ?_
    refine wp_skip ?_
    refine th_n (hK23 _ _ ?_)
    refine wp_seq_k (fun K25 hK25 => ?_)
    refine wp_block ?_
    refine wp_seq_k (fun K26 hK26 => ?_)
    refine wp_region_lit ?_
    have h27l : i < List.length K := by omega
    obtain ⟨bh27, fh27, h27a, h27b, h27c⟩ := hv (ne_nil_of_lt h27l)
    obtain ⟨xh27, h27x⟩ : ∃ x, (K)[i]? = some x := ⟨_, List.getElem?_eq_getElem h27l⟩
    refine sv n22.ok rfl (wn _ rfl) rfl (o_iaV (i := i) (s := 8) h27a (n22.ne rfl s8I14) (n22.ne rfl s10I14) Try.underlying22 (by kernel_rfl) h27l) (fun an28 n28 => ?_)
    refine sv n28.ok rfl (wn _ rfl) rfl (o_ldA (k := fh27 + i * 8) n28.at_ (cs := [.string (bs xh27.d.id), .int .i64 (xh27.d.s), .int .i64 (xh27.d.c), .int .i64 (xh27.d.t), .int .i64 (xh27.d.n), .int .i64 (xh27.d.b), .slice xh27.va xh27.d.V.length xh27.vc, .slice xh27.ma xh27.d.M.length xh27.mc]) (fun j v hv => (Below.cell GI14 h27b).trans (h27c _ _ h27x j v hv)) Try.underlying32 rfl (by kernel_rfl)) (fun an29 n29 => ?_)
    refine sal (cs := #[.string (bs []), .int .i64 0, .int .i64 0, .int .i64 0, .int .i64 0, .int .i64 0, .slice none 0 0, .slice none 0 0]) n29.ok rfl (wn _ rfl) rfl (o_al (z := .agg #[.string (bs []), .int .i64 0, .int .i64 0, .int .i64 0, .int .i64 0, .int .i64 0, .slice none 0 0, .slice none 0 0]) (by kernel_rfl)) (fun an30 w32 b31 W33 n30 => ?_)
    have l34 : w.heap.size ≤ b31 := by rw [W33.eq]; exact GI14.size
    have l35 : ∀ k, Value.ownBlock (.slice ra (R.length) rc) = some k → k < b31 := fun k e => by rw [W33.eq]; exact ow_in orI14 k e
    have G36 := GI14.trans W33.gr
    have z37 := Nat.le_trans zbaseI14 W33.gr.size
    have O38 := ow_gr orI14 W33.gr
    have F39 := fpsI14.tk (tks_gr W33.gr)
    refine ssR rfl (wn _ rfl) (o_stR n30.at_ (n30.ne rfl n29.at_) W33.bk (by kernel_rfl) rfl (by simp [Value.oneCell'])) W33.bk (fun w40 u41 u41b => ?_)
    have G42 : Gr w w40 := Below.upd G36 l34 u41
    have z43 : base ≤ w40.heap.size := by rw [u41.size]; exact z37
    have O44 := ow_upd_ne O38 u41 l35
    have F45 := F39.tk (tks_upd u41 W33.bk (by decide))
    refine wpList_nil ?_
    refine th_n (hK26 _ _ ?_)
    refine wp_seq_k (fun K46 hK46 => ?_)
    refine wp_region_lit ?_
    have e47 := n30.ne rfl (n29.ne rfl (n28.ne rfl (n22.ne rfl s1I14)))
    refine sv n30.ok rfl (wn _ rfl) rfl (o_mv e47) (fun an48 n48 => ?_)
    refine sv n48.ok rfl (wn _ rfl) rfl (o_ldR (n48.ne rfl n30.at_) u41b Try.underlying32 rfl (by kernel_rfl)) (fun an49 n49 => ?_)
    refine sc n49.ok rfl (wn _ rfl) rfl (o_fv1 (caps := caps) hf (n49.ne rfl n48.at_) n49.at_) (hc _ (List.mem_of_getElem? h27x) w40 G42) ?_
    rintro _ w51 ⟨rfl, g52⟩
    refine ⟨_, rfl, fun an50 n50 => ?_⟩
    have G53 := G42.trans g52
    have B54 := u41b.gr g52
    have z55 := Nat.le_trans z43 g52.size
    have O56 := ow_gr O44 g52
    have F57 := F45.tk (tks_gr g52)
    refine sv n50.ok rfl (wn _ rfl) rfl (o_notI n50.at_) (fun an58 n58 => ?_)
    refine wpList_nil ?_
    refine th_n (hK46 _ _ ?_)
    cases c59 : (!(p xh27))
    · refine wp_cond_false ((n58.at_).trans (congrArg Value.bool (c59))) ?_
      refine wp_skip ?_
      refine ib_n ?_
      refine th_n (hK25 _ _ ?_)
      refine wp_region_lit ?_
      have e60 := n58.ne rfl (n50.ne rfl (n49.ne rfl (n48.ne rfl (n30.ne rfl (n29.ne rfl (n28.ne rfl (n22.ne rfl s10I14)))))))
      refine sv n58.ok rfl (wn _ rfl) rfl (o_add (r := ((i + 1 : Nat) : Int)) e60 ev_const (by omega) (by omega)) (fun an61 n61 => ?_)
      refine sv n61.ok rfl (wn _ rfl) rfl (o_mv n61.at_) (fun an62 n62 => ?_)
      refine wpList_nil ?_
      have e63 := n62.ne rfl (n61.ne rfl (n58.ne rfl (n50.ne rfl (n49.ne rfl (n48.ne rfl e47)))))
      have e64 := n62.ne rfl (n61.ne rfl (n58.ne rfl (n50.ne rfl (n49.ne rfl (n48.ne rfl (n30.ne rfl (n29.ne rfl (n28.ne rfl (n22.ne rfl s4I14)))))))))
      have e65 := n62.ne rfl (n61.ne rfl (n58.ne rfl (n50.ne rfl (n49.ne rfl (n48.ne rfl (n30.ne rfl (n29.ne rfl (n28.ne rfl (n22.ne rfl s5I14)))))))))
      have e66 := n62.ne rfl (n61.ne rfl (n58.ne rfl (n50.ne rfl (n49.ne rfl (n48.ne rfl (n30.ne rfl (n29.ne rfl (n28.ne rfl (n22.ne rfl s8I14)))))))))
      have e67 := n62.ne rfl (n61.ne rfl (n58.ne rfl (n50.ne rfl (n49.ne rfl (n48.ne rfl (n30.ne rfl (n29.ne rfl (n28.ne rfl (n22.ne rfl s9I14)))))))))
      exact th_n (hKI14 _ _ _ (by omega) ⟨i + 1, R, ra, rc, rfl, n62.ok, G53, e63, e64, e65, e66, e67, n62.at_, F57, O56, z55, by omega, wo_skip hRI14 h27x (by simpa using c59)⟩)
    · refine wp_cond_true ((n58.at_).trans (congrArg Value.bool (c59))) ?_
      refine wp_region_lit ?_
      have e68 := n58.ne rfl (n50.ne rfl (n49.ne rfl (n48.ne rfl (n30.ne rfl (n29.ne rfl (n28.ne rfl (n22.ne rfl s5I14)))))))
      refine sv n58.ok rfl (wn _ rfl) rfl (o_mv e68) (fun an69 n69 => ?_)
      have e70 := n69.ne rfl (n58.ne rfl (n50.ne rfl (n49.ne rfl (n48.ne rfl n30.at_))))
      refine sv n69.ok rfl (wn _ rfl) rfl (o_ldR e70 B54 Try.underlying32 rfl (by kernel_rfl)) (fun an71 n71 => ?_)
      refine sc n71.ok rfl (wn _ rfl) rfl (o_f1 Try.func44 rfl rfl rfl n71.at_) (clone_any xh27 (hok _ (List.mem_of_getElem? h27x)) w51 ((hm _ (List.mem_of_getElem? h27x)).gr G53)) ?_
      rintro _ w73 ⟨y1, hy1, rfl, hk1, g74⟩
      refine ⟨_, rfl, fun an72 n72 => ?_⟩
      have G75 := G53.trans g74
      have B76 := B54.gr g74
      have z77 := Nat.le_trans z55 g74.size
      have O78 := ow_gr O56 g74
      have F79 := F57.tk (tks_gr g74)
      obtain ⟨i80, i80a, i80b, i80c⟩ := info3_of (show (Try.prog.info? 32).map (fun i => (i.zero, i.size)) = some (some (.agg #[.string (bs []), .int .i64 0, .int .i64 0, .int .i64 0, .int .i64 0, .int .i64 0, .slice none 0 0, .slice none 0 0]), 8) by kernel_rfl)
      refine sals (cs := #[.string (bs y1.d.id), .int .i64 (y1.d.s), .int .i64 (y1.d.c), .int .i64 (y1.d.t), .int .i64 (y1.d.n), .int .i64 (y1.d.b), .slice y1.va y1.d.V.length y1.vc, .slice y1.ma y1.d.M.length y1.mc]) n72.ok rfl (wn _ rfl) rfl (o_bs (vs := [(0, .agg #[.string (bs y1.d.id), .int .i64 (y1.d.s), .int .i64 (y1.d.c), .int .i64 (y1.d.t), .int .i64 (y1.d.n), .int .i64 (y1.d.b), .slice y1.va y1.d.V.length y1.vc, .slice y1.ma y1.d.M.length y1.mc])]) (by simp [n72.at_, ev_const]) Try.underlying22 i80a i80b (by rw [i80c]; rfl) (by rw [i80c]; rfl) (by rw [i80c]; kernel_rfl)) (fun an81 w83 b82 W84 n81 => ?_)
      have l85 : b31 < b82 := by rw [W84.eq]; exact B76.lt
      have l86 : w.heap.size ≤ b82 := by rw [W84.eq]; exact G75.size
      have l87 : ∀ k, Value.ownBlock (.slice ra (R.length) rc) = some k → k < b82 := fun k e => by rw [W84.eq]; exact ow_in O78 k e
      have G88 := G75.trans W84.gr
      have B89 := B76.gr W84.gr
      have z90 := Nat.le_trans z77 W84.gr.size
      have O91 := ow_gr O78 W84.gr
      have F92 := F79.tk (tks_gr W84.gr)
      have F93 := (hk1.base (Nat.le_trans z55 (Nat.le_refl _))).tk (tks_gr W84.gr)
      have e94 := n81.ne rfl (n72.ne rfl (n71.ne rfl n69.at_))
      obtain ⟨i95, i95a, i95b, i95c, i95d⟩ := info_of (show (Try.prog.info? 32).map (fun i => (i.zero, i.size, i.bytes)) = some (some (.agg #[.string (bs []), .int .i64 0, .int .i64 0, .int .i64 0, .int .i64 0, .int .i64 0, .slice none 0 0, .slice none 0 0]), 8, 104) by kernel_rfl)
      refine s_app (base := base) (n := R.length) (xs := (flatE encVr R)) (m := 1) (news := encVr y1) n81.ok (wn _ rfl) rfl Try.underlying22 i95a i95b i95c i95d rfl (by omega) e94 O91 n81.at_ rfl ((fun j u hu => by rw [add_n]; exact bk_part W84.bk (k := 0) rfl j u hu)) (encVr_ok.one y1) (by simp only [maxLen]; omega) (by omega) z90 (fun an96 w97 v98 O101 gg102 n96 => ?_)
      obtain ⟨a99, c100, rfl, c100l⟩ := ow_form O101
      have G103 := Gr.grown G88 gg102 (fun k e => Nat.le_trans l2 (ow_lt O91 k e))
      have B104 := B89.grown_ne gg102 l35
      have B105 := W84.bk.grown_ne gg102 l87
      have z106 := Nat.le_trans z90 gg102.size
      have F107 := F92.tk (tks_grown O91 gg102 (by decide))
      have F108 := F93.tk (tks_grown O91 gg102 (by decide))
      have O109 : w97.ownsRow base 32 8 (.slice a99 ((R.length + 1)) c100) ((R.length + 1)) ((flatE encVr (R ++ [y1]))) := by have h := O101; rw [← flatE_one (enc := encVr) y1, ← flatE_app] at h; exact h
      have hps110 := F107.snoc F108
      refine sv n96.ok rfl (wn _ rfl) rfl (o_as n96.at_) (fun an111 n111 => ?_)
      refine wpList_nil ?_
      refine ib_n ?_
      refine th_n (hK25 _ _ ?_)
      refine wp_region_lit ?_
      have e112 := n111.ne rfl (n96.ne rfl (n81.ne rfl (n72.ne rfl (n71.ne rfl (n69.ne rfl (n58.ne rfl (n50.ne rfl (n49.ne rfl (n48.ne rfl (n30.ne rfl (n29.ne rfl (n28.ne rfl (n22.ne rfl s10I14)))))))))))))
      refine sv n111.ok rfl (wn _ rfl) rfl (o_add (r := ((i + 1 : Nat) : Int)) e112 ev_const (by omega) (by omega)) (fun an113 n113 => ?_)
      refine sv n113.ok rfl (wn _ rfl) rfl (o_mv n113.at_) (fun an114 n114 => ?_)
      refine wpList_nil ?_
      have e115 := n114.ne rfl (n113.ne rfl (n111.ne rfl (n96.ne rfl (n81.ne rfl (n72.ne rfl (n71.ne rfl (n69.ne rfl (n58.ne rfl (n50.ne rfl (n49.ne rfl (n48.ne rfl e47)))))))))))
      have e116 := n114.ne rfl (n113.ne rfl (n111.ne rfl (n96.ne rfl (n81.ne rfl (n72.ne rfl (n71.ne rfl (n69.ne rfl (n58.ne rfl (n50.ne rfl (n49.ne rfl (n48.ne rfl (n30.ne rfl (n29.ne rfl (n28.ne rfl (n22.ne rfl s4I14)))))))))))))))
      have e117 := n114.ne rfl (n113.ne rfl (n111.ne rfl (n96.ne rfl (n81.ne rfl (n72.ne rfl (n71.ne rfl (n69.ne rfl (n58.ne rfl (n50.ne rfl (n49.ne rfl (n48.ne rfl (n30.ne rfl (n29.ne rfl (n28.ne rfl (n22.ne rfl s8I14)))))))))))))))
      have e118 := n114.ne rfl (n113.ne rfl (n111.ne rfl (n96.ne rfl (n81.ne rfl (n72.ne rfl (n71.ne rfl (n69.ne rfl (n58.ne rfl (n50.ne rfl (n49.ne rfl (n48.ne rfl (n30.ne rfl (n29.ne rfl (n28.ne rfl (n22.ne rfl s9I14)))))))))))))))
      exact th_n (hKI14 _ _ _ (by omega) ⟨i + 1, R ++ [y1], a99, c100, rfl, n114.ok, G103, e115, e116, (by simpa using (n114.ne rfl (n113.ne rfl n111.at_))), e117, e118, n114.at_, hps110, (by simpa using O109), z106, by omega, wo_step hRI14 h27x (by simpa using c59) hy1⟩)
  · refine wp_cond_false ((n22.at_).trans (congrArg Value.bool (decide_eq_false c24))) ?_
    refine wp_exit ?_
    refine th_x ?_
    refine th_x ?_
    refine ib_x ?_
    refine th_n (hK9 _ _ ?_)
    refine wp_seq_k (fun K119 hK119 => ?_)
    refine wp_region_lit ?_
    refine sv n22.ok rfl (wn _ rfl) rfl (o_mv (n22.ne rfl s5I14)) (fun an120 n120 => ?_)
    refine sv n120.ok rfl (wn _ rfl) rfl (o_as n120.at_) (fun an121 n121 => ?_)
    refine wpList_nil ?_
    refine th_n (hK119 _ _ ?_)
    refine wp_ret ?_
    exact ret1 n121.ok rfl (n121.at_) ⟨R, _, rfl, by rw [hRI14, List.take_of_length_le (by omega)], z1 ▸ orI14, z1 ▸ fpsI14, GI14⟩
set_option maxHeartbeats 8000000 in
set_option maxRecDepth 100000 in
theorem get1_any (x : VerI) (b : Nat) (l : List UInt8) (w : World) (hb : Bk w b #[.string (bs l)] 9) :
    Calls Try.prog 17 #[.agg #[.string (bs x.d.id), .int .i64 (x.d.s), .int .i64 (x.d.c), .int .i64 (x.d.t), .int .i64 (x.d.n), .int .i64 (x.d.b), .slice x.va x.d.V.length x.vc, .slice x.ma x.d.M.length x.mc], .pointer (some ⟨b, 0, none⟩)] w fun e w' => e = .returned (.bool (decide (¬ x.d.id = l))) ∧ Gr w w' := by
  refine enter (N := 8) Try.func17 rfl rfl rfl (fun a0 ok0 h0 => ?_)
  have e0_0 : a0.eval (.tmp 0) = .agg #[.string (bs x.d.id), .int .i64 (x.d.s), .int .i64 (x.d.c), .int .i64 (x.d.t), .int .i64 (x.d.n), .int .i64 (x.d.b), .slice x.va x.d.V.length x.vc, .slice x.ma x.d.M.length x.mc] := h0 0 _ rfl
  have e0_1 : a0.eval (.tmp 1) = .pointer (some ⟨b, 0, none⟩) := h0 1 _ rfl
  clear h0
  have G0 := Gr.refl w
  refine wp_seq_k (fun K1 hK1 => ?_)
  refine wp_region_lit ?_
  refine sal (cs := #[.string (bs x.d.id), .int .i64 (x.d.s), .int .i64 (x.d.c), .int .i64 (x.d.t), .int .i64 (x.d.n), .int .i64 (x.d.b), .slice x.va x.d.V.length x.vc, .slice x.ma x.d.M.length x.mc]) ok0 rfl (wn _ rfl) rfl (o_box e0_0) (fun an2 w4 b3 W5 n2 => ?_)
  have l6 : b < b3 := by rw [W5.eq]; exact hb.lt
  have l7 : w.heap.size ≤ b3 := by rw [W5.eq]; exact G0.size
  have G8 := G0.trans W5.gr
  have B9 := hb.gr W5.gr
  refine sv n2.ok rfl (wn _ rfl) rfl (o_as ev_const) (fun an10 n10 => ?_)
  refine wpList_nil ?_
  refine th_n (hK1 _ _ ?_)
  refine wp_seq_k (fun K11 hK11 => ?_)
  refine wp_region_lit ?_
  refine sv n10.ok rfl (wn _ rfl) rfl (o_fa (z := 1) (n10.ne rfl n2.at_) Try.underlying32 rfl (by kernel_rfl) rfl rfl) (fun an12 n12 => ?_)
  refine sv n12.ok rfl (wn _ rfl) rfl (o_ld n12.at_ (Try.isAgg9 _) (W5.bk.cell _ rfl)) (fun an13 n13 => ?_)
  have e14 := n13.ne rfl (n12.ne rfl (n10.ne rfl (n2.ne rfl e0_1)))
  refine sv n13.ok rfl (wn _ rfl) rfl (o_ld e14 (Try.isAgg9 _) (B9.cell _ rfl)) (fun an15 n15 => ?_)
  refine sv n15.ok rfl (wn _ rfl) rfl (o_neS (n15.ne rfl n13.at_) n15.at_) (fun an16 n16 => ?_)
  refine sv n16.ok rfl (wn _ rfl) rfl (o_as n16.at_) (fun an17 n17 => ?_)
  refine wpList_nil ?_
  refine th_n (hK11 _ _ ?_)
  refine wp_ret ?_
  exact ret1 n17.ok rfl (n17.at_) ⟨rfl, G8⟩
end Go.Proofs.Ytbpkfkljeibjoaa

/- A region that draws its order: the operations that come ahead of the others may lie anywhere in the list. -/
set_option linter.unusedVariables false
set_option linter.unusedSimpArgs false
namespace Gx
open Go Go.RowKit Rm
/-- is an operation one of those that come first? -/
def hd (hs : List Nat) (i : Nat) : Bool := hs.any fun j => Nat.beq j i
def fdH (ops : Array Oper) (hs : List Nat) : List Nat := hs.filterMap fun i => (ops[i]?).bind (·.dst)
theorem hd_mem {hs : List Nat} {i : Nat} : hd hs i = true ↔ i ∈ hs := by
  unfold hd
  rw [List.any_eq_true]
  constructor
  · rintro ⟨j, hj, e⟩; rw [← Nat.eq_of_beq_eq_true e]; exact hj
  · intro h; exact ⟨i, h, by simp⟩
theorem fdH_mem {ops : Array Oper} {hs : List Nat} {i d : Nat} {o : Oper} (ho : ops[i]? = some o) (hi : hd hs i = true) (hdst : o.dst = some d) : d ∈ fdH ops hs := by
  unfold fdH
  rw [List.mem_filterMap]
  exact ⟨i, hd_mem.1 hi, by rw [ho]; exact hdst⟩
structure PreH (ops : Array Oper) (hs : List Nat) (js : Js) (N : Nat) (a₀ : Act) (w₀ : World) (o : Oper) (a : Act) (w : World) : Prop where
  ok : Ok N a
  gr : Gr w₀ w
  old : ∀ t, (fdH ops hs).all (fun d => !Nat.beq t d) = true → a.eval (.tmp t) = a₀.eval (.tmp t)
  pre : ∀ j, waits o j = true → jAt js j (a.eval (.tmp (dstAt ops j))) w
structure RegH (P : Program) (ops : Array Oper) (Q : Exit → Act → World → Prop) (N : Nat) (a₀ : Act) (w₀ : World) (hs : List Nat) (n : Nat) (js : Js) : Prop where
  back : backs ops = true
  top : ∀ i, n ≤ i → jAt js i = fun _ _ => True
  mono : ∀ i v w w', Gr w w' → jAt js i v w → jAt js i v w'
  does : ∀ i o, i < n → hd hs i = true → ops[i]? = some o → ∀ a w, PreH ops hs js N a₀ w₀ o a w → Does P ops Q (jAt js i) o a w
section
variable {P : Program} {ops : Array Oper} {Q : Exit → Act → World → Prop} {N : Nat} {a₀ : Act} {w₀ : World} {hs : List Nat}
theorem RegH.nil (hb : backs ops = true) : RegH P ops Q N a₀ w₀ hs 0 [] := ⟨hb, fun _ _ => rfl, fun i v w w' _ _ => trivial, fun i o h => absurd h (Nat.not_lt_zero _)⟩
theorem RegH.snoc {n n' : Nat} {js : Js} (R : RegH P ops Q N a₀ w₀ hs n js) (hn : n + 1 = n') (J : Value → World → Prop) {o : Oper} (ho : ops[n]? = some o) (hm : ∀ v w w', Gr w w' → J v w → J v w')
    (h : ∀ a w, PreH ops hs js N a₀ w₀ o a w → Does P ops Q J o a w) : RegH P ops Q N a₀ w₀ hs n' ((n, J) :: js) where
  back := R.back
  top i hi := by rw [jAt_ne (by omega)]; exact R.top i (by omega)
  mono i v w w' g hj := by
    by_cases q : n = i
    · subst q; rw [jAt_eq] at *; exact hm v w w' g hj
    · rw [jAt_ne q] at *; exact R.mono i v w w' g hj
  does i o' hi hh ho' a w p := by
    have p' : PreH ops hs js N a₀ w₀ o' a w := by
      refine ⟨p.ok, p.gr, p.old, fun j hj => ?_⟩
      have h1 := p.pre j hj
      have hlt : j < n := by
        unfold waits at hj
        obtain ⟨e, he, hh⟩ := List.any_eq_true.1 hj
        have h2 := backs_spec R.back i o' ho' e (by simpa using he) (Bool.and_eq_true_iff.1 hh).1
        simp only [Bool.and_eq_true] at hh
        have h3 := Nat.eq_of_beq_eq_true hh.2
        omega
      rwa [jAt_ne (by omega)] at h1
    by_cases q : n = i
    · subst q
      rw [jAt_eq]
      obtain rfl : o = o' := Option.some.inj (ho.symm.trans ho')
      exact h a w p'
    · rw [jAt_ne q]
      exact R.does i o' (by omega) hh ho' a w p'
/-- an operation that does not come first -/
theorem RegH.skip {n n' : Nat} {js : Js} (R : RegH P ops Q N a₀ w₀ hs n js) (hn : n + 1 = n') (hh : hd hs n = false) : RegH P ops Q N a₀ w₀ hs n' js where
  back := R.back
  top i hi := R.top i (by omega)
  mono := R.mono
  does i o' hi hh' ho' a w p := by
    by_cases q : n = i
    · subst q; rw [hh] at hh'; cases hh'
    · exact R.does i o' (by omega) hh' ho' a w p
def shapeH (ops : Array Oper) (hs : List Nat) : Bool :=
  (hs.all fun i => ((ops[i]?).bind (·.dst)).isSome && ((hs.all fun j => Nat.beq j i || !Nat.beq (dstAt ops j) (dstAt ops i))) && (match ops[i]? with | some o => o.after.toList.all fun e => !(Region.binds .any e) || hd hs e.on | none => false)) &&
  ((List.range ops.size).all fun i => hd hs i || (hs.all fun j => reach ops ops.size i j))
def firstsH (n : Nat) (hs : List Nat) : Array Bool := ((List.range n).map fun i => hd hs i).toArray
theorem shapeH_spec (h : shapeH ops hs = true) : (∀ i, hd hs i = true → ∃ o, ops[i]? = some o ∧ o.dst = some (dstAt ops i) ∧ ∀ e ∈ o.after, Region.binds .any e = true → hd hs e.on = true) ∧
    (∀ i j, hd hs i = true → hd hs j = true → i ≠ j → dstAt ops j ≠ dstAt ops i) ∧ (∀ i, i < ops.size → hd hs i = false → ∀ j, hd hs j = true → reach ops ops.size i j = true) := by
  unfold shapeH at h
  rw [Bool.and_eq_true] at h
  obtain ⟨h1, h2⟩ := h
  have key : ∀ i, hd hs i = true → (((ops[i]?).bind (·.dst)).isSome = true ∧ (∀ j, hd hs j = true → i ≠ j → dstAt ops j ≠ dstAt ops i)) ∧ (match ops[i]? with | some o => o.after.toList.all fun e => !(Region.binds .any e) || hd hs e.on | none => false) = true := by
    intro i hi
    have := List.all_eq_true.1 h1 i (hd_mem.1 hi)
    simp only [Bool.and_eq_true] at this
    refine ⟨⟨this.1.1, fun j hj hne => ?_⟩, this.2⟩
    have h3 := List.all_eq_true.1 this.1.2 j (hd_mem.1 hj)
    rw [Bool.or_eq_true] at h3
    rcases h3 with h3 | h3
    · exact absurd (Nat.eq_of_beq_eq_true h3).symm hne
    · rw [Bool.not_eq_true'] at h3
      exact Nat.ne_of_beq_eq_false h3
  refine ⟨fun i hi => ?_, fun i j hi hj hne => (key i hi).1.2 j hj hne, fun i hi hn j hj => ?_⟩
  · obtain ⟨⟨k1, -⟩, k2⟩ := key i hi
    cases ho : ops[i]? with
    | none => rw [ho] at k1; cases k1
    | some o =>
      refine ⟨o, rfl, ?_, fun e he hb => ?_⟩
      · rw [ho] at k1
        simp only [Option.bind_some] at k1
        obtain ⟨d, hd'⟩ := Option.isSome_iff_exists.1 k1
        unfold dstAt
        rw [ho]
        simp [hd']
      · rw [ho] at k2
        have := List.all_eq_true.1 k2 e (by simpa using he)
        rw [hb] at this
        simpa using this
  · have := List.all_eq_true.1 h2 i (List.mem_range.2 hi)
    rw [hn, Bool.false_or] at this
    exact List.all_eq_true.1 this j (hd_mem.1 hj)
structure PostH (ops : Array Oper) (hs : List Nat) (js : Js) (N : Nat) (a₀ : Act) (w₀ : World) (a : Act) (w : World) : Prop where
  ok : Ok N a
  gr : Gr w₀ w
  old : ∀ t, (fdH ops hs).all (fun d => !Nat.beq t d) = true → a.eval (.tmp t) = a₀.eval (.tmp t)
  js : ∀ j, hd hs j = true → jAt js j (a.eval (.tmp (dstAt ops j))) w
  dis : ∀ i j b b', hd hs i = true → hd hs j = true → Nat.beq i j = false → alAt ops i = true → alAt ops j = true → a.eval (.tmp (dstAt ops i)) = .pointer (some ⟨b, 0, none⟩) → a.eval (.tmp (dstAt ops j)) = .pointer (some ⟨b', 0, none⟩) → b ≠ b'
structure WayH (ops : Array Oper) (hs : List Nat) (js : Js) (N : Nat) (a₀ : Act) (w₀ : World) (U : List Nat) (L : Array Bool) (a : Act) (w : World) : Prop where
  ok : Ok N a
  gr : Gr w₀ w
  old : ∀ t, (fdH ops hs).all (fun d => !Nat.beq t d) = true → a.eval (.tmp t) = a₀.eval (.tmp t)
  size : L.size = ops.size
  closed : Closed ops L
  nodup : U.Nodup
  un : ∀ j, hd hs j = true → (L.getD j false = false ↔ j ∈ U)
  lt : ∀ j ∈ U, hd hs j = true
  tail : ∀ j, hd hs j = false → L.getD j false = false
  js : ∀ j, hd hs j = true → L.getD j false = true → jAt js j (a.eval (.tmp (dstAt ops j))) w
  dis : ∀ i j, hd hs i = true → hd hs j = true → i ≠ j → L.getD i false = true → L.getD j false = true → alAt ops i = true → alAt ops j = true → ∃ b b', a.eval (.tmp (dstAt ops i)) = .pointer (some ⟨b, 0, none⟩) ∧ a.eval (.tmp (dstAt ops j)) = .pointer (some ⟨b', 0, none⟩) ∧ b ≠ b'
  low : ∀ i, hd hs i = true → L.getD i false = true → alAt ops i = true → ∃ b, a.eval (.tmp (dstAt ops i)) = .pointer (some ⟨b, 0, none⟩) ∧ b < w.heap.size
theorem RegH.way {n : Nat} {js : Js} (R : RegH P ops Q N a₀ w₀ hs n js) (hn0 : n = ops.size) (hsh : shapeH ops hs = true) (hN : (hs.all fun i => Nat.blt (dstAt ops i) N) = true) (k : Nat)
    (hend : ∀ a w, PostH ops hs js N a₀ w₀ a w → wpAny P .any ops Q k (firstsH ops.size hs) a w) :
    ∀ (U : List Nat) (L : Array Bool) (a : Act) (w : World), WayH ops hs js N a₀ w₀ U L a w → wpAny P .any ops Q (U.length + k) L a w := by
  obtain ⟨hdd0, hdd, ht⟩ := shapeH_spec hsh
  subst hn0
  have hb := backs_spec R.back
  intro U
  generalize hn : U.length = u0
  induction u0 generalizing U with
  | zero =>
    intro L a w W
    have hU : U = [] := List.eq_nil_of_length_eq_zero hn
    subst hU
    have hall : ∀ j, hd hs j = true → L.getD j false = true := fun j hj => by
      have := (W.un j hj)
      cases e : L.getD j false
      · rw [e] at this; exact absurd (this.1 rfl) (by simp)
      · rfl
    have hL : L = firstsH ops.size hs := by
      apply Array.ext
      · simp [firstsH, W.size]
      · intro i h1 h2
        have e1 : L[i] = L.getD i false := by simp [Array.getD, h1]
        rw [e1]
        simp only [firstsH, List.getElem_toArray, List.getElem_map, List.getElem_range]
        cases q : hd hs i
        · exact W.tail i q
        · exact hall i q
    subst hL
    rw [Nat.zero_add]
    exact hend a w ⟨W.ok, W.gr, W.old, fun j hj => W.js j hj (hall j hj), fun i j b b' hi hj hij h1 h2 e1 e2 => by
      obtain ⟨c, c', q1, q2, q3⟩ := W.dis i j hi hj (Nat.ne_of_beq_eq_false hij) (hall i hi) (hall j hj) h1 h2
      rw [e1] at q1
      rw [e2] at q2
      cases q1
      cases q2
      exact q3⟩
  | succ u0 ih =>
    intro L a w W
    rw [Nat.succ_add]
    -- the least one that is not listed may come up
    have hne : Region.ready .any ops L ≠ [] := by
      obtain ⟨u, hu⟩ : ∃ u, u ∈ U := List.exists_mem_of_length_pos (by omega)
      have hlu := W.lt u hu
      have hex : ∃ k, hd hs k = true ∧ L.getD k false = false := ⟨u, hlu, (W.un u hlu).2 hu⟩
      obtain ⟨k, ⟨hk1, hk2⟩, hk3⟩ := exists_least hex
      obtain ⟨o, ho, -, hcl⟩ := hdd0 k hk1
      have hki : k < L.size := by rw [W.size]; exact (Array.getElem?_eq_some_iff.1 ho).1
      have : k ∈ Region.ready .any ops L := by
        rw [mem_ready]
        refine ⟨by rw [getD_lt hki true false]; exact hk2, o, ho, fun e he hbd => ?_⟩
        have hlt := hb k o ho e he hbd
        cases q : L.getD e.on false
        · have := hk3 e.on ⟨hcl e he hbd, q⟩; omega
        · rfl
      intro e
      rw [e] at this
      cases this
    refine ⟨fun h => absurd h hne, fun i hi => ?_⟩
    obtain ⟨hil, o, ho, hall⟩ := mem_ready.1 hi
    have his : i < ops.size := (Array.getElem?_eq_some_iff.1 ho).1
    have hiL : i < L.size := by rw [W.size]; exact his
    have hil' : L.getD i false = false := by rw [getD_lt hiL false true]; exact hil
    have him : hd hs i = true := by
      cases q : hd hs i
      · exfalso
        obtain ⟨u, hu⟩ : ∃ u, u ∈ U := List.exists_mem_of_length_pos (by omega)
        have hlu := W.lt u hu
        have h1 := reach_listed W.closed ops.size i u (fun o' ho' e he hbd => by
          obtain rfl : o = o' := Option.some.inj (ho.symm.trans ho')
          exact hall e he hbd) (ht i his q u hlu)
        rw [(W.un u hlu).2 hu] at h1
        cases h1
      · rfl
    have hiU : i ∈ U := (W.un i him).1 hil'
    obtain ⟨o', ho', hdst, hcl⟩ := hdd0 i him
    obtain rfl : o = o' := Option.some.inj (ho.symm.trans ho')
    have hdoes := R.does i o his him ho a w ⟨W.ok, W.gr, W.old, fun j hj => by
        unfold waits at hj
        obtain ⟨e, he, hh⟩ := List.any_eq_true.1 hj
        have he : e ∈ o.after := by simpa using he
        simp only [Bool.and_eq_true] at hh
        have h2 := Nat.eq_of_beq_eq_true hh.2
        have h3 := hall e he hh.1
        rw [h2] at h3
        have hjh := hcl e he hh.1
        rw [h2] at hjh
        exact W.js j hjh h3⟩
    have hdN : Nat.blt (dstAt ops i) N = true := List.all_eq_true.1 hN i (hd_mem.1 him)
    have next : ∀ v w', Gr w w' → jAt js i v w' → (isAl o = true → v = .pointer (some ⟨w.heap.size, 0, none⟩) ∧ w.heap.size < w'.heap.size) → wpAny P .any ops Q (u0 + k) (L.setIfInBounds i true) (a.put o.dst v) w' := by
      intro v w' g hJ hA
      rw [hdst]
      have nx := Nx.put W.ok hdN v
      refine ih (U.erase i) (by rw [List.length_erase_of_mem hiU, hn]; rfl) (L.setIfInBounds i true) _ w' ?_
      refine ⟨nx.ok, W.gr.trans g, fun t ht => ?_, by simp [W.size], ?_, W.nodup.erase _, ?_, fun j hj => W.lt j (List.mem_of_mem_erase hj), ?_, ?_, ?_, ?_⟩
      · have := List.all_eq_true.1 ht _ (fdH_mem ho him hdst)
        rw [Bool.not_eq_true'] at this
        exact (nx.oth t this).trans (W.old t ht)
      · intro k ok hk hok e he hbd
        rw [getD_set hiL] at hk ⊢
        split
        · rfl
        · by_cases q : i = k
          · subst q
            obtain rfl : o = ok := Option.some.inj (ho.symm.trans hok)
            exact hall e he hbd
          · rw [if_neg q] at hk
            exact W.closed k ok hk hok e he hbd
      · intro j hj
        rw [getD_set hiL, W.nodup.mem_erase_iff]
        by_cases q : i = j
        · subst q; simp
        · rw [if_neg q, W.un j hj]
          exact ⟨fun h => ⟨fun e => q e.symm, h⟩, fun h => h.2⟩
      · intro j hj
        rw [getD_set hiL, if_neg (fun e => by subst e; rw [him] at hj; cases hj)]
        exact W.tail j hj
      · intro j hj hl
        by_cases q : i = j
        · subst q
          rw [nx.at_]
          exact hJ
        · rw [getD_set hiL, if_neg q] at hl
          have h1 := W.js j hj hl
          rw [nx.oth _ (by
            have := hdd i j him hj q
            cases e : Nat.beq (dstAt ops j) (dstAt ops i)
            · rfl
            · exact absurd (Nat.eq_of_beq_eq_true e) this)]
          exact R.mono j _ _ _ g h1
      · intro j k hj hk hjk hlj hlk haj hak
        have other : ∀ j, hd hs j = true → i ≠ j → (L.setIfInBounds i true).getD j false = true → L.getD j false = true ∧ (a.put (some (dstAt ops i)) v).eval (.tmp (dstAt ops j)) = a.eval (.tmp (dstAt ops j)) := by
          intro j hj q hl
          rw [getD_set hiL, if_neg q] at hl
          refine ⟨hl, nx.oth _ ?_⟩
          have := hdd i j him hj q
          cases e : Nat.beq (dstAt ops j) (dstAt ops i)
          · rfl
          · exact absurd (Nat.eq_of_beq_eq_true e) this
        have hio : ∀ q : alAt ops i = true, isAl o = true := fun q => by unfold alAt at q; rw [ho] at q; exact q
        by_cases q1 : i = j
        · subst q1
          obtain ⟨hl, he⟩ := other k hk hjk hlk
          obtain ⟨b, h1, h2⟩ := W.low k hk hl hak
          obtain ⟨h3, h4⟩ := hA (hio haj)
          exact ⟨_, b, by rw [nx.at_, h3], by rw [he]; exact h1, by omega⟩
        · by_cases q2 : i = k
          · subst q2
            obtain ⟨hl, he⟩ := other j hj q1 hlj
            obtain ⟨b, h1, h2⟩ := W.low j hj hl haj
            obtain ⟨h3, h4⟩ := hA (hio hak)
            exact ⟨b, _, by rw [he]; exact h1, by rw [nx.at_, h3], by omega⟩
          · obtain ⟨hl, he⟩ := other j hj q1 hlj
            obtain ⟨hl', he'⟩ := other k hk q2 hlk
            obtain ⟨b, b', h1, h2, h3⟩ := W.dis j k hj hk hjk hl hl' haj hak
            exact ⟨b, b', by rw [he]; exact h1, by rw [he']; exact h2, h3⟩
      · intro j hj hl haj
        by_cases q : i = j
        · subst q
          have hio : isAl o = true := by unfold alAt at haj; rw [ho] at haj; exact haj
          obtain ⟨h3, h4⟩ := hA hio
          exact ⟨_, by rw [nx.at_, h3], h4⟩
        · rw [getD_set hiL, if_neg q] at hl
          obtain ⟨b, h1, h2⟩ := W.low j hj hl haj
          refine ⟨b, ?_, Nat.lt_of_lt_of_le h2 g.le⟩
          rw [nx.oth _ (by
            have := hdd i j him hj q
            cases e : Nat.beq (dstAt ops j) (dstAt ops i)
            · rfl
            · exact absurd (Nat.eq_of_beq_eq_true e) this)]
          exact h1
    unfold wpOp
    rw [ho]
    unfold Does at hdoes
    by_cases hw : Region.wanted o (yielded ops a.tmps) = true
    · rw [if_pos hw] at hdoes
      simp only [hw, if_true]
      left
      refine Oper.wp_mono ?_ hdoes
      rintro a' w' ⟨v, rfl, g, hj, hA⟩
      exact next v w' g hj hA
    · rw [if_neg hw] at hdoes
      simp only [hw, if_false, Bool.false_eq_true]
      exact next undef w (Gr.refl w) hdoes.1 (fun e => by rw [hdoes.2] at e; cases e)
/-- a region that draws its order -/
theorem RegH.run {id n : Nat} {js : Js} {a : Act} {w : World} (R : RegH P ops Q N a w.drew hs n js) (hn : ops.size = n) {k : Nat} {L : Array Bool} (hk : ((List.range n).filter fun i => hd hs i).length + k = n) (hL : firstsH n hs = L) (hf : P.follows .mixedOrders = true) (ok : Ok N a) (hsh : shapeH ops hs = true) (hN : (hs.all fun i => Nat.blt (dstAt ops i) N) = true)
    (hend : ∀ a' w', PostH ops hs js N a w.drew a' w' → wpAny P .any ops Q k L a' w') : (Code.region id ops true).wp P Q a w := by
  subst hn hL
  refine wp_region_any hf ?_
  obtain ⟨hdd0, -, -⟩ := shapeH_spec hsh
  have hmem : ∀ j, hd hs j = true → j ∈ (List.range ops.size).filter fun i => hd hs i := fun j hj => by
    obtain ⟨o, ho, -⟩ := hdd0 j hj
    exact List.mem_filter.2 ⟨List.mem_range.2 (Array.getElem?_eq_some_iff.1 ho).1, hj⟩
  have h := R.way rfl hsh hN k hend ((List.range ops.size).filter fun i => hd hs i) (Array.replicate ops.size false) a w.drew
    { ok := ok, gr := Gr.refl _, old := fun _ _ => rfl, size := by simp
      closed := fun i o h => by rw [replicate_getD] at h; cases h
      nodup := List.nodup_range.filter _
      un := fun j hj => by rw [replicate_getD]; simp only [true_iff]; exact hmem j hj
      lt := fun j hj => (List.mem_filter.1 hj).2
      tail := fun j _ => replicate_getD _ _
      js := fun j _ h => by rw [replicate_getD] at h; cases h
      dis := fun i j _ _ _ h => by rw [replicate_getD] at h; cases h
      low := fun i _ h => by rw [replicate_getD] at h; cases h }
  rw [hk] at h
  exact h
end
end Gx

/- Copies of cells into rows of one's own; rows that grow by zeros. -/
set_option linter.unusedVariables false
set_option linter.unusedSimpArgs false
namespace Gx
open Go Go.RowKit Rm
section
variable {E : Type} {enc : E → List Value} {s : Nat}
/-- cells that are read where a row begins -/
def SrcAt (w : World) (g : Nat) (xs : List Value) : Prop := g < w.heap.size ∧ ∀ j u, xs[j]? = some u → w.cell? ⟨g, j, none⟩ = some u
theorem SrcAt.gr {w w' : World} {g : Nat} {xs : List Value} (h : SrcAt w g xs) (k : Gr w w') : SrcAt w' g xs := ⟨Nat.lt_of_lt_of_le h.1 k.size, fun j u hu => (k.cells.1 g _ h.1).trans (h.2 j u hu)⟩
theorem SrcAt.ne {w w' : World} {g : Nat} {xs : List Value} {r : Option Nat} (h : SrcAt w g xs) (k : w.grownBy w' r) (hr : r ≠ some g) : SrcAt w' g xs := ⟨Nat.lt_of_lt_of_le h.1 k.size, fun j u hu => by
  have e := k.block g h.1 (fun q => hr q.symm)
  have := h.2 j u hu
  simp only [World.cell?] at this ⊢
  rw [e]
  exact this⟩
theorem SrcAt.own {w : World} {base g n c : Nat} {e : TypeId} {xs : List Value} (h : w.ownsRow base e s (.slice (some ⟨g, 0, none⟩) n c) n xs) : SrcAt w g xs := by
  obtain ⟨h1, ⟨hv, -⟩ | ⟨g', cap, cur, hv, h3, hg, h4, h5, h6, h7⟩⟩ := h
  · cases hv
  · injection hv with e1 e2 e3
    injection e1 with e1
    injection e1 with e1
    subst e1 e3
    refine ⟨(Array.getElem?_eq_some_iff.1 hg).1, fun j u hu => ?_⟩
    have hlt : j < n * s := by rw [← h1]; exact (List.getElem?_eq_some_iff.1 hu).1
    rw [← h7, List.getElem?_take_of_lt hlt] at hu
    simp only [World.cell?, hg]
    simpa using hu
theorem SrcAt.part {w : World} {g o : Nat} {xs cs : List Value} (h : SrcAt w g xs) (hc : ∀ j u, cs[j]? = some u → xs[o + j]? = some u) : ∀ j v, cs[j]? = some v → w.cell? ((⟨g, o, none⟩ : Addr).add j) = some v := fun j v hv => by
  rw [add_n]
  exact h.2 _ _ (hc j v hv)
end
end Gx

/- Stores as plain data: the order, what Put, Drop, Get leave. -/
set_option linter.unusedVariables false
set_option linter.unusedSimpArgs false
namespace Rm
open Go Go.RowKit Gx
theorem bl_irr : ∀ l : List UInt8, Op.bytesLess l l = false
  | [] => rfl
  | a :: l => by simp [Op.bytesLess, bl_irr l]
theorem bl_trans : ∀ a b c : List UInt8, Op.bytesLess a b = true → Op.bytesLess b c = true → Op.bytesLess a c = true
  | _, [], _, h, _ => by simp [Op.bytesLess] at h
  | _, _ :: _, [], _, k => by simp [Op.bytesLess] at k
  | [], _ :: _, _ :: _, _, _ => rfl
  | x :: a, y :: b, z :: c, h, k => by
    simp only [Op.bytesLess, Bool.or_eq_true, decide_eq_true_eq, Bool.and_eq_true, beq_iff_eq, UInt8.lt_iff_toNat_lt] at h k ⊢
    rcases h with h | ⟨rfl, h⟩
    · rcases k with k | ⟨rfl, k⟩
      · exact .inl (by omega)
      · exact .inl h
    · rcases k with k | ⟨rfl, k⟩
      · exact .inl k
      · exact .inr ⟨rfl, bl_trans a b c h k⟩
theorem cmpS_lt (l m : List UInt8) : cmpS l m < 0 ↔ Op.bytesLess l m = true := by
  unfold cmpS
  by_cases h : Op.bytesLess l m = true
  · rw [if_pos h]; simp [h]
  · rw [if_neg h]
    split <;> simp [h]
theorem cmpS_eq (l m : List UInt8) : cmpS l m = 0 ↔ l = m := by
  unfold cmpS
  by_cases h : Op.bytesLess l m = true
  · rw [if_pos h]
    refine ⟨fun q => by simp at q, fun q => ?_⟩
    rw [q, bl_irr] at h; cases h
  · rw [if_neg h]
    have h' : Op.bytesLess l m = false := by simpa using h
    by_cases e : l = m
    · simp [e, bl_irr]
    · simp [e, h']
theorem orC_lt (x y : Int) : orC x y < 0 ↔ x < 0 ∨ x = 0 ∧ y < 0 := by
  unfold orC
  by_cases h : x = 0
  · simp [h]
  · rw [if_pos (by simpa using h)]; simp [h]
theorem ci_lt (x y : Int) : Lib.compareInt x y < 0 ↔ x < y := by
  rcases cmpInt_cases x y with ⟨e, h⟩ | ⟨e, h⟩ | ⟨e, h⟩ <;> rw [e] <;> omega
theorem ci_eq (x y : Int) : Lib.compareInt x y = 0 ↔ x = y := by
  rcases cmpInt_cases x y with ⟨e, h⟩ | ⟨e, h⟩ | ⟨e, h⟩ <;> rw [e] <;> omega
def ltV (a b : VerD) : Prop := Op.bytesLess a.id b.id = true ∨ a.id = b.id ∧ (a.s < b.s ∨ a.s = b.s ∧ a.c < b.c)
def keyV (a b : VerD) : Prop := a.id = b.id ∧ a.s = b.s ∧ a.c = b.c
theorem cmpV_lt (a b : VerD) : cmpV a b < 0 ↔ ltV a b := by unfold cmpV ltV; rw [orC_lt, orC_lt, cmpS_lt, cmpS_eq, ci_lt, ci_eq, ci_lt]
theorem ltV_irr (a : VerD) : ¬ ltV a a := by
  unfold ltV
  rw [bl_irr]
  simp
theorem ltV_trans {a b c : VerD} (h : ltV a b) (k : ltV b c) : ltV a c := by
  unfold ltV at *
  rcases h with h | ⟨h, h'⟩
  · rcases k with k | ⟨k, k'⟩
    · exact .inl (bl_trans _ _ _ h k)
    · exact .inl (by rw [← k]; exact h)
  · rcases k with k | ⟨k, k'⟩
    · exact .inl (by rw [h]; exact k)
    · exact .inr ⟨h.trans k, by omega⟩
/-- a store that may be -/
structure OkS (L : List VerD) : Prop where
  len : L.length ≤ 60
  one : ∀ x ∈ L, chkOne x = 0
  sort : L.Pairwise ltV
  apart : ∀ v ∈ L, ∀ x ∈ L, ovB v x = false
theorem chkRow_sort : ∀ {L : List VerD} {p : Option VerD}, chkRow p L = 0 → (∀ x ∈ L, chkOne x = 0) ∧ L.Pairwise ltV ∧ ∀ y, p = some y → ∀ x ∈ L, ltV y x
  | [], p, _ => ⟨fun x hx => (by cases hx), List.Pairwise.nil, fun y _ x hx => (by cases hx)⟩
  | a :: L, p, h => by
    unfold chkRow at h
    by_cases h1 : chkOne a = 0
    · rw [if_pos h1] at h
      by_cases h2 : (p.any fun y => decide (0 ≤ cmpV y a)) = true
      · rw [if_pos h2] at h; cases h
      · rw [if_neg h2] at h
        obtain ⟨k1, k2, k3⟩ := chkRow_sort h
        refine ⟨fun x hx => ?_, List.Pairwise.cons (fun x hx => k3 a rfl x hx) k2, fun y hy x hx => ?_⟩
        · rcases List.mem_cons.1 hx with rfl | hx
          · exact h1
          · exact k1 x hx
        · subst hy
          have hya : ltV y a := by
            rw [← cmpV_lt]
            simp only [Option.any_some, decide_eq_true_eq] at h2
            omega
          rcases List.mem_cons.1 hx with rfl | hx
          · exact hya
          · exact ltV_trans hya (k3 a rfl x hx)
    · rw [if_neg h1] at h
      exact absurd h h1
theorem chkRow_of : ∀ {L : List VerD} {p : Option VerD}, (∀ x ∈ L, chkOne x = 0) → L.Pairwise ltV → (∀ y, p = some y → ∀ x ∈ L, ltV y x) → chkRow p L = 0
  | [], _, _, _, _ => rfl
  | a :: L, p, h1, h2, h3 => by
    unfold chkRow
    rw [if_pos (h1 a (List.mem_cons_self ..)), if_neg]
    · refine chkRow_of (fun x hx => h1 x (List.mem_cons_of_mem _ hx)) (List.pairwise_cons.1 h2).2 (fun y hy x hx => ?_)
      cases hy
      exact (List.pairwise_cons.1 h2).1 x hx
    · cases p with
      | none => simp
      | some y =>
        have := (cmpV_lt y a).2 (h3 y rfl a (List.mem_cons_self ..))
        simp only [Option.any_some, decide_eq_true_eq]
        omega
theorem okS_iff (L : List VerD) : chkShf L = 0 ↔ OkS L := by
  unfold chkShf
  constructor
  · intro h
    by_cases h1 : 60 < L.length
    · rw [if_pos h1] at h; cases h
    · rw [if_neg h1] at h
      by_cases h2 : chkRow none L = 0
      · rw [if_pos h2] at h
        by_cases h3 : (L.any fun v => L.any fun x => ovB v x) = true
        · rw [if_pos h3] at h; cases h
        · obtain ⟨k1, k2, -⟩ := chkRow_sort h2
          refine ⟨by omega, k1, k2, fun v hv x hx => ?_⟩
          cases q : ovB v x
          · rfl
          · exact absurd (List.any_eq_true.2 ⟨v, hv, List.any_eq_true.2 ⟨x, hx, q⟩⟩) h3
      · rw [if_neg h2] at h; exact absurd h h2
  · intro h
    rw [if_neg (by have := h.len; omega), if_pos (chkRow_of h.one h.sort (fun y hy => by cases hy)), if_neg]
    intro q
    obtain ⟨v, hv, q⟩ := List.any_eq_true.1 q
    obtain ⟨x, hx, q⟩ := List.any_eq_true.1 q
    rw [h.apart v hv x hx] at q
    cases q
theorem ovB_self {y : VerD} (h : chkOne y = 0) : ovB y y = false := by
  unfold ovB
  rw [(chkOne_zero h).2.2.2]
  simp
end Rm
namespace Go.Proofs.Ytbpkfkljeibjoaa
open Go.RowKit Rm Gx
/-- an answer: versions in new memory -/
def ResV (base : Nat) (w : World) (u : Value) (L : List VerD) : Prop := ∃ R : List VerI, R.map VerI.d = L ∧ w.ownsRow base 32 8 u R.length (flatE encVr R) ∧ OwnsVr base w R
theorem ResV.nil (base : Nat) (w : World) : ResV base w (.slice none 0 0) [] := ⟨[], rfl, World.ownsRow_nil _ _ _ _, fun x hx => by cases hx⟩
end Go.Proofs.Ytbpkfkljeibjoaa

/- shelf.Put, Drop, Get. -/
set_option linter.unusedVariables false
set_option linter.unusedSimpArgs false
namespace Rm
open Go Go.RowKit Gx
theorem map_at {K : List VerI} {j : Nat} {x : VerI} (h : K[j]? = some x) : (K.map VerI.d)[j]? = some x.d := by rw [List.getElem?_map, h]; rfl
theorem filt_map (K : List VerI) (p : VerD → Bool) : (K.filter fun x => p x.d).map VerI.d = (K.map VerI.d).filter p := by
  induction K with
  | nil => rfl
  | cons a K ih =>
    rw [List.map_cons, List.filter_cons, List.filter_cons]
    cases h : p a.d <;> simp [h, ih]
end Rm
namespace Go.Proofs.Ytbpkfkljeibjoaa
open Go.RowKit Rm Gx
theorem ow_lessb {w : World} {base base' s n : Nat} {e : TypeId} {v : Value} {xs : List Value} (h : w.ownsRow base e s v n xs) (hb : base' ≤ base) : w.ownsRow base' e s v n xs := by
  obtain ⟨h1, h2 | ⟨g, cap, cur, h3, h4, h5⟩⟩ := h
  · exact ⟨h1, .inl h2⟩
  · exact ⟨h1, .inr ⟨g, cap, cur, h3, Nat.le_trans hb h4, h5⟩⟩
theorem OwnsVr.ins {base : Nat} {w : World} {R : List VerI} {y : VerI} (h : OwnsVr base w R) (hy : OwnVr base w y) (i : Nat) : OwnsVr base w (R.take i ++ y :: R.drop i) := fun x hx => by
  rcases List.mem_append.1 hx with hx | hx
  · exact h x (List.mem_of_mem_take hx)
  · rcases List.mem_cons.1 hx with rfl | hx
    · exact hy
    · exact h x (List.mem_of_mem_drop hx)
end Go.Proofs.Ytbpkfkljeibjoaa

/- reedkeep.Within, set, knowBegun. -/
set_option linter.unusedVariables false
set_option linter.unusedSimpArgs false
namespace Rm
open Go Go.RowKit Gx
/-- what Within makes of an integer -/
def wi (k : Int) (n : Nat) : Nat := (k % 18446744073709551616).toNat % n
theorem wi_lt (k : Int) (n : Nat) (h : 0 < n) : wi k n < n := Nat.mod_lt _ h
/-- slices of integers, in a slice -/
def RdLL (w : World) (v : Value) (L : List (List Int)) : Prop :=
  ∃ a c, v = .slice a L.length c ∧ L.length ≤ c ∧ (L ≠ [] → ∃ b off, a = some ⟨b, off, none⟩ ∧ b < w.heap.size ∧ ∀ i x, L[i]? = some x → ∃ ua uc, w.cell? ⟨b, off + i * 1, none⟩ = some (.slice ua x.length uc) ∧ RdI1 w ua x)
theorem RdI1.gr {w w' : World} {a : Option Addr} {V : List Int} (h : RdI1 w a V) (g : Gr w w') : RdI1 w' a V := fun hn => by
  obtain ⟨b, off, h1, h2, h3⟩ := h hn
  exact ⟨b, off, h1, Nat.lt_of_lt_of_le h2 g.le, fun i x hx => (g.cells.1 b _ h2).trans (h3 i x hx)⟩
theorem RdLL.gr {w w' : World} {v : Value} {L : List (List Int)} (h : RdLL w v L) (g : Gr w w') : RdLL w' v L := by
  obtain ⟨a, c, e, hc, h⟩ := h
  refine ⟨a, c, e, hc, fun hn => ?_⟩
  obtain ⟨b, off, h1, h2, h3⟩ := h hn
  refine ⟨b, off, h1, Nat.lt_of_lt_of_le h2 g.le, fun i x hx => ?_⟩
  obtain ⟨ua, uc, q1, q2⟩ := h3 i x hx
  exact ⟨ua, uc, (g.cells.1 b _ h2).trans q1, q2.gr g⟩
/-- the dot that two integers name -/
def dotOf (c : List Int) : Option (Nat × Nat) := match c with
  | x :: y :: _ => some (wi x 5, 1 + wi y 12)
  | _ => none
def setN (L : List (List Int)) : List (Nat × Nat) := (L.take 40).filterMap dotOf
def setD (L : List (List Int)) : DS := fun s c => (setN L).contains (s, c)
theorem dotOf_in {c : List Int} {d : Nat × Nat} (h : dotOf c = some d) : d.1 < 5 ∧ 1 ≤ d.2 ∧ d.2 ≤ 12 := by
  match c, h with
  | x :: y :: _, h =>
    simp [dotOf] at h
    subst h
    have h1 := wi_lt x 5 (by omega)
    have h2 := wi_lt y 12 (by omega)
    simp only
    omega
theorem setN_in {L : List (List Int)} {d : Nat × Nat} (h : d ∈ setN L) : d.1 < 5 ∧ 1 ≤ d.2 ∧ d.2 ≤ 12 := by
  obtain ⟨c, _, hc⟩ := List.mem_filterMap.1 h
  exact dotOf_in hc
theorem setD_small (L : List (List Int)) : ∀ s c, setD L s c = true → s < 5 ∧ 1 ≤ c ∧ c ≤ 12 := fun s c h => by
  have : (s, c) ∈ setN L := by simpa [setD] using h
  exact setN_in this
end Rm
namespace Go.Proofs.Ytbpkfkljeibjoaa
open Go.RowKit Rm Gx
end Go.Proofs.Ytbpkfkljeibjoaa

/- SameVersion, SameShelf, shelfBegun; Put at every input. -/
set_option linter.unusedVariables false
set_option linter.unusedSimpArgs false
namespace Rm
open Go Go.RowKit Gx
def sameVB (a b : VerD) : Bool := decide (a.id = b.id) && decide (a.s = b.s ∧ a.c = b.c) && decide (a.t = b.t ∧ a.n = b.n) && decide (a.b = b.b) && decide (a.V = b.V ∧ a.M = b.M)
theorem sameVB_iff (a b : VerD) : sameVB a b = true ↔ a = b := by
  unfold sameVB
  simp only [Bool.and_eq_true, decide_eq_true_eq]
  constructor
  · rintro ⟨⟨⟨⟨h1, h2, h3⟩, h4, h5⟩, h6⟩, h7, h8⟩
    cases a; cases b
    simp_all
  · rintro rfl
    simp
/-- the same versions, place by place -/
def eqS : List VerD → List VerD → Bool
  | [], [] => true
  | a :: K, b :: L => sameVB a b && eqS K L
  | _, _ => false
theorem eqS_iff : ∀ K L : List VerD, eqS K L = true ↔ K = L
  | [], [] => by simp [eqS]
  | [], _ :: _ => by simp [eqS]
  | _ :: _, [] => by simp [eqS]
  | a :: K, b :: L => by simp [eqS, sameVB_iff, eqS_iff K L]
theorem eqS_true {K L : List VerI} (hl : K.length = L.length) (h : ∀ (j : Nat) (x y : VerI), K[j]? = some x → L[j]? = some y → sameVB x.d y.d = true) : eqS (K.map VerI.d) (L.map VerI.d) = true := by
  rw [eqS_iff]
  refine List.ext_getElem? fun j => ?_
  rw [List.getElem?_map, List.getElem?_map]
  by_cases q : j < K.length
  · have q' : j < L.length := by omega
    rw [List.getElem?_eq_getElem q, List.getElem?_eq_getElem q']
    simp only [Option.map_some]
    rw [(sameVB_iff _ _).1 (h j _ _ (List.getElem?_eq_getElem q) (List.getElem?_eq_getElem q'))]
  · rw [List.getElem?_eq_none (by omega), List.getElem?_eq_none (by omega)]
theorem eqS_len {K L : List VerI} (hl : ¬ K.length = L.length) : eqS (K.map VerI.d) (L.map VerI.d) = false := by
  cases h : eqS (K.map VerI.d) (L.map VerI.d)
  · rfl
  · rw [eqS_iff] at h
    exact absurd (by simpa using congrArg List.length h) hl
theorem eqS_at {K L : List VerI} {j : Nat} {x y : VerI} (hx : K[j]? = some x) (hy : L[j]? = some y) (h : sameVB x.d y.d = false) : eqS (K.map VerI.d) (L.map VerI.d) = false := by
  cases e : eqS (K.map VerI.d) (L.map VerI.d)
  · rfl
  · rw [eqS_iff] at e
    have h2 := congrArg (fun l => l[j]?) e
    simp only [map_at hx, map_at hy] at h2
    injection h2 with h2
    rw [h2, (sameVB_iff _ _).2 rfl] at h
    cases h
theorem chk_small {V : List Int} {M : List (Int × Int)} (h : chkK V M = 0) : V.length ≤ 100000 ∧ M.length ≤ 100000 := by
  obtain ⟨v, m, rfl, rfl, ok, hl⟩ := chkK_zero h
  rw [ints_len, pairs_len]
  have := ok.len
  exact ⟨by omega, by omega⟩
instance : DecidableEq VerD := fun a b => decidable_of_iff (sameVB a b = true) (sameVB_iff a b)
end Rm
namespace Go.Proofs.Ytbpkfkljeibjoaa
open Go.RowKit Rm Gx
set_option maxHeartbeats 8000000 in
set_option maxRecDepth 100000 in
theorem samev_any (x y : VerI) (hlx : x.d.V.length ≤ 100000 ∧ x.d.M.length ≤ 100000) (w : World) (hx : MeanV w x) (hy : MeanV w y) :
    Calls Try.prog 43 #[.agg #[.string (bs x.d.id), .int .i64 (x.d.s), .int .i64 (x.d.c), .int .i64 (x.d.t), .int .i64 (x.d.n), .int .i64 (x.d.b), .slice x.va x.d.V.length x.vc, .slice x.ma x.d.M.length x.mc], .agg #[.string (bs y.d.id), .int .i64 (y.d.s), .int .i64 (y.d.c), .int .i64 (y.d.t), .int .i64 (y.d.n), .int .i64 (y.d.b), .slice y.va y.d.V.length y.vc, .slice y.ma y.d.M.length y.mc]] w fun e w' => e = .returned (.bool (sameVB x.d y.d)) ∧ Gr w w' := by
  refine enter (N := 38) Try.func43 rfl rfl rfl (fun a0 ok0 h0 => ?_)
  have e0_0 : a0.eval (.tmp 0) = .agg #[.string (bs x.d.id), .int .i64 (x.d.s), .int .i64 (x.d.c), .int .i64 (x.d.t), .int .i64 (x.d.n), .int .i64 (x.d.b), .slice x.va x.d.V.length x.vc, .slice x.ma x.d.M.length x.mc] := h0 0 _ rfl
  have e0_1 : a0.eval (.tmp 1) = .agg #[.string (bs y.d.id), .int .i64 (y.d.s), .int .i64 (y.d.c), .int .i64 (y.d.t), .int .i64 (y.d.n), .int .i64 (y.d.b), .slice y.va y.d.V.length y.vc, .slice y.ma y.d.M.length y.mc] := h0 1 _ rfl
  clear h0
  have G0 := Gr.refl w
  refine wp_seq_k (fun K1 hK1 => ?_)
  refine wp_region_lit ?_
  refine sal (cs := #[.string (bs x.d.id), .int .i64 (x.d.s), .int .i64 (x.d.c), .int .i64 (x.d.t), .int .i64 (x.d.n), .int .i64 (x.d.b), .slice x.va x.d.V.length x.vc, .slice x.ma x.d.M.length x.mc]) ok0 rfl (wn _ rfl) rfl (o_box e0_0) (fun an2 w4 b3 W5 n2 => ?_)
  have l6 : w.heap.size ≤ b3 := by rw [W5.eq]; exact G0.size
  have G7 := G0.trans W5.gr
  refine sal (cs := #[.string (bs y.d.id), .int .i64 (y.d.s), .int .i64 (y.d.c), .int .i64 (y.d.t), .int .i64 (y.d.n), .int .i64 (y.d.b), .slice y.va y.d.V.length y.vc, .slice y.ma y.d.M.length y.mc]) n2.ok rfl (wn _ rfl) rfl (o_box (n2.ne rfl e0_1)) (fun an8 w10 b9 W11 n8 => ?_)
  have l12 : b3 < b9 := by rw [W11.eq]; exact W5.bk.lt
  have l13 : w.heap.size ≤ b9 := by rw [W11.eq]; exact G7.size
  have G14 := G7.trans W11.gr
  have B15 := W5.bk.gr W11.gr
  refine sv n8.ok rfl (wn _ rfl) rfl (o_as ev_const) (fun an16 n16 => ?_)
  refine wpList_nil ?_
  refine th_n (hK1 _ _ ?_)
  refine wp_seq_k (fun K17 hK17 => ?_)
  refine wp_region_lit ?_
  refine sv n16.ok rfl (wn _ rfl) rfl (o_fa (z := 1) (n16.ne rfl (n8.ne rfl n2.at_)) Try.underlying32 rfl (by kernel_rfl) rfl rfl) (fun an18 n18 => ?_)
  refine sv n18.ok rfl (wn _ rfl) rfl (o_ld n18.at_ (Try.isAgg9 _) (B15.cell _ rfl)) (fun an19 n19 => ?_)
  have e20 := n19.ne rfl (n18.ne rfl (n16.ne rfl n8.at_))
  refine sv n19.ok rfl (wn _ rfl) rfl (o_fa (z := 1) e20 Try.underlying32 rfl (by kernel_rfl) rfl rfl) (fun an21 n21 => ?_)
  refine sv n21.ok rfl (wn _ rfl) rfl (o_ld n21.at_ (Try.isAgg9 _) (W11.bk.cell _ rfl)) (fun an22 n22 => ?_)
  refine sv n22.ok rfl (wn _ rfl) rfl (o_eqS (n22.ne rfl (n21.ne rfl n19.at_)) n22.at_) (fun an23 n23 => ?_)
  refine sv n23.ok rfl (wn _ rfl) rfl (o_mv n23.at_) (fun an24 n24 => ?_)
  by_cases c25 : x.d.id = y.d.id
  · have e26 := (n24.at_).trans (congrArg Value.bool (decide_eq_true c25))
    have e27 := ((n24.ne rfl n23.at_)).trans (congrArg Value.bool (decide_eq_true c25))
    have e28 := n24.ne rfl (n23.ne rfl (n22.ne rfl (n21.ne rfl (n19.ne rfl (n18.ne rfl (n16.ne rfl (n8.ne rfl n2.at_)))))))
    refine sv n24.ok rfl (wgT rfl (yl 5 true rfl e26) rfl) rfl (o_fa (z := 2) e28 Try.underlying32 rfl (by kernel_rfl) rfl rfl) (fun an29 n29 => ?_)
    refine sv n29.ok rfl (wgT rfl (yl 5 true rfl (n29.ne rfl e26)) rfl) rfl (o_ldA (k := 1) (cs := [.int .i64 (x.d.s), .int .i64 (x.d.c)]) n29.at_ (bk_part B15 rfl) Try.underlying24 rfl (by kernel_rfl)) (fun an30 n30 => ?_)
    have e31 := n30.ne rfl (n29.ne rfl (n24.ne rfl (n23.ne rfl (n22.ne rfl (n21.ne rfl e20)))))
    refine sv n30.ok rfl (wgT rfl (yl 5 true rfl (n30.ne rfl (n29.ne rfl e26))) rfl) rfl (o_fa (z := 2) e31 Try.underlying32 rfl (by kernel_rfl) rfl rfl) (fun an32 n32 => ?_)
    have e33 := n32.ne rfl (n30.ne rfl (n29.ne rfl e26))
    refine sv n32.ok rfl (wgT rfl (yl 5 true rfl e33) rfl) rfl (o_ldA (k := 1) (cs := [.int .i64 (y.d.s), .int .i64 (y.d.c)]) n32.at_ (bk_part W11.bk rfl) Try.underlying24 rfl (by kernel_rfl)) (fun an34 n34 => ?_)
    refine sv n34.ok rfl (wgT rfl (yl 5 true rfl (n34.ne rfl e33)) rfl) rfl (o_eqA (n34.ne rfl (n32.ne rfl n30.at_)) n34.at_ (by kernel_rfl) (eq_dot _ _ _ _ _)) (fun an35 n35 => ?_)
    refine sv n35.ok rfl (wn _ rfl) rfl (o_pkT (n35.ne rfl (n34.ne rfl e33)) n35.at_) (fun an36 n36 => ?_)
    refine sv n36.ok rfl (wn _ rfl) rfl (o_mv n36.at_) (fun an37 n37 => ?_)
    by_cases c38 : x.d.s = y.d.s ∧ x.d.c = y.d.c
    · have e39 := (n37.at_).trans (congrArg Value.bool (decide_eq_true c38))
      have e40 := ((n37.ne rfl (n36.ne rfl n35.at_))).trans (congrArg Value.bool (decide_eq_true c38))
      have e41 := ((n37.ne rfl n36.at_)).trans (congrArg Value.bool (decide_eq_true c38))
      have e42 := n37.ne rfl (n36.ne rfl (n35.ne rfl (n34.ne rfl (n32.ne rfl (n30.ne rfl (n29.ne rfl e28))))))
      refine sv n37.ok rfl (wgT rfl (yl 12 true rfl e39) rfl) rfl (o_fa (z := 2) e42 Try.underlying32 rfl (by kernel_rfl) rfl rfl) (fun an43 n43 => ?_)
      refine sv n43.ok rfl (wgT rfl (yl 12 true rfl (n43.ne rfl e39)) rfl) rfl (o_ldA (k := 3) (cs := [.int .i64 (x.d.t), .int .i64 (x.d.n)]) n43.at_ (bk_part B15 rfl) Try.underlying26 rfl (by kernel_rfl)) (fun an44 n44 => ?_)
      have e45 := n44.ne rfl (n43.ne rfl (n37.ne rfl (n36.ne rfl (n35.ne rfl (n34.ne rfl (n32.ne rfl e31))))))
      refine sv n44.ok rfl (wgT rfl (yl 12 true rfl (n44.ne rfl (n43.ne rfl e39))) rfl) rfl (o_fa (z := 2) e45 Try.underlying32 rfl (by kernel_rfl) rfl rfl) (fun an46 n46 => ?_)
      have e47 := n46.ne rfl (n44.ne rfl (n43.ne rfl e39))
      refine sv n46.ok rfl (wgT rfl (yl 12 true rfl e47) rfl) rfl (o_ldA (k := 3) (cs := [.int .i64 (y.d.t), .int .i64 (y.d.n)]) n46.at_ (bk_part W11.bk rfl) Try.underlying26 rfl (by kernel_rfl)) (fun an48 n48 => ?_)
      refine sv n48.ok rfl (wgT rfl (yl 12 true rfl (n48.ne rfl e47)) rfl) rfl (o_eqA (n48.ne rfl (n46.ne rfl n44.at_)) n48.at_ (by kernel_rfl) (eq_point _ _ _ _ _)) (fun an49 n49 => ?_)
      refine sv n49.ok rfl (wn _ rfl) rfl (o_pkT (n49.ne rfl (n48.ne rfl e47)) n49.at_) (fun an50 n50 => ?_)
      refine sv n50.ok rfl (wn _ rfl) rfl (o_mv n50.at_) (fun an51 n51 => ?_)
      by_cases c52 : x.d.t = y.d.t ∧ x.d.n = y.d.n
      · have e53 := (n51.at_).trans (congrArg Value.bool (decide_eq_true c52))
        have e54 := ((n51.ne rfl (n50.ne rfl n49.at_))).trans (congrArg Value.bool (decide_eq_true c52))
        have e55 := ((n51.ne rfl n50.at_)).trans (congrArg Value.bool (decide_eq_true c52))
        have e56 := n51.ne rfl (n50.ne rfl (n49.ne rfl (n48.ne rfl (n46.ne rfl (n44.ne rfl (n43.ne rfl e42))))))
        refine sv n51.ok rfl (wgT rfl (yl 19 true rfl e53) rfl) rfl (o_fa (z := 1) e56 Try.underlying32 rfl (by kernel_rfl) rfl rfl) (fun an57 n57 => ?_)
        refine sv n57.ok rfl (wgT rfl (yl 19 true rfl (n57.ne rfl e53)) rfl) rfl (o_ld n57.at_ (Try.isAgg3 _) (B15.cell _ rfl)) (fun an58 n58 => ?_)
        have e59 := n58.ne rfl (n57.ne rfl (n51.ne rfl (n50.ne rfl (n49.ne rfl (n48.ne rfl (n46.ne rfl e45))))))
        refine sv n58.ok rfl (wgT rfl (yl 19 true rfl (n58.ne rfl (n57.ne rfl e53))) rfl) rfl (o_fa (z := 1) e59 Try.underlying32 rfl (by kernel_rfl) rfl rfl) (fun an60 n60 => ?_)
        have e61 := n60.ne rfl (n58.ne rfl (n57.ne rfl e53))
        refine sv n60.ok rfl (wgT rfl (yl 19 true rfl e61) rfl) rfl (o_ld n60.at_ (Try.isAgg3 _) (W11.bk.cell _ rfl)) (fun an62 n62 => ?_)
        refine sv n62.ok rfl (wgT rfl (yl 19 true rfl (n62.ne rfl e61)) rfl) rfl (o_eqI (n62.ne rfl (n60.ne rfl n58.at_)) n62.at_) (fun an63 n63 => ?_)
        refine sv n63.ok rfl (wn _ rfl) rfl (o_pkT (n63.ne rfl (n62.ne rfl e61)) n63.at_) (fun an64 n64 => ?_)
        refine sv n64.ok rfl (wn _ rfl) rfl (o_mv n64.at_) (fun an65 n65 => ?_)
        by_cases c66 : x.d.b = y.d.b
        · have e67 := (n65.at_).trans (congrArg Value.bool (decide_eq_true c66))
          have e68 := ((n65.ne rfl (n64.ne rfl n63.at_))).trans (congrArg Value.bool (decide_eq_true c66))
          have e69 := ((n65.ne rfl n64.at_)).trans (congrArg Value.bool (decide_eq_true c66))
          have e70 := n65.ne rfl (n64.ne rfl (n63.ne rfl (n62.ne rfl (n60.ne rfl (n58.ne rfl (n57.ne rfl e56))))))
          refine sv n65.ok rfl (wgT rfl (yl 26 true rfl e67) rfl) rfl (o_fa (z := 2) e70 Try.underlying32 rfl (by kernel_rfl) rfl rfl) (fun an71 n71 => ?_)
          refine sv n71.ok rfl (wgT rfl (yl 26 true rfl (n71.ne rfl e67)) rfl) rfl (o_ldA (k := 6) (cs := [.slice x.va x.d.V.length x.vc, .slice x.ma x.d.M.length x.mc]) n71.at_ (bk_part B15 rfl) Try.underlying30 rfl (by kernel_rfl)) (fun an72 n72 => ?_)
          have e73 := n72.ne rfl (n71.ne rfl (n65.ne rfl (n64.ne rfl (n63.ne rfl (n62.ne rfl (n60.ne rfl e59))))))
          refine sv n72.ok rfl (wgT rfl (yl 26 true rfl (n72.ne rfl (n71.ne rfl e67))) rfl) rfl (o_fa (z := 2) e73 Try.underlying32 rfl (by kernel_rfl) rfl rfl) (fun an74 n74 => ?_)
          have e75 := n74.ne rfl (n72.ne rfl (n71.ne rfl e67))
          refine sv n74.ok rfl (wgT rfl (yl 26 true rfl e75) rfl) rfl (o_ldA (k := 6) (cs := [.slice y.va y.d.V.length y.vc, .slice y.ma y.d.M.length y.mc]) n74.at_ (bk_part W11.bk rfl) Try.underlying30 rfl (by kernel_rfl)) (fun an76 n76 => ?_)
          refine sc n76.ok rfl (wgT rfl (yl 26 true rfl (n76.ne rfl e75)) rfl) rfl (o_f2 Try.func12 rfl rfl rfl (n76.ne rfl (n74.ne rfl n72.at_)) n76.at_) (sameK_p _ _ x.d.V y.d.V x.d.M y.d.M w10 (MeanV.gr hx G14) (MeanV.gr hy G14) hlx.1 hlx.2) ?_
          rintro _ w78 ⟨rfl, g79⟩
          refine ⟨_, rfl, fun an77 n77 => ?_⟩
          have G80 := G14.trans g79
          have B81 := B15.gr g79
          have B82 := W11.bk.gr g79
          refine sv n77.ok rfl (wn _ rfl) rfl (o_pkT (n77.ne rfl (n76.ne rfl e75)) n77.at_) (fun an83 n83 => ?_)
          refine sv n83.ok rfl (wn _ rfl) rfl (o_as n83.at_) (fun an84 n84 => ?_)
          refine wpList_nil ?_
          refine th_n (hK17 _ _ ?_)
          refine wp_ret ?_
          exact ret1 n84.ok rfl (n84.at_) ⟨congrArg (fun b => Ending.returned (Value.bool b)) (Eq.symm (by unfold sameVB; rw [decide_eq_true c25, decide_eq_true c38, decide_eq_true c52, decide_eq_true c66]; simp)), G80⟩
        · have e85 := (n65.at_).trans (congrArg Value.bool (decide_eq_false c66))
          have e86 := ((n65.ne rfl (n64.ne rfl n63.at_))).trans (congrArg Value.bool (decide_eq_false c66))
          have e87 := ((n65.ne rfl n64.at_)).trans (congrArg Value.bool (decide_eq_false c66))
          refine sn n65.ok rfl (wgF rfl (yl 26 false rfl e85) rfl) rfl (fun an88 n88 => ?_)
          refine sn n88.ok rfl (wgF rfl (yl 26 false rfl (n88.ne rfl e85)) rfl) rfl (fun an89 n89 => ?_)
          refine sn n89.ok rfl (wgF rfl (yl 26 false rfl (n89.ne rfl (n88.ne rfl e85))) rfl) rfl (fun an90 n90 => ?_)
          have e91 := n90.ne rfl (n89.ne rfl (n88.ne rfl e85))
          refine sn n90.ok rfl (wgF rfl (yl 26 false rfl e91) rfl) rfl (fun an92 n92 => ?_)
          refine sn n92.ok rfl (wgF rfl (yl 26 false rfl (n92.ne rfl e91)) rfl) rfl (fun an93 n93 => ?_)
          refine sv n93.ok rfl (wn _ rfl) rfl (o_pkF (n93.ne rfl (n92.ne rfl e91)) ev_const) (fun an94 n94 => ?_)
          refine sv n94.ok rfl (wn _ rfl) rfl (o_as n94.at_) (fun an95 n95 => ?_)
          refine wpList_nil ?_
          refine th_n (hK17 _ _ ?_)
          refine wp_ret ?_
          exact ret1 n95.ok rfl (n95.at_) ⟨congrArg (fun b => Ending.returned (Value.bool b)) (Eq.symm (by unfold sameVB; rw [decide_eq_true c25, decide_eq_true c38, decide_eq_true c52, decide_eq_false c66]; simp)), G14⟩
      · have e96 := (n51.at_).trans (congrArg Value.bool (decide_eq_false c52))
        have e97 := ((n51.ne rfl (n50.ne rfl n49.at_))).trans (congrArg Value.bool (decide_eq_false c52))
        have e98 := ((n51.ne rfl n50.at_)).trans (congrArg Value.bool (decide_eq_false c52))
        refine sn n51.ok rfl (wgF rfl (yl 19 false rfl e96) rfl) rfl (fun an99 n99 => ?_)
        refine sn n99.ok rfl (wgF rfl (yl 19 false rfl (n99.ne rfl e96)) rfl) rfl (fun an100 n100 => ?_)
        refine sn n100.ok rfl (wgF rfl (yl 19 false rfl (n100.ne rfl (n99.ne rfl e96))) rfl) rfl (fun an101 n101 => ?_)
        have e102 := n101.ne rfl (n100.ne rfl (n99.ne rfl e96))
        refine sn n101.ok rfl (wgF rfl (yl 19 false rfl e102) rfl) rfl (fun an103 n103 => ?_)
        refine sn n103.ok rfl (wgF rfl (yl 19 false rfl (n103.ne rfl e102)) rfl) rfl (fun an104 n104 => ?_)
        refine sv n104.ok rfl (wn _ rfl) rfl (o_pkF (n104.ne rfl (n103.ne rfl e102)) ev_const) (fun an105 n105 => ?_)
        refine sv n105.ok rfl (wn _ rfl) rfl (o_mv n105.at_) (fun an106 n106 => ?_)
        refine sn n106.ok rfl (wgF rfl (yl 26 false rfl n106.at_) rfl) rfl (fun an107 n107 => ?_)
        refine sn n107.ok rfl (wgF rfl (yl 26 false rfl (n107.ne rfl n106.at_)) rfl) rfl (fun an108 n108 => ?_)
        refine sn n108.ok rfl (wgF rfl (yl 26 false rfl (n108.ne rfl (n107.ne rfl n106.at_))) rfl) rfl (fun an109 n109 => ?_)
        have e110 := n109.ne rfl (n108.ne rfl (n107.ne rfl n106.at_))
        refine sn n109.ok rfl (wgF rfl (yl 26 false rfl e110) rfl) rfl (fun an111 n111 => ?_)
        refine sn n111.ok rfl (wgF rfl (yl 26 false rfl (n111.ne rfl e110)) rfl) rfl (fun an112 n112 => ?_)
        refine sv n112.ok rfl (wn _ rfl) rfl (o_pkF (n112.ne rfl (n111.ne rfl e110)) ev_const) (fun an113 n113 => ?_)
        refine sv n113.ok rfl (wn _ rfl) rfl (o_as n113.at_) (fun an114 n114 => ?_)
        refine wpList_nil ?_
        refine th_n (hK17 _ _ ?_)
        refine wp_ret ?_
        exact ret1 n114.ok rfl (n114.at_) ⟨congrArg (fun b => Ending.returned (Value.bool b)) (Eq.symm (by unfold sameVB; rw [decide_eq_true c25, decide_eq_true c38, decide_eq_false c52]; simp)), G14⟩
    · have e115 := (n37.at_).trans (congrArg Value.bool (decide_eq_false c38))
      have e116 := ((n37.ne rfl (n36.ne rfl n35.at_))).trans (congrArg Value.bool (decide_eq_false c38))
      have e117 := ((n37.ne rfl n36.at_)).trans (congrArg Value.bool (decide_eq_false c38))
      refine sn n37.ok rfl (wgF rfl (yl 12 false rfl e115) rfl) rfl (fun an118 n118 => ?_)
      refine sn n118.ok rfl (wgF rfl (yl 12 false rfl (n118.ne rfl e115)) rfl) rfl (fun an119 n119 => ?_)
      refine sn n119.ok rfl (wgF rfl (yl 12 false rfl (n119.ne rfl (n118.ne rfl e115))) rfl) rfl (fun an120 n120 => ?_)
      have e121 := n120.ne rfl (n119.ne rfl (n118.ne rfl e115))
      refine sn n120.ok rfl (wgF rfl (yl 12 false rfl e121) rfl) rfl (fun an122 n122 => ?_)
      refine sn n122.ok rfl (wgF rfl (yl 12 false rfl (n122.ne rfl e121)) rfl) rfl (fun an123 n123 => ?_)
      refine sv n123.ok rfl (wn _ rfl) rfl (o_pkF (n123.ne rfl (n122.ne rfl e121)) ev_const) (fun an124 n124 => ?_)
      refine sv n124.ok rfl (wn _ rfl) rfl (o_mv n124.at_) (fun an125 n125 => ?_)
      refine sn n125.ok rfl (wgF rfl (yl 19 false rfl n125.at_) rfl) rfl (fun an126 n126 => ?_)
      refine sn n126.ok rfl (wgF rfl (yl 19 false rfl (n126.ne rfl n125.at_)) rfl) rfl (fun an127 n127 => ?_)
      refine sn n127.ok rfl (wgF rfl (yl 19 false rfl (n127.ne rfl (n126.ne rfl n125.at_))) rfl) rfl (fun an128 n128 => ?_)
      have e129 := n128.ne rfl (n127.ne rfl (n126.ne rfl n125.at_))
      refine sn n128.ok rfl (wgF rfl (yl 19 false rfl e129) rfl) rfl (fun an130 n130 => ?_)
      refine sn n130.ok rfl (wgF rfl (yl 19 false rfl (n130.ne rfl e129)) rfl) rfl (fun an131 n131 => ?_)
      refine sv n131.ok rfl (wn _ rfl) rfl (o_pkF (n131.ne rfl (n130.ne rfl e129)) ev_const) (fun an132 n132 => ?_)
      refine sv n132.ok rfl (wn _ rfl) rfl (o_mv n132.at_) (fun an133 n133 => ?_)
      refine sn n133.ok rfl (wgF rfl (yl 26 false rfl n133.at_) rfl) rfl (fun an134 n134 => ?_)
      refine sn n134.ok rfl (wgF rfl (yl 26 false rfl (n134.ne rfl n133.at_)) rfl) rfl (fun an135 n135 => ?_)
      refine sn n135.ok rfl (wgF rfl (yl 26 false rfl (n135.ne rfl (n134.ne rfl n133.at_))) rfl) rfl (fun an136 n136 => ?_)
      have e137 := n136.ne rfl (n135.ne rfl (n134.ne rfl n133.at_))
      refine sn n136.ok rfl (wgF rfl (yl 26 false rfl e137) rfl) rfl (fun an138 n138 => ?_)
      refine sn n138.ok rfl (wgF rfl (yl 26 false rfl (n138.ne rfl e137)) rfl) rfl (fun an139 n139 => ?_)
      refine sv n139.ok rfl (wn _ rfl) rfl (o_pkF (n139.ne rfl (n138.ne rfl e137)) ev_const) (fun an140 n140 => ?_)
      refine sv n140.ok rfl (wn _ rfl) rfl (o_as n140.at_) (fun an141 n141 => ?_)
      refine wpList_nil ?_
      refine th_n (hK17 _ _ ?_)
      refine wp_ret ?_
      exact ret1 n141.ok rfl (n141.at_) ⟨congrArg (fun b => Ending.returned (Value.bool b)) (Eq.symm (by unfold sameVB; rw [decide_eq_true c25, decide_eq_false c38]; simp)), G14⟩
  · have e142 := (n24.at_).trans (congrArg Value.bool (decide_eq_false c25))
    have e143 := ((n24.ne rfl n23.at_)).trans (congrArg Value.bool (decide_eq_false c25))
    refine sn n24.ok rfl (wgF rfl (yl 5 false rfl e142) rfl) rfl (fun an144 n144 => ?_)
    refine sn n144.ok rfl (wgF rfl (yl 5 false rfl (n144.ne rfl e142)) rfl) rfl (fun an145 n145 => ?_)
    refine sn n145.ok rfl (wgF rfl (yl 5 false rfl (n145.ne rfl (n144.ne rfl e142))) rfl) rfl (fun an146 n146 => ?_)
    have e147 := n146.ne rfl (n145.ne rfl (n144.ne rfl e142))
    refine sn n146.ok rfl (wgF rfl (yl 5 false rfl e147) rfl) rfl (fun an148 n148 => ?_)
    refine sn n148.ok rfl (wgF rfl (yl 5 false rfl (n148.ne rfl e147)) rfl) rfl (fun an149 n149 => ?_)
    refine sv n149.ok rfl (wn _ rfl) rfl (o_pkF (n149.ne rfl (n148.ne rfl e147)) ev_const) (fun an150 n150 => ?_)
    refine sv n150.ok rfl (wn _ rfl) rfl (o_mv n150.at_) (fun an151 n151 => ?_)
    refine sn n151.ok rfl (wgF rfl (yl 12 false rfl n151.at_) rfl) rfl (fun an152 n152 => ?_)
    refine sn n152.ok rfl (wgF rfl (yl 12 false rfl (n152.ne rfl n151.at_)) rfl) rfl (fun an153 n153 => ?_)
    refine sn n153.ok rfl (wgF rfl (yl 12 false rfl (n153.ne rfl (n152.ne rfl n151.at_))) rfl) rfl (fun an154 n154 => ?_)
    have e155 := n154.ne rfl (n153.ne rfl (n152.ne rfl n151.at_))
    refine sn n154.ok rfl (wgF rfl (yl 12 false rfl e155) rfl) rfl (fun an156 n156 => ?_)
    refine sn n156.ok rfl (wgF rfl (yl 12 false rfl (n156.ne rfl e155)) rfl) rfl (fun an157 n157 => ?_)
    refine sv n157.ok rfl (wn _ rfl) rfl (o_pkF (n157.ne rfl (n156.ne rfl e155)) ev_const) (fun an158 n158 => ?_)
    refine sv n158.ok rfl (wn _ rfl) rfl (o_mv n158.at_) (fun an159 n159 => ?_)
    refine sn n159.ok rfl (wgF rfl (yl 19 false rfl n159.at_) rfl) rfl (fun an160 n160 => ?_)
    refine sn n160.ok rfl (wgF rfl (yl 19 false rfl (n160.ne rfl n159.at_)) rfl) rfl (fun an161 n161 => ?_)
    refine sn n161.ok rfl (wgF rfl (yl 19 false rfl (n161.ne rfl (n160.ne rfl n159.at_))) rfl) rfl (fun an162 n162 => ?_)
    have e163 := n162.ne rfl (n161.ne rfl (n160.ne rfl n159.at_))
    refine sn n162.ok rfl (wgF rfl (yl 19 false rfl e163) rfl) rfl (fun an164 n164 => ?_)
    refine sn n164.ok rfl (wgF rfl (yl 19 false rfl (n164.ne rfl e163)) rfl) rfl (fun an165 n165 => ?_)
    refine sv n165.ok rfl (wn _ rfl) rfl (o_pkF (n165.ne rfl (n164.ne rfl e163)) ev_const) (fun an166 n166 => ?_)
    refine sv n166.ok rfl (wn _ rfl) rfl (o_mv n166.at_) (fun an167 n167 => ?_)
    refine sn n167.ok rfl (wgF rfl (yl 26 false rfl n167.at_) rfl) rfl (fun an168 n168 => ?_)
    refine sn n168.ok rfl (wgF rfl (yl 26 false rfl (n168.ne rfl n167.at_)) rfl) rfl (fun an169 n169 => ?_)
    refine sn n169.ok rfl (wgF rfl (yl 26 false rfl (n169.ne rfl (n168.ne rfl n167.at_))) rfl) rfl (fun an170 n170 => ?_)
    have e171 := n170.ne rfl (n169.ne rfl (n168.ne rfl n167.at_))
    refine sn n170.ok rfl (wgF rfl (yl 26 false rfl e171) rfl) rfl (fun an172 n172 => ?_)
    refine sn n172.ok rfl (wgF rfl (yl 26 false rfl (n172.ne rfl e171)) rfl) rfl (fun an173 n173 => ?_)
    refine sv n173.ok rfl (wn _ rfl) rfl (o_pkF (n173.ne rfl (n172.ne rfl e171)) ev_const) (fun an174 n174 => ?_)
    refine sv n174.ok rfl (wn _ rfl) rfl (o_as n174.at_) (fun an175 n175 => ?_)
    refine wpList_nil ?_
    refine th_n (hK17 _ _ ?_)
    refine wp_ret ?_
    exact ret1 n175.ok rfl (n175.at_) ⟨congrArg (fun b => Ending.returned (Value.bool b)) (Eq.symm (by unfold sameVB; rw [decide_eq_false c25]; simp)), G14⟩
set_option maxHeartbeats 8000000 in
set_option maxRecDepth 100000 in
theorem eqf_any (K L : List VerI) (va vb : Option Addr) (vc vd : Nat) (hs : ∀ x ∈ K, x.d.V.length ≤ 100000 ∧ x.d.M.length ≤ 100000) (hl : K.length ≤ 1000000) (hl2 : L.length ≤ 9223372036854775807) (w : World) (hvK : RdA encVr 8 w va K) (hmK : MeansV w K) (hvL : RdA encVr 8 w vb L) (hmL : MeansV w L) :
    Calls Try.prog 42 #[.slice va K.length vc, .slice vb L.length vd, .func (.func 43) #[] #[]] w fun e w' => e = .returned (.bool (eqS (K.map VerI.d) (L.map VerI.d))) ∧ Gr w w' := by
  refine enter (N := 32) Try.func42 rfl rfl rfl (fun a0 ok0 h0 => ?_)
  have e0_0 : a0.eval (.tmp 0) = .slice va K.length vc := h0 0 _ rfl
  have e0_1 : a0.eval (.tmp 1) = .slice vb L.length vd := h0 1 _ rfl
  have e0_2 : a0.eval (.tmp 2) = .func (.func 43) #[] #[] := h0 2 _ rfl
  clear h0
  have G0 := Gr.refl w
  refine wp_seq_k (fun K1 hK1 => ?_)
  refine wp_region_lit ?_
  refine sv ok0 rfl (wn _ rfl) rfl (o_as ev_const) (fun an2 n2 => ?_)
  refine wpList_nil ?_
  refine th_n (hK1 _ _ ?_)
  refine wp_seq_k (fun K3 hK3 => ?_)
  refine wp_seq_k (fun K4 hK4 => ?_)
  refine wp_region_lit ?_
  refine sv n2.ok rfl (wn _ rfl) rfl (o_mv (n2.ne rfl e0_0)) (fun an5 n5 => ?_)
  refine sv n5.ok rfl (wn _ rfl) rfl (o_len n5.at_ Try.underlying22) (fun an6 n6 => ?_)
  have e7 := n6.ne rfl (n5.ne rfl (n2.ne rfl e0_1))
  refine sv n6.ok rfl (wn _ rfl) rfl (o_mv e7) (fun an8 n8 => ?_)
  refine sv n8.ok rfl (wn _ rfl) rfl (o_len n8.at_ Try.underlying22) (fun an9 n9 => ?_)
  refine sv n9.ok rfl (wn _ rfl) rfl (o_neI (n9.ne rfl (n8.ne rfl n6.at_)) n9.at_) (fun an10 n10 => ?_)
  refine wpList_nil ?_
  refine th_n (hK4 _ _ ?_)
  by_cases c11 : ¬ ((K.length : Nat) : Int) = ((L.length : Nat) : Int)
  · refine wp_cond_true ((n10.at_).trans (congrArg Value.bool (decide_eq_true c11))) ?_
    refine wp_seq_k (fun K12 hK12 => ?_)
    refine wp_region_lit ?_
    refine sv n10.ok rfl (wn _ rfl) rfl (o_as ev_const) (fun an13 n13 => ?_)
    refine wpList_nil ?_
    refine th_n (hK12 _ _ ?_)
    refine wp_ret ?_
    refine th_r ?_
    exact ret1 n13.ok rfl (n13.at_) ⟨congrArg (fun b => Ending.returned (Value.bool b)) ((eqS_len (by omega)).symm), G0⟩
  · refine wp_cond_false ((n10.at_).trans (congrArg Value.bool (decide_eq_false c11))) ?_
    refine wp_skip ?_
    refine th_n (hK3 _ _ ?_)
    refine wp_seq_k (fun K14 hK14 => ?_)
    refine wp_seq_k (fun K15 hK15 => ?_)
    refine wp_region_lit ?_
    have e16 := n10.ne rfl (n9.ne rfl (n8.ne rfl (n6.ne rfl (n5.ne rfl (n2.ne rfl e0_0)))))
    refine sv n10.ok rfl (wn _ rfl) rfl (o_mv e16) (fun an17 n17 => ?_)
    refine sv n17.ok rfl (wn _ rfl) rfl (o_len n17.at_ Try.underlying22) (fun an18 n18 => ?_)
    refine sv n18.ok rfl (wn _ rfl) rfl (o_mv ev_const) (fun an19 n19 => ?_)
    refine wpList_nil ?_
    refine th_n (hK15 _ _ ?_)
    refine wp_block ?_
    have e21 := n19.ne rfl (n18.ne rfl (n17.ne rfl (n10.ne rfl (n9.ne rfl (n8.ne rfl e7)))))
    have e22 := n19.ne rfl (n18.ne rfl (n17.ne rfl (n10.ne rfl (n9.ne rfl (n8.ne rfl (n6.ne rfl (n5.ne rfl (n2.ne rfl e0_2))))))))
    have e23 := n19.ne rfl (n18.ne rfl (n17.ne rfl (n10.ne rfl (n9.ne rfl (n8.ne rfl (n6.ne rfl (n5.ne rfl n2.at_)))))))
    refine lp (fun (nL : Nat) (aL : Act) (wL : World) => ∃ i : Nat, nL = K.length - i ∧ Ok 32 aL ∧ Gr w wL ∧ (aL.eval (.tmp 1) = .slice vb L.length vd) ∧ (aL.eval (.tmp 2) = .func (.func 43) #[] #[]) ∧ (aL.eval (.tmp 6) = .bool false) ∧ (aL.eval (.tmp 15) = .slice va K.length vc) ∧ (aL.eval (.tmp 16) = .int .i64 ((K.length : Nat) : Int)) ∧ (aL.eval (.tmp 17) = .int .i64 (i : Int)) ∧ (i ≤ K.length) ∧ (∀ (j : Nat) (x y : VerI), j < i → K[j]? = some x → L[j]? = some y → sameVB x.d y.d = true)) _ ⟨0, rfl, n19.ok, G0, e21, e22, e23, (n19.ne rfl (n18.ne rfl n17.at_)), (n19.ne rfl n18.at_), n19.at_, by omega, fun j x y hj => by omega⟩ ?_
    rintro m24 aI20 w26 ⟨i, hmI20, okI20, GI20, s1I20, s2I20, s6I20, s15I20, s16I20, s17I20, hiI20, hbI20⟩ KI20 hKI20
    refine wp_seq_k (fun K27 hK27 => ?_)
    refine wp_region_lit ?_
    refine sv okI20 rfl (wn _ rfl) rfl (o_ltI s17I20 s16I20) (fun an28 n28 => ?_)
    refine wpList_nil ?_
    refine th_n (hK27 _ _ ?_)
    refine wp_seq_k (fun K29 hK29 => ?_)
    by_cases c30 : (i : Int) < ((K.length : Nat) : Int)
    · refine wp_cond_true ((n28.at_).trans (congrArg Value.bool (decide_eq_true c30))) ?_
      refine wp_skip ?_
      refine th_n (hK29 _ _ ?_)
      refine wp_seq_k (fun K31 hK31 => ?_)
      refine wp_block ?_
      refine wp_seq_k (fun K32 hK32 => ?_)
      refine wp_region_lit ?_
      refine sv n28.ok rfl (wn _ rfl) rfl (o_mv (n28.ne rfl s17I20)) (fun an33 n33 => ?_)
      have h34l : i < List.length K := by omega
      obtain ⟨bh34, fh34, h34a, h34b, h34c⟩ := hvK (ne_nil_of_lt h34l)
      obtain ⟨xh34, h34x⟩ : ∃ x, (K)[i]? = some x := ⟨_, List.getElem?_eq_getElem h34l⟩
      refine sv n33.ok rfl (wn _ rfl) rfl (o_iaV (i := i) (s := 8) h34a (n33.ne rfl (n28.ne rfl s15I20)) (n33.ne rfl (n28.ne rfl s17I20)) Try.underlying22 (by kernel_rfl) h34l) (fun an35 n35 => ?_)
      refine sv n35.ok rfl (wn _ rfl) rfl (o_ldA (k := fh34 + i * 8) n35.at_ (cs := [.string (bs xh34.d.id), .int .i64 (xh34.d.s), .int .i64 (xh34.d.c), .int .i64 (xh34.d.t), .int .i64 (xh34.d.n), .int .i64 (xh34.d.b), .slice xh34.va xh34.d.V.length xh34.vc, .slice xh34.ma xh34.d.M.length xh34.mc]) (fun j v hv => (Below.cell GI20 h34b).trans (h34c _ _ h34x j v hv)) Try.underlying32 rfl (by kernel_rfl)) (fun an36 n36 => ?_)
      refine sal (cs := #[.string (bs []), .int .i64 0, .int .i64 0, .int .i64 0, .int .i64 0, .int .i64 0, .slice none 0 0, .slice none 0 0]) n36.ok rfl (wn _ rfl) rfl (o_al (z := .agg #[.string (bs []), .int .i64 0, .int .i64 0, .int .i64 0, .int .i64 0, .int .i64 0, .slice none 0 0, .slice none 0 0]) (by kernel_rfl)) (fun an37 w39 b38 W40 n37 => ?_)
      have l41 : w.heap.size ≤ b38 := by rw [W40.eq]; exact GI20.size
      have G42 := GI20.trans W40.gr
      have e43 := n37.ne rfl (n36.ne rfl (n35.ne rfl n33.at_))
      refine sv n37.ok rfl (wn _ rfl) rfl (o_as e43) (fun an44 n44 => ?_)
      refine ssR rfl (wn _ rfl) (o_stR (n44.ne rfl n37.at_) (n44.ne rfl (n37.ne rfl n36.at_)) W40.bk (by kernel_rfl) rfl (by simp [Value.oneCell'])) W40.bk (fun w45 u46 u46b => ?_)
      have G47 : Gr w w45 := Below.upd G42 l41 u46
      refine wpList_nil ?_
      refine th_n (hK32 _ _ ?_)
      refine wp_seq_k (fun K48 hK48 => ?_)
      refine wp_region_lit ?_
      have e49 := n44.ne rfl (n37.ne rfl (n36.ne rfl (n35.ne rfl (n33.ne rfl (n28.ne rfl s1I20)))))
      refine sv n44.ok rfl (wn _ rfl) rfl (o_mv e49) (fun an50 n50 => ?_)
      refine sv n50.ok rfl (wn _ rfl) rfl (o_mv (n50.ne rfl n44.at_)) (fun an51 n51 => ?_)
      have h52l : i < List.length L := by omega
      obtain ⟨bh52, fh52, h52a, h52b, h52c⟩ := hvL (ne_nil_of_lt h52l)
      obtain ⟨xh52, h52x⟩ : ∃ x, (L)[i]? = some x := ⟨_, List.getElem?_eq_getElem h52l⟩
      refine sv n51.ok rfl (wn _ rfl) rfl (o_iaV (i := i) (s := 8) h52a (n51.ne rfl n50.at_) n51.at_ Try.underlying22 (by kernel_rfl) h52l) (fun an53 n53 => ?_)
      refine sv n53.ok rfl (wn _ rfl) rfl (o_ldA (k := fh52 + i * 8) n53.at_ (cs := [.string (bs xh52.d.id), .int .i64 (xh52.d.s), .int .i64 (xh52.d.c), .int .i64 (xh52.d.t), .int .i64 (xh52.d.n), .int .i64 (xh52.d.b), .slice xh52.va xh52.d.V.length xh52.vc, .slice xh52.ma xh52.d.M.length xh52.mc]) (fun j v hv => (Below.cell G47 h52b).trans (h52c _ _ h52x j v hv)) Try.underlying32 rfl (by kernel_rfl)) (fun an54 n54 => ?_)
      refine sal (cs := #[.string (bs []), .int .i64 0, .int .i64 0, .int .i64 0, .int .i64 0, .int .i64 0, .slice none 0 0, .slice none 0 0]) n54.ok rfl (wn _ rfl) rfl (o_al (z := .agg #[.string (bs []), .int .i64 0, .int .i64 0, .int .i64 0, .int .i64 0, .int .i64 0, .slice none 0 0, .slice none 0 0]) (by kernel_rfl)) (fun an55 w57 b56 W58 n55 => ?_)
      have l59 : b38 < b56 := by rw [W58.eq]; exact u46b.lt
      have l60 : w.heap.size ≤ b56 := by rw [W58.eq]; exact G47.size
      have G61 := G47.trans W58.gr
      have B62 := u46b.gr W58.gr
      refine ssR rfl (wn _ rfl) (o_stR n55.at_ (n55.ne rfl n54.at_) W58.bk (by kernel_rfl) rfl (by simp [Value.oneCell'])) W58.bk (fun w63 u64 u64b => ?_)
      have G65 : Gr w w63 := Below.upd G61 l60 u64
      have B66 := B62.upd u64 (Nat.ne_of_lt l59)
      refine wpList_nil ?_
      refine th_n (hK48 _ _ ?_)
      refine wp_seq_k (fun K67 hK67 => ?_)
      refine wp_region_lit ?_
      have e68 := n55.ne rfl (n54.ne rfl (n53.ne rfl (n51.ne rfl (n50.ne rfl (n44.ne rfl (n37.ne rfl (n36.ne rfl (n35.ne rfl (n33.ne rfl (n28.ne rfl s2I20))))))))))
      refine sv n55.ok rfl (wn _ rfl) rfl (o_mv e68) (fun an69 n69 => ?_)
      have e70 := n69.ne rfl (n55.ne rfl (n54.ne rfl (n53.ne rfl (n51.ne rfl (n50.ne rfl (n44.ne rfl n37.at_))))))
      refine sv n69.ok rfl (wn _ rfl) rfl (o_ldR e70 B66 Try.underlying32 rfl (by kernel_rfl)) (fun an71 n71 => ?_)
      refine sv n71.ok rfl (wn _ rfl) rfl (o_ldR (n71.ne rfl (n69.ne rfl n55.at_)) u64b Try.underlying32 rfl (by kernel_rfl)) (fun an72 n72 => ?_)
      refine sc n72.ok rfl (wn _ rfl) rfl (o_fv2 (caps := []) ⟨_, Try.func43, rfl, rfl⟩ (n72.ne rfl (n71.ne rfl n69.at_)) (n72.ne rfl n71.at_) n72.at_) (samev_any xh34 xh52 (hs _ (List.mem_of_getElem? h34x)) w63 ((hmK _ (List.mem_of_getElem? h34x)).gr G65) ((hmL _ (List.mem_of_getElem? h52x)).gr G65)) ?_
      rintro _ w74 ⟨rfl, g75⟩
      refine ⟨_, rfl, fun an73 n73 => ?_⟩
      have G76 := G65.trans g75
      have B77 := B66.gr g75
      have B78 := u64b.gr g75
      refine sv n73.ok rfl (wn _ rfl) rfl (o_notI n73.at_) (fun an79 n79 => ?_)
      refine wpList_nil ?_
      refine th_n (hK67 _ _ ?_)
      cases c80 : (!(sameVB xh34.d xh52.d))
      · refine wp_cond_false ((n79.at_).trans (congrArg Value.bool (c80))) ?_
        refine wp_skip ?_
        refine ib_n ?_
        refine th_n (hK31 _ _ ?_)
        refine wp_region_lit ?_
        have e81 := n79.ne rfl (n73.ne rfl (n72.ne rfl (n71.ne rfl (n69.ne rfl (n55.ne rfl (n54.ne rfl (n53.ne rfl (n51.ne rfl (n50.ne rfl (n44.ne rfl (n37.ne rfl (n36.ne rfl (n35.ne rfl (n33.ne rfl (n28.ne rfl s17I20)))))))))))))))
        refine sv n79.ok rfl (wn _ rfl) rfl (o_add (r := ((i + 1 : Nat) : Int)) e81 ev_const (by omega) (by omega)) (fun an82 n82 => ?_)
        refine sv n82.ok rfl (wn _ rfl) rfl (o_mv n82.at_) (fun an83 n83 => ?_)
        refine wpList_nil ?_
        have e84 := n83.ne rfl (n82.ne rfl (n79.ne rfl (n73.ne rfl (n72.ne rfl (n71.ne rfl (n69.ne rfl (n55.ne rfl (n54.ne rfl (n53.ne rfl (n51.ne rfl (n50.ne rfl e49)))))))))))
        have e85 := n83.ne rfl (n82.ne rfl (n79.ne rfl (n73.ne rfl (n72.ne rfl (n71.ne rfl (n69.ne rfl e68))))))
        have e86 := n83.ne rfl (n82.ne rfl (n79.ne rfl (n73.ne rfl (n72.ne rfl (n71.ne rfl (n69.ne rfl (n55.ne rfl (n54.ne rfl (n53.ne rfl (n51.ne rfl (n50.ne rfl (n44.ne rfl (n37.ne rfl (n36.ne rfl (n35.ne rfl (n33.ne rfl (n28.ne rfl s6I20)))))))))))))))))
        have e87 := n83.ne rfl (n82.ne rfl (n79.ne rfl (n73.ne rfl (n72.ne rfl (n71.ne rfl (n69.ne rfl (n55.ne rfl (n54.ne rfl (n53.ne rfl (n51.ne rfl (n50.ne rfl (n44.ne rfl (n37.ne rfl (n36.ne rfl (n35.ne rfl (n33.ne rfl (n28.ne rfl s15I20)))))))))))))))))
        have e88 := n83.ne rfl (n82.ne rfl (n79.ne rfl (n73.ne rfl (n72.ne rfl (n71.ne rfl (n69.ne rfl (n55.ne rfl (n54.ne rfl (n53.ne rfl (n51.ne rfl (n50.ne rfl (n44.ne rfl (n37.ne rfl (n36.ne rfl (n35.ne rfl (n33.ne rfl (n28.ne rfl s16I20)))))))))))))))))
        exact th_n (hKI20 _ _ _ (by omega) ⟨i + 1, rfl, n83.ok, G76, e84, e85, e86, e87, e88, n83.at_, by omega, fun j x y hj hx hy => by
            rcases Nat.lt_or_ge j i with q | q
            · exact hbI20 j x y q hx hy
            · obtain rfl : j = i := by omega
              rw [h34x] at hx
              rw [h52x] at hy
              cases hx
              cases hy
              simpa using c80⟩)
      · refine wp_cond_true ((n79.at_).trans (congrArg Value.bool (c80))) ?_
        refine wp_seq_k (fun K89 hK89 => ?_)
        refine wp_region_lit ?_
        refine sv n79.ok rfl (wn _ rfl) rfl (o_as ev_const) (fun an90 n90 => ?_)
        refine wpList_nil ?_
        refine th_n (hK89 _ _ ?_)
        refine wp_ret ?_
        refine ib_r ?_
        refine th_r ?_
        refine th_r ?_
        refine ib_r ?_
        refine th_r ?_
        exact ret1 n90.ok rfl (n90.at_) ⟨congrArg (fun b => Ending.returned (Value.bool b)) ((eqS_at h34x h52x (by simpa using c80)).symm), G76⟩
    · refine wp_cond_false ((n28.at_).trans (congrArg Value.bool (decide_eq_false c30))) ?_
      refine wp_exit ?_
      refine th_x ?_
      refine th_x ?_
      refine ib_x ?_
      refine th_n (hK14 _ _ ?_)
      refine wp_seq_k (fun K91 hK91 => ?_)
      refine wp_region_lit ?_
      refine sv n28.ok rfl (wn _ rfl) rfl (o_as ev_const) (fun an92 n92 => ?_)
      refine wpList_nil ?_
      refine th_n (hK91 _ _ ?_)
      refine wp_ret ?_
      exact ret1 n92.ok rfl (n92.at_) ⟨congrArg (fun b => Ending.returned (Value.bool b)) ((eqS_true (by omega) (fun j x y hx hy => hbI20 j x y (by have := (List.getElem?_eq_some_iff.1 hx).1; omega) hx hy)).symm), GI20⟩
set_option maxHeartbeats 8000000 in
set_option maxRecDepth 100000 in
theorem same_shelf (K L : List VerI) (va vb : Option Addr) (vc vd : Nat) (hs : ∀ x ∈ K, x.d.V.length ≤ 100000 ∧ x.d.M.length ≤ 100000) (hl : K.length ≤ 1000000) (hl2 : L.length ≤ 9223372036854775807) (w : World) (hvK : RdA encVr 8 w va K) (hmK : MeansV w K) (hvL : RdA encVr 8 w vb L) (hmL : MeansV w L) :
    Calls Try.prog 15 #[.slice va K.length vc, .slice vb L.length vd] w fun e w' => e = .returned (.bool (eqS (K.map VerI.d) (L.map VerI.d))) ∧ Gr w w' := by
  refine enter (N := 8) Try.func15 rfl rfl rfl (fun a0 ok0 h0 => ?_)
  have e0_0 : a0.eval (.tmp 0) = .slice va K.length vc := h0 0 _ rfl
  have e0_1 : a0.eval (.tmp 1) = .slice vb L.length vd := h0 1 _ rfl
  clear h0
  have G0 := Gr.refl w
  refine wp_seq_k (fun K1 hK1 => ?_)
  refine wp_region_lit ?_
  refine sv ok0 rfl (wn _ rfl) rfl (o_as ev_const) (fun an2 n2 => ?_)
  refine wpList_nil ?_
  refine th_n (hK1 _ _ ?_)
  refine wp_seq_k (fun K3 hK3 => ?_)
  refine wp_region_lit ?_
  refine sv n2.ok rfl (wn _ rfl) rfl (o_mv (n2.ne rfl e0_0)) (fun an4 n4 => ?_)
  refine sv n4.ok rfl (wn _ rfl) rfl (o_mv (n4.ne rfl (n2.ne rfl e0_1))) (fun an5 n5 => ?_)
  refine sc n5.ok rfl (wn _ rfl) rfl (o_f3 Try.func42 rfl rfl rfl (n5.ne rfl n4.at_) n5.at_ ev_func) (eqf_any K L va vb vc vd hs hl hl2 w (hvK.gr G0) (hmK.gr G0) (hvL.gr G0) (hmL.gr G0)) ?_
  rintro _ w7 ⟨rfl, g8⟩
  refine ⟨_, rfl, fun an6 n6 => ?_⟩
  have G9 := G0.trans g8
  refine sv n6.ok rfl (wn _ rfl) rfl (o_as n6.at_) (fun an10 n10 => ?_)
  refine wpList_nil ?_
  refine th_n (hK3 _ _ ?_)
  refine wp_ret ?_
  exact ret1 n10.ok rfl (n10.at_) ⟨rfl, G9⟩
theorem same_eq (K L : List VerI) (va vb : Option Addr) (vc vd : Nat) (D : List VerD) (hD : OkS D) (hK : K.map VerI.d = D) (hL : L.map VerI.d = D) (w : World) (hvK : RdA encVr 8 w va K) (hmK : MeansV w K) (hvL : RdA encVr 8 w vb L) (hmL : MeansV w L) :
    Calls Try.prog 15 #[.slice va K.length vc, .slice vb L.length vd] w fun e w' => e = .returned (.bool true) ∧ Gr w w' := by
  have h1 : K.length ≤ 60 := by have := hD.len; rw [← hK] at this; simpa using this
  have h2 : L.length ≤ 60 := by have := hD.len; rw [← hL] at this; simpa using this
  have h := same_shelf K L va vb vc vd (fun x hx => chk_small (chkOne_zero (hD.one x.d (by rw [← hK]; exact List.mem_map_of_mem hx))).2.2.1) (by omega) (by omega) w hvK hmK hvL hmL
  rw [(eqS_iff _ _).2 (hK.trans hL.symm)] at h
  exact h
end Go.Proofs.Ytbpkfkljeibjoaa

/- shelf.Drop, Get. -/
set_option linter.unusedVariables false
set_option linter.unusedSimpArgs false
namespace Rm
open Go Go.RowKit Gx
def svGet (L : List VerD) (id : List UInt8) : List VerD := L.filter fun x => decide (x.id = id)
def getE (L : List VerD) (id : List UInt8) : Int := if chkShf L = 0 then (if svGet L id = [] then 4 else 0) else chkShf L
def getL (L : List VerD) (id : List UInt8) : List VerD := if chkShf L = 0 then svGet L id else []
theorem keep_nn (L : List VerI) (id : List UInt8) : (L.filter fun x => !decide (¬ x.d.id = id)).map VerI.d = svGet (L.map VerI.d) id := by
  unfold svGet
  rw [← filt_map L (fun x => decide (x.id = id))]
  congr 1
  exact List.filter_congr (fun x _ => by simp)
end Rm
namespace Go.Proofs.Ytbpkfkljeibjoaa
open Go.RowKit Rm Gx
set_option maxHeartbeats 8000000 in
set_option maxRecDepth 100000 in
theorem sget_bad (K : List VerI) (va : Option Addr) (vc : Nat) (id : List UInt8) (hK : ¬ chkShf (K.map VerI.d) = 0) (w : World) (hv : RdA encVr 8 w va K) (hm : MeansV w K) :
    Calls Try.prog 4 #[.slice va K.length vc, .string (bs id)] w fun e w' => ∃ u, e = .returned (.tuple #[u, .int .i64 (getE (K.map VerI.d) id)]) ∧ ResV w.heap.size w' u (getL (K.map VerI.d) id) ∧ Gr w w' := by
  refine enter (N := 20) Try.func4 rfl rfl rfl (fun a0 ok0 h0 => ?_)
  have e0_0 : a0.eval (.tmp 0) = .slice va K.length vc := h0 0 _ rfl
  have e0_1 : a0.eval (.tmp 1) = .string (bs id) := h0 1 _ rfl
  clear h0
  have G0 := Gr.refl w
  refine wp_seq_k (fun K1 hK1 => ?_)
  refine wp_region_lit ?_
  refine sal (cs := #[.string (bs id)]) ok0 rfl (wn _ rfl) rfl (o_box e0_1) (fun an2 w4 b3 W5 n2 => ?_)
  have l6 : w.heap.size ≤ b3 := by rw [W5.eq]; exact G0.size
  have G7 := G0.trans W5.gr
  refine sv n2.ok rfl (wn _ rfl) rfl (o_as ev_const) (fun an8 n8 => ?_)
  refine sv n8.ok rfl (wn _ rfl) rfl (o_as ev_const) (fun an9 n9 => ?_)
  refine wpList_nil ?_
  refine th_n (hK1 _ _ ?_)
  refine wp_seq_k (fun K10 hK10 => ?_)
  refine wp_seq_k (fun K11 hK11 => ?_)
  refine wp_region_lit ?_
  have e12 := n9.ne rfl (n8.ne rfl (n2.ne rfl e0_0))
  refine sv n9.ok rfl (wn _ rfl) rfl (o_mv e12) (fun an13 n13 => ?_)
  refine sc n13.ok rfl (wn _ rfl) rfl (o_f1 Try.func11 rfl rfl rfl n13.at_) (vchk_any K va vc w4 (hv.gr G7) (hm.gr G7)) ?_
  rintro _ w15 ⟨rfl, g16⟩
  refine ⟨_, rfl, fun an14 n14 => ?_⟩
  have G17 := G7.trans g16
  have B18 := W5.bk.gr g16
  refine sv n14.ok rfl (wn _ rfl) rfl (o_as n14.at_) (fun an19 n19 => ?_)
  refine wpList_nil ?_
  refine th_n (hK11 _ _ ?_)
  refine wp_seq_k (fun K20 hK20 => ?_)
  refine wp_region_lit ?_
  refine sv n19.ok rfl (wn _ rfl) rfl (o_mv n19.at_) (fun an21 n21 => ?_)
  refine sv n21.ok rfl (wn _ rfl) rfl (o_neq (b := true) n21.at_ ev_const (by simp [show ¬ (chkShf (K.map VerI.d)) = 0 from hK])) (fun an22 n22 => ?_)
  refine wpList_nil ?_
  refine th_n (hK20 _ _ ?_)
  refine wp_cond_true (n22.at_) ?_
  refine wp_seq_k (fun K23 hK23 => ?_)
  refine wp_region_lit ?_
  refine sv n22.ok rfl (wn _ rfl) rfl (o_mv (n22.ne rfl (n21.ne rfl n19.at_))) (fun an24 n24 => ?_)
  refine sv n24.ok rfl (wn _ rfl) rfl (o_as ev_const) (fun an25 n25 => ?_)
  refine sv n25.ok rfl (wn _ rfl) rfl (o_as (n25.ne rfl n24.at_)) (fun an26 n26 => ?_)
  refine wpList_nil ?_
  refine th_n (hK23 _ _ ?_)
  refine wp_ret ?_
  refine th_r ?_
  exact ret2 n26.ok rfl ((n26.ne rfl n25.at_)) (n26.at_) ⟨_, congrArg (fun n => Ending.returned (.tuple #[_, .int .i64 n])) (Eq.symm (by unfold getE; rw [if_neg hK])), by unfold getL; rw [if_neg hK]; exact ResV.nil _ _, G17⟩
set_option maxHeartbeats 8000000 in
set_option maxRecDepth 100000 in
theorem sget_ok (K : List VerI) (va : Option Addr) (vc : Nat) (id : List UInt8) (hK : OkS (K.map VerI.d)) (w : World) (hv : RdA encVr 8 w va K) (hm : MeansV w K) :
    Calls Try.prog 4 #[.slice va K.length vc, .string (bs id)] w fun e w' => ∃ u, e = .returned (.tuple #[u, .int .i64 (getE (K.map VerI.d) id)]) ∧ ResV w.heap.size w' u (getL (K.map VerI.d) id) ∧ Gr w w' := by
  refine enter (N := 20) Try.func4 rfl rfl rfl (fun a0 ok0 h0 => ?_)
  have e0_0 : a0.eval (.tmp 0) = .slice va K.length vc := h0 0 _ rfl
  have e0_1 : a0.eval (.tmp 1) = .string (bs id) := h0 1 _ rfl
  clear h0
  have G0 := Gr.refl w
  have hlen : K.length ≤ 60 := by have := hK.len; simpa using this
  have hok : ∀ x ∈ K, okVr x := fun x hx => hK.one _ (List.mem_map_of_mem hx)
  refine wp_seq_k (fun K1 hK1 => ?_)
  refine wp_region_lit ?_
  refine sal (cs := #[.string (bs id)]) ok0 rfl (wn _ rfl) rfl (o_box e0_1) (fun an2 w4 b3 W5 n2 => ?_)
  have l6 : w.heap.size ≤ b3 := by rw [W5.eq]; exact G0.size
  have G7 := G0.trans W5.gr
  refine sv n2.ok rfl (wn _ rfl) rfl (o_as ev_const) (fun an8 n8 => ?_)
  refine sv n8.ok rfl (wn _ rfl) rfl (o_as ev_const) (fun an9 n9 => ?_)
  refine wpList_nil ?_
  refine th_n (hK1 _ _ ?_)
  refine wp_seq_k (fun K10 hK10 => ?_)
  refine wp_seq_k (fun K11 hK11 => ?_)
  refine wp_region_lit ?_
  have e12 := n9.ne rfl (n8.ne rfl (n2.ne rfl e0_0))
  refine sv n9.ok rfl (wn _ rfl) rfl (o_mv e12) (fun an13 n13 => ?_)
  refine sc n13.ok rfl (wn _ rfl) rfl (o_f1 Try.func11 rfl rfl rfl n13.at_) (by have h := vchk_any K va vc w4 (hv.gr G7) (hm.gr G7); rw [(okS_iff _).2 hK] at h; exact h) ?_
  rintro _ w15 ⟨rfl, g16⟩
  refine ⟨_, rfl, fun an14 n14 => ?_⟩
  have G17 := G7.trans g16
  have B18 := W5.bk.gr g16
  refine sv n14.ok rfl (wn _ rfl) rfl (o_as n14.at_) (fun an19 n19 => ?_)
  refine wpList_nil ?_
  refine th_n (hK11 _ _ ?_)
  refine wp_seq_k (fun K20 hK20 => ?_)
  refine wp_region_lit ?_
  refine sv n19.ok rfl (wn _ rfl) rfl (o_mv n19.at_) (fun an21 n21 => ?_)
  refine sv n21.ok rfl (wn _ rfl) rfl (o_neq (b := false) n21.at_ ev_const (by decide)) (fun an22 n22 => ?_)
  refine wpList_nil ?_
  refine th_n (hK20 _ _ ?_)
  refine wp_cond_false (n22.at_) ?_
  refine wp_skip ?_
  refine th_n (hK10 _ _ ?_)
  refine wp_seq_k (fun K23 hK23 => ?_)
  refine wp_region_lit ?_
  have e24 := n22.ne rfl (n21.ne rfl (n19.ne rfl (n14.ne rfl (n13.ne rfl e12))))
  refine sv n22.ok rfl (wn _ rfl) rfl (o_mv e24) (fun an25 n25 => ?_)
  have e26 := n25.ne rfl (n22.ne rfl (n21.ne rfl (n19.ne rfl (n14.ne rfl (n13.ne rfl (n9.ne rfl (n8.ne rfl n2.at_)))))))
  refine sv n25.ok rfl (wn _ rfl) rfl (o_mf (fs := []) (cs := [.pointer (some ⟨b3, 0, none⟩)]) (by simp) (by simp [e26])) (fun an27 n27 => ?_)
  obtain ⟨basew, z28⟩ : ∃ n, n = w15.heap.size := ⟨_, rfl⟩
  have l29 : b3 < basew := by rw [z28]; exact B18.lt
  have l30 : w.heap.size ≤ basew := by rw [z28]; exact G17.size
  have z31 : basew ≤ w15.heap.size := Nat.le_of_eq z28
  refine sc n27.ok rfl (wn _ rfl) rfl (o_f2 Try.func16 rfl rfl rfl (n27.ne rfl n25.at_) n27.at_) (without_any K va vc _ [.pointer (some ⟨b3, 0, none⟩)] (fun x => decide (¬ x.d.id = id)) ⟨_, Try.func17, rfl, rfl⟩ (by omega) hok w15 (hv.gr G17) (hm.gr G17) (fun x hx w1 g1 => get1_any x b3 id w1 (B18.gr g1))) ?_
  rintro _ w33 ⟨Rw, vw, rfl, hRw, hOw, hPw, g34⟩
  obtain ⟨raw, rcw, rfl, -⟩ := ow_form hOw
  rw [← z28] at hOw hPw
  refine ⟨_, rfl, fun an32 n32 => ?_⟩
  have G35 := G17.trans g34
  have B36 := B18.gr g34
  have z37 := Nat.le_trans z31 g34.size
  refine sv n32.ok rfl (wn _ rfl) rfl (o_as n32.at_) (fun an38 n38 => ?_)
  refine wpList_nil ?_
  refine th_n (hK23 _ _ ?_)
  refine wp_seq_k (fun K39 hK39 => ?_)
  refine wp_seq_k (fun K40 hK40 => ?_)
  refine wp_region_lit ?_
  refine sv n38.ok rfl (wn _ rfl) rfl (o_mv n38.at_) (fun an41 n41 => ?_)
  refine sv n41.ok rfl (wn _ rfl) rfl (o_len n41.at_ Try.underlying22) (fun an42 n42 => ?_)
  refine sv n42.ok rfl (wn _ rfl) rfl (o_eqI n42.at_ ev_const) (fun an43 n43 => ?_)
  refine wpList_nil ?_
  refine th_n (hK40 _ _ ?_)
  by_cases c44 : ((Rw.length : Nat) : Int) = 0
  · refine wp_cond_true ((n43.at_).trans (congrArg Value.bool (decide_eq_true c44))) ?_
    refine wp_seq_k (fun K45 hK45 => ?_)
    refine wp_region_lit ?_
    refine sv n43.ok rfl (wn _ rfl) rfl (o_as ev_const) (fun an46 n46 => ?_)
    refine sv n46.ok rfl (wn _ rfl) rfl (o_as ev_const) (fun an47 n47 => ?_)
    refine wpList_nil ?_
    refine th_n (hK45 _ _ ?_)
    refine wp_ret ?_
    refine th_r ?_
    have hfin : Rw.map VerI.d = svGet (K.map VerI.d) id := by rw [hRw]; exact keep_nn K id
    have hnil : svGet (K.map VerI.d) id = [] := by rw [← hfin]; exact List.map_eq_nil_iff.2 (List.eq_nil_of_length_eq_zero (by omega))
    exact ret2 n47.ok rfl ((n47.ne rfl n46.at_)) (n47.at_) ⟨_, congrArg (fun n => Ending.returned (.tuple #[_, .int .i64 n])) (Eq.symm (by unfold getE; rw [if_pos ((okS_iff _).2 hK), if_pos hnil])), by unfold getL; rw [if_pos ((okS_iff _).2 hK), hnil]; exact ResV.nil _ _, G35⟩
  · refine wp_cond_false ((n43.at_).trans (congrArg Value.bool (decide_eq_false c44))) ?_
    refine wp_skip ?_
    refine th_n (hK39 _ _ ?_)
    refine wp_seq_k (fun K48 hK48 => ?_)
    refine wp_region_lit ?_
    have e49 := n43.ne rfl (n42.ne rfl (n41.ne rfl n38.at_))
    refine sv n43.ok rfl (wn _ rfl) rfl (o_mv e49) (fun an50 n50 => ?_)
    refine sv n50.ok rfl (wn _ rfl) rfl (o_as n50.at_) (fun an51 n51 => ?_)
    refine sv n51.ok rfl (wn _ rfl) rfl (o_as ev_const) (fun an52 n52 => ?_)
    refine wpList_nil ?_
    refine th_n (hK48 _ _ ?_)
    refine wp_ret ?_
    have hfin : Rw.map VerI.d = svGet (K.map VerI.d) id := by rw [hRw]; exact keep_nn K id
    have hnil : ¬ svGet (K.map VerI.d) id = [] := by rw [← hfin]; intro e; have h0 := congrArg List.length (List.map_eq_nil_iff.1 e); rw [List.length_nil] at h0; omega
    exact ret2 n52.ok rfl ((n52.ne rfl n51.at_)) (n52.at_) ⟨_, congrArg (fun n => Ending.returned (.tuple #[_, .int .i64 n])) (Eq.symm (by unfold getE; rw [if_pos ((okS_iff _).2 hK), if_neg hnil])), by unfold getL; rw [if_pos ((okS_iff _).2 hK)]; exact ⟨Rw, hfin, ow_lessb hOw l30, hPw.base l30⟩, G35⟩
theorem sget_r (K : List VerI) (va : Option Addr) (vc : Nat) (id : List UInt8) (w : World) (hv : RdA encVr 8 w va K) (hm : MeansV w K) (L : List VerD) (hK : K.map VerI.d = L) :
    Calls Try.prog 4 #[.slice va K.length vc, .string (bs id)] w fun e w' => ∃ (R : List VerI) (a : Option Addr) (c : Nat), e = .returned (.tuple #[.slice a R.length c, .int .i64 (getE L id)]) ∧ R.map VerI.d = getL L id ∧ RdA encVr 8 w' a R ∧ MeansV w' R ∧ Gr w w' := by
  subst hK
  have key : Calls Try.prog 4 #[.slice va K.length vc, .string (bs id)] w fun e w' => ∃ u, e = .returned (.tuple #[u, .int .i64 (getE (K.map VerI.d) id)]) ∧ ResV w.heap.size w' u (getL (K.map VerI.d) id) ∧ Gr w w' := by
    by_cases h1 : chkShf (K.map VerI.d) = 0
    · exact sget_ok K va vc id ((okS_iff _).1 h1) w hv hm
    · exact sget_bad K va vc id h1 w hv hm
  refine key.mono ?_
  rintro e w' ⟨u, rfl, ⟨R, h1, h2, h3⟩, g⟩
  obtain ⟨a, c, rfl, -⟩ := ow_form h2
  exact ⟨R, a, c, rfl, h1, RdA.own encVr_ok h2 rfl, h3.mean, g⟩
end Go.Proofs.Ytbpkfkljeibjoaa

/- Shapiro: what a store is after puts in any order: the versions that no other one supersedes. -/
set_option linter.unusedVariables false
set_option linter.unusedSimpArgs false
namespace Rm
open Go Go.RowKit Gx
/-- versions as sites make them -/
structure TR (T : List VerD) : Prop where
  one : ∀ x ∈ T, chkOne x = 0
  key : ∀ x ∈ T, ∀ y ∈ T, keyV x y → x = y
  trans : ∀ v ∈ T, ∀ w ∈ T, ∀ x ∈ T, ovB v w = true → ovB w x = true → ovB v x = true
  len : T.length ≤ 60
def maxS (S : List VerD) (x : VerD) : Prop := x ∈ S ∧ ∀ z ∈ S, ovB z x = false
theorem sortV_ext : ∀ {L L' : List VerD}, L.Pairwise ltV → L'.Pairwise ltV → (∀ x, x ∈ L ↔ x ∈ L') → L = L'
  | [], [], _, _, _ => rfl
  | [], b :: _, _, _, e => absurd ((e b).2 (List.mem_cons_self ..)) (by simp)
  | a :: _, [], _, _, e => absurd ((e a).1 (List.mem_cons_self ..)) (by simp)
  | a :: L, b :: L', h, h', e => by
    obtain ⟨h1, h2⟩ := List.pairwise_cons.1 h
    obtain ⟨h3, h4⟩ := List.pairwise_cons.1 h'
    have hab : a = b := by
      rcases List.mem_cons.1 ((e a).1 (List.mem_cons_self ..)) with q | q
      · exact q
      · rcases List.mem_cons.1 ((e b).2 (List.mem_cons_self ..)) with r | r
        · exact r.symm
        · exact absurd (ltV_trans (h1 b r) (h3 a q)) (ltV_irr a)
    subst hab
    rw [sortV_ext h2 h4 (fun x => ?_)]
    constructor
    · intro hx
      rcases List.mem_cons.1 ((e x).1 (List.mem_cons_of_mem _ hx)) with rfl | q
      · exact absurd (h1 x hx) (ltV_irr x)
      · exact q
    · intro hx
      rcases List.mem_cons.1 ((e x).2 (List.mem_cons_of_mem _ hx)) with rfl | q
      · exact absurd (h3 x hx) (ltV_irr x)
      · exact q
/-- a store that holds just what nothing in S supersedes -/
structure IsMax (S L : List VerD) : Prop where
  ok : OkS L
  mem : ∀ x, x ∈ L ↔ maxS S x
theorem IsMax.nil : IsMax [] [] := ⟨⟨by simp, fun x hx => (by cases hx), List.Pairwise.nil, fun v hv => (by cases hv)⟩, fun x => ⟨fun h => (by cases h), fun h => (by cases h.1)⟩⟩
theorem IsMax.congr {S S' L : List VerD} (h : IsMax S L) (e : ∀ x, x ∈ S ↔ x ∈ S') : IsMax S' L := ⟨h.ok, fun x => by
  rw [h.mem]
  unfold maxS
  constructor
  · rintro ⟨h1, h2⟩; exact ⟨(e x).1 h1, fun z hz => h2 z ((e z).2 hz)⟩
  · rintro ⟨h1, h2⟩; exact ⟨(e x).2 h1, fun z hz => h2 z ((e z).1 hz)⟩⟩
theorem IsMax.uniq {S L L' : List VerD} (h : IsMax S L) (h' : IsMax S L') : L = L' := sortV_ext h.ok.sort h'.ok.sort fun x => (h.mem x).trans (h'.mem x).symm
theorem IsMax.sub {S L T : List VerD} (h : IsMax S L) (hS : ∀ x ∈ S, x ∈ T) : ∀ x ∈ L, x ∈ T := fun x hx => hS x ((h.mem x).1 hx).1
end Rm

/- An argument that is a slice of structs of two integers reads as a list. -/
namespace Go.Proofs.Ytbpkfkljeibjoaa
open Go.ChangeShapes Go.WideShapes Go.ChangeAt Go.RowKit Go.Deep Rm

theorem add_none {b off k : Nat} : (⟨b, off, none⟩ : Addr).add k = ⟨b, off + k, none⟩ := by
  unfold Addr.add
  by_cases h : k = 0 <;> simp [h]

theorem rd2_of {W : World} {a : Addr} {len cap : Nat} {V0 V1 : Nat → Value} (hl : len ≤ cap)
    (hc : ∀ i, i < len → W.cell? (a.add (i * 2)) = some (V0 i) ∧ W.cell? (a.add (i * 2 + 1)) = some (V1 i))
    (hi : ∀ i, i < len → ∃ x y : Int, V0 i = .int .i64 x ∧ V1 i = .int .i64 y) : ∃ l, Rd2 W (.slice (some a) len cap) l ∧ l.length = len := by
  have hi' : ∀ i, ∃ p : Int × Int, i < len → V0 i = .int .i64 p.1 ∧ V1 i = .int .i64 p.2 := by
    intro i
    by_cases h : i < len
    · obtain ⟨x, y, e⟩ := hi i h
      exact ⟨(x, y), fun _ => e⟩
    · exact ⟨(0, 0), fun h' => absurd h' h⟩
  refine ⟨(List.range len).map fun i => Classical.choose (hi' i), ⟨some a, cap, by simp, by simpa using hl, fun hne => ?_⟩, by simp⟩
  have h0 : 0 < len := by
    rcases Nat.eq_zero_or_pos len with h | h
    · subst h; simp at hne
    · exact h
  obtain ⟨b, off, spot⟩ := a
  have hc0 := (hc 0 h0).1
  have hspot : spot = none := by simpa [Addr.add] using World.cell?_spot hc0
  subst hspot
  have hlt : b < W.heap.size := by
    have := block_lt_of_cell hc0
    simpa [Addr.add] using this
  refine ⟨b, off, rfl, hlt, fun i p hp => ?_⟩
  have hil : i < len := by
    have := (List.getElem?_eq_some_iff.1 hp).1
    simpa using this
  have hp' : p = Classical.choose (hi' i) := by
    simp [List.getElem?_map, List.getElem?_range hil] at hp
    exact hp.symm
  obtain ⟨e1, e2⟩ := Classical.choose_spec (hi' i) hil
  obtain ⟨q1, q2⟩ := hc i hil
  rw [add_none] at q1 q2
  rw [hp']
  exact ⟨q1.trans (congrArg some e1), by rw [Nat.add_assoc]; exact q2.trans (congrArg some e2)⟩

end Go.Proofs.Ytbpkfkljeibjoaa

/- An argument that is a set of dots, or a dot, reads as plain data. -/
set_option linter.unusedVariables false
namespace Go.Proofs.Ytbpkfkljeibjoaa
open Go.ChangeShapes Go.WideShapes Go.ChangeAt Go.RowKit Go.Deep Rm

section
variable {H : Type} {enc : TypeId × Value → H} {W : World} {base : Nat} {spare : Nat → Bool} {held : Bool}
theorem kint_cells : Try.prog.cellsOf 3 = 1 := by kernel_rfl
theorem kints_cells : Try.prog.cellsOf 27 = 1 := by kernel_rfl
theorem kdots_cells : Try.prog.cellsOf 28 = 1 := by kernel_rfl
theorem know_cells : Try.prog.cellsOf 30 = 2 := by kernel_rfl
theorem dot_cells : Try.prog.cellsOf 24 = 2 := by kernel_rfl
theorem flat_split (l : List (Int × Int)) (j : Nat) (u : Value) (h : (flat l)[j]? = some u) : ∃ i p, l[i]? = some p ∧ ((j = i * 2 ∧ u = .int .i64 p.1) ∨ (j = i * 2 + 1 ∧ u = .int .i64 p.2)) := by
  induction l generalizing j with
  | nil => simp [flat] at h
  | cons q l ih =>
    rw [flat_cons] at h
    match j, h with
    | 0, h => simp at h; exact ⟨0, q, rfl, .inl ⟨rfl, h.symm⟩⟩
    | 1, h => simp at h; exact ⟨0, q, rfl, .inr ⟨rfl, h.symm⟩⟩
    | j + 2, h =>
      obtain ⟨i, p, hp, hc⟩ := ih j (by simpa using h)
      exact ⟨i + 1, p, by simpa using hp, hc.imp (fun ⟨a, b⟩ => ⟨by omega, b⟩) (fun ⟨a, b⟩ => ⟨by omega, b⟩)⟩
theorem rdC_of2 {W : World} {a : Addr} {n c : Nat} {l : List (Int × Int)} (h : Rd2 W (.slice (some a) n c) l) : RdC 2 W (.slice (some a) n c) l.length (flat l) := by
  obtain ⟨a', c', e, hc, hx⟩ := h
  cases e
  refine ⟨flat_len l, flat_one l, .inr ⟨a, c, rfl, hc, fun hn => ?_, fun j u hj => ?_⟩⟩
  · obtain ⟨b, off, e, hb, _⟩ := hx (by rintro rfl; exact hn rfl)
    cases e; exact hb
  · obtain ⟨i, p, hp, hc⟩ := flat_split l j u hj
    obtain ⟨b, off, e, hb, hcl⟩ := hx (by rintro rfl; simp at hp)
    cases e
    rw [add_none]
    obtain ⟨h1, h2⟩ := hcl i p hp
    rcases hc with ⟨rfl, rfl⟩ | ⟨rfl, rfl⟩
    · exact h1
    · exact h2
set_option maxRecDepth 100000 in
theorem dots_trod {fuel : Nat} {cs : List Value} {x : DataW H × List MemPlace} (h : DataW.trod enc Try.prog W base spare held fuel 28 cs = some x) : ∃ v l, cs = [v] ∧ Rd2 W v l ∧ RdC 2 W v l.length (flat l) := by
  rcases open_slice_pairs Try.underlying28 Try.underlying24 (by kernel_rfl) rfl rfl (by kernel_rfl) (by kernel_rfl) h with ⟨rfl, _⟩ | ⟨a, len, cap, m, n, V0, V1, D0, D1, P0, P1, rfl, hb, hl, hm, hmm, hx, hcell⟩
  · exact ⟨_, [], rfl, Rd2.nil W, ⟨rfl, by simp [flat], .inl ⟨rfl, rfl⟩⟩⟩
  · have hlm : len ≤ m := by rw [hmm]; split <;> omega
    obtain ⟨l, hl', _⟩ := rd2_of (W := W) (a := a) (V0 := V0) (V1 := V1) hl (fun i hi => ⟨(hcell i (by omega)).1, (hcell i (by omega)).2.1⟩) (fun i hi => by
      obtain ⟨_, _, t0, t1⟩ := hcell i (by omega)
      obtain ⟨x, ex, _, _⟩ := DataW.trod_int Try.underlying3 t0
      obtain ⟨y, ey, _, _⟩ := DataW.trod_int Try.underlying3 t1
      simp at ex ey
      exact ⟨x, y, ex, ey⟩)
    exact ⟨_, l, rfl, hl', rdC_of2 hl'⟩
set_option maxRecDepth 100000 in
theorem kints_trod {fuel : Nat} {cs : List Value} {x : DataW H × List MemPlace} (h : DataW.trod enc Try.prog W base spare held fuel 27 cs = some x) : ∃ v l, cs = [v] ∧ R1 W v l := by
  rcases open_slice1 Try.underlying27 kint_cells h with ⟨rfl, _⟩ | ⟨a, len, cap, m, n, V, D, Pl, rfl, hb, hl, hm, hmm, hx, hcell⟩
  · exact ⟨_, [], rfl, R1.nil W⟩
  · have hlm : len ≤ m := by rw [hmm]; split <;> omega
    obtain ⟨q, hq⟩ := choose_lt (α := Int) (n := len) (p := fun i p => W.cell? (a.add i) = some (.int .i64 p)) (fun i hi => by
        obtain ⟨h1, h2⟩ := hcell i (by omega)
        obtain ⟨x, ex, _, _⟩ := DataW.trod_int Try.underlying3 h2
        simp at ex
        exact ⟨x, by rw [h1, ex]⟩)
    refine ⟨_, (List.range len).map q, rfl, ⟨some a, cap, by simp, by simpa using hl, fun hne => ?_⟩⟩
    have h0 : 0 < len := by
      rcases Nat.eq_zero_or_pos len with h | h
      · subst h; simp at hne
      · exact h
    obtain ⟨b, off, spot⟩ := a
    have hc0 := hq 0 h0
    have hspot : spot = none := by simpa [Addr.add] using World.cell?_spot hc0
    subst hspot
    have hlt : b < W.heap.size := by
      have := block_lt_of_cell hc0
      simpa [Addr.add] using this
    refine ⟨b, off, rfl, hlt, fun i p hp => ?_⟩
    have hil : i < len := by
      have := (List.getElem?_eq_some_iff.1 hp).1
      simpa using this
    have hp' : p = q i := by
      simp [List.getElem?_map, List.getElem?_range hil] at hp
      exact hp.symm
    subst hp'
    have q1 := hq i hil
    rw [add_none] at q1
    exact q1
set_option maxRecDepth 100000 in
theorem know_trod {fuel : Nat} {cs : List Value} {x : DataW H × List MemPlace} (h : DataW.trod enc Try.prog W base spare held fuel 30 cs = some x) : ∃ vv mv V M, cs = [vv, mv] ∧ R1 W vv V ∧ Rd2 W mv M ∧ RdC 2 W mv M.length (flat M) := by
  obtain ⟨xs, k, _, _, hlen, hxl, hf⟩ := DataW.trod_struct Try.underlying30 h
  rw [know_cells] at hlen
  have g0 : DataW.trod enc Try.prog W base spare held k 27 ((cs.drop 0).take (Try.prog.cellsOf 27)) = xs[0]? := hf 0 _ rfl
  have g1 : DataW.trod enc Try.prog W base spare held k 28 ((cs.drop 1).take (Try.prog.cellsOf 28)) = xs[1]? := hf 1 _ rfl
  rw [kints_cells] at g0
  rw [kdots_cells] at g1
  match xs, hxl, cs, hlen with
  | [y0, y1], _, [v0, v1], _ =>
    simp at g0 g1
    obtain ⟨vv, V, e0, h0⟩ := kints_trod g0
    obtain ⟨mv, M, e1, h1, h2⟩ := dots_trod g1
    simp at e0 e1
    subst e0 e1
    exact ⟨v0, v1, V, M, rfl, h0, h1, h2⟩
end
end Go.Proofs.Ytbpkfkljeibjoaa

/- Sets of small dots: joined, met, compared. -/
set_option linter.unusedVariables false
set_option linter.unusedSimpArgs false
namespace Rm
open Go Go.RowKit Gx
def Sm (D : DS) : Prop := ∀ s c, D s c = true → s < 5 ∧ 1 ≤ c ∧ c ≤ 12
theorem Sm.or {D E : DS} (h : Sm D) (h' : Sm E) : Sm (orD D E) := fun s c q => by
  simp only [orD, Bool.or_eq_true] at q
  exact q.elim (h s c) (h' s c)
theorem Sm.and {D E : DS} (h : Sm D) : Sm (andD D E) := fun s c q => by
  simp only [andD, Bool.and_eq_true] at q
  exact h s c q.1
theorem Sm.set (L : List (List Int)) : Sm (setD L) := setD_small L
end Rm
namespace Go.Proofs.Ytbpkfkljeibjoaa
open Go.ChangeShapes Go.WideShapes Go.ChangeAt Go.RowKit Go.Deep Rm Gx
/-- a value that is a set of dots -/
def KnD (w : World) (k : Value) (D : DS) : Prop := KnR w k (ints (formV D)) (pairs (formM D))
theorem KnD.gr {w w' : World} {k : Value} {D : DS} (h : KnD w k D) (g : Gr w w') : KnD w' k D := KnR.gr h g
theorem KnD.form {w : World} {k : Value} {D : DS} (h : KnD w k D) : ∃ va vc ma mc, k = .agg #[.slice va (ints (formV D)).length vc, .slice ma (pairs (formM D)).length mc] := by
  obtain ⟨va, vc, ma, mc, h, -, -⟩ := knr_form h
  exact ⟨va, vc, ma, mc, h⟩
section
variable {H : Type} {enc : TypeId × Value → H} {W : World} {base : Nat} {spare : Nat → Bool} {held : Bool}
theorem RdI1.of {w : World} {v : Value} {V : List Int} (h : R1 w v V) : ∃ a c, v = .slice a V.length c ∧ V.length ≤ c ∧ RdI1 w a V := by
  obtain ⟨a, c, e, hc, h⟩ := h
  refine ⟨a, c, e, hc, fun hn => ?_⟩
  obtain ⟨b, off, e, hb, hx⟩ := h hn
  exact ⟨b, off, e, hb, fun i x h => by rw [Nat.mul_one]; exact hx i x h⟩
end
end Go.Proofs.Ytbpkfkljeibjoaa

/- A region that draws its order: a chain of calls, then two parts of its answer are taken, a block is made whenever it likes, and the first part is stored in it. -/
set_option linter.unusedVariables false
set_option linter.unusedSimpArgs false
namespace Gx
open Go Go.RowKit Rm
section
variable {P : Program} {ops : Array Oper} {Q : Exit → Act → World → Prop} {N : Nat} {a₀ : Act} {w₀ : World} {hs : List Nat}
end
structure SF (N : Nat) (ap : Act) (wp w₀ : World) (df d0 d1 : Nat) (v0 v1 : Value) (z : Array Value) (ty : TypeId) (b0 b1 bf : Bool) (a : Act) (w : World) : Prop where
  ok : Ok N a
  old : ∀ t, Nat.beq t d0 = false → Nat.beq t d1 = false → Nat.beq t df = false → a.eval (.tmp t) = ap.eval (.tmp t)
  e0 : b0 = true → a.eval (.tmp d0) = v0
  e1 : b1 = true → a.eval (.tmp d1) = v1
  wn : bf = false → w = wp
  wf : bf = true → Gr wp w ∧ ∃ b, a.eval (.tmp df) = .pointer (some ⟨b, 0, none⟩) ∧ w₀.heap.size ≤ b ∧ Bk w b z ty
section
variable {N : Nat} {ap : Act} {wp w₀ : World} {df d0 d1 : Nat} {v0 v1 : Value} {z : Array Value} {ty : TypeId} {b0 b1 bf : Bool} {a : Act} {w : World}
theorem SF.p0 (h : SF N ap wp w₀ df d0 d1 v0 v1 z ty b0 b1 bf a w) (hN : Nat.blt d0 N = true) (h01 : Nat.beq d1 d0 = false) (h0f : Nat.beq df d0 = false) : SF N ap wp w₀ df d0 d1 v0 v1 z ty true b1 bf (a.put (some d0) v0) w := by
  have nx := Nx.put h.ok hN v0
  exact ⟨nx.ok, fun t q0 q1 qf => (nx.oth t q0).trans (h.old t q0 q1 qf), fun _ => nx.at_, fun q => (nx.oth _ h01).trans (h.e1 q), h.wn, fun q => by
    obtain ⟨g, b, h1, h2, h3⟩ := h.wf q
    exact ⟨g, b, (nx.oth _ h0f).trans h1, h2, h3⟩⟩
theorem SF.p1 (h : SF N ap wp w₀ df d0 d1 v0 v1 z ty b0 b1 bf a w) (hN : Nat.blt d1 N = true) (h01 : Nat.beq d0 d1 = false) (h0f : Nat.beq df d1 = false) : SF N ap wp w₀ df d0 d1 v0 v1 z ty b0 true bf (a.put (some d1) v1) w := by
  have nx := Nx.put h.ok hN v1
  exact ⟨nx.ok, fun t q0 q1 qf => (nx.oth t q1).trans (h.old t q0 q1 qf), fun q => (nx.oth _ h01).trans (h.e0 q), fun _ => nx.at_, h.wn, fun q => by
    obtain ⟨g, b, h1, h2, h3⟩ := h.wf q
    exact ⟨g, b, (nx.oth _ h0f).trans h1, h2, h3⟩⟩
end
section
variable {P : Program} {ops : Array Oper} {Q : Exit → Act → World → Prop} {N : Nat}
end
end Gx

/- Vectors: [5]int, the set that a vector is. -/
set_option linter.unusedVariables false
set_option linter.unusedSimpArgs false
namespace Rm
open Go Go.RowKit Gx
def vec (v : List Nat) : List Nat := trimL (five v)
end Rm
namespace Go.Proofs.Ytbpkfkljeibjoaa
open Go.RowKit Rm Gx
theorem ow_updT {w w' : World} {base s n b : Nat} {t t' : TypeId} {v : Value} {xs : List Value} {cs : Array Value} (h : w.ownsRow base t s v n xs) (u : Upd w w' b) (hb : Bk w b cs t') (ht : Nat.beq t t' = false) : w'.ownsRow base t s v n xs := by
  obtain ⟨h1, h2 | ⟨g, cap, cur, rfl, h3, hg, h4⟩⟩ := h
  · exact ⟨h1, .inl h2⟩
  · refine ⟨h1, .inr ⟨g, cap, cur, rfl, h3, (u.oth g (fun e => ?_)).trans hg, h4⟩⟩
    subst e
    unfold Bk at hb
    rw [hb] at hg
    injection hg with hg
    injection hg with _ h5
    exact Nat.ne_of_beq_eq_false ht h5.symm
theorem KnO.v3 {base : Nat} {w : World} {k : Value} {v : List Nat} (h : KnO base w k v []) : ∃ va vc ma mc, k = .agg #[.slice va v.length vc, .slice ma 0 mc] := by
  obtain ⟨va, vc, ma, mc, e⟩ := h.form
  rw [ints_len] at e
  exact ⟨va, vc, ma, mc, e⟩
end Go.Proofs.Ytbpkfkljeibjoaa

/- Versions as told: each over some that came ahead, and over what those are over. -/
set_option linter.unusedVariables false
set_option linter.unusedSimpArgs false
namespace Rm
open Go Go.RowKit Gx
def dsV (x : VerD) : DS := memB (x.V.map Int.toNat) (x.M.map fun d => (d.1.toNat, d.2.toNat))
theorem ovB_ds (a b : VerD) : ovB a b = (decide (b.id = a.id) && dsV a b.s.toNat b.c.toNat) := rfl
theorem ovB_iff (a b : VerD) : ovB a b = true ↔ b.id = a.id ∧ dsV a b.s.toNat b.c.toNat = true := by rw [ovB_ds, Bool.and_eq_true, decide_eq_true_eq]
theorem dsX_orV (X Y : Nat → Nat) (s c : Nat) : dsX (fun q => X q ||| Y q) s c = (dsX X s c || dsX Y s c) := by
  unfold dsX; rw [Nat.testBit_or]
/-- what is told so far; v: how many each site made -/
structure ToldV (v : List Nat) (T : List VerD) : Prop where
  one : ∀ x ∈ T, chkOne x = 0
  cnt : ∀ x ∈ T, ∃ s c : Nat, x.s = s ∧ x.c = c ∧ s < 5 ∧ 1 ≤ c ∧ c ≤ cv v s
  dis : ∀ x ∈ T, ∀ y ∈ T, x.s = y.s → x.c = y.c → x = y
  from_ : ∀ x ∈ T, ∀ s c, dsV x s c = true → ∃ y ∈ T, y.id = x.id ∧ y.s = (s : Int) ∧ y.c = (c : Int)
  closed : ∀ x ∈ T, ∀ y ∈ T, ovB x y = true → ∀ s c, dsV y s c = true → dsV x s c = true
theorem ToldV.nil : ToldV [] [] := ⟨fun x h => (by cases h), fun x h => (by cases h), fun x h => (by cases h), fun x h => (by cases h), fun x h => (by cases h)⟩
theorem ToldV.tr {v : List Nat} {T : List VerD} (h : ToldV v T) (hl : T.length ≤ 60) : TR T where
  one := h.one
  key := fun x hx y hy k => h.dis x hx y hy k.2.1 k.2.2
  trans := fun a ha b hb c hc h1 h2 => by
    rw [ovB_iff] at h2 ⊢
    have h1' := (ovB_iff a b).1 h1
    exact ⟨h2.1.trans h1'.1, h.closed a ha b hb h1 _ _ h2.2⟩
  len := hl
/-- what is past for the next version of this name -/
structure PastOf (T : List VerD) (id : List UInt8) (X : Nat → Nat) : Prop where
  ok : OkX X
  from_ : ∀ s c, s < 5 → c < 1024 → dsX X s c = true → ∃ y ∈ T, y.id = id ∧ y.s = (s : Int) ∧ y.c = (c : Int)
  closed : ∀ y ∈ T, y.id = id → dsX X y.s.toNat y.c.toNat = true → ∀ s c, s < 5 → c < 1024 → dsV y s c = true → dsX X s c = true
theorem PastOf.zero (T : List VerD) (id : List UInt8) : PastOf T id (fun _ => 0) := ⟨OkX.zero, fun s c _ _ h => (by rw [dsX_zero] at h; cases h), fun y _ _ h => (by rw [dsX_zero] at h; cases h)⟩
theorem ints_nat (v : List Nat) : (ints v).map Int.toNat = v := by
  unfold ints
  rw [List.map_map]
  conv => rhs; rw [← List.map_id v]
  exact List.map_congr_left fun x _ => by simp
theorem pairs_nat (m : List (Nat × Nat)) : ((pairs m).map fun d => (d.1.toNat, d.2.toNat)) = m := by
  unfold pairs
  rw [List.map_map]
  conv => rhs; rw [← List.map_id m]
  exact List.map_congr_left fun x _ => by simp
def newV (id : List UInt8) (s c t n b : Nat) (D : DS) : VerD := ⟨id, s, c, t, n, b, ints (formV D), pairs (formM D)⟩
theorem newV_ds (id : List UInt8) (s c t n b : Nat) (D : DS) (a q : Nat) : dsV (newV id s c t n b D) a q = memB (formV D) (formM D) a q := by
  unfold dsV newV
  simp only [ints_nat, pairs_nat]
theorem ToldV.snoc {v : List Nat} {T : List VerD} {X : Nat → Nat} {id : List UInt8} {s t n b : Nat} (hT : ToldV v T) (hv : ∀ s, s < 5 → cv v s ≤ 900) (hs : s < 5) (hid : idB id = true) (ht : t < 16) (hn : n < 32) (hb : b ≤ 1000000) (hP : PastOf T id X) (hm : (formM (dsX X)).length ≤ 60) :
    ToldV (setC v s (cv v s + 1)) (T ++ [newV id s (cv v s + 1) t n b (dsX X)]) := by
  obtain ⟨z, hz⟩ : ∃ z, z = newV id s (cv v s + 1) t n b (dsX X) := ⟨_, rfl⟩
  have hvs := hv s hs
  have zs : z.s = (s : Int) := by rw [hz]; rfl
  have zc : z.c = ((cv v s + 1 : Nat) : Int) := by rw [hz]; rfl
  have zi : z.id = id := by rw [hz]; rfl
  have zd : ∀ a q, dsV z a q = memB (formV (dsX X)) (formM (dsX X)) a q := fun a q => by rw [hz]; exact newV_ds ..
  have zX : ∀ a q, dsV z a q = true → a < 5 ∧ q < 1024 ∧ dsX X a q = true := fun a q h => by
    rw [zd] at h
    have hi := (form_ok (dsX X)).inR h
    rw [form_mem (dsX X) a q hi] at h
    exact ⟨hi.1, by have := hi.2.2; omega, h⟩
  have hcnt : ∀ y ∈ T, ∃ a c : Nat, y.s = a ∧ y.c = c ∧ a < 5 ∧ 1 ≤ c ∧ c ≤ cv v a := hT.cnt
  have fresh : ∀ y ∈ T, y.s = z.s → y.c = z.c → False := fun y hy e1 e2 => by
    obtain ⟨a, c, f1, f2, l1, l2, l3⟩ := hcnt y hy
    rw [zs, f1] at e1
    rw [zc, f2] at e2
    obtain rfl : a = s := by omega
    omega
  have hone : chkOne z = 0 := by
    unfold chkOne
    have h1 : idB z.id = true := by rw [zi]; exact hid
    have h2 : argB z = true := by
      rw [hz]
      unfold argB newV
      have d1 : dotB ((s : Int), ((cv v s + 1 : Nat) : Int)) = true := by
        rw [dotB_iff]; simp only; omega
      have d2 : ptB (t : Int) (n : Int) = true := by rw [ptB_iff]; omega
      simp only [d1, d2, Bool.true_and, Bool.and_eq_true, decide_eq_true_eq]
      omega
    have h3 : chkK z.V z.M = 0 := by
      have zV : z.V = ints (formV (dsX X)) := by rw [hz]; simp only [newV]
      have zM : z.M = pairs (formM (dsX X)) := by rw [hz]; simp only [newV]
      rw [zV, zM]
      exact (form_ok (dsX X)).chk hm
    have h4 : memI z.V z.M z.s z.c = false := by
      cases q : memI z.V z.M z.s z.c
      · rfl
      · exfalso
        have q' : dsV z z.s.toNat z.c.toNat = true := q
        obtain ⟨a1, a2, a3⟩ := zX _ _ q'
        obtain ⟨y, hy, -, e1, e2⟩ := hP.from_ _ _ a1 a2 a3
        exact fresh y hy (by rw [e1, zs]; simp) (by rw [e2, zc]; simp)
    rw [if_neg (by rw [h1]; simp), if_neg (by rw [h2]; simp), if_neg (by rw [h3]; simp), if_neg (by rw [h4]; simp)]
  rw [← hz]
  have ov_old : ∀ w ∈ T, ovB w z = false := fun w hw => by
    cases q : ovB w z
    · rfl
    · exfalso
      have q' := ((ovB_iff w z).1 q).2
      obtain ⟨y, hy, -, e1, e2⟩ := hT.from_ w hw _ _ q'
      exact fresh y hy (by rw [e1, zs]; simp) (by rw [e2, zc]; simp)
  refine ⟨fun x hx => ?_, fun x hx => ?_, fun x hx y hy e1 e2 => ?_, fun x hx a q h => ?_, fun x hx y hy h a q hq => ?_⟩
  · rcases List.mem_append.1 hx with hx | hx
    · exact hT.one x hx
    · rw [List.mem_singleton.1 hx]; exact hone
  · rcases List.mem_append.1 hx with hx | hx
    · obtain ⟨a, c, f1, f2, l1, l2, l3⟩ := hcnt x hx
      refine ⟨a, c, f1, f2, l1, l2, ?_⟩
      rw [cv_setC _ _ _ _ hs l1]
      split
      · rename_i e; subst e; omega
      · exact l3
    · rw [List.mem_singleton.1 hx]
      refine ⟨s, cv v s + 1, zs, zc, hs, by omega, ?_⟩
      rw [cv_setC _ _ _ _ hs hs, if_pos rfl]
      exact Nat.le_refl _
  · rcases List.mem_append.1 hx with hx | hx
    · rcases List.mem_append.1 hy with hy | hy
      · exact hT.dis x hx y hy e1 e2
      · rw [List.mem_singleton.1 hy] at e1 e2
        exact (fresh x hx e1 e2).elim
    · rcases List.mem_append.1 hy with hy | hy
      · rw [List.mem_singleton.1 hx] at e1 e2
        exact (fresh y hy e1.symm e2.symm).elim
      · rw [List.mem_singleton.1 hx, List.mem_singleton.1 hy]
  · rcases List.mem_append.1 hx with hx | hx
    · obtain ⟨y, hy, h1, h2, h3⟩ := hT.from_ x hx a q h
      exact ⟨y, List.mem_append.2 (.inl hy), h1, h2, h3⟩
    · rw [List.mem_singleton.1 hx] at h ⊢
      obtain ⟨a1, a2, a3⟩ := zX a q h
      obtain ⟨y, hy, h1, h2, h3⟩ := hP.from_ a q a1 a2 a3
      exact ⟨y, List.mem_append.2 (.inl hy), h1.trans zi.symm, h2, h3⟩
  · rcases List.mem_append.1 hx with hx | hx
    · rcases List.mem_append.1 hy with hy | hy
      · exact hT.closed x hx y hy h a q hq
      · rw [List.mem_singleton.1 hy, ov_old x hx] at h
        cases h
    · rw [List.mem_singleton.1 hx] at h ⊢
      rcases List.mem_append.1 hy with hy | hy
      · obtain ⟨h1, h2⟩ := (ovB_iff z y).1 h
        obtain ⟨a1, a2, a3⟩ := zX _ _ h2
        obtain ⟨b1, b2, -⟩ : a < 5 ∧ q < 1024 ∧ True := by
          obtain ⟨u, hu, -, e1, e2⟩ := hT.from_ y hy a q hq
          obtain ⟨su, cu, f1, f2, l1, l2, l3⟩ := hcnt u hu
          have := hv su l1
          obtain rfl : su = a := by omega
          obtain rfl : cu = q := by omega
          exact ⟨l1, by omega, trivial⟩
        have h3 := hP.closed y hy (h1.trans zi) a3 a q b1 b2 hq
        rw [zd]
        have hi : inR a q := by
          obtain ⟨u, hu, -, e1, e2⟩ := hT.from_ y hy a q hq
          obtain ⟨su, cu, f1, f2, l1, l2, l3⟩ := hcnt u hu
          have := hv su l1
          obtain rfl : su = a := by omega
          obtain rfl : cu = q := by omega
          exact ⟨l1, l2, by omega⟩
        rw [form_mem (dsX X) a q hi]
        exact h3
      · rw [List.mem_singleton.1 hy, ovB_self hone] at h
        cases h
end Rm

/- The words of a set of dots. -/
set_option linter.unusedVariables false
set_option linter.unusedSimpArgs false
namespace Rm
open Go Go.RowKit Gx
/-- a number of given bits -/
def bitsN (f : Nat → Bool) : Nat → Nat
  | 0 => 0
  | k + 1 => bitsN f k ||| (if f k then 2 ^ k else 0)
theorem bitsN_at (f : Nat → Bool) : ∀ n k, (bitsN f n).testBit k = (decide (k < n) && f k) := by
  intro n
  induction n with
  | zero => intro k; simp [bitsN]
  | succ n ih =>
    intro k
    unfold bitsN
    rw [Nat.testBit_or, ih]
    by_cases hk : k = n
    · subst hk
      cases h : f k <;> simp [h]
    · have h1 : decide (k < n + 1) = decide (k < n) := by rw [decide_eq_decide]; omega
      rw [h1]
      cases h : f n
      · simp
      · have h2 : (2 ^ n).testBit k = false := by rw [Nat.testBit_two_pow]; simp; omega
        simp [h2]
theorem bitsN_lt (f : Nat → Bool) (n : Nat) : bitsN f n < 2 ^ n := Nat.lt_pow_two_of_testBit _ fun i hi => by
  rw [bitsN_at]
  simp
  omega
/-- the words of a set of dots -/
def xOf (D : DS) : Nat → Nat := fun i => bitsN (fun k => D (i / 16) (64 * (i % 16) + k)) 64
theorem xOf_ok (D : DS) : OkX (xOf D) := fun i => bitsN_lt _ 64
theorem xOf_ds (D : DS) (s c : Nat) (hc : c < 1024) : dsX (xOf D) s c = D s c := by
  unfold dsX xOf
  rw [bitsN_at, show (s * 16 + c / 64) / 16 = s by omega, show 64 * ((s * 16 + c / 64) % 16) + c % 64 = c by omega, decide_eq_true (show c % 64 < 64 by omega)]
  rfl
theorem xOf_eq {X : Nat → Nat} {D : DS} (hX : OkX X) (h : ∀ s q, s < 5 → q < 1024 → dsX X s q = D s q) : wArr X = wArr (xOf D) := wArr_ext fun i hi => Nat.eq_of_testBit_eq fun k => by
  unfold xOf
  rw [bitsN_at]
  by_cases hk : k < 64
  · have h1 := h (i / 16) (64 * (i % 16) + k) (by omega) (by omega)
    unfold dsX at h1
    rw [show i / 16 * 16 + (64 * (i % 16) + k) / 64 = i by omega, show (64 * (i % 16) + k) % 64 = k by omega] at h1
    rw [h1, decide_eq_true hk]
    rfl
  · rw [decide_eq_false hk]
    exact Nat.testBit_lt_two_pow (Nat.lt_of_lt_of_le (hX i) (Nat.pow_le_pow_right (by omega) (by omega)))
end Rm

/- reedkeep.told. -/
set_option linter.unusedVariables false
set_option linter.unusedSimpArgs false
namespace Gx
open Go Go.RowKit Rm
section
variable {P : Program} {ev : Operand → Value} {d : Option Tmp} {ty : TypeId} {p : String} {af : Array Edge} {g : Option (Nat × Bool)} {w : World}
end
end Gx
namespace Rm
open Go Go.RowKit Gx
theorem ToldV.dot {v : List Nat} {T : List VerD} (hT : ToldV v T) (hv : ∀ s, s < 5 → cv v s ≤ 20) {x : VerD} (hx : x ∈ T) : 0 ≤ x.s ∧ x.s < 5 ∧ 0 ≤ x.c ∧ x.c < 1024 := by
  obtain ⟨s, c, h1, h2, h3, h4, h5⟩ := hT.cnt x hx
  have := hv s h3
  omega
end Rm
namespace Go.Proofs.Ytbpkfkljeibjoaa
open Go.RowKit Rm Gx
theorem bk_grownT {w w' : World} {b base s n : Nat} {cs : Array Value} {t t' : TypeId} {v : Value} {xs : List Value} (h : Bk w b cs t) (ho : w.ownsRow base t' s v n xs) (g : w.grownBy w' v.ownBlock) (ht : Nat.beq t' t = false) : Bk w' b cs t := (g.block b h.lt (fun e => by
  obtain ⟨-, ⟨rfl, -⟩ | ⟨k, cap, cur, rfl, -, hg, -⟩⟩ := ho
  · cases e
  · obtain rfl : b = k := by simpa [Value.ownBlock] using e
    unfold Bk at h
    rw [hg] at h
    injection h with h
    injection h with _ h2
    exact Nat.ne_of_beq_eq_false ht h2)).trans h
/-- the document's All, where the set may be -/
theorem rallC (k : Value) (V : List Int) (M : List (Int × Int)) (w : World) (hk : KnR w k V M) (hc : chkK V M = 0) :
    Calls Try.prog 32 #[k] w fun e w' => e = .returned (.agg (wArr (xOf (memB (V.map Int.toNat) (M.map fun d => (d.1.toNat, d.2.toNat)))))) ∧ Gr w w' := by
  obtain ⟨v, m, rfl, rfl, ok, hl⟩ := chkK_zero hc
  rw [ints_nat, pairs_nat]
  refine (rall_any k v m w hk ok hl).mono ?_
  rintro e w' ⟨X, rfl, hX, hD, g⟩
  exact ⟨by rw [xOf_eq hX hD], g⟩
theorem rwithI (X : Nat → Nat) (s c : Int) (w : World) (hX : OkX X) (h1 : 0 ≤ s) (h2 : s < 5) (h3 : 0 ≤ c) (h4 : c < 1024) :
    Calls Try.prog 40 #[.agg (wArr X), .agg #[.int .i64 s, .int .i64 c]] w fun e w' => e = .returned (.agg (wArr (withX X s.toNat c.toNat))) ∧ Gr w w' := by
  obtain ⟨a, rfl⟩ : ∃ n : Nat, s = n := ⟨s.toNat, by omega⟩
  obtain ⟨b, rfl⟩ : ∃ n : Nat, c = n := ⟨c.toNat, by omega⟩
  have h := rwith_any X a b w hX (by omega) (by omega)
  rw [Int.toNat_natCast, Int.toNat_natCast]
  exact h
end Go.Proofs.Ytbpkfkljeibjoaa

/- What drops and a put behind them leave. -/
set_option linter.unusedVariables false
set_option linter.unusedSimpArgs false
namespace Rm
open Go Go.RowKit Gx
/-- what was told stays below -/
theorem ToldV.low {v : List Nat} {T : List VerD} (hT : ToldV v T) (hv : ∀ s, s < 5 → cv v s ≤ 20) {x : VerD} (hx : x ∈ T) : x.c ≤ 20 ∧ ∀ s, dsV x s 900 = false := by
  refine ⟨?_, fun s => ?_⟩
  · obtain ⟨s, c, h1, h2, h3, h4, h5⟩ := hT.cnt x hx
    have := hv s h3
    omega
  · cases q : dsV x s 900
    · rfl
    · obtain ⟨y, hy, -, e1, e2⟩ := hT.from_ x hx s 900 q
      obtain ⟨a, c, h1, h2, h3, h4, h5⟩ := hT.cnt y hy
      have := hv a h3
      omega
end Rm
namespace Go.Proofs.Ytbpkfkljeibjoaa
open Go.RowKit Rm Gx
end Go.Proofs.Ytbpkfkljeibjoaa

/- slices.Clone, Concat, Reverse at versions; reedref.Over; the closures of ShelfOrder. -/
set_option linter.unusedVariables false
set_option linter.unusedSimpArgs false
namespace Gx
open Go Go.RowKit Rm
section
variable {P : Program} {ops : Array Oper} {Q : Exit → Act → World → Prop} {N : Nat} {S : World → Prop}
variable {E : Type} {enc : E → List Value} {s : Nat}
/-- where a part of a slice begins -/
def offA (a : Option Addr) (c k s : Nat) : Option Addr := a.map fun p => if c = k then p else p.add (k * s)
end
section
variable {P : Program} {ev : Operand → Value} {d : Option Tmp} {ty : TypeId} {p : String} {af : Array Edge} {g : Option (Nat × Bool)} {w : World}
theorem o_eqST {t t' : TypeId} {x y : Operand} {l l' : List UInt8} (hx : ev x = .string (bs l)) (hy : ev y = .string (bs l')) (h : l = l') : (execOp ev (Oper.mk d (.binOp .eql t x y t') ty p af g)).run P w = .ok (.value (.bool true)) w := by
  subst h
  exact o_eqSs hx hy
theorem o_eqSF {t t' : TypeId} {x y : Operand} {l l' : List UInt8} (hx : ev x = .string (bs l)) (hy : ev y = .string (bs l')) (h : ¬ l = l') : (execOp ev (Oper.mk d (.binOp .eql t x y t') ty p af g)).run P w = .ok (.value (.bool false)) w := by
  have q := o_eqS (P := P) (d := d) (ty := ty) (p := p) (af := af) (g := g) (w := w) (t := t) (t' := t') hx hy
  rw [decide_eq_false h] at q
  exact q
theorem RdA.drop {E : Type} {enc : E → List Value} {s : Nat} {a : Option Addr} {K : List E} {c k : Nat} (h : RdA enc s w a K) (hc : K.length ≤ c) : RdA enc s w (offA a c k s) (K.drop k) := fun hn => by
  have hk : k < K.length := by
    rcases Nat.lt_or_ge k K.length with q | q
    · exact q
    · exact absurd (List.drop_eq_nil_of_le q) hn
  obtain ⟨b, off, rfl, hb, hx⟩ := h (fun q => by rw [q] at hk; simp at hk)
  refine ⟨b, off + k * s, ?_, hb, fun i x hi j u hu => ?_⟩
  · unfold offA
    rw [Option.map_some, if_neg (by omega), add_n]
  · rw [List.getElem?_drop] at hi
    have := hx (k + i) x hi j u hu
    rw [Nat.add_mul] at this
    rw [show off + k * s + i * s + j = off + (k * s + i * s) + j by omega]
    exact this
theorem RdA.take {E : Type} {enc : E → List Value} {s : Nat} {a : Option Addr} {K : List E} {k : Nat} (h : RdA enc s w a K) : RdA enc s w a (K.take k) := fun hn => by
  obtain ⟨b, off, e, hb, hx⟩ := h (fun q => hn (by rw [q, List.take_nil]))
  refine ⟨b, off, e, hb, fun i x hi j u hu => hx i x ?_ j u hu⟩
  have hl := (List.getElem?_eq_some_iff.1 hi).1
  rw [List.length_take] at hl
  rwa [List.getElem?_take_of_lt (by omega)] at hi
end
end Gx
namespace Go.Proofs.Ytbpkfkljeibjoaa
open Go.RowKit Rm Gx
theorem rhasI (D : DS) (s c : Int) (w : World) (h1 : 0 ≤ s) (h2 : s < 5) (h3 : 0 ≤ c) (h4 : c < 1024) :
    Calls Try.prog 33 #[.agg (wArr (xOf D)), .agg #[.int .i64 s, .int .i64 c]] w fun e w' => e = .returned (.bool (D s.toNat c.toNat)) ∧ Gr w w' := by
  obtain ⟨a, rfl⟩ : ∃ n : Nat, s = n := ⟨s.toNat, by omega⟩
  obtain ⟨b, rfl⟩ : ∃ n : Nat, c = n := ⟨c.toNat, by omega⟩
  have h := rhas_any (xOf D) a b w (xOf_ok D) (by omega) (by omega)
  rw [xOf_ds D a b (by omega)] at h
  rw [Int.toNat_natCast, Int.toNat_natCast]
  exact h
set_option maxHeartbeats 8000000 in
set_option maxRecDepth 100000 in
theorem rover_any (x y : VerI) (hx : chkK x.d.V x.d.M = 0) (h1 : 0 ≤ y.d.s) (h2 : y.d.s < 5) (h3 : 0 ≤ y.d.c) (h4 : y.d.c < 1024) (w : World) (hm : MeanV w x) :
    Calls Try.prog 21 #[.agg #[.string (bs x.d.id), .int .i64 (x.d.s), .int .i64 (x.d.c), .int .i64 (x.d.t), .int .i64 (x.d.n), .int .i64 (x.d.b), .slice x.va x.d.V.length x.vc, .slice x.ma x.d.M.length x.mc], .agg #[.string (bs y.d.id), .int .i64 (y.d.s), .int .i64 (y.d.c), .int .i64 (y.d.t), .int .i64 (y.d.n), .int .i64 (y.d.b), .slice y.va y.d.V.length y.vc, .slice y.ma y.d.M.length y.mc]] w fun e w' => e = .returned (.bool (ovB x.d y.d)) ∧ Gr w w' := by
  refine enter (N := 18) Try.func21 rfl rfl rfl (fun a0 ok0 h0 => ?_)
  have e0_0 : a0.eval (.tmp 0) = .agg #[.string (bs x.d.id), .int .i64 (x.d.s), .int .i64 (x.d.c), .int .i64 (x.d.t), .int .i64 (x.d.n), .int .i64 (x.d.b), .slice x.va x.d.V.length x.vc, .slice x.ma x.d.M.length x.mc] := h0 0 _ rfl
  have e0_1 : a0.eval (.tmp 1) = .agg #[.string (bs y.d.id), .int .i64 (y.d.s), .int .i64 (y.d.c), .int .i64 (y.d.t), .int .i64 (y.d.n), .int .i64 (y.d.b), .slice y.va y.d.V.length y.vc, .slice y.ma y.d.M.length y.mc] := h0 1 _ rfl
  clear h0
  have G0 := Gr.refl w
  refine wp_seq_k (fun K1 hK1 => ?_)
  refine wp_region_lit ?_
  refine sal (cs := #[.string (bs x.d.id), .int .i64 (x.d.s), .int .i64 (x.d.c), .int .i64 (x.d.t), .int .i64 (x.d.n), .int .i64 (x.d.b), .slice x.va x.d.V.length x.vc, .slice x.ma x.d.M.length x.mc]) ok0 rfl (wn _ rfl) rfl (o_box e0_0) (fun an2 w4 b3 W5 n2 => ?_)
  have l6 : w.heap.size ≤ b3 := by rw [W5.eq]; exact G0.size
  have G7 := G0.trans W5.gr
  refine sal (cs := #[.string (bs y.d.id), .int .i64 (y.d.s), .int .i64 (y.d.c), .int .i64 (y.d.t), .int .i64 (y.d.n), .int .i64 (y.d.b), .slice y.va y.d.V.length y.vc, .slice y.ma y.d.M.length y.mc]) n2.ok rfl (wn _ rfl) rfl (o_box (n2.ne rfl e0_1)) (fun an8 w10 b9 W11 n8 => ?_)
  have l12 : b3 < b9 := by rw [W11.eq]; exact W5.bk.lt
  have l13 : w.heap.size ≤ b9 := by rw [W11.eq]; exact G7.size
  have G14 := G7.trans W11.gr
  have B15 := W5.bk.gr W11.gr
  refine sv n8.ok rfl (wn _ rfl) rfl (o_as ev_const) (fun an16 n16 => ?_)
  refine wpList_nil ?_
  refine th_n (hK1 _ _ ?_)
  refine wp_seq_k (fun K17 hK17 => ?_)
  by_cases hid : x.d.id = y.d.id
  · have hid1 := hid
    refine reg_start (N := 18) (m := 14) (by kernel_rfl) (fun R180 => ?_)
    have R181 := R180.snoc (n' := 1) rfl (fun vJ _ => vJ = .pointer (some ⟨b3, 0, none⟩)) rfl (fun _ _ _ _ h => h) (fun aS wS pS => by
        exact Does.val (wn _ rfl) (o_fa (z := 1) ((pS.old 2 rfl).trans (n16.ne rfl (n8.ne rfl n2.at_))) Try.underlying32 rfl (by kernel_rfl) rfl rfl) (Gr.refl _) rfl rfl)
    have R182 := R181.snoc (n' := 2) rfl (fun vJ _ => vJ = .string (bs x.d.id)) rfl (fun _ _ _ _ h => h) (fun aS wS pS => by
        have eR18_0 : aS.eval (.tmp 5) = .pointer (some ⟨b3, 0, none⟩) := pS.pre 0 rfl
        exact Does.val (wn _ rfl) (o_ld (eR18_0) (Try.isAgg9 _) ((Bk.gr B15 (gr_drew pS.gr)).cell _ rfl)) (Gr.refl _) rfl rfl)
    have R183 := R182.snoc (n' := 3) rfl (fun vJ _ => vJ = .pointer (some ⟨b9, 0, none⟩)) rfl (fun _ _ _ _ h => h) (fun aS wS pS => by
        exact Does.val (wn _ rfl) (o_fa (z := 1) ((pS.old 3 rfl).trans (n16.ne rfl n8.at_)) Try.underlying32 rfl (by kernel_rfl) rfl rfl) (Gr.refl _) rfl rfl)
    have R184 := R183.snoc (n' := 4) rfl (fun vJ _ => vJ = .string (bs y.d.id)) rfl (fun _ _ _ _ h => h) (fun aS wS pS => by
        have eR18_2 : aS.eval (.tmp 7) = .pointer (some ⟨b9, 0, none⟩) := pS.pre 2 rfl
        exact Does.val (wn _ rfl) (o_ld (eR18_2) (Try.isAgg9 _) ((Bk.gr W11.bk (gr_drew pS.gr)).cell _ rfl)) (Gr.refl _) rfl rfl)
    have R185 := R184.snoc (n' := 5) rfl (fun vJ _ => vJ = .bool true) rfl (fun _ _ _ _ h => h) (fun aS wS pS => by
        have eR18_1 : aS.eval (.tmp 6) = .string (bs x.d.id) := pS.pre 1 rfl
        have eR18_3 : aS.eval (.tmp 8) = .string (bs y.d.id) := pS.pre 3 rfl
        exact Does.val (wn _ rfl) (o_eqST (eR18_1) (eR18_3) hid) (Gr.refl _) rfl rfl)
    have R186 := R185.snoc (n' := 6) rfl (fun vJ _ => vJ = .bool true) rfl (fun _ _ _ _ h => h) (fun aS wS pS => by
        have eR18_4 : aS.eval (.tmp 9) = .bool true := pS.pre 4 rfl
        exact Does.val (wn _ rfl) (o_mv (eR18_4)) (Gr.refl _) rfl rfl)
    have R187 := R186.snoc (n' := 7) rfl (fun vJ _ => vJ = .pointer (some ⟨b3, 6, none⟩)) rfl (fun _ _ _ _ h => h) (fun aS wS pS => by
        have eR18_5 : aS.eval (.tmp 10) = .bool true := pS.pre 5 rfl
        exact Does.val (wgT rfl (yl 5 true rfl eR18_5) rfl) (o_fa (z := 2) ((pS.old 2 rfl).trans (n16.ne rfl (n8.ne rfl n2.at_))) Try.underlying32 rfl (by kernel_rfl) rfl rfl) (Gr.refl _) rfl rfl)
    have R188 := R187.snoc (n' := 8) rfl (fun vJ _ => vJ = .agg #[.slice x.va x.d.V.length x.vc, .slice x.ma x.d.M.length x.mc]) rfl (fun _ _ _ _ h => h) (fun aS wS pS => by
        have eR18_5 : aS.eval (.tmp 10) = .bool true := pS.pre 5 rfl
        have eR18_6 : aS.eval (.tmp 11) = .pointer (some ⟨b3, 6, none⟩) := pS.pre 6 rfl
        exact Does.val (wgT rfl (yl 5 true rfl eR18_5) rfl) (o_ldA (k := 6) (cs := [.slice x.va x.d.V.length x.vc, .slice x.ma x.d.M.length x.mc]) (eR18_6) (bk_part (Bk.gr B15 (gr_drew pS.gr)) rfl) Try.underlying30 rfl (by kernel_rfl)) (Gr.refl _) rfl rfl)
    have R189 := R188.snoc (n' := 9) rfl (fun vJ _ => vJ = .agg (wArr (xOf (dsV x.d)))) rfl (fun _ _ _ _ h => h) (fun aS wS pS => by
        have eR18_5 : aS.eval (.tmp 10) = .bool true := pS.pre 5 rfl
        have eR18_7 : aS.eval (.tmp 12) = .agg #[.slice x.va x.d.V.length x.vc, .slice x.ma x.d.M.length x.mc] := pS.pre 7 rfl
        exact Does.call (wgT rfl (yl 5 true rfl eR18_5) rfl) (o_f1 Try.func32 rfl rfl rfl (eR18_7)) (rallC _ x.d.V x.d.M wS (MeanV.gr hm (G14.trans (gr_drew pS.gr))) hx) (by rintro _ w2 ⟨rfl, g⟩; exact ⟨_, rfl, g, rfl⟩) rfl)
    have R1810 := R189.snoc (n' := 10) rfl (fun vJ _ => vJ = .pointer (some ⟨b9, 1, none⟩)) rfl (fun _ _ _ _ h => h) (fun aS wS pS => by
        have eR18_5 : aS.eval (.tmp 10) = .bool true := pS.pre 5 rfl
        exact Does.val (wgT rfl (yl 5 true rfl eR18_5) rfl) (o_fa (z := 2) ((pS.old 3 rfl).trans (n16.ne rfl n8.at_)) Try.underlying32 rfl (by kernel_rfl) rfl rfl) (Gr.refl _) rfl rfl)
    have R1811 := R1810.snoc (n' := 11) rfl (fun vJ _ => vJ = .agg #[.int .i64 (y.d.s), .int .i64 (y.d.c)]) rfl (fun _ _ _ _ h => h) (fun aS wS pS => by
        have eR18_5 : aS.eval (.tmp 10) = .bool true := pS.pre 5 rfl
        have eR18_9 : aS.eval (.tmp 14) = .pointer (some ⟨b9, 1, none⟩) := pS.pre 9 rfl
        exact Does.val (wgT rfl (yl 5 true rfl eR18_5) rfl) (o_ldA (k := 1) (cs := [.int .i64 (y.d.s), .int .i64 (y.d.c)]) (eR18_9) (bk_part (Bk.gr W11.bk (gr_drew pS.gr)) rfl) Try.underlying24 rfl (by kernel_rfl)) (Gr.refl _) rfl rfl)
    have R1812 := R1811.snoc (n' := 12) rfl (fun vJ _ => vJ = .bool (dsV x.d y.d.s.toNat y.d.c.toNat)) rfl (fun _ _ _ _ h => h) (fun aS wS pS => by
        have eR18_5 : aS.eval (.tmp 10) = .bool true := pS.pre 5 rfl
        have eR18_8 : aS.eval (.tmp 13) = .agg (wArr (xOf (dsV x.d))) := pS.pre 8 rfl
        have eR18_10 : aS.eval (.tmp 15) = .agg #[.int .i64 (y.d.s), .int .i64 (y.d.c)] := pS.pre 10 rfl
        exact Does.call (wgT rfl (yl 5 true rfl eR18_5) rfl) (o_f2 Try.func33 rfl rfl rfl (eR18_8) (eR18_10)) (rhasI (dsV x.d) y.d.s y.d.c wS h1 h2 h3 h4) (by rintro _ w2 ⟨rfl, g⟩; exact ⟨_, rfl, g, rfl⟩) rfl)
    have R1813 := R1812.snoc (n' := 13) rfl (fun vJ _ => vJ = .bool (dsV x.d y.d.s.toNat y.d.c.toNat)) rfl (fun _ _ _ _ h => h) (fun aS wS pS => by
        have eR18_5 : aS.eval (.tmp 10) = .bool true := pS.pre 5 rfl
        have eR18_11 : aS.eval (.tmp 16) = .bool (dsV x.d y.d.s.toNat y.d.c.toNat) := pS.pre 11 rfl
        exact Does.val (wn _ rfl) (o_pkT (eR18_5) (eR18_11)) (Gr.refl _) rfl rfl)
    have R1814 := R1813.snoc (n' := 14) rfl (fun vJ _ => vJ = .bool (dsV x.d y.d.s.toNat y.d.c.toNat)) rfl (fun _ _ _ _ h => h) (fun aS wS pS => by
        have eR18_12 : aS.eval (.tmp 17) = .bool (dsV x.d y.d.s.toNat y.d.c.toNat) := pS.pre 12 rfl
        exact Does.val (wn _ rfl) (o_as (eR18_12)) (Gr.refl _) rfl rfl)
    refine R1814.run (k := 0) (L := #[true, true, true, true, true, true, true, true, true, true, true, true, true, true]) (by kernel_rfl) (by kernel_rfl) (by kernel_rfl) n16.ok (by kernel_rfl) (by kernel_rfl) (fun ap20 w21 p20 => ?_)
    have g22 := gr_drew p20.gr
    have G23 := G14.trans g22
    have B24 := B15.gr g22
    have B25 := W11.bk.gr g22
    refine wpAny_done (by kernel_rfl) ?_ _
    refine th_n (hK17 _ _ ?_)
    refine wp_ret ?_
    have ep20_13 : ap20.eval (.tmp 4) = .bool (dsV x.d y.d.s.toNat y.d.c.toNat) := p20.js 13 rfl
    exact ret1 p20.ok rfl (ep20_13) ⟨by rw [ovB_ds, decide_eq_true hid.symm]; rfl, G23⟩
  · have hid1 := hid
    refine reg_start (N := 18) (m := 14) (by kernel_rfl) (fun R260 => ?_)
    have R261 := R260.snoc (n' := 1) rfl (fun vJ _ => vJ = .pointer (some ⟨b3, 0, none⟩)) rfl (fun _ _ _ _ h => h) (fun aS wS pS => by
        exact Does.val (wn _ rfl) (o_fa (z := 1) ((pS.old 2 rfl).trans (n16.ne rfl (n8.ne rfl n2.at_))) Try.underlying32 rfl (by kernel_rfl) rfl rfl) (Gr.refl _) rfl rfl)
    have R262 := R261.snoc (n' := 2) rfl (fun vJ _ => vJ = .string (bs x.d.id)) rfl (fun _ _ _ _ h => h) (fun aS wS pS => by
        have eR26_0 : aS.eval (.tmp 5) = .pointer (some ⟨b3, 0, none⟩) := pS.pre 0 rfl
        exact Does.val (wn _ rfl) (o_ld (eR26_0) (Try.isAgg9 _) ((Bk.gr B15 (gr_drew pS.gr)).cell _ rfl)) (Gr.refl _) rfl rfl)
    have R263 := R262.snoc (n' := 3) rfl (fun vJ _ => vJ = .pointer (some ⟨b9, 0, none⟩)) rfl (fun _ _ _ _ h => h) (fun aS wS pS => by
        exact Does.val (wn _ rfl) (o_fa (z := 1) ((pS.old 3 rfl).trans (n16.ne rfl n8.at_)) Try.underlying32 rfl (by kernel_rfl) rfl rfl) (Gr.refl _) rfl rfl)
    have R264 := R263.snoc (n' := 4) rfl (fun vJ _ => vJ = .string (bs y.d.id)) rfl (fun _ _ _ _ h => h) (fun aS wS pS => by
        have eR26_2 : aS.eval (.tmp 7) = .pointer (some ⟨b9, 0, none⟩) := pS.pre 2 rfl
        exact Does.val (wn _ rfl) (o_ld (eR26_2) (Try.isAgg9 _) ((Bk.gr W11.bk (gr_drew pS.gr)).cell _ rfl)) (Gr.refl _) rfl rfl)
    have R265 := R264.snoc (n' := 5) rfl (fun vJ _ => vJ = .bool false) rfl (fun _ _ _ _ h => h) (fun aS wS pS => by
        have eR26_1 : aS.eval (.tmp 6) = .string (bs x.d.id) := pS.pre 1 rfl
        have eR26_3 : aS.eval (.tmp 8) = .string (bs y.d.id) := pS.pre 3 rfl
        exact Does.val (wn _ rfl) (o_eqSF (eR26_1) (eR26_3) hid) (Gr.refl _) rfl rfl)
    have R266 := R265.snoc (n' := 6) rfl (fun vJ _ => vJ = .bool false) rfl (fun _ _ _ _ h => h) (fun aS wS pS => by
        have eR26_4 : aS.eval (.tmp 9) = .bool false := pS.pre 4 rfl
        exact Does.val (wn _ rfl) (o_mv (eR26_4)) (Gr.refl _) rfl rfl)
    have R267 := R266.snoc (n' := 7) rfl (fun vJ _ => vJ = undef) rfl (fun _ _ _ _ h => h) (fun aS wS pS => by
        have eR26_5 : aS.eval (.tmp 10) = .bool false := pS.pre 5 rfl
        exact Does.not (wgF rfl (yl 5 false rfl eR26_5) rfl) rfl rfl)
    have R268 := R267.snoc (n' := 8) rfl (fun vJ _ => vJ = undef) rfl (fun _ _ _ _ h => h) (fun aS wS pS => by
        have eR26_5 : aS.eval (.tmp 10) = .bool false := pS.pre 5 rfl
        exact Does.not (wgF rfl (yl 5 false rfl eR26_5) rfl) rfl rfl)
    have R269 := R268.snoc (n' := 9) rfl (fun vJ _ => vJ = undef) rfl (fun _ _ _ _ h => h) (fun aS wS pS => by
        have eR26_5 : aS.eval (.tmp 10) = .bool false := pS.pre 5 rfl
        exact Does.not (wgF rfl (yl 5 false rfl eR26_5) rfl) rfl rfl)
    have R2610 := R269.snoc (n' := 10) rfl (fun vJ _ => vJ = undef) rfl (fun _ _ _ _ h => h) (fun aS wS pS => by
        have eR26_5 : aS.eval (.tmp 10) = .bool false := pS.pre 5 rfl
        exact Does.not (wgF rfl (yl 5 false rfl eR26_5) rfl) rfl rfl)
    have R2611 := R2610.snoc (n' := 11) rfl (fun vJ _ => vJ = undef) rfl (fun _ _ _ _ h => h) (fun aS wS pS => by
        have eR26_5 : aS.eval (.tmp 10) = .bool false := pS.pre 5 rfl
        exact Does.not (wgF rfl (yl 5 false rfl eR26_5) rfl) rfl rfl)
    have R2612 := R2611.snoc (n' := 12) rfl (fun vJ _ => vJ = undef) rfl (fun _ _ _ _ h => h) (fun aS wS pS => by
        have eR26_5 : aS.eval (.tmp 10) = .bool false := pS.pre 5 rfl
        exact Does.not (wgF rfl (yl 5 false rfl eR26_5) rfl) rfl rfl)
    have R2613 := R2612.snoc (n' := 13) rfl (fun vJ _ => vJ = .bool false) rfl (fun _ _ _ _ h => h) (fun aS wS pS => by
        have eR26_5 : aS.eval (.tmp 10) = .bool false := pS.pre 5 rfl
        exact Does.val (wn _ rfl) (o_pkF (eR26_5) ev_const) (Gr.refl _) rfl rfl)
    have R2614 := R2613.snoc (n' := 14) rfl (fun vJ _ => vJ = .bool false) rfl (fun _ _ _ _ h => h) (fun aS wS pS => by
        have eR26_12 : aS.eval (.tmp 17) = .bool false := pS.pre 12 rfl
        exact Does.val (wn _ rfl) (o_as (eR26_12)) (Gr.refl _) rfl rfl)
    refine R2614.run (k := 0) (L := #[true, true, true, true, true, true, true, true, true, true, true, true, true, true]) (by kernel_rfl) (by kernel_rfl) (by kernel_rfl) n16.ok (by kernel_rfl) (by kernel_rfl) (fun ap28 w29 p28 => ?_)
    have g30 := gr_drew p28.gr
    have G31 := G14.trans g30
    have B32 := B15.gr g30
    have B33 := W11.bk.gr g30
    refine wpAny_done (by kernel_rfl) ?_ _
    refine th_n (hK17 _ _ ?_)
    refine wp_ret ?_
    have ep28_13 : ap28.eval (.tmp 4) = .bool false := p28.js 13 rfl
    exact ret1 p28.ok rfl (ep28_13) ⟨by rw [ovB_ds, decide_eq_false (fun q => hid q.symm)]; rfl, G31⟩
end Go.Proofs.Ytbpkfkljeibjoaa

/- Rows of integers as they are given, with their sizes; slices.Concat over two of them. -/
set_option linter.unusedVariables false
set_option linter.unusedSimpArgs false
namespace Go.Proofs.Ytbpkfkljeibjoaa
open Go.RowKit Rm Gx
/-- the rows of a slice -/
def RdLc (w : World) (a : Option Addr) (L : List (List Int)) : Prop := L ≠ [] → ∃ b off, a = some ⟨b, off, none⟩ ∧ b < w.heap.size ∧ ∀ i x, L[i]? = some x → ∃ ua uc, w.cell? ⟨b, off + i * 1, none⟩ = some (.slice ua x.length uc) ∧ RdI1 w ua x
theorem RdLc.gr {w w' : World} {a : Option Addr} {L : List (List Int)} (h : RdLc w a L) (g : Gr w w') : RdLc w' a L := fun hn => by
  obtain ⟨b, off, e, hb, hx⟩ := h hn
  refine ⟨b, off, e, Nat.lt_of_lt_of_le hb g.le, fun i x hi => ?_⟩
  obtain ⟨ua, uc, h1, h2⟩ := hx i x hi
  exact ⟨ua, uc, (g.cells.1 b _ hb).trans h1, h2.gr g⟩
theorem RdLc.take {w : World} {a : Option Addr} {L : List (List Int)} {k : Nat} (h : RdLc w a L) : RdLc w a (L.take k) := fun hn => by
  obtain ⟨b, off, e, hb, hx⟩ := h (fun q => hn (by rw [q, List.take_nil]))
  refine ⟨b, off, e, hb, fun i x hi => hx i x ?_⟩
  have hl := (List.getElem?_eq_some_iff.1 hi).1
  rw [List.length_take] at hl
  rwa [List.getElem?_take_of_lt (by omega)] at hi
section
open Go.ChangeShapes Go.WideShapes Go.ChangeAt Go.RowKit Go.Deep Rm
variable {H : Type} {enc : TypeId × Value → H} {W : World} {base : Nat} {spare : Nat → Bool} {held : Bool}
end
end Go.Proofs.Ytbpkfkljeibjoaa

/- slices.SortFunc at dots by shelf.compareDots: the same dots, in order. -/
namespace Go.Proofs.Ytbpkfkljeibjoaa
open Go.RowKit Rm Go.Sort
set_option linter.unusedVariables false
set_option linter.unusedSimpArgs false
set_option maxHeartbeats 1000000 in
set_option maxRecDepth 100000 in
theorem scompare_any (x y : Nat × Nat) (w : World) :
    Calls Try.prog 50 #[.agg #[.int .i64 x.1, .int .i64 x.2], .agg #[.int .i64 y.1, .int .i64 y.2]] w fun e w' => e = .returned (.int .i64 (cmpD x y)) ∧ GrD w w' := by
  have H1 := Lib.hid (cmp_any (x.1 : Int) (y.1 : Int))
  have H2 := Lib.hid (cmp_any (x.2 : Int) (y.2 : Int))
  have H3 := Lib.hid (or_any (Lib.compareInt (x.1 : Int) y.1) (Lib.compareInt (x.2 : Int) y.2))
  have HD : Hid (cmpD x y = if Lib.compareInt (x.1 : Int) y.1 != 0 then Lib.compareInt (x.1 : Int) y.1 else Lib.compareInt (x.2 : Int) y.2) := rfl
  generalize Lib.compareInt (x.1 : Int) y.1 = c1 at *
  generalize Lib.compareInt (x.2 : Int) y.2 = c2 at *
  generalize cmpD x y = r at *
  obtain ⟨x1, x2⟩ := x
  obtain ⟨y1, y2⟩ := y
  go_enter Try.func50, Try.ntmps50
  go_wp2_with fail
  have T0 := (Two.new w x1 x2 24).alloc (.cells #[.int .i64 (y1 : Int), .int .i64 (y2 : Int)] 24)
  have T1 := Two.new (w.alloc (.cells #[.int .i64 (x1 : Int), .int .i64 (x2 : Int)] 24)) y1 y2 24
  have G0 := Lib.hid (((GrD.refl w).alloc (.cells #[.int .i64 (x1 : Int), .int .i64 (x2 : Int)] 24)).alloc (.cells #[.int .i64 (y1 : Int), .int .i64 (y2 : Int)] 24))
  rw [World.size_alloc] at T1
  generalize (w.alloc (.cells #[.int .i64 (x1 : Int), .int .i64 (x2 : Int)] 24)).alloc (.cells #[.int .i64 (y1 : Int), .int .i64 (y2 : Int)] 24) = w2 at *
  obtain ⟨t1, t2, t3⟩ := T0
  obtain ⟨u1, u2, u3⟩ := T1
  clear t1 u1
  go_still_tail 10, (by kernel_rfl)
  still_call (H1.out _)
  repeat still_step
  still_call (H2.out _)
  repeat still_step
  refine wpStill_nil ?_
  change wpList _ _ _ _ _ w2.drew
  have G1 := Lib.hid (G0.out.drew)
  clear t2 t3 u2 u3 G0 H1 H2
  generalize w2.drew = w3 at *
  have HC : Hid (∀ c, Calls Try.prog 57 #[.slice (some ⟨w3.heap.size, 0, none⟩) 2 c] (w3.alloc (.cells #[.int .i64 c1, .int .i64 c2] 3)) fun e w' => e = .returned (.int .i64 r) ∧ w' = w3.alloc (.cells #[.int .i64 c1, .int .i64 c2] 3)) :=
    fun c => by rw [HD.out]; exact H3.out _ c _ (by simp [go_sem]) (by simp [go_sem])
  go_wp2_with (go_at_call 57; refine (HC.out _).mono ?_; rintro e w' ⟨rfl, rfl⟩)
  go_ret
  exact ⟨rfl, G1.out.alloc _⟩
theorem enter_scompare (args : Array Value) (w : World) : (callFunc 50 args).run Try.prog w = .ok (.enter 50 args) w := enters_of Try.func50 (by kernel_rfl) rfl _ _
theorem scompare_lays (blk off size : Nat) (w : World) : CmpLays Try.prog 50 #[] encD 2 cmpD blk off size w :=
  fun m os dk _ x y => (scompare_any x y _).mono fun e w' ⟨h1, h2⟩ => ⟨h1, h2.grow⟩

set_option maxHeartbeats 1000000 in
set_option maxRecDepth 100000 in
/-- a list of dots that owns its row is sorted where it lies -/
theorem sort_ownS (l : List (Nat × Nat)) (v : Value) (w : World) (base : Nat) (hl : l.length ≤ 10000) (ho : w.ownsRow base 24 2 v l.length (flat (pairs l))) :
    Calls Try.prog 49 #[v, .func (.func 50) #[] #[]] w fun e w' => e = .returned (.tuple #[]) ∧
      ∃ l' : List (Nat × Nat), l'.Perm l ∧ l'.Pairwise (fun a b => ¬ ltD b a) ∧ w'.ownsRow base 24 2 v l'.length (flat (pairs l')) ∧ w.grownBy w' v.ownBlock := by
  obtain ⟨hxl, ⟨rfl, hn⟩ | ⟨g, cap, cur, rfl, hbg, hg, hnc, hcm, hcs, htake⟩⟩ := ho
  · obtain rfl : l = [] := List.eq_nil_of_length_eq_zero hn
    refine (AnyF.slices_SortFunc_none Try.sortDots none 0 _ w).mono ?_
    rintro e w' ⟨rfl, rfl⟩
    exact ⟨rfl, [], List.Perm.refl _, List.Pairwise.nil, World.ownsRow_nil _ _ _ _, ⟨rfl, rfl, rfl, Nat.le_refl _, fun _ _ _ => rfl⟩⟩
  · have hlt : g < w.heap.size := (Array.getElem?_eq_some_iff.1 hg).1
    have hfl : (flat (pairs l)).length = l.length * 2 := by rw [flat_len, pairs_len]
    have hH : HoldsK encD 2 w g 0 l.toArray := by
      unfold HoldsK
      rw [flatK_eq]
      intro j hj
      have hj' : j < (flat (pairs l)).length := by simpa using hj
      refine ⟨?_, by simp [World.frozen?, hg]⟩
      have h1 : (cur.toList.take (l.length * 2))[j]? = (flat (pairs l))[j]? := by rw [htake]
      rw [List.getElem?_take_of_lt (by omega)] at h1
      simp only [World.cell?, hg, Nat.zero_add]
      simp only [Option.isSome_none, Bool.false_eq_true, if_false]
      rw [← Array.getElem?_toList, h1]
      simp [hj']
    have hcon := AnyQ.slices_SortFunc Try.sortDots 2 Try.isAgg24 Try.sizeOf24 encD (fun _ => rfl) (fun x v hv => by simp [encD] at hv; rcases hv with rfl | rfl <;> rfl) cmpD swoD 50 #[] g 0 cap l.toArray w enter_scompare (scompare_lays g 0 _ w) hH hlt (by simp; omega)
    refine hcon.mono ?_
    rintro e w' ⟨rfl, d', n, os, hp, hs, rfl⟩
    obtain ⟨hsz, -, hperm⟩ := hp
    have hsz' : d'.toList.length = l.length := by simpa using hsz
    have hpl : d'.toList.Perm l := by
      have e1 : (d'.extract 0 l.toArray.size) = d' := by rw [← hsz]; simp
      have e2 : (l.toArray.extract 0 l.toArray.size) = l.toArray := by simp
      rw [e1, e2] at hperm
      simpa using hperm
    refine ⟨rfl, d'.toList, hpl, ?_, ?_, ?_⟩
    · rw [List.pairwise_iff_getElem]
      intro i j hi hj hij hlt
      have h1 := hs i j (Nat.zero_le _) hij (by rw [← hsz]; simpa using hj)
      rw [Bool.eq_false_iff, ne_eq, cmpD_lt] at h1
      apply h1
      rw [getElem!_pos d' j (by simpa using hj), getElem!_pos d' i (by simpa using hi)]
      simpa using hlt
    · have hfk : flatK encD 2 d' = (flat (pairs d'.toList)).toArray := by
        have := flatK_eq d'.toList
        simpa using this
      have hfl' : (flat (pairs d'.toList)).length = l.length * 2 := by rw [flat_len, pairs_len, hsz']
      refine ⟨by rw [flat_len, pairs_len], .inr ⟨g, cap, putCells id 0 (flatK encD 2 d') cur, by rw [hsz'], hbg, ?_, by omega, hcm, by simp [putCells, hcs], ?_⟩⟩
      · exact heap_put _ hg
      · rw [hfk, hsz', ← hfl']
        refine take_put cur _ ?_
        rw [hfl', hcs]
        exact Nat.mul_le_mul_right 2 hnc
    · exact grown_put _
end Go.Proofs.Ytbpkfkljeibjoaa

/- slices.Compact at dots, over a row that is owned: more of them. -/
set_option linter.unusedVariables false
set_option linter.unusedSimpArgs false
namespace Go.Proofs.Ytbpkfkljeibjoaa
open Go.RowKit Rm
set_option maxHeartbeats 4000000 in
set_option maxRecDepth 100000 in
theorem compact_rowS (l : List (Nat × Nat)) (g cap : Nat) (w : World) (hr : RowD 24 w g cap l) (hn : l.length ≤ 10000) :
    Calls Try.prog 51 #[.slice (some ⟨g, 0, none⟩) l.length cap] w fun e w' => e = .returned (.slice (some ⟨g, 0, none⟩) (ddT l l.length).length cap) ∧ RowD 24 w' g cap (ddT l l.length) ∧ w.grownBy w' (some g) := by
  have HR := Lib.hid hr
  have hnI : (l.length : Int) ≤ 10000 := by omega
  have hcap : l.length ≤ cap := hr.1
  by_cases h2 : l.length < 2
  · have HE : Hid (ddT l l.length = l) := by
      show _ = _
      rw [ddT_all (Nat.le_refl _) (fun j h1 h3 => by omega)]; simp
    have h2I : (l.length : Int) < 2 := by omega
    clear hr
    go_enter Try.func51, Try.ntmps51
    go_wp2
    go_ret
    rw [HE.out]
    exact ⟨rfl, HR.out, gb_refl _ _⟩
  · have h2I : ¬ (l.length : Int) < 2 := by omega
    clear hr
    go_enter Try.func51, Try.ntmps51
    go_wp2
    go_loopg [3] l.length (fun gh s3 wr => ∃ k : Nat, 1 ≤ k ∧ k ≤ l.length ∧ l.length - k ≤ gh ∧ s3 = .int .i64 (k : Int) ∧ (∃ q, wr = w.drewN q) ∧ ∀ j, j < k → 0 < j → l[j]? ≠ l[j - 1]?)
    case atStart => exact ⟨1, by omega, by omega, by omega, rfl, ⟨0, rfl⟩, fun j h1 h3 => by omega⟩
    case round =>
      obtain ⟨k, hk1, hk, hg, rfl, ⟨q, hwr⟩, hall⟩ := hrel
      have HA := Lib.hid hall
      have HW := Lib.hid hwr
      have HRr : Hid (RowD 24 wr g cap l) := by rw [hwr]; exact RowD.drewN HR.out q
      clear hall hwr
      by_cases hlt : k < l.length
      · obtain ⟨p, hkp⟩ : ∃ p, k = p + 1 := ⟨k - 1, by omega⟩
        obtain ⟨x, hx⟩ : ∃ x, l[p]? = some x := ⟨_, List.getElem?_eq_getElem (by omega)⟩
        obtain ⟨y, hy⟩ : ∃ y, l[k]? = some y := ⟨_, List.getElem?_eq_getElem (by omega)⟩
        obtain ⟨a0, a1, a2, a3⟩ := RowD.cell HRr.out hx
        obtain ⟨b0, b1, b2, b3⟩ := RowD.cell HRr.out hy
        have hltI : (k : Int) < (l.length : Int) := by omega
        have hsub : (k : Int) - 1 = (p : Int) := by omega
        have hpI : (p : Int) < (l.length : Int) := by omega
        have hwp : IntKind.i64.wrap (p : Int) = (p : Int) := IntWalk.i64_in _ (by omega)
        have HX := Lib.hid hx
        have HY := Lib.hid hy
        have HK := Lib.hid hkp
        obtain ⟨x1, x2⟩ := x
        obtain ⟨y1, y2⟩ := y
        simp only at a0 a1 b0 b1
        clear hx hy a2 a3 b2 b3 hkp
        by_cases hdup : (y1, y2) = (x1, x2)
        · obtain ⟨rfl, rfl⟩ := Prod.mk.inj hdup
          clear hdup
          have HS : Hid (∀ m, CmpAt l w (wr.drewN m) g cap k k 0 l) := by
            intro m
            have hks := HK.out
            have e1 : ddT l (k + 1) = ddT l k := ddT_same (i := k) HY.out ⟨by omega, by rw [show k - 1 = p by omega]; exact HX.out⟩
            have e2 : ddT l k = l.take k := ddT_all (by omega) HA.out
            refine ⟨by omega, by omega, rfl, ?_, ?_, fun i _ => rfl, RowD.drewN HRr.out m, ?_⟩
            · show k = (ddT l (k + 1)).length
              rw [e1, e2]; simp; omega
            · show l.take k = ddT l (k + 1)
              rw [e1, e2]
            · rw [HW.out]; exact gb_trans (gb_drewN w g q) (gb_drewN _ g m)
          go_wp2_with fail
          go_quiet (fail)
          have HI := Lib.hid (HS.out nq)
          generalize (wr.drewN nq) = w1 at *
          clear HS a0 a1 b0 b1
          have hkc : k ≤ cap := by omega
          go_wp2
          generalize hn2 : l.length - k = n2 at *
          have HN2 := Lib.hid hn2
          clear hn2
          go_loopg [3, 5] l.length (fun gh s3 s5 wr => ∃ (i j j' : Nat) (c : List (Nat × Nat)), s3 = .int .i64 (i : Int) ∧ s5 = .int .i64 (j : Int) ∧ j = j' + 1 ∧ l.length - (k + j) ≤ gh ∧ CmpAt l w wr g cap k i j' c)
          case atStart => exact ⟨k, 1, 0, l, rfl, rfl, rfl, by omega, HI.out⟩
          case round =>
            obtain ⟨i, j, j', c, rfl, rfl, hjj, hg2, hat⟩ := hrel
            have HT := Lib.hid hat
            have HJ := Lib.hid hjj
            have hij : i ≤ k + j' := hat.2.1
            have hcl : c.length = l.length := hat.2.2.1
            have hle : k + j ≤ l.length := by have := hat.1; omega
            clear hat hjj
            by_cases hjl : k + j < l.length
            · obtain ⟨x, hx⟩ : ∃ x, l[k + j]? = some x := ⟨_, List.getElem?_eq_getElem (by omega)⟩
              obtain ⟨y, hy⟩ : ∃ y, l[k + j']? = some y := ⟨_, List.getElem?_eq_getElem (by have := HJ.out; omega)⟩
              obtain ⟨z, hz⟩ : ∃ z, c[i]? = some z := ⟨_, List.getElem?_eq_getElem (by have := HJ.out; omega)⟩
              have hRow := HT.out.2.2.2.2.2.2.1
              have hhi := HT.out.2.2.2.2.2.1
              have hx' := (hhi (k + j) (by have := HJ.out; omega)).trans hx
              have hy' := (hhi (k + j') (by omega)).trans hy
              obtain ⟨a0, a1, a2, a3⟩ := RowD.cell hRow hx'
              obtain ⟨b0, b1, b2, b3⟩ := RowD.cell hRow hy'
              obtain ⟨d0, d1, d2, d3⟩ := RowD.cell hRow hz
              have o1 : (k + j) * 2 = k * 2 + j * 2 := by omega
              have o2 : (k + j') * 2 = k * 2 + j' * 2 := by omega
              rw [o1] at a0 a1
              rw [o2] at b0 b1
              have HX2 := Lib.hid hx
              have HY2 := Lib.hid hy
              have hjI : (j : Int) < (n2 : Int) := by have := HN2.out; omega
              have hsub : (j : Int) - 1 = (j' : Int) := by have := HJ.out; omega
              have hj'I : (j' : Int) < (n2 : Int) := by omega
              have hiI : (i : Int) < (l.length : Int) := by have := HJ.out; omega
              have hjb : (j : Int) ≤ 10000 := by omega
              have hwj : IntKind.i64.wrap (j' : Int) = (j' : Int) := IntWalk.i64_in _ (by omega)
              have HRow := Lib.hid hRow
              have HIC : Hid (i < c.length) := by show _ < _; have := HJ.out; omega
              obtain ⟨x1, x2⟩ := x
              obtain ⟨y1, y2⟩ := y
              obtain ⟨z1, z2⟩ := z
              simp only at a0 a1 b0 b1 d0 d1
              clear hx hy hz hx' hy' hRow hhi a2 a3 b2 b3 o1 o2
              by_cases hsame : (x1, x2) = (y1, y2)
              · obtain ⟨rfl, rfl⟩ := Prod.mk.inj hsame
                clear hsame
                have HN : Hid (∀ m, CmpAt l w (wr.drewN m) g cap k i (j' + 1) c) := fun m => CmpAt.same HT.out (by have := HJ.out; omega) (by rw [show k + j' + 1 = k + j by have := HJ.out; omega, HX2.out, HY2.out]) (RowD.drewN HRow.out m) (gb_drewN _ g m)
                go_wp2_with fail
                go_quiet (fail)
                go_wp2
                go_roundg (l.length - (k + (j + 1)))
                case measure => omega
                case rel => exact ⟨i, j + 1, j' + 1, c, rfl, by go_num, by rw [HJ.out], Nat.le_refl _, HN.out _⟩
              · have HN : Hid (∀ m, CmpAt l w (((wr.drewN m).setCell ⟨g, i * 2, none⟩ (.int .i64 (x1 : Int))).setCell ⟨g, i * 2 + 1, none⟩ (.int .i64 (x2 : Int))) g cap k (i + 1) (j' + 1) (c.set i (x1, x2))) := fun m =>
                  CmpAt.more (d := (x1, x2)) HT.out (by rw [show k + j' + 1 = k + j by have := HJ.out; omega, HX2.out]) (by rw [HY2.out]; intro e; exact hsame (Option.some.inj e).symm) (RowD.put (RowD.drewN HRow.out m) (x1, x2) HIC.out) (gb_trans (gb_drewN _ g m) (gb_trans (gset _ g _ _) (gset _ g _ _)))
                have hne : ¬ (x1 = y1 ∧ x2 = y2) := fun e => hsame (by rw [e.1, e.2])
                clear hsame
                have hcase : (¬ x1 = y1) ∨ (x1 = y1 ∧ ¬ x2 = y2) := by omega
                rcases hcase with h1 | ⟨rfl, h1⟩
                · clear hne
                  go_wp2_with fail
                  go_quiet (fail)
                  go_wp2
                  go_roundg (l.length - (k + (j + 1)))
                  case measure => omega
                  case rel => exact ⟨i + 1, j + 1, j' + 1, _, by go_num, by go_num, by rw [HJ.out], Nat.le_refl _, HN.out _⟩
                · clear hne
                  have h1I : ¬ (x2 : Int) = (y2 : Int) := by omega
                  go_wp2_with fail
                  go_quiet (fail)
                  go_wp2
                  go_roundg (l.length - (k + (j + 1)))
                  case measure => omega
                  case rel => exact ⟨i + 1, j + 1, j' + 1, _, by go_num, by go_num, by rw [HJ.out], Nat.le_refl _, HN.out _⟩
            · have hend : k + j = l.length := by omega
              have hjI : ¬ (j : Int) < (n2 : Int) := by have := HN2.out; omega
              have hil : i < l.length := by have := HJ.out; omega
              have hRow := HT.out.2.2.2.2.2.2.1
              have hblk := hRow.2
              have hclr : ∀ ty, (Builtin.clear_ #[28] ty #[.slice (some ⟨g, i * 2, none⟩) (l.length - i) (cap - i)]).run Try.prog wr = .ok (.tuple #[]) (wr.setCells g (i * 2) (zsD (l.length - i))) := fun ty => by
                obtain ⟨cur, hgc, hsz, htk⟩ := hblk
                exact run_clear_dots wr ty g (i * 2) _ _ (by omega) (fun m hm => by simp only [World.cell?, hgc]; simp; omega) (fun m hm => by simp [World.frozen?, hgc])
              have HF : Hid ((ddT l l.length).length = i ∧ RowD 24 (wr.setCells g (i * 2) (zsD (l.length - i))) g cap (ddT l l.length) ∧ w.grownBy (wr.setCells g (i * 2) (zsD (l.length - i))) (some g)) := by
                obtain ⟨q1, q2, q3, q4, q5, q6, q7, q8⟩ := HT.out
                have e : k + j' + 1 = l.length := by have := HJ.out; omega
                rw [e] at q4 q5
                refine ⟨q4.symm, ?_, gb_trans q8 (setCells_grown g _ _ _)⟩
                rw [← q5]
                exact RowD.shrink q7 (by omega)
              have hiI : (i : Int) < (l.length : Int) := by omega
              clear hRow hblk
              go_wp2
              go_ret
              obtain ⟨f1, f2, f3⟩ := HF.out
              exact ⟨by rw [f1]; rfl, f2, f3⟩
        · have HN : Hid (∀ j, j < k + 1 → 0 < j → l[j]? ≠ l[j - 1]?) := fun j h1 h3 => by
            by_cases e : j = k
            · subst e
              rw [show j - 1 = p by have := HK.out; omega, HX.out, HY.out]
              intro e; exact hdup (Option.some.inj e)
            · exact HA.out j (by omega) h3
          have hcase : (¬ y1 = x1) ∨ (y1 = x1 ∧ ¬ y2 = x2) := by
            by_cases e : y1 = x1
            · exact .inr ⟨e, fun e' => hdup (by rw [e, e'])⟩
            · exact .inl e
          clear hdup
          rcases hcase with h1 | ⟨rfl, h1⟩
          · go_wp2_with fail
            go_quiet (fail)
            go_wp2
            go_roundg (l.length - (k + 1))
            case measure => omega
            case rel => exact ⟨k + 1, by omega, by omega, Nat.le_refl _, by go_num, ⟨q + nq, by rw [HW.out]; exact (drewN_add ..)⟩, HN.out⟩
          · have h1I : ¬ (y2 : Int) = (x2 : Int) := by omega
            go_wp2_with fail
            go_quiet (fail)
            go_wp2
            go_roundg (l.length - (k + 1))
            case measure => omega
            case rel => exact ⟨k + 1, by omega, by omega, Nat.le_refl _, by go_num, ⟨q + nq, by rw [HW.out]; exact (drewN_add ..)⟩, HN.out⟩
      · obtain rfl : k = l.length := by omega
        have HE : Hid (ddT l l.length = l) := by
          show _ = _
          rw [ddT_all (Nat.le_refl _) HA.out]; simp
        go_wp2
        go_ret
        rw [HE.out]
        exact ⟨rfl, HRr.out, by rw [HW.out]; exact gb_drewN w g q⟩
/-- over a row that is owned -/
theorem compact_ownS (l : List (Nat × Nat)) (v : Value) (w : World) (base : Nat) (hl : l.length ≤ 10000) (ho : w.ownsRow base 24 2 v l.length (flat (pairs l))) :
    Calls Try.prog 51 #[v] w fun e w' => ∃ u, e = .returned u ∧ u.ownBlock = v.ownBlock ∧ w'.ownsRow base 24 2 u (ddT l l.length).length (flat (pairs (ddT l l.length))) ∧ w.grownBy w' v.ownBlock := by
  obtain ⟨hxl, ⟨rfl, hn⟩ | ⟨g, cap, cur, rfl, hbg, hg, hnc, hcm, hcs, htake⟩⟩ := ho
  · obtain rfl : l = [] := List.eq_nil_of_length_eq_zero hn
    go_enter Try.func51, Try.ntmps51
    go_wp2
    go_ret
    exact ⟨_, rfl, rfl, World.ownsRow_nil _ _ _ _, ⟨rfl, rfl, rfl, Nat.le_refl _, fun _ _ _ => rfl⟩⟩
  · refine (compact_rowS l g cap w ⟨hnc, cur, hg, hcs, htake⟩ hl).mono ?_
    rintro e w' ⟨rfl, ⟨h1, cur', h2, h3, h4⟩, h5⟩
    exact ⟨_, rfl, rfl, ⟨by rw [flat_len, pairs_len], .inr ⟨g, cap, cur', rfl, hbg, h2, h1, hcm, h3, h4⟩⟩, h5⟩
end Go.Proofs.Ytbpkfkljeibjoaa

/- Dots added in order: the dots behind the vector only grow. -/
set_option linter.unusedVariables false
set_option linter.unusedSimpArgs false
namespace Rm
open Go Go.RowKit
theorem runTo_mono {D E : DS} {s : Nat} (h : ∀ c, D s c = true → E s c = true) : ∀ n, runTo D s n ≤ runTo E s n
  | 0 => Nat.le_refl _
  | n + 1 => by
    have ih := runTo_mono h n
    have h1 := runTo_le E s n
    unfold runTo
    split
    · rename_i q
      rw [if_pos ⟨by omega, h _ q.2⟩]
      exact Nat.le_refl _
    · split
      · have := runTo_le D s n; omega
      · exact ih
theorem run_mono {D E : DS} {s : Nat} (h : ∀ c, D s c = true → E s c = true) : run D s ≤ run E s := runTo_mono h 1000
theorem run_all {D : DS} {s c : Nat} (h1 : 1 ≤ c) (h2 : c ≤ run D s) : D s c = true := runTo_all D s 1000 c h1 h2
theorem run_gap {D : DS} {s : Nat} (h : run D s < 1000) : D s (run D s + 1) = false := runTo_gap D s 1000 h
/-- the run ends at its first gap -/
theorem run_lt {D : DS} {s c : Nat} (h1 : 1 ≤ c) (h : D s c = false) : run D s < c := by
  rcases Nat.lt_or_ge (run D s) c with q | q
  · exact q
  · rw [run_all h1 q] at h; cases h
theorem filter_le {α : Type} {p q : α → Bool} (h : ∀ x, p x = true → q x = true) : ∀ l : List α, (l.filter p).length ≤ (l.filter q).length
  | [] => Nat.le_refl _
  | a :: l => by
    have ih := filter_le h l
    rw [List.filter_cons, List.filter_cons]
    by_cases hp : p a = true
    · rw [if_pos hp, if_pos (h a hp)]; simpa using ih
    · rw [if_neg hp]
      split
      · simp only [List.length_cons]; omega
      · exact ih
theorem flatMap_le {α β : Type} {f g : α → List β} : ∀ l : List α, (∀ x ∈ l, (f x).length ≤ (g x).length) → (l.flatMap f).length ≤ (l.flatMap g).length
  | [], _ => Nat.le_refl _
  | a :: l, h => by
    rw [List.flatMap_cons, List.flatMap_cons, List.length_append, List.length_append]
    have := h a (List.mem_cons_self ..)
    have := flatMap_le l fun x hx => h x (List.mem_cons_of_mem _ hx)
    omega
theorem mem_formM (D : DS) (d : Nat × Nat) : d ∈ formM D ↔ d.1 < 5 ∧ d.2 ≤ 1000 ∧ run D d.1 + 2 ≤ d.2 ∧ D d.1 d.2 = true := by
  unfold formM
  rw [List.mem_flatMap]
  constructor
  · rintro ⟨s, hs, h⟩
    obtain ⟨h1, h2, h3, h4⟩ := (mem_restD D s d).1 h
    rw [List.mem_range] at hs
    subst h1
    exact ⟨hs, h2, h3, h4⟩
  · rintro ⟨h1, h2, h3, h4⟩
    exact ⟨d.1, List.mem_range.2 h1, (mem_restD D d.1 d).2 ⟨rfl, h2, h3, h4⟩⟩
/-- a dot is added that is greater than all behind the vector: none of them leaves -/
theorem formM_add {D : DS} {a b : Nat} (hd : inR a b) (h : ∀ x ∈ formM D, ltD x (a, b)) : (formM D).length ≤ (formM (addD D a b)).length := by
  refine flatMap_le _ fun s hs => ?_
  have hs5 := List.mem_range.1 hs
  unfold restD
  rw [List.length_map, List.length_map]
  by_cases hsa : s = a
  · subst hsa
    by_cases hb : b = run D s + 1
    · -- nothing lies behind the vector there
      have h0 : ((List.range 1001).filter fun c => decide (run D s + 2 ≤ c) && D s c) = [] := by
        rw [List.filter_eq_nil_iff]
        intro c hc q
        rw [Bool.and_eq_true, decide_eq_true_eq] at q
        rw [List.mem_range] at hc
        have := h (s, c) ((mem_formM D (s, c)).2 ⟨hs5, by simp only; omega, q.1, q.2⟩)
        unfold ltD at this
        simp only at this
        omega
      rw [h0]
      exact Nat.zero_le _
    · have hr : run (addD D s b) s = run D s := by
        apply Nat.le_antisymm
        · rcases Nat.lt_or_ge (run D s) 1000 with q | q
          · have g := run_gap q
            have g2 : addD D s b s (run D s + 1) = false := by
              unfold addD
              rw [g, Bool.false_or, decide_eq_false_iff_not]
              omega
            have := run_lt (by omega) g2
            omega
          · have := run_le (addD D s b) s
            have := run_le D s
            omega
        · exact run_mono fun c hc => by unfold addD; rw [hc]; rfl
      refine filter_le (fun c hc => ?_) _
      rw [Bool.and_eq_true] at hc ⊢
      rw [hr]
      exact ⟨hc.1, by unfold addD; rw [hc.2]; rfl⟩
  · have he : ∀ c, addD D a b s c = D s c := fun c => by
      unfold addD
      rw [decide_eq_false (fun q => hsa q.1), Bool.or_false]
    have hr : run (addD D a b) s = run D s := Nat.le_antisymm (run_mono fun c hc => by rw [← he c]; exact hc) (run_mono fun c hc => by rw [he c]; exact hc)
    refine filter_le (fun c hc => ?_) _
    rw [Bool.and_eq_true] at hc ⊢
    rw [hr, he c]
    exact hc
/-- a set with dots more -/
def addS (D : DS) (L : List (Nat × Nat)) : DS := fun s c => D s c || decide ((s, c) ∈ L)
theorem addS_nil (D : DS) : addS D [] = D := by
  funext s c
  simp [addS]
theorem addS_snoc (D : DS) (L : List (Nat × Nat)) (a b : Nat) : addD (addS D L) a b = addS D (L ++ [(a, b)]) := by
  funext s c
  unfold addD addS
  rw [Bool.eq_iff_iff]
  simp only [Bool.or_eq_true, decide_eq_true_eq, List.mem_append, List.mem_singleton, Prod.mk.injEq, or_assoc]
theorem addS_congr (D : DS) {L L' : List (Nat × Nat)} (h : ∀ x, x ∈ L ↔ x ∈ L') : addS D L = addS D L' := by
  funext s c
  unfold addS
  rw [Bool.eq_iff_iff]
  simp only [Bool.or_eq_true, decide_eq_true_eq, h]
/-- a set that its vector holds alone -/
def Pure (D : DS) : Prop := ∀ s c, inR s c → D s c = true → c ≤ run D s
theorem addS_lt {D : DS} {L : List (Nat × Nat)} {i : Nat} {d : Nat × Nat} (hD : Pure D) (hL : L.Pairwise ltD) (hd : L[i]? = some d) : ∀ x ∈ formM (addS D (L.take i)), ltD x d := fun x hx => by
  obtain ⟨h1, h2, h3, h4⟩ := (mem_formM _ x).1 hx
  unfold addS at h4
  rw [Bool.or_eq_true, decide_eq_true_eq] at h4
  rcases h4 with h4 | h4
  · have h5 := hD x.1 x.2 ⟨h1, by omega, h2⟩ h4
    have h6 : run D x.1 ≤ run (addS D (L.take i)) x.1 := run_mono fun c hc => by unfold addS; rw [hc]; rfl
    omega
  · obtain ⟨j, hj⟩ := List.getElem?_of_mem h4
    have hl := (List.getElem?_eq_some_iff.1 hj).1
    rw [List.length_take] at hl
    rw [List.getElem?_take_of_lt (by omega)] at hj
    obtain ⟨p1, e1⟩ := List.getElem?_eq_some_iff.1 hj
    obtain ⟨p2, e2⟩ := List.getElem?_eq_some_iff.1 hd
    have := List.pairwise_iff_getElem.1 hL j i p1 p2 (by omega)
    rw [e1, e2] at this
    exact this
theorem take_snocD {L : List (Nat × Nat)} {i : Nat} {d : Nat × Nat} (hd : L[i]? = some d) : L.take (i + 1) = L.take i ++ [d] := by
  rw [List.take_add_one, hd]
  rfl
theorem addS_step {D : DS} {L : List (Nat × Nat)} {i : Nat} {d : Nat × Nat} (hd : L[i]? = some d) : addD (addS D (L.take i)) d.1 d.2 = addS D (L.take (i + 1)) := by
  rw [addS_snoc, take_snocD hd]
theorem addS_le {D : DS} {L : List (Nat × Nat)} (hD : Pure D) (hL : L.Pairwise ltD) (hR : ∀ d ∈ L, inR d.1 d.2) : ∀ n i, i + n = L.length → (formM (addS D (L.take i))).length ≤ (formM (addS D L)).length
  | 0, i, h => by rw [List.take_of_length_le (by omega)]; exact Nat.le_refl _
  | n + 1, i, h => by
    obtain ⟨d, hd⟩ : ∃ d, L[i]? = some d := ⟨_, List.getElem?_eq_getElem (by omega)⟩
    have h1 := formM_add (hR d (List.mem_of_getElem? hd)) (addS_lt hD hL hd)
    rw [addS_step hd] at h1
    exact Nat.le_trans h1 (addS_le hD hL hR n (i + 1) (by omega))
theorem Pure.formM {D : DS} (h : Pure D) : formM D = [] := by
  apply List.eq_nil_iff_forall_not_mem.2
  intro x hx
  obtain ⟨h1, h2, h3, h4⟩ := (mem_formM D x).1 hx
  have := h x.1 x.2 ⟨h1, by omega, h2⟩ h4
  omega
/-- whoever holds a dot holds those ahead of it -/
theorem pure_of {D : DS} (h : ∀ s c, inR s (c + 1) → 1 ≤ c → D s (c + 1) = true → D s c = true) : Pure D := fun s c hi hc => by
  rcases Nat.lt_or_ge (run D s) c with q | q
  · exfalso
    have hg := run_gap (show run D s < 1000 by have := hi.2.2; omega)
    have key : ∀ k, k ≤ c - (run D s + 1) → D s (c - k) = true := by
      intro k
      induction k with
      | zero => intro _; exact hc
      | succ k ih =>
        intro hk
        have h1 := ih (by omega)
        have h2 := hi.1
        have h3 := hi.2.2
        refine h s (c - (k + 1)) ⟨h2, by omega, by omega⟩ (by omega) ?_
        rw [show c - (k + 1) + 1 = c - k by omega]
        exact h1
    have := key (c - (run D s + 1)) (Nat.le_refl _)
    rw [show c - (c - (run D s + 1)) = run D s + 1 by omega, hg] at this
    cases this
  · exact q
theorem Pure.down {D : DS} (h : Pure D) {s c : Nat} (hi : inR s (c + 1)) (hc : 1 ≤ c) (hd : D s (c + 1) = true) : D s c = true := run_all hc (by have := h s (c + 1) hi hd; omega)
theorem Pure.or {D E : DS} (h : Pure D) (k : Pure E) : Pure (orD D E) := pure_of fun s c hi hc hd => by
  unfold orD at hd ⊢
  rw [Bool.or_eq_true] at hd ⊢
  rcases hd with hd | hd
  · exact .inl (h.down hi hc hd)
  · exact .inr (k.down hi hc hd)
theorem pure_vec (v : List Nat) : Pure (memB v []) := pure_of fun s c hi hc hd => by
  rw [memB_iff] at hd ⊢
  rcases hd with hd | hd
  · exact .inl ⟨hc, by omega⟩
  · cases hd
end Rm
namespace Rm
open Go Go.RowKit Gx
theorem encD_ok : EncOk encD 2 := ⟨fun x => rfl, fun x u hu => by
  simp [encD] at hu
  rcases hu with rfl | rfl <;> rfl⟩
theorem flat_encD (l : List (Nat × Nat)) : flat (pairs l) = flatE encD l := by
  unfold flat pairs flatE
  rw [List.flatMap_map]
  rfl
theorem ddT_memL {L L1 : List (Nat × Nat)} (h : L1.Perm L) (x : Nat × Nat) : x ∈ ddT L1 L1.length ↔ x ∈ L := by
  rw [ddT_mem (Nat.le_refl _), ← h.mem_iff]
  constructor
  · rintro ⟨j, -, hj⟩; exact List.mem_of_getElem? hj
  · intro hx
    obtain ⟨j, hj⟩ := List.getElem?_of_mem hx
    exact ⟨j, (List.getElem?_eq_some_iff.1 hj).1, hj⟩
end Rm
namespace Go.Proofs.Ytbpkfkljeibjoaa
open Go.RowKit Rm Gx
/-- a value that says 'no dots behind the vector' in any world -/
def NoM (mv : Value) : Prop := ∀ w : World, Rd2 w mv [] ∧ RdC 2 w mv 0 []
theorem noM_of {w : World} {vv mv : Value} {V : List Int} (h : KnR w (.agg #[vv, mv]) V []) : NoM mv := fun w' => by
  obtain ⟨a, b, e, -, h2, h3⟩ := h
  have e2 : mv = b := by
    injection e with e
    have e := congrArg Array.toList e
    simpa using (List.cons.inj (List.cons.inj e).2).1
  obtain rfl := e2.symm
  obtain ⟨ad, c, rfl, hc, -⟩ := h2
  refine ⟨⟨ad, c, rfl, hc, fun q => absurd rfl q⟩, rfl, (fun u hu => by cases hu), ?_⟩
  obtain ⟨-, -, h4 | ⟨ad', c', e', hc', -⟩⟩ := h3
  · exact .inl h4
  · exact .inr ⟨ad', c', e', hc', fun q => absurd rfl q, fun j u hj => by simp at hj⟩
theorem noM_nil : NoM (.slice none 0 0) := fun w' => ⟨⟨none, 0, rfl, Nat.le_refl _, fun q => absurd rfl q⟩, rfl, (fun u hu => by cases hu), .inl ⟨rfl, rfl⟩⟩
/-- a set that its own vector holds alone -/
theorem knR_vecM {w : World} {base : Nat} {vv mv : Value} {v : List Nat} (h : w.ownsRow base 3 1 vv v.length (flatI v)) (hm : NoM mv) : KnR w (.agg #[vv, mv]) (ints v) [] := ⟨vv, mv, rfl, R1.own h, (hm w).1, (hm w).2⟩
end Go.Proofs.Ytbpkfkljeibjoaa
namespace Go.Proofs.Ytbpkfkljeibjoaa
open Go.RowKit Rm Gx
/-- a set of dots whose vector it owns, and its dots where there are some -/
def KnW (base : Nat) (w : World) (k : Value) (v : List Nat) (m : List (Nat × Nat)) : Prop :=
  ∃ vv mv, k = .agg #[vv, mv] ∧ w.ownsRow base 3 1 vv v.length (flatI v) ∧ (w.ownsRow base 24 2 mv m.length (flat (pairs m)) ∨ (m = [] ∧ NoM mv))
theorem KnW.of {base : Nat} {w : World} {k : Value} {v : List Nat} {m : List (Nat × Nat)} (h : KnO base w k v m) : KnW base w k v m := by
  obtain ⟨vv, mv, e, h1, h2⟩ := h
  exact ⟨vv, mv, e, h1, .inl h2⟩
theorem KnW.rd {base : Nat} {w : World} {k : Value} {v : List Nat} {m : List (Nat × Nat)} (h : KnW base w k v m) : KnR w k (ints v) (pairs m) := by
  obtain ⟨vv, mv, rfl, h1, h2 | ⟨rfl, h2⟩⟩ := h
  · exact KnO.rd ⟨vv, mv, rfl, h1, h2⟩
  · exact knR_vecM h1 h2
theorem KnW.gr {base : Nat} {w w' : World} {k : Value} {v : List Nat} {m : List (Nat × Nat)} (h : KnW base w k v m) (g : Gr w w') : KnW base w' k v m := by
  obtain ⟨vv, mv, e, h1, h2 | h2⟩ := h
  · exact ⟨vv, mv, e, kown_gr h1 g, .inl (kown_gr h2 g)⟩
  · exact ⟨vv, mv, e, kown_gr h1 g, .inr h2⟩
theorem KnW.tks {base : Nat} {w w' : World} {k : Value} {v : List Nat} {m : List (Nat × Nat)} (h : KnW base w k v m) (q : TkS w w') : KnW base w' k v m := by
  obtain ⟨vv, mv, e, h1, h2 | h2⟩ := h
  · exact ⟨vv, mv, e, ow_tks h1 q (by decide), .inl (ow_tks h2 q (by decide))⟩
  · exact ⟨vv, mv, e, ow_tks h1 q (by decide), .inr h2⟩
theorem KnW.vec {base : Nat} {w : World} {vv mv : Value} {v : List Nat} (h : w.ownsRow base 3 1 vv v.length (flatI v)) (hm : NoM mv) : KnW base w (.agg #[vv, mv]) v [] := ⟨vv, mv, rfl, h, .inr ⟨rfl, hm⟩⟩
/-- Add, over a set in its form -/
theorem add_c (k : Value) (E : DS) (d : Nat × Nat) (base : Nat) (w : World) (hb : base ≤ w.heap.size) (hk : KnR w k (ints (formV E)) (pairs (formM E))) (hl : (formM E).length ≤ 60) (hd : inR d.1 d.2) :
    Calls Try.prog 52 #[k, .agg #[.int .i64 (d.1 : Int), .int .i64 (d.2 : Int)]] w fun e w' => ∃ va n vc ma m mc, e = .returned (.tuple #[.agg #[.slice va n vc, .slice ma m mc], .int .i64 (frE (addD E d.1 d.2))]) ∧ KnW base w' (.agg #[.slice va n vc, .slice ma m mc]) (frV (addD E d.1 d.2)) (frM (addD E d.1 d.2)) ∧ Gr w w' := by
  refine (add_ok k (formV E) (formM E) d.1 d.2 w hk (form_ok E) hl hd).mono ?_
  rintro e w' ⟨h, g⟩
  have he : EqD (addD (memB (formV E) (formM E)) d.1 d.2) (addD E d.1 d.2) := fun s c i => by
    unfold addD
    rw [form_mem E s c i]
  obtain ⟨k2, rfl, h2⟩ := (h.congr he).one
  have h3 := KnW.of (h2.less hb)
  obtain ⟨vv, mv, rfl, h4, h5⟩ := h2
  obtain ⟨a, c, rfl, -⟩ := ow_form h4
  obtain ⟨a', c', rfl, -⟩ := ow_form h5
  exact ⟨_, _, _, _, _, _, rfl, h3, g⟩
theorem frE_zero {D : DS} (h : frE D = 0) : (formM D).length ≤ 60 := by
  unfold frE at h
  split at h
  · assumption
  · cases h
theorem fr_small {D : DS} (h : frE D = 0) : frV D = formV D ∧ frM D = formM D := by
  have q := frE_zero h
  unfold frV frM
  rw [if_pos q, if_pos q]
  exact ⟨rfl, rfl⟩
theorem fr_of {D : DS} (h : (formM D).length ≤ 60) : frE D = 0 ∧ frV D = formV D ∧ frM D = formM D := by
  unfold frE frV frM
  rw [if_pos h, if_pos h, if_pos h]
  exact ⟨rfl, rfl, rfl⟩
theorem fr_over {D E : DS} (h : ¬ frE D = 0) (hl : (formM D).length ≤ (formM E).length) : frE D = 2 ∧ frE E = 2 ∧ frV E = [] ∧ frM E = [] := by
  have h1 : ¬ (formM D).length ≤ 60 := fun q => h (fr_of q).1
  have h2 : ¬ (formM E).length ≤ 60 := by omega
  unfold frE frV frM
  rw [if_neg h1, if_neg h2, if_neg h2, if_neg h2]
  exact ⟨rfl, rfl, rfl, rfl⟩
end Go.Proofs.Ytbpkfkljeibjoaa

