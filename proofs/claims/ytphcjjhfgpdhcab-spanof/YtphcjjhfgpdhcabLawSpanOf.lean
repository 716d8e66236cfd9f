/- The walk of SpanOf. -/
import Derived.Test.YtphcjjhfgpdhcabOfC
namespace Go.Proofs.Ytphcjjhfgpdhcab
open Go.RowKit Rm
set_option linter.unusedVariables false

set_option maxHeartbeats 4000000 in
set_option maxRecDepth 100000 in
theorem spanOf_nil (a : Option Addr) (c : Nat) (turn n : Int) (w : World) (ha : a = none → c = 0) :
    Calls Try.prog 3 #[.slice a 0 c, .int .i64 turn, .int .i64 n] w fun e w' => e = .returned (.bool true) ∧ Gr w w' := by
  have hm4 := mask4
  have e14 := eq14
  go_enter Try.func3, Try.ntmps3
  go_wp2_with fail
  refine (of_ok _ [3, 1, 2, 2] _ (lit4 _ _ _ _ _ _) (by simp) all4).mono ?_
  rw [hm4]
  rintro e v1 ⟨u1, rfl, h1, g1⟩
  have G1 := ((Gr.refl w).alloc _).trans g1
  have H1 := Lib.hid h1
  clear h1 g1 hm4
  go_wp2_with fail
  refine (mequal (H1.out.alloc _) (lit1 _ 1 4 _ 14 canon14o (by decide))).mono ?_
  rw [e14]
  rintro e v2 ⟨rfl, g2⟩
  have G2 := (G1.alloc _).trans g2
  clear g2 H1 G1 e14
  have HR0 : Hid (∀ wx, Rd1 wx (.slice none 0 0) []) := fun wx => ⟨none, 0, rfl, Nat.le_refl _, fun h => absurd rfl h⟩
  cases a with
  | none =>
    obtain rfl := ha rfl
    clear ha
    go_wp2_with fail
    go_loop [9, 40] (fun v i => v = .slice none 0 0 ∧ i = .int .i64 0) (fun _ _ => 0)
    case atStart => exact ⟨rfl, rfl⟩
    case round =>
      obtain ⟨rfl, rfl⟩ := hrel
      go_wp2_with fail
      go_loop [10, 52] (fun v i => v = .slice none 0 0 ∧ i = .int .i64 0) (fun _ _ => 0)
      case atStart => exact ⟨rfl, rfl⟩
      case round =>
        obtain ⟨rfl, rfl⟩ := hrel
        go_wp2_with fail
        refine (of_ok _ [] _ (HR0.out _) (by simp) rfl).mono ?_
        rintro e v3 ⟨ux, rfl, hx, g3⟩
        have HX := Lib.hid hx
        have G3 := Lib.hid (G2.trans g3)
        clear hx g3
        go_wp2_with fail
        refine (concat_any [(0, []), (0, [])] _ _ _ (src_nil _ _) (by simp [sumN]) (by simp)).mono ?_
        rintro e v4 ⟨uc, rfl, g4, ho4⟩
        have G4 := Lib.hid ((G3.out.alloc _).trans g4)
        have HX4 := Lib.hid ((HX.out.alloc _).gr g4)
        have HC4 : Hid (Rd1 v4 uc []) := Rd1.own (l := []) ho4
        clear g4 ho4 HX
        go_wp2_with fail
        refine (of_ok _ [] _ HC4.out (by simp) rfl).mono ?_
        rintro e v5 ⟨uy, rfl, hy, g5⟩
        have HY := Lib.hid hy
        have HX5 := Lib.hid (HX4.out.gr g5)
        have G5 := Lib.hid (G4.out.trans g5)
        have HN5 := Lib.hid (HR0.out v5)
        clear hy g5
        go_wp2_with fail
        refine (mhas (HX5.out) n).mono ?_
        rw [has_mem (l := []) rfl n]
        rintro e z1 ⟨rfl, zg1⟩
        have K1 := Lib.hid (G5.out.trans zg1)
        have X1 := Lib.hid ((HX5.out).gr zg1)
        have Y1 := Lib.hid ((HY.out).gr zg1)
        have R1 := Lib.hid ((HN5.out).gr zg1)
        clear zg1
        have hem : eqM (maskI []) (maskI []) = true := eqM_true rfl
        cases hd : decide (n ∈ [])
        all_goals
          go_wp2_with fail
          refine (mequal X1.out Y1.out).mono ?_
          rw [hem]
          rintro e z2 ⟨rfl, zg2⟩
          go_wp2_with fail
          refine (contains_int _ _ n _ (R1.out.gr zg2) (by simp)).mono ?_
          rw [hd]
          rintro e z3 ⟨rfl, rfl⟩
          go_wp2_with fail
          refine (chk_ok (X1.out.gr zg2)).mono ?_
          rintro e z4 ⟨rfl, zg4⟩
          go_wp2_with fail
          go_ret
          exact ⟨rfl, (K1.out.trans zg2).trans zg4⟩
  | some a =>
    clear ha
    go_wp2_with fail
    go_loop [9, 40] (fun v i => v = .slice none 0 0 ∧ i = .int .i64 0) (fun _ _ => 0)
    case atStart => exact ⟨rfl, rfl⟩
    case round =>
      obtain ⟨rfl, rfl⟩ := hrel
      go_wp2_with fail
      go_loop [10, 52] (fun v i => v = .slice none 0 0 ∧ i = .int .i64 0) (fun _ _ => 0)
      case atStart => exact ⟨rfl, rfl⟩
      case round =>
        obtain ⟨rfl, rfl⟩ := hrel
        go_wp2_with fail
        refine (of_ok _ [] _ (HR0.out _) (by simp) rfl).mono ?_
        rintro e v3 ⟨ux, rfl, hx, g3⟩
        have HX := Lib.hid hx
        have G3 := Lib.hid (G2.trans g3)
        clear hx g3
        go_wp2_with fail
        refine (concat_any [(0, []), (0, [])] _ _ _ (src_nil _ _) (by simp [sumN]) (by simp)).mono ?_
        rintro e v4 ⟨uc, rfl, g4, ho4⟩
        have G4 := Lib.hid ((G3.out.alloc _).trans g4)
        have HX4 := Lib.hid ((HX.out.alloc _).gr g4)
        have HC4 : Hid (Rd1 v4 uc []) := Rd1.own (l := []) ho4
        clear g4 ho4 HX
        go_wp2_with fail
        refine (of_ok _ [] _ HC4.out (by simp) rfl).mono ?_
        rintro e v5 ⟨uy, rfl, hy, g5⟩
        have HY := Lib.hid hy
        have HX5 := Lib.hid (HX4.out.gr g5)
        have G5 := Lib.hid (G4.out.trans g5)
        have HN5 := Lib.hid (HR0.out v5)
        clear hy g5
        go_wp2_with fail
        refine (mhas (HX5.out) n).mono ?_
        rw [has_mem (l := []) rfl n]
        rintro e z1 ⟨rfl, zg1⟩
        have K1 := Lib.hid (G5.out.trans zg1)
        have X1 := Lib.hid ((HX5.out).gr zg1)
        have Y1 := Lib.hid ((HY.out).gr zg1)
        have R1 := Lib.hid ((HN5.out).gr zg1)
        clear zg1
        have hem : eqM (maskI []) (maskI []) = true := eqM_true rfl
        cases hd : decide (n ∈ [])
        all_goals
          go_wp2_with fail
          refine (mequal X1.out Y1.out).mono ?_
          rw [hem]
          rintro e z2 ⟨rfl, zg2⟩
          go_wp2_with fail
          refine (contains_int _ _ n _ (R1.out.gr zg2) (by simp)).mono ?_
          rw [hd]
          rintro e z3 ⟨rfl, rfl⟩
          go_wp2_with fail
          refine (chk_ok (X1.out.gr zg2)).mono ?_
          rintro e z4 ⟨rfl, zg4⟩
          go_wp2_with fail
          go_ret
          exact ⟨rfl, (K1.out.trans zg2).trans zg4⟩

set_option maxHeartbeats 4000000 in
set_option maxRecDepth 100000 in
theorem spanOf_someA (v : Value) (l : List Int) (turn n : Int) (w : World) (rl : Rd1 w v l) (hm : l.length ≤ maxLen) (h0 : 0 < l.length) (hA : l.length ≤ 100) :
    Calls Try.prog 3 #[v, .int .i64 turn, .int .i64 n] w fun e w' => e = .returned (.bool true) ∧ Gr w w' := by
  obtain ⟨i0, hi0, hz0, hz1, hz2⟩ := info_parts cc_info
  unfold maxLen at hm
  obtain ⟨a, cp, rfl, hcp, hx⟩ := id rl
  obtain ⟨b, off, rfl, hb, hcell⟩ := hx (by intro e; rw [e] at h0; simp at h0)
  have HCE := Lib.hid hcell
  have hcp' : (l.length : Int) ≤ (cp : Int) := by omega
  have hm' : (l.length : Int) ≤ 9223372036854775807 := by omega
  clear hx hcell rl
  generalize hln : l.length = ln at *
  have HLN := Lib.hid hln
  clear hln
  have hmax : max (100 : Int) 0 = 100 := by decide
  have hmi : (ln : Int) ≤ 100 := by omega
  have hmi2 : ¬ ((100 : Int) < (ln : Int)) := by omega
  have hMc : (ln : Int) ≤ (cp : Int) := by omega
  obtain ⟨tt, htt0⟩ := Int.eq_ofNat_of_zero_le (rem_lt turn (ln : Int) (by omega)).1
  have htt1 : tt < ln := by have := (rem_lt turn (ln : Int) (by omega)).2; omega
  have hMpos : 0 < ln := by omega
  have hMle : ln ≤ 100 := by omega
  have hMl : ln ≤ ln := Nat.le_refl _
  have HTT := Lib.hid htt0
  clear htt0
  have hm4 := mask4
  have e14 := eq14
  go_enter Try.func3, Try.ntmps3
  go_wp2_with fail
  refine (of_ok _ [3, 1, 2, 2] _ (lit4 _ _ _ _ _ _) (by simp) all4).mono ?_
  rw [hm4]
  rintro e v1 ⟨u1, rfl, h1, g1⟩
  have G1 := ((Gr.refl w).alloc _).trans g1
  have H1 := Lib.hid h1
  clear h1 g1 hm4
  go_wp2_with fail
  refine (mequal (H1.out.alloc _) (lit1 _ 1 4 _ 14 canon14o (by decide))).mono ?_
  rw [e14]
  rintro e v2 ⟨rfl, g2⟩
  have G2 := (G1.alloc _).trans g2
  clear g2 H1 G1 e14
  have hbv : b < v2.heap.size := Nat.lt_of_lt_of_le hb G2.le
  have HG2 := Lib.hid G2
  clear G2
  go_wp2_with fail
  go_loopw [9, 40] (fun v i wr => ∃ k : Nat, k ≤ ln ∧ i = .int .i64 k ∧ Gr v2 wr ∧ wr.ownsRow v2.heap.size 3 1 v (remL (l.take k)).length (flat1 (remL (l.take k)))) (fun _ i _ => ln - (intOf i).toNat)
  case atStart => exact ⟨0, by omega, rfl, Gr.refl _, World.ownsRow_nil _ _ _ _⟩
  case round =>
    obtain ⟨k, hk, rfl, hg, hown⟩ := hrel
    by_cases hlt : k < ln
    · obtain ⟨x, hp⟩ : ∃ p, l[k]? = some p := ⟨_, List.getElem?_eq_getElem (by rw [HLN.out]; omega)⟩
      have c1 := HCE.out k x hp
      rw [← (HG2.out.trans hg).cells.1 b _ hb] at c1
      have hkM : (k : Int) < (ln : Int) := by omega
      have hk100 : (k : Int) < 100 := by omega
      have HP : Hid (flat1 (remL (l.take (k + 1))) = flat1 (remL (l.take k)) ++ [.int .i64 (remB x 32)] ∧ (remL (l.take (k + 1))).length = (remL (l.take k)).length + 1) := by
        rw [remL_take hp]
        exact ⟨by simp [flat1], by simp⟩
      have hln2 : (remL (l.take k)).length ≤ 100 := by rw [remL_len, List.length_take]; omega
      obtain ⟨va, vc, rfl, hvc⟩ := own_form hown
      have HO := Lib.hid hown
      clear hown hp hvc
      generalize (remL (l.take k)).length = len at *
      go_wp2_with fail
      refine (keepWithin_any x 32 (by omega) (by omega) _).mono ?_
      rintro e w1 ⟨rfl, rfl⟩
      generalize remB x 32 = rx at *
      go_wp2_with (at_builtin; refine wpList_append_own _ rfl (.tmp 44) (.tmp 47) 22 rfl v2.heap.size 3 i0 _ 1 8 Try.underlying22 hi0 hz0 hz1 hz2 rfl (by omega) _ _ _ rfl (HO.out.alloc _) ⟨wr.heap.size, 0, none⟩ 1 1 [.int .i64 rx] rfl rfl (new1 _ _ _) (by simp [Value.oneCell']) (by simp only [maxLen]; omega) (by omega) (by have := hg.le; simp; omega) ?_; intro v1 w1 hown hg1 _)
      go_roundw
      case rel => exact ⟨k + 1, by omega, by go_num, (hg.alloc _).grown hg1 (fun k hk => (HO.out.lt k hk).1), by rw [HP.out.1, HP.out.2]; exact hown⟩
      case measure => simp [intOf]; omega
    · obtain rfl : ln = k := by omega
      have hRl : (remL (l.take ln)).length = ln := by rw [remL_len, List.length_take, HLN.out]; omega
      have hRn := remL_num (l.take ln)
      have HRN := Lib.hid hRn
      generalize remL (l.take ln) = R at *
      have HRL := Lib.hid hRl
      rw [hRl] at hown
      obtain ⟨gS, cS, rfl, hgb, hgl, hgc⟩ := own_pos hown (by omega)
      have HOS := Lib.hid hown
      have HGW := Lib.hid (HG2.out.trans hg)
      clear hown hRn hRl hlt hk
      generalize wr = W1 at *
      go_wp2_with fail
      go_loopw [10, 52] (fun v i wr => ∃ k : Nat, k ≤ ln ∧ i = .int .i64 k ∧ Gr W1 wr ∧ wr.ownsRow W1.heap.size 3 1 v (turnL R tt k).length (flat1 (turnL R tt k))) (fun _ i _ => ln - (intOf i).toNat)
      case atStart => exact ⟨0, by omega, rfl, Gr.refl _, World.ownsRow_nil _ _ _ _⟩
      case round =>
        obtain ⟨k, hk, rfl, hg2, hown⟩ := hrel
        by_cases hlt : k < ln
        · have hj : (k + tt) % ln < ln := Nat.mod_lt _ hMpos
          have hj1 : (((k + tt) % ln : Nat) : Int) < (ln : Int) := by omega
          have hj2 : ((k : Int) + (tt : Int)) % (ln : Int) = (((k + tt) % ln : Nat) : Int) := by first | omega | (rw [Int.natCast_emod, Int.natCast_add])
          have hj3 : ((k : Int) + (tt : Int)).tmod (ln : Int) = (((k + tt) % ln : Nat) : Int) := by rw [Int.tmod_eq_emod_of_nonneg (by omega)]; exact hj2
          have c1 : wr.cell? ⟨gS, (k + tt) % ln, none⟩ = some (.int .i64 (R.getD ((k + tt) % ln) 0)) := by
            rw [hg2.cells.1 gS _ hgl, HOS.out.cellAt _ (by omega)]
            have : (k + tt) % ln < R.length := by rw [HRL.out]; exact hj
            simp [flat1, List.getD, this]
          have hkM : (k : Int) < (ln : Int) := by omega
          have hk100 : (k : Int) < 100 := by omega
          have ht100 : (tt : Int) < 100 := by omega
          have HP : Hid (flat1 (turnL R tt (k + 1)) = flat1 (turnL R tt k) ++ [.int .i64 (R.getD ((k + tt) % ln) 0)] ∧ (turnL R tt (k + 1)).length = (turnL R tt k).length + 1) := by
            have e : turnL R tt (k + 1) = turnL R tt k ++ [R.getD ((k + tt) % R.length) 0] := rfl
            rw [e, HRL.out]
            exact ⟨by simp [flat1], by simp⟩
          have hln2 : (turnL R tt k).length ≤ 100 := by rw [turnL_len]; omega
          obtain ⟨va, vc, rfl, hvc⟩ := own_form hown
          have HO := Lib.hid hown
          clear hown hvc
          generalize (turnL R tt k).length = len at *
          generalize R.getD ((k + tt) % ln) 0 = rx at *
          generalize (k + tt) % ln = jj at *
          go_wp2_with fail
          refine (keepWithin_any turn (ln : Int) (by omega) (by omega) _).mono ?_
          rw [HTT.out]
          rintro e w1 ⟨rfl, rfl⟩
          go_wp2_with (at_builtin; refine wpList_append_own _ rfl (.tmp 55) (.tmp 68) 22 rfl W1.heap.size 3 i0 _ 1 8 Try.underlying22 hi0 hz0 hz1 hz2 rfl (by omega) _ _ _ rfl (HO.out.alloc _) ⟨wr.heap.size, 0, none⟩ 1 1 [.int .i64 rx] rfl rfl (new1 _ _ _) (by simp [Value.oneCell']) (by simp only [maxLen]; omega) (by omega) (by have := hg2.le; simp; omega) ?_; intro v1 w1 hown hg1 _)
          go_roundw
          case rel => first | exact ⟨k + 1, by omega, by go_num, (hg2.alloc _).grown hg1 (fun k hk => (HO.out.lt k hk).1), by rw [HP.out.1, HP.out.2]; exact hown⟩ | ((repeat apply Exists.intro); refine ⟨?_, rfl⟩; exact ⟨k + 1, by omega, by go_num, (hg2.alloc _).grown hg1 (fun k hk => (HO.out.lt k hk).1), by rw [HP.out.1, HP.out.2]; exact hown⟩)
          case measure => simp [intOf]; omega
        · obtain rfl : ln = k := by omega
          have hOl := turnL_len R tt ln
          have TM := Lib.hid (turn_mask R tt ln (by rw [HRL.out]; omega))
          have TN := Lib.hid (turn_num R tt ln (by rw [HRL.out]; omega) HRN.out)
          generalize turnL R tt ln = Q at *
          rw [hOl] at hown
          obtain ⟨gQ, cQ, rfl, hqb, hql, hqc⟩ := own_pos hown (by omega)
          have HOQ := Lib.hid hown
          have HOS2 := Lib.hid (own_gr HOS.out hg2)
          have HOL := Lib.hid hOl
          have HGK := Lib.hid (HGW.out.trans hg2)
          have hgl2 : gS < wr.heap.size := Nat.lt_of_lt_of_le hgl hg2.le
          have RS : Hid (Rd1 wr (.slice (some ⟨gS, 0, none⟩) ln cS) R) := by
            have := HOS2.out
            exact Rd1.own (l := R) (by rw [HRL.out]; exact this)
          clear hown hOl hg2 hg hlt hk
          generalize wr = W2 at *
          go_wp2_with fail
          refine (of_ok _ R _ RS.out (by rw [HRL.out]; omega) HRN.out).mono ?_
          rintro e v3 ⟨ux, rfl, hx, g3⟩
          have HX := Lib.hid hx
          have G3 := Lib.hid (HGK.out.trans g3)
          have OQ3 := Lib.hid (own_gr HOQ.out g3)
          have OS3 := Lib.hid (own_gr HOS2.out g3)
          have RS3 := Lib.hid (RS.out.gr g3)
          have hl1 : gQ < v3.heap.size := Nat.lt_of_lt_of_le hql g3.le
          have hl2 : gS < v3.heap.size := Nat.lt_of_lt_of_le hgl2 g3.le
          clear hx g3
          go_wp2_with fail
          refine (concat_any [(ln, flat1 Q), (ln, flat1 R)] _ _ _ (src_two OQ3.out OS3.out HOL.out.symm HRL.out.symm hl1 hl2 _) (by first | (simp [sumN]; done) | (simp [sumN]; omega)) (by simp)).mono ?_
          rintro e v4 ⟨uc, rfl, g4, ho4⟩
          have G4 := Lib.hid ((G3.out.alloc _).trans g4)
          have HX4 := Lib.hid ((HX.out.alloc _).gr g4)
          have RS4 := Lib.hid ((RS3.out.alloc _).gr g4)
          have HC4 : Hid (Rd1 v4 uc (Q ++ R)) := by
            have e1 : sumN [(ln, flat1 Q), (ln, flat1 R)] = (Q ++ R).length := by rw [List.length_append, HOL.out, HRL.out]; simp [sumN]
            have e2 : catN [(ln, flat1 Q), (ln, flat1 R)] = flat1 (Q ++ R) := by simp [catN, flat1]
            rw [e1, e2] at ho4
            exact Rd1.own ho4
          clear g4 ho4 HX OQ3 OS3
          go_wp2_with fail
          refine (of_ok _ (Q ++ R) _ HC4.out (by rw [List.length_append, HOL.out, HRL.out]; omega) TN.out).mono ?_
          rw [TM.out]
          rintro e v5 ⟨uy, rfl, hy, g5⟩
          have HY := Lib.hid hy
          have HX5 := Lib.hid (HX4.out.gr g5)
          have G5 := Lib.hid (G4.out.trans g5)
          have RS5 := Lib.hid (RS4.out.gr g5)
          clear hy g5
          go_wp2_with fail
          refine (mhas (HX5.out) n).mono ?_
          rw [has_mem HRN.out n]
          rintro e z1 ⟨rfl, zg1⟩
          have K1 := Lib.hid (G5.out.trans zg1)
          have X1 := Lib.hid ((HX5.out).gr zg1)
          have Y1 := Lib.hid ((HY.out).gr zg1)
          have R1 := Lib.hid ((RS5.out).gr zg1)
          clear zg1
          have hem : eqM (maskI R) (maskI R) = true := eqM_true rfl
          cases hd : decide (n ∈ R)
          all_goals
            go_wp2_with fail
            refine (mequal X1.out Y1.out).mono ?_
            rw [hem]
            rintro e z2 ⟨rfl, zg2⟩
            go_wp2_with fail
            refine (contains_int _ _ n _ (R1.out.gr zg2) (by rw [HRL.out]; omega)).mono ?_
            rw [hd]
            rintro e z3 ⟨rfl, rfl⟩
            go_wp2_with fail
            refine (chk_ok (X1.out.gr zg2)).mono ?_
            rintro e z4 ⟨rfl, zg4⟩
            go_wp2_with fail
            go_ret
            exact ⟨rfl, (K1.out.trans zg2).trans zg4⟩

set_option maxHeartbeats 4000000 in
set_option maxRecDepth 100000 in
theorem spanOf_someB (v : Value) (l : List Int) (turn n : Int) (w : World) (rl : Rd1 w v l) (hm : l.length ≤ maxLen) (h0 : 0 < l.length) (hA : 100 < l.length) :
    Calls Try.prog 3 #[v, .int .i64 turn, .int .i64 n] w fun e w' => e = .returned (.bool true) ∧ Gr w w' := by
  obtain ⟨i0, hi0, hz0, hz1, hz2⟩ := info_parts cc_info
  unfold maxLen at hm
  obtain ⟨a, cp, rfl, hcp, hx⟩ := id rl
  obtain ⟨b, off, rfl, hb, hcell⟩ := hx (by intro e; rw [e] at h0; simp at h0)
  have HCE := Lib.hid hcell
  have hcp' : (l.length : Int) ≤ (cp : Int) := by omega
  have hm' : (l.length : Int) ≤ 9223372036854775807 := by omega
  clear hx hcell rl
  generalize hln : l.length = ln at *
  have HLN := Lib.hid hln
  clear hln
  have hmax : max (100 : Int) 0 = 100 := by decide
  have hmi : (100 : Int) < (ln : Int) := by omega
  have hmi2 : ¬ ((ln : Int) ≤ 100) := by omega
  have hMc : (100 : Int) ≤ (cp : Int) := by omega
  have hMc2 : (100 : Int) ≤ (ln : Int) := by omega
  obtain ⟨tt, htt0⟩ := Int.eq_ofNat_of_zero_le (rem_lt turn 100 (by omega)).1
  have htt1 : tt < 100 := by have := (rem_lt turn 100 (by omega)).2; omega
  have hMpos : 0 < 100 := by omega
  have hMle : 100 ≤ 100 := by omega
  have hMl : 100 ≤ ln := by omega
  have HTT := Lib.hid htt0
  clear htt0
  have hm4 := mask4
  have e14 := eq14
  go_enter Try.func3, Try.ntmps3
  go_wp2_with fail
  refine (of_ok _ [3, 1, 2, 2] _ (lit4 _ _ _ _ _ _) (by simp) all4).mono ?_
  rw [hm4]
  rintro e v1 ⟨u1, rfl, h1, g1⟩
  have G1 := ((Gr.refl w).alloc _).trans g1
  have H1 := Lib.hid h1
  clear h1 g1 hm4
  go_wp2_with fail
  refine (mequal (H1.out.alloc _) (lit1 _ 1 4 _ 14 canon14o (by decide))).mono ?_
  rw [e14]
  rintro e v2 ⟨rfl, g2⟩
  have G2 := (G1.alloc _).trans g2
  clear g2 H1 G1 e14
  have hbv : b < v2.heap.size := Nat.lt_of_lt_of_le hb G2.le
  have HG2 := Lib.hid G2
  clear G2
  go_wp2_with fail
  go_loopw [9, 40] (fun v i wr => ∃ k : Nat, k ≤ 100 ∧ i = .int .i64 k ∧ Gr v2 wr ∧ wr.ownsRow v2.heap.size 3 1 v (remL (l.take k)).length (flat1 (remL (l.take k)))) (fun _ i _ => 100 - (intOf i).toNat)
  case atStart => exact ⟨0, by omega, rfl, Gr.refl _, World.ownsRow_nil _ _ _ _⟩
  case round =>
    obtain ⟨k, hk, rfl, hg, hown⟩ := hrel
    by_cases hlt : k < 100
    · obtain ⟨x, hp⟩ : ∃ p, l[k]? = some p := ⟨_, List.getElem?_eq_getElem (by rw [HLN.out]; omega)⟩
      have c1 := HCE.out k x hp
      rw [← (HG2.out.trans hg).cells.1 b _ hb] at c1
      have hkM : (k : Int) < (100 : Int) := by omega
      have hk100 : (k : Int) < 100 := by omega
      have HP : Hid (flat1 (remL (l.take (k + 1))) = flat1 (remL (l.take k)) ++ [.int .i64 (remB x 32)] ∧ (remL (l.take (k + 1))).length = (remL (l.take k)).length + 1) := by
        rw [remL_take hp]
        exact ⟨by simp [flat1], by simp⟩
      have hln2 : (remL (l.take k)).length ≤ 100 := by rw [remL_len, List.length_take]; omega
      obtain ⟨va, vc, rfl, hvc⟩ := own_form hown
      have HO := Lib.hid hown
      clear hown hp hvc
      generalize (remL (l.take k)).length = len at *
      go_wp2_with fail
      refine (keepWithin_any x 32 (by omega) (by omega) _).mono ?_
      rintro e w1 ⟨rfl, rfl⟩
      generalize remB x 32 = rx at *
      go_wp2_with (at_builtin; refine wpList_append_own _ rfl (.tmp 44) (.tmp 47) 22 rfl v2.heap.size 3 i0 _ 1 8 Try.underlying22 hi0 hz0 hz1 hz2 rfl (by omega) _ _ _ rfl (HO.out.alloc _) ⟨wr.heap.size, 0, none⟩ 1 1 [.int .i64 rx] rfl rfl (new1 _ _ _) (by simp [Value.oneCell']) (by simp only [maxLen]; omega) (by omega) (by have := hg.le; simp; omega) ?_; intro v1 w1 hown hg1 _)
      go_roundw
      case rel => exact ⟨k + 1, by omega, by go_num, (hg.alloc _).grown hg1 (fun k hk => (HO.out.lt k hk).1), by rw [HP.out.1, HP.out.2]; exact hown⟩
      case measure => simp [intOf]; omega
    · obtain rfl : 100 = k := by omega
      have hRl : (remL (l.take 100)).length = 100 := by rw [remL_len, List.length_take, HLN.out]; omega
      have hRn := remL_num (l.take 100)
      have HRN := Lib.hid hRn
      generalize remL (l.take 100) = R at *
      have HRL := Lib.hid hRl
      rw [hRl] at hown
      obtain ⟨gS, cS, rfl, hgb, hgl, hgc⟩ := own_pos hown (by omega)
      have HOS := Lib.hid hown
      have HGW := Lib.hid (HG2.out.trans hg)
      clear hown hRn hRl hlt hk
      generalize wr = W1 at *
      go_wp2_with fail
      go_loopw [10, 52] (fun v i wr => ∃ k : Nat, k ≤ 100 ∧ i = .int .i64 k ∧ Gr W1 wr ∧ wr.ownsRow W1.heap.size 3 1 v (turnL R tt k).length (flat1 (turnL R tt k))) (fun _ i _ => 100 - (intOf i).toNat)
      case atStart => exact ⟨0, by omega, rfl, Gr.refl _, World.ownsRow_nil _ _ _ _⟩
      case round =>
        obtain ⟨k, hk, rfl, hg2, hown⟩ := hrel
        by_cases hlt : k < 100
        · have hj : (k + tt) % 100 < 100 := Nat.mod_lt _ hMpos
          have hj1 : (((k + tt) % 100 : Nat) : Int) < (100 : Int) := by omega
          have hj2 : ((k : Int) + (tt : Int)) % (100 : Int) = (((k + tt) % 100 : Nat) : Int) := by first | omega | (rw [Int.natCast_emod, Int.natCast_add])
          have hj3 : ((k : Int) + (tt : Int)).tmod (100 : Int) = (((k + tt) % 100 : Nat) : Int) := by rw [Int.tmod_eq_emod_of_nonneg (by omega)]; exact hj2
          have c1 : wr.cell? ⟨gS, (k + tt) % 100, none⟩ = some (.int .i64 (R.getD ((k + tt) % 100) 0)) := by
            rw [hg2.cells.1 gS _ hgl, HOS.out.cellAt _ (by omega)]
            have : (k + tt) % 100 < R.length := by rw [HRL.out]; exact hj
            simp [flat1, List.getD, this]
          have hkM : (k : Int) < (100 : Int) := by omega
          have hk100 : (k : Int) < 100 := by omega
          have ht100 : (tt : Int) < 100 := by omega
          have HP : Hid (flat1 (turnL R tt (k + 1)) = flat1 (turnL R tt k) ++ [.int .i64 (R.getD ((k + tt) % 100) 0)] ∧ (turnL R tt (k + 1)).length = (turnL R tt k).length + 1) := by
            have e : turnL R tt (k + 1) = turnL R tt k ++ [R.getD ((k + tt) % R.length) 0] := rfl
            rw [e, HRL.out]
            exact ⟨by simp [flat1], by simp⟩
          have hln2 : (turnL R tt k).length ≤ 100 := by rw [turnL_len]; omega
          obtain ⟨va, vc, rfl, hvc⟩ := own_form hown
          have HO := Lib.hid hown
          clear hown hvc
          generalize (turnL R tt k).length = len at *
          generalize R.getD ((k + tt) % 100) 0 = rx at *
          generalize (k + tt) % 100 = jj at *
          go_wp2_with fail
          refine (keepWithin_any turn (100 : Int) (by omega) (by omega) _).mono ?_
          rw [HTT.out]
          rintro e w1 ⟨rfl, rfl⟩
          go_wp2_with (at_builtin; refine wpList_append_own _ rfl (.tmp 55) (.tmp 68) 22 rfl W1.heap.size 3 i0 _ 1 8 Try.underlying22 hi0 hz0 hz1 hz2 rfl (by omega) _ _ _ rfl (HO.out.alloc _) ⟨wr.heap.size, 0, none⟩ 1 1 [.int .i64 rx] rfl rfl (new1 _ _ _) (by simp [Value.oneCell']) (by simp only [maxLen]; omega) (by omega) (by have := hg2.le; simp; omega) ?_; intro v1 w1 hown hg1 _)
          go_roundw
          case rel => first | exact ⟨k + 1, by omega, by go_num, (hg2.alloc _).grown hg1 (fun k hk => (HO.out.lt k hk).1), by rw [HP.out.1, HP.out.2]; exact hown⟩ | ((repeat apply Exists.intro); refine ⟨?_, rfl⟩; exact ⟨k + 1, by omega, by go_num, (hg2.alloc _).grown hg1 (fun k hk => (HO.out.lt k hk).1), by rw [HP.out.1, HP.out.2]; exact hown⟩)
          case measure => simp [intOf]; omega
        · obtain rfl : 100 = k := by omega
          have hOl := turnL_len R tt 100
          have TM := Lib.hid (turn_mask R tt 100 (by rw [HRL.out]; omega))
          have TN := Lib.hid (turn_num R tt 100 (by rw [HRL.out]; omega) HRN.out)
          generalize turnL R tt 100 = Q at *
          rw [hOl] at hown
          obtain ⟨gQ, cQ, rfl, hqb, hql, hqc⟩ := own_pos hown (by omega)
          have HOQ := Lib.hid hown
          have HOS2 := Lib.hid (own_gr HOS.out hg2)
          have HOL := Lib.hid hOl
          have HGK := Lib.hid (HGW.out.trans hg2)
          have hgl2 : gS < wr.heap.size := Nat.lt_of_lt_of_le hgl hg2.le
          have RS : Hid (Rd1 wr (.slice (some ⟨gS, 0, none⟩) 100 cS) R) := by
            have := HOS2.out
            exact Rd1.own (l := R) (by rw [HRL.out]; exact this)
          clear hown hOl hg2 hg hlt hk
          generalize wr = W2 at *
          go_wp2_with fail
          refine (of_ok _ R _ RS.out (by rw [HRL.out]; omega) HRN.out).mono ?_
          rintro e v3 ⟨ux, rfl, hx, g3⟩
          have HX := Lib.hid hx
          have G3 := Lib.hid (HGK.out.trans g3)
          have OQ3 := Lib.hid (own_gr HOQ.out g3)
          have OS3 := Lib.hid (own_gr HOS2.out g3)
          have RS3 := Lib.hid (RS.out.gr g3)
          have hl1 : gQ < v3.heap.size := Nat.lt_of_lt_of_le hql g3.le
          have hl2 : gS < v3.heap.size := Nat.lt_of_lt_of_le hgl2 g3.le
          clear hx g3
          go_wp2_with fail
          refine (concat_any [(100, flat1 Q), (100, flat1 R)] _ _ _ (src_two OQ3.out OS3.out HOL.out.symm HRL.out.symm hl1 hl2 _) (by first | (simp [sumN]; done) | (simp [sumN]; omega)) (by simp)).mono ?_
          rintro e v4 ⟨uc, rfl, g4, ho4⟩
          have G4 := Lib.hid ((G3.out.alloc _).trans g4)
          have HX4 := Lib.hid ((HX.out.alloc _).gr g4)
          have RS4 := Lib.hid ((RS3.out.alloc _).gr g4)
          have HC4 : Hid (Rd1 v4 uc (Q ++ R)) := by
            have e1 : sumN [(100, flat1 Q), (100, flat1 R)] = (Q ++ R).length := by rw [List.length_append, HOL.out, HRL.out]; simp [sumN]
            have e2 : catN [(100, flat1 Q), (100, flat1 R)] = flat1 (Q ++ R) := by simp [catN, flat1]
            rw [e1, e2] at ho4
            exact Rd1.own ho4
          clear g4 ho4 HX OQ3 OS3
          go_wp2_with fail
          refine (of_ok _ (Q ++ R) _ HC4.out (by rw [List.length_append, HOL.out, HRL.out]; omega) TN.out).mono ?_
          rw [TM.out]
          rintro e v5 ⟨uy, rfl, hy, g5⟩
          have HY := Lib.hid hy
          have HX5 := Lib.hid (HX4.out.gr g5)
          have G5 := Lib.hid (G4.out.trans g5)
          have RS5 := Lib.hid (RS4.out.gr g5)
          clear hy g5
          go_wp2_with fail
          refine (mhas (HX5.out) n).mono ?_
          rw [has_mem HRN.out n]
          rintro e z1 ⟨rfl, zg1⟩
          have K1 := Lib.hid (G5.out.trans zg1)
          have X1 := Lib.hid ((HX5.out).gr zg1)
          have Y1 := Lib.hid ((HY.out).gr zg1)
          have R1 := Lib.hid ((RS5.out).gr zg1)
          clear zg1
          have hem : eqM (maskI R) (maskI R) = true := eqM_true rfl
          cases hd : decide (n ∈ R)
          all_goals
            go_wp2_with fail
            refine (mequal X1.out Y1.out).mono ?_
            rw [hem]
            rintro e z2 ⟨rfl, zg2⟩
            go_wp2_with fail
            refine (contains_int _ _ n _ (R1.out.gr zg2) (by rw [HRL.out]; omega)).mono ?_
            rw [hd]
            rintro e z3 ⟨rfl, rfl⟩
            go_wp2_with fail
            refine (chk_ok (X1.out.gr zg2)).mono ?_
            rintro e z4 ⟨rfl, zg4⟩
            go_wp2_with fail
            go_ret
            exact ⟨rfl, (K1.out.trans zg2).trans zg4⟩

theorem spanOf_walk (v : Value) (l : List Int) (turn : Int) (_w1 : (Lit.int .i64 turn).wf = true) (n : Int) (_w2 : (Lit.int .i64 n).wf = true) (w : World) (rl : Rd1 w v l) (hm : l.length ≤ maxLen) (hn : ∀ c, v = .slice none l.length c → c = 0) :
    Calls Try.prog 3 #[v, .int .i64 turn, .int .i64 n] w fun e w' => e = .returned (.bool true) ∧ Gr w w' := by
  rcases Nat.eq_zero_or_pos l.length with h | h
  · obtain ⟨a, c, rfl, _⟩ := rl
    rw [h] at *
    exact spanOf_nil a c turn n w (fun e => hn c (by rw [e]))
  · by_cases hA : l.length ≤ 100
    · exact spanOf_someA v l turn n w rl hm h hA
    · exact spanOf_someB v l turn n w rl hm h (by omega)
end Go.Proofs.Ytphcjjhfgpdhcab
