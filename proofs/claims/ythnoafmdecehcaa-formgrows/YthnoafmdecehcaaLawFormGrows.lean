/- The walk of FormGrows. -/
import Derived.Test.YthnoafmdecehcaaGrowsR
import Derived.Test.YthnoafmdecehcaaKeepW
namespace Rm
open Go Go.RowKit
theorem ndP_n (a : Nat) (b : Int) (v : Nat → Pt) (t x : Nat) : ndP (4, (a : Int), b) v t x = !(v a t x) := rfl
theorem ndP_b (a b : Nat) (v : Nat → Pt) (t x : Nat) : ndP (5, (a : Int), (b : Int)) v t x = (v a t x && v b t x) := rfl
theorem ndP_a (a b : Nat) (v : Nat → Pt) (t x : Nat) : ndP (6, (a : Int), (b : Int)) v t x = (v a t x || v b t x) := rfl
theorem ndP_all (a b : Int) (v : Nat → Pt) (t x : Nat) : ndP (1, a, b) v t x = true := rfl
theorem okN_not' {a i : Nat} (h : a < i) : OkN (4, (a : Int), 0) i := ⟨rfl, by simp [okN, earB]; omega⟩
theorem okN_both' {a b i : Nat} (h : a < i) (hb : b < i) : OkN (5, (a : Int), (b : Int)) i := ⟨rfl, by simp [okN, earB]; omega⟩
theorem okN_any' {a b i : Nat} (h : a < i) (hb : b < i) : OkN (6, (a : Int), (b : Int)) i := ⟨rfl, by simp [okN, earB]; omega⟩
theorem okN_all' (i : Nat) : OkN (1, 0, 0) i := ⟨rfl, rfl⟩
end Rm
namespace Go.Proofs.Ythnoafmdecehcaa
open Go.RowKit Rm
set_option linter.unusedVariables false
def BlkIs (w : World) (B : Nat) (o : Obj) : Prop := w.heap[B]? = some o
theorem BlkIs.gr {w w' : World} {B : Nat} {o : Obj} (h : BlkIs w B o) (g : Gr w w') : BlkIs w' B o := (Below.block g _ (Blk_lt h)).trans h
theorem ok_lit3 : OkL [(3, 3, 9)] := okL_of (by decide)
theorem val_lit3 : formP [(3, 3, 9)] 0 8 = true := by decide
theorem is_lit3 (w : World) (B : Nat) (hB : w.heap.size = B) : Calls Try.prog 9 #[.slice (some ⟨B, 0, none⟩) 1 1, .agg #[.int .i64 0, .int .i64 8]] (w.alloc (.cells #[.int .i64 3, .int .i64 3, .int .i64 9] 46)) fun e w' => e = .returned (.tuple #[.bool true, .int .i64 0]) ∧ Gr (w.alloc (.cells #[.int .i64 3, .int .i64 3, .int .i64 9] 46)) w' := by
  have h := is_ok (t := 0) (x := 8) (lit_node w 3 3 9 B hB) ok_lit3 (by omega) (by omega)
  rw [val_lit3] at h
  exact h
set_option maxHeartbeats 8000000 in
set_option maxRecDepth 100000 in
theorem formGrows_bad (v : Value) (l : List Nd) (a b t n : Int) (w : World) (hr : RdN w v l) (hc : (chkL l == 0) = false) :
    Calls Try.prog 7 #[v, .int .i64 a, .int .i64 b, .agg #[.int .i64 t, .int .i64 n]] w fun e w' => e = .returned (.bool true) ∧ Gr w w' := by
  have hc' := bne_of' hc
  clear hc
  have HP := Lib.hid (Two.new w t n 24)
  have HV := Lib.hid (hr.alloc (.cells #[.int .i64 t, .int .i64 n] 24))
  have HBB : Hid (BlkIs (w.alloc (.cells #[.int .i64 t, .int .i64 n] 24)) w.heap.size (.cells #[.int .i64 t, .int .i64 n] 24 (0, 0))) := heap_alloc_new _ _
  clear hr
  go_enter Try.func7, Try.ntmps7
  go_wp2_with fail
  refine (is_lit3 (w.alloc _) (w.heap.size + 1) (by simp)).mono ?_
  rintro e w1 ⟨rfl, g1⟩
  have h1 := ((Gr.refl _).alloc _).trans g1
  have G1 := ((Gr.refl w).alloc _).trans h1
  have HV_1 := Lib.hid (HV.out.gr h1)
  clear HV
  have HP_1 := Lib.hid (HP.out.gr h1)
  clear HP
  have HBB_1 := Lib.hid (HBB.out.gr h1)
  clear HBB
  clear g1 h1
  go_wp2_with fail
  refine (lcheck_any _ _ _ (HV_1.out)).mono ?_
  rintro e w2 ⟨rfl, g2⟩
  have G2 := (G1).trans g2
  have HV_2 := Lib.hid (HV_1.out.gr g2)
  clear HV_1
  have HP_2 := Lib.hid (HP_1.out.gr g2)
  clear HP_1
  have HBB_2 := Lib.hid (HBB_1.out.gr g2)
  clear HBB_1
  clear g2 G1
  go_wp2_with fail
  go_ret
  exact ⟨rfl, G2⟩
set_option maxHeartbeats 8000000 in
set_option maxRecDepth 100000 in
theorem formGrows_full (v : Value) (l : List Nd) (a b t n : Int) (w : World) (hr : RdN w v l) (hc : OkL l) (h30 : l.length = 30) :
    Calls Try.prog 7 #[v, .int .i64 a, .int .i64 b, .agg #[.int .i64 t, .int .i64 n]] w fun e w' => e = .returned (.bool true) ∧ Gr w w' := by
  obtain ⟨va, vc, rfl, hvc⟩ := rdN_form hr
  have HC := Lib.hid (chkL_of hc)
  rw [h30] at hr hvc ⊢
  clear hc h30
  have HP := Lib.hid (Two.new w t n 24)
  have HV := Lib.hid (hr.alloc (.cells #[.int .i64 t, .int .i64 n] 24))
  have HBB : Hid (BlkIs (w.alloc (.cells #[.int .i64 t, .int .i64 n] 24)) w.heap.size (.cells #[.int .i64 t, .int .i64 n] 24 (0, 0))) := heap_alloc_new _ _
  clear hr
  go_enter Try.func7, Try.ntmps7
  go_wp2_with fail
  refine (is_lit3 (w.alloc _) (w.heap.size + 1) (by simp)).mono ?_
  rintro e w1 ⟨rfl, g1⟩
  have h1 := ((Gr.refl _).alloc _).trans g1
  have G1 := ((Gr.refl w).alloc _).trans h1
  have HV_1 := Lib.hid (HV.out.gr h1)
  clear HV
  have HP_1 := Lib.hid (HP.out.gr h1)
  clear HP
  have HBB_1 := Lib.hid (HBB.out.gr h1)
  clear HBB
  clear g1 h1
  go_wp2_with fail
  refine (lcheck_any _ _ _ (HV_1.out)).mono ?_
  rw [HC.out]
  rintro e w2 ⟨rfl, g2⟩
  have G2 := (G1).trans g2
  have HV_2 := Lib.hid (HV_1.out.gr g2)
  clear HV_1
  have HP_2 := Lib.hid (HP_1.out.gr g2)
  clear HP_1
  have HBB_2 := Lib.hid (HBB_1.out.gr g2)
  clear HBB_1
  clear g2 G1
  go_wp2_with fail
  go_ret
  exact ⟨rfl, G2⟩
set_option maxHeartbeats 8000000 in
set_option maxRecDepth 100000 in
theorem formGrows_point (v : Value) (l : List Nd) (a b t n : Int) (w : World) (hr : RdN w v l) (hc : OkL l) (h30 : l.length ≠ 30) (hp : pointB t n = false) :
    Calls Try.prog 7 #[v, .int .i64 a, .int .i64 b, .agg #[.int .i64 t, .int .i64 n]] w fun e w' => e = .returned (.bool true) ∧ Gr w w' := by
  obtain ⟨va, vc, rfl, hvc⟩ := rdN_form hr
  have HC := Lib.hid (chkL_of hc)
  have HPB := Lib.hid hp
  have hz : ((l.length : Int) == 30) = false := by rw [Bool.eq_false_iff]; intro h; rw [beq_iff_eq] at h; omega
  clear hc h30 hp
  have HP := Lib.hid (Two.new w t n 24)
  have HV := Lib.hid (hr.alloc (.cells #[.int .i64 t, .int .i64 n] 24))
  have HBB : Hid (BlkIs (w.alloc (.cells #[.int .i64 t, .int .i64 n] 24)) w.heap.size (.cells #[.int .i64 t, .int .i64 n] 24 (0, 0))) := heap_alloc_new _ _
  clear hr
  go_enter Try.func7, Try.ntmps7
  go_wp2_with fail
  refine (is_lit3 (w.alloc _) (w.heap.size + 1) (by simp)).mono ?_
  rintro e w1 ⟨rfl, g1⟩
  have h1 := ((Gr.refl _).alloc _).trans g1
  have G1 := ((Gr.refl w).alloc _).trans h1
  have HV_1 := Lib.hid (HV.out.gr h1)
  clear HV
  have HP_1 := Lib.hid (HP.out.gr h1)
  clear HP
  have HBB_1 := Lib.hid (HBB.out.gr h1)
  clear HBB
  clear g1 h1
  obtain ⟨p0, p1, p2⟩ := HP_1.out
  go_wp2_with fail
  refine (lcheck_any _ _ _ (HV_1.out)).mono ?_
  rw [HC.out]
  rintro e w2 ⟨rfl, g2⟩
  have G2 := (G1).trans g2
  have HV_2 := Lib.hid (HV_1.out.gr g2)
  clear HV_1
  have HP_2 := Lib.hid (HP_1.out.gr g2)
  clear HP_1
  have HBB_2 := Lib.hid (HBB_1.out.gr g2)
  clear HBB_1
  clear g2 G1
  clear p0 p1 p2
  obtain ⟨p0, p1, p2⟩ := HP_2.out
  go_wp2_with fail
  refine (point_any _ _ _).mono ?_
  rw [HPB.out]
  rintro e w3 ⟨rfl, g3⟩
  have G3 := (G2).trans g3
  have HV_3 := Lib.hid (HV_2.out.gr g3)
  clear HV_2
  have HP_3 := Lib.hid (HP_2.out.gr g3)
  clear HP_2
  have HBB_3 := Lib.hid (HBB_2.out.gr g3)
  clear HBB_2
  clear g3 G2
  go_wp2_with fail
  go_ret
  exact ⟨rfl, G3⟩
set_option maxHeartbeats 8000000 in
set_option maxRecDepth 100000 in
theorem formGrows_ok (v : Value) (l : List Nd) (a b : Int) (t x : Nat) (w : World) (hr : RdN w v l) (hc : OkL l) (h30 : l.length ≠ 30) (ht : t < 16) (hx : x < 32) :
    Calls Try.prog 7 #[v, .int .i64 a, .int .i64 b, .agg #[.int .i64 (t : Int), .int .i64 (x : Int)]] w fun e w' => e = .returned (.bool true) ∧ Gr w w' := by
  obtain ⟨va, vc, rfl, hvc⟩ := rdN_form hr
  have HC := Lib.hid (chkL_of hc)
  have HOK := Lib.hid hc
  have HT := Lib.hid ht
  have HXX := Lib.hid hx
  have HPB := Lib.hid (pointB_nat ht hx)
  have hl0 := hc.1
  have hl30 := hc.2.1
  have hz : ((l.length : Int) == 30) = false := by rw [Bool.eq_false_iff]; intro h; rw [beq_iff_eq] at h; omega
  have hne : l ≠ [] := by intro e; rw [e] at hl0; simp at hl0
  have HNE := Lib.hid hne
  obtain ⟨a0, a1⟩ := rem_lt a (l.length : Int) (by omega)
  obtain ⟨b0, b1⟩ := rem_lt b (l.length : Int) (by omega)
  obtain ⟨A, hA⟩ := Int.eq_ofNat_of_zero_le a0
  obtain ⟨C, hC⟩ := Int.eq_ofNat_of_zero_le b0
  rw [hA] at a1
  rw [hC] at b1
  have HA := Lib.hid hA
  have HCC := Lib.hid hC
  have hAl : A < l.length := by omega
  have hCl : C < l.length := by omega
  have HAL := Lib.hid hAl
  have HCL := Lib.hid hCl
  have HVC := Lib.hid hvc
  have HN29 : Hid (l.length ≤ 29) := by unfold Hid; omega
  have HRM := Lib.hid (fun (z : Int) (wx : World) => keepWithin_any z (l.length : Int) (by omega) (by omega) wx)
  have Q1 := Lib.hid (hc.snoc (by omega) (okN_not' hAl))
  have Q2 := Lib.hid (hc.snoc (by omega) (okN_both' hAl hCl))
  have Q3 := Lib.hid (hc.snoc (by omega) (okN_any' hAl hCl))
  have Q4 := Lib.hid (hc.snoc (by omega) (okN_all' l.length))
  obtain ⟨pa, hpa⟩ : ∃ pa, getP (semL l) A t x = pa := ⟨_, rfl⟩
  obtain ⟨pb, hpb⟩ : ∃ pb, getP (semL l) C t x = pb := ⟨_, rfl⟩
  have E1 : Hid (formP (l.take (A + 1)) t x = pa) := by unfold Hid; rw [formP_take hAl, hpa]
  have E2 : Hid (formP (l.take (C + 1)) t x = pb) := by unfold Hid; rw [formP_take hCl, hpb]
  have E3 : Hid (formP (l ++ [(4, (A : Int), 0)]) t x = !pa) := by unfold Hid; rw [formP_snoc, ndP_n, hpa]
  have E4 : Hid (formP (l ++ [(5, (A : Int), (C : Int))]) t x = (pa && pb)) := by unfold Hid; rw [formP_snoc, ndP_b, hpa, hpb]
  have E5 : Hid (formP (l ++ [(6, (A : Int), (C : Int))]) t x = (pa || pb)) := by unfold Hid; rw [formP_snoc, ndP_a, hpa, hpb]
  have E6 : Hid (formP (l ++ [(1, 0, 0)]) t x = true) := by unfold Hid; rw [formP_snoc, ndP_all]
  clear hpa hpb hc ht hx hA hC a0 b0 hne a1 b1 hAl hCl h30
  have HP := Lib.hid (Two.new w (t : Int) (x : Int) 24)
  have HV := Lib.hid (hr.alloc (.cells #[.int .i64 (t : Int), .int .i64 (x : Int)] 24))
  have HBB : Hid (BlkIs (w.alloc (.cells #[.int .i64 (t : Int), .int .i64 (x : Int)] 24)) w.heap.size (.cells #[.int .i64 (t : Int), .int .i64 (x : Int)] 24 (0, 0))) := heap_alloc_new _ _
  clear hr
  go_enter Try.func7, Try.ntmps7
  go_wp2_with fail
  refine (is_lit3 (w.alloc _) (w.heap.size + 1) (by simp)).mono ?_
  rintro e w1 ⟨rfl, g1⟩
  have h1 := ((Gr.refl _).alloc _).trans g1
  have G1 := ((Gr.refl w).alloc _).trans h1
  have HV_1 := Lib.hid (HV.out.gr h1)
  clear HV
  have HP_1 := Lib.hid (HP.out.gr h1)
  clear HP
  have HBB_1 := Lib.hid (HBB.out.gr h1)
  clear HBB
  clear g1 h1
  obtain ⟨p0, p1, p2⟩ := HP_1.out
  go_wp2_with fail
  refine (lcheck_any _ _ _ (HV_1.out)).mono ?_
  rw [HC.out]
  rintro e w2 ⟨rfl, g2⟩
  have G2 := (G1).trans g2
  have HV_2 := Lib.hid (HV_1.out.gr g2)
  clear HV_1
  have HP_2 := Lib.hid (HP_1.out.gr g2)
  clear HP_1
  have HBB_2 := Lib.hid (HBB_1.out.gr g2)
  clear HBB_1
  clear g2 G1
  clear p0 p1 p2
  obtain ⟨p0, p1, p2⟩ := HP_2.out
  go_wp2_with fail
  refine (point_any _ _ _).mono ?_
  rw [HPB.out]
  rintro e w3 ⟨rfl, g3⟩
  have G3 := (G2).trans g3
  have HV_3 := Lib.hid (HV_2.out.gr g3)
  clear HV_2
  have HP_3 := Lib.hid (HP_2.out.gr g3)
  clear HP_2
  have HBB_3 := Lib.hid (HBB_2.out.gr g3)
  clear HBB_2
  clear g3 G2
  clear p0 p1 p2
  go_wp2_with fail
  refine (HRM.out _ _).mono ?_
  rw [HA.out]
  rintro e wa ⟨rfl, rfl⟩
  go_wp2_with fail
  refine (HRM.out _ _).mono ?_
  rw [HCC.out]
  rintro e wb ⟨rfl, rfl⟩
  go_wp2_with fail
  refine fg_reg7 _ (fun _ _ _ _ _ h => h) _ _ w.heap.size va vc l t x A rfl rfl rfl rfl (HBB_3.out) (HV_3.out) HOK.out HAL.out HVC.out HT.out HXX.out (fun w4 g4 => ?_)
  simp only [Act.put, List.setIfInBounds_toArray, List.set_cons_zero, List.set_cons_succ]
  rw [E1.out]
  have G4 := (G3).trans g4
  have HV_4 := Lib.hid (HV_3.out.gr g4)
  clear HV_3
  have HP_4 := Lib.hid (HP_3.out.gr g4)
  clear HP_3
  have HBB_4 := Lib.hid (HBB_3.out.gr g4)
  clear HBB_3
  clear g4 G3
  go_wp2_with fail
  refine fg_reg8 _ (fun _ _ _ _ _ h => h) _ _ w.heap.size va vc l t x C rfl rfl rfl rfl (HBB_4.out) (HV_4.out) HOK.out HCL.out HVC.out HT.out HXX.out (fun w5 g5 => ?_)
  simp only [Act.put, List.setIfInBounds_toArray, List.set_cons_zero, List.set_cons_succ]
  rw [E2.out]
  have G5 := (G4).trans g5
  have HV_5 := Lib.hid (HV_4.out.gr g5)
  clear HV_4
  have HP_5 := Lib.hid (HP_4.out.gr g5)
  clear HP_4
  have HBB_5 := Lib.hid (HBB_4.out.gr g5)
  clear HBB_4
  clear g5 G4
  go_wp2_with fail
  refine fg_reg9 _ (fun _ _ _ _ _ h => h) _ _ w.heap.size _ l t x A C rfl rfl rfl rfl rfl (HBB_5.out) HNE.out HN29.out Q1.out HT.out HXX.out (HV_5.out) (fun w6 c6a c6b c6c g6 => ?_)
  simp only [Act.put, List.setIfInBounds_toArray, List.set_cons_zero, List.set_cons_succ]
  rw [E3.out]
  have G6 := (G5).trans g6
  have HV_6 := Lib.hid (HV_5.out.gr g6)
  clear HV_5
  have HP_6 := Lib.hid (HP_5.out.gr g6)
  clear HP_5
  have HBB_6 := Lib.hid (HBB_5.out.gr g6)
  clear HBB_5
  clear g6 G5
  go_wp2_with fail
  refine fg_reg10 _ (fun _ _ _ _ _ h => h) _ _ w.heap.size _ l t x A C rfl rfl rfl rfl rfl (HBB_6.out) HNE.out HN29.out Q2.out HT.out HXX.out (HV_6.out) (fun w7 c7a c7b c7c g7 => ?_)
  simp only [Act.put, List.setIfInBounds_toArray, List.set_cons_zero, List.set_cons_succ]
  rw [E4.out]
  have G7 := (G6).trans g7
  have HV_7 := Lib.hid (HV_6.out.gr g7)
  clear HV_6
  have HP_7 := Lib.hid (HP_6.out.gr g7)
  clear HP_6
  have HBB_7 := Lib.hid (HBB_6.out.gr g7)
  clear HBB_6
  clear g7 G6
  go_wp2_with fail
  refine fg_reg11 _ (fun _ _ _ _ _ h => h) _ _ w.heap.size _ l t x A C rfl rfl rfl rfl rfl (HBB_7.out) HNE.out HN29.out Q3.out HT.out HXX.out (HV_7.out) (fun w8 c8a c8b c8c g8 => ?_)
  simp only [Act.put, List.setIfInBounds_toArray, List.set_cons_zero, List.set_cons_succ]
  rw [E5.out]
  have G8 := (G7).trans g8
  have HV_8 := Lib.hid (HV_7.out.gr g8)
  clear HV_7
  have HP_8 := Lib.hid (HP_7.out.gr g8)
  clear HP_7
  have HBB_8 := Lib.hid (HBB_7.out.gr g8)
  clear HBB_7
  clear g8 G7
  go_wp2_with fail
  refine fg_reg12 _ (fun _ _ _ _ _ h => h) _ _ w.heap.size _ l t x A C rfl rfl rfl rfl rfl (HBB_8.out) HNE.out HN29.out Q4.out HT.out HXX.out (HV_8.out) (fun w9 c9a c9b c9c g9 => ?_)
  simp only [Act.put, List.setIfInBounds_toArray, List.set_cons_zero, List.set_cons_succ]
  rw [E6.out]
  have G9 := (G8).trans g9
  have HV_9 := Lib.hid (HV_8.out.gr g9)
  clear HV_8
  have HP_9 := Lib.hid (HP_8.out.gr g9)
  clear HP_8
  have HBB_9 := Lib.hid (HBB_8.out.gr g9)
  clear HBB_8
  clear g9 G8
  clear HV_9
  clear HP_9
  clear HBB_9
  go_wp2_with fail
  go_loopw [130] (fun kk wr => ∃ k : Nat, k ≤ 6 ∧ kk = .int .i64 k ∧ wr = w9.alloc (.cells #[.int .i64 0, .int .i64 0, .int .i64 0, .int .i64 0, .int .i64 0, .int .i64 0] 25)) (fun kk _ => 6 - (intOf kk).toNat)
  case atStart => exact ⟨0, by omega, rfl, rfl⟩
  case round =>
    obtain ⟨k, hk, rfl, rfl⟩ := hrel
    by_cases hlt : k < 6
    · have hk6 : (k : Int) < 6 := by omega
      have c1 : (w9.alloc (.cells #[.int .i64 0, .int .i64 0, .int .i64 0, .int .i64 0, .int .i64 0, .int .i64 0] 25)).cell? ⟨w9.heap.size, k, none⟩ = some (.int .i64 0) := by
        rw [cell_of_row _ _ _ _ _ _ (heap_alloc_new _ _)]
        match k, hlt with
        | 0, _ | 1, _ | 2, _ | 3, _ | 4, _ | 5, _ => rfl
      go_wp2_with fail
      go_roundw
      case rel => exact ⟨k + 1, by omega, by go_num, (by first | rfl | trivial)⟩
      case measure => simp [intOf]; omega
    · obtain rfl : k = 6 := by omega
      cases pa
      all_goals
        cases pb
        all_goals
          go_wp2_with fail
          go_ret
          exact ⟨rfl, (G9).alloc _⟩
theorem formGrows_walk (v : Value) (l : List Nd) (a : Int) (_wa : (Lit.int .i64 a).wf = true) (b : Int) (_wb : (Lit.int .i64 b).wf = true) (t n : Int) (w : World) (hr : RdN w v l) :
    Calls Try.prog 7 #[v, .int .i64 a, .int .i64 b, .agg #[.int .i64 t, .int .i64 n]] w fun e w' => e = .returned (.bool true) ∧ Gr w w' := by
  cases hc : (chkL l == 0)
  · exact formGrows_bad v l a b t n w hr hc
  · have hok := okL_of (by simpa using hc)
    by_cases h30 : l.length = 30
    · exact formGrows_full v l a b t n w hr hok h30
    · cases hp : pointB t n
      · exact formGrows_point v l a b t n w hr hok h30 hp
      · obtain ⟨t, x, ht, hx, rfl, rfl⟩ := point_of hp
        exact formGrows_ok v l a b t x w hr hok h30 ht hx
end Go.Proofs.Ythnoafmdecehcaa
