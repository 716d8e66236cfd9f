/- The walk of CubeSays: the first cube is valid, the second is not. -/
import Derived.Test.YtkdhfpdpbledcaaSaysBad
import Derived.Test.YtkdhfpdpbledcaaSaysM
import Derived.LoopTactic
namespace Go.Proofs.Ytkdhfpdpbledcaa
open Go.RowKit Rm
set_option linter.unusedVariables false

set_option maxHeartbeats 8000000 in
set_option maxRecDepth 100000 in
theorem cubeSays_bad_neg (y n : Nat) (vx : Vld y n) (y' n' : Int) (h2 : (chk y' n' == 0) = false) (t : Int) (ht : t < 0) (w : World) :
    Calls Try.prog 5 #[.agg #[.int .i64 y, .int .i64 n], .agg #[.int .i64 y', .int .i64 n'], .int .i64 t] w fun e w' => e = .returned (.bool true) ∧ Gr w w' := by
  have h1 := vx.chk
  have lf := lit_form
  have h2' := bne_of' h2
  have c2 : chk2 y n y' n' = chk y' n' := by simp [chk2, h1]
  have c2' : Hid ((chk2 y n y' n' == 0) = false) := by rw [c2]; exact h2
  have e3 : meetE y n y' n' = chk y' n' := by simp [meetE, c2, h2]
  have e4 : meetY y n y' n' = 0 := by simp [meetY, e3, h2]
  have e5 : meetN y n y' n' = 0 := by simp [meetN, e3, h2]
  have e6 : withinB y n y' n' = false := by simp [withinB, c2, h2]
  have tf : tagsB t = false := by simp [tagsB]; omega
  have q1 : hasE y n t = 1 := by simp [hasE, h1, tf]
  have q2 : hasR y n t = false := by simp [hasR, q1]
  clear tf
  go_enter Try.func5, Try.ntmps5
  go_wp2_with fail
  refine (has_any _ _ _ _).mono ?_
  rintro e v1 ⟨rfl, g1⟩
  have A0 := ((Two.new _ _ _ _).alloc _).gr g1
  have HA1 := Lib.hid A0
  clear A0
  have B0 := (Two.new _ _ _ _).gr g1
  simp only [World.size_alloc] at B0
  have HB1 := Lib.hid B0
  clear B0
  have G1 := (((Gr.refl _).alloc _).alloc _).trans g1
  obtain ⟨oA0, oA1, oA2⟩ := HA1.out
  obtain ⟨oB0, oB1, oB2⟩ := HB1.out
  go_wp2_with fail
  refine (meet_any _ _ _ _ _).mono ?_
  rintro e v2 ⟨rfl, g2⟩
  clear oA0 oA1 oA2
  clear oB0 oB1 oB2
  have A0 := (HA1.out).gr g2
  have HA2 := Lib.hid A0
  clear A0
  clear HA1
  have B0 := (HB1.out).gr g2
  have HB2 := Lib.hid B0
  clear B0
  clear HB1
  have G2 := (G1).trans g2
  obtain ⟨oA0, oA1, oA2⟩ := HA2.out
  obtain ⟨oB0, oB1, oB2⟩ := HB2.out
  go_wp2_with fail
  refine (within_any _ _ _ _ _).mono ?_
  rintro e v3 ⟨rfl, g3⟩
  clear oA0 oA1 oA2
  clear oB0 oB1 oB2
  have A0 := ((HA2.out).alloc _).gr g3
  have HA3 := Lib.hid A0
  clear A0
  clear HA2
  have B0 := ((HB2.out).alloc _).gr g3
  have HB3 := Lib.hid B0
  clear B0
  clear HB2
  have M0 := (Two.new _ _ _ _).gr g3
  have HM3 := Lib.hid M0
  clear M0
  have G3 := ((G2).alloc _).trans g3
  obtain ⟨oA0, oA1, oA2⟩ := HA3.out
  obtain ⟨oB0, oB1, oB2⟩ := HB3.out
  go_wp2_with fail
  refine (less_bad _ _ _ _ _ c2'.out).mono ?_
  rintro e v4 ⟨rfl, g4⟩
  clear oA0 oA1 oA2
  clear oB0 oB1 oB2
  have A0 := (HA3.out).gr g4
  have HA4 := Lib.hid A0
  clear A0
  clear HA3
  have B0 := (HB3.out).gr g4
  have HB4 := Lib.hid B0
  clear B0
  clear HB3
  have M0 := (HM3.out).gr g4
  have HM4 := Lib.hid M0
  clear M0
  clear HM3
  have G4 := (G3).trans g4
  obtain ⟨oA0, oA1, oA2⟩ := HA4.out
  obtain ⟨oB0, oB1, oB2⟩ := HB4.out
  go_wp2_with fail
  refine (count_any _ _ _ vx).mono ?_
  rintro e v5 ⟨rfl, g5⟩
  clear oA0 oA1 oA2
  clear oB0 oB1 oB2
  have A0 := (HA4.out).gr g5
  have HA5 := Lib.hid A0
  clear A0
  clear HA4
  have B0 := (HB4.out).gr g5
  have HB5 := Lib.hid B0
  clear B0
  clear HB4
  have M0 := (HM4.out).gr g5
  have HM5 := Lib.hid M0
  clear M0
  clear HM4
  have G5 := (G4).trans g5
  obtain ⟨oA0, oA1, oA2⟩ := HA5.out
  obtain ⟨oB0, oB1, oB2⟩ := HB5.out
  go_wp2_with fail
  have ST0 : Stay v5 v5 w.heap.size y n := ⟨Gr.refl _, HA5.out⟩
  go_region_held3 (fun x => x.cell? ⟨w.heap.size, 0, none⟩ = some (.int .i64 y) ∧ x.cell? ⟨w.heap.size, 1, none⟩ = some (.int .i64 n)) (go_keep)
    (first | (go_at_call 32; refine (rcube_stay v5 w.heap.size _ _ _ ?_).mono ?_; (first | assumption | (refine Stay.drew ?_; assumption)); rintro e x ⟨rfl, hst, hc1, hc2⟩))
  clear oA0 oA1 oA2
  clear oB0 oB1 oB2
  have HA6 := Lib.hid ((HA5.out).gr (hst.1))
  clear HA5
  have HB6 := Lib.hid ((HB5.out).gr (hst.1))
  clear HB5
  have HM6 := Lib.hid ((HM5.out).gr (hst.1))
  clear HM5
  have G6 := (G5).trans (hst.1)
  obtain ⟨oA0, oA1, oA2⟩ := HA6.out
  obtain ⟨oB0, oB1, oB2⟩ := HB6.out
  clear hc1 hc2 ST0
  go_wp2_with fail
  refine (check_any _ _ _).mono ?_
  rintro e v7 ⟨rfl, g7⟩
  clear oA0 oA1 oA2
  clear oB0 oB1 oB2
  have A0 := (HA6.out).gr g7
  have HA7 := Lib.hid A0
  clear A0
  clear HA6
  have B0 := (HB6.out).gr g7
  have HB7 := Lib.hid B0
  clear B0
  clear HB6
  have M0 := (HM6.out).gr g7
  have HM7 := Lib.hid M0
  clear M0
  clear HM6
  have G7 := (G6).trans g7
  obtain ⟨oA0, oA1, oA2⟩ := HA7.out
  obtain ⟨oB0, oB1, oB2⟩ := HB7.out
  go_wp2_with fail
  refine (check_any _ _ _).mono ?_
  rintro e v8 ⟨rfl, g8⟩
  clear oA0 oA1 oA2
  clear oB0 oB1 oB2
  have A0 := (HA7.out).gr g8
  have HA8 := Lib.hid A0
  clear A0
  clear HA7
  have B0 := (HB7.out).gr g8
  have HB8 := Lib.hid B0
  clear B0
  clear HB7
  have M0 := (HM7.out).gr g8
  have HM8 := Lib.hid M0
  clear M0
  clear HM7
  have G8 := (G7).trans g8
  obtain ⟨oA0, oA1, oA2⟩ := HA8.out
  obtain ⟨oB0, oB1, oB2⟩ := HB8.out
  go_wp2_with fail
  refine (rcube_any _ _ _).mono ?_
  rintro e v9 ⟨rfl, g9⟩
  clear oA0 oA1 oA2
  clear oB0 oB1 oB2
  have A0 := (HA8.out).gr g9
  have HA9 := Lib.hid A0
  clear A0
  clear HA8
  have B0 := (HB8.out).gr g9
  have HB9 := Lib.hid B0
  clear B0
  clear HB8
  have M0 := (HM8.out).gr g9
  have HM9 := Lib.hid M0
  clear M0
  clear HM8
  have G9 := (G8).trans g9
  obtain ⟨oA0, oA1, oA2⟩ := HA9.out
  obtain ⟨oB0, oB1, oB2⟩ := HB9.out
  have HCT := Lib.hid (cntTo_eq vx)
  go_wp2_with fail
  go_loopw [19, 141] (fun c i wr => ∃ k : Nat, k ≤ 16 ∧ i = .int .i64 k ∧ c = .int .i64 (cntTo y n k : Nat) ∧ Gr v9 wr) (fun _ i _ => 16 - (intOf i).toNat)
  case atStart => exact ⟨0, by omega, rfl, rfl, Gr.refl _⟩
  case round =>
    obtain ⟨k, hk, rfl, rfl, hg⟩ := hrel
    obtain ⟨a0, a1, a2⟩ := HA9.out.gr hg
    have hcl := cntTo_le y n k
    have hcl' : ((cntTo y n k : Nat) : Int) ≤ 16 := by omega
    by_cases hlt : k < 16
    · cases hi : in16 y n k
      · have HC : Hid (cntTo y n (k + 1) = cntTo y n k) := by simp [Hid, cntTo, hi]
        go_wp2_with fail
        refine (rin_any _ _ _ _ vx hlt).mono ?_
        rintro e z ⟨rfl, gz⟩
        go_wp2_with fail
        go_roundw
        case rel => exact ⟨k + 1, by omega, by go_num, by rw [HC.out], hg.trans gz⟩
        case measure => simp [intOf]; omega
      · have HC : Hid (cntTo y n (k + 1) = cntTo y n k + 1) := by simp [Hid, cntTo, hi]
        go_wp2_with fail
        refine (rin_any _ _ _ _ vx hlt).mono ?_
        rintro e z ⟨rfl, gz⟩
        go_wp2_with fail
        go_roundw
        case rel => exact ⟨k + 1, by omega, by go_num, by rw [HC.out]; go_num, hg.trans gz⟩
        case measure => simp [intOf]; omega
    · obtain rfl : k = 16 := by omega
      rw [HCT.out]
      clear hcl hcl'
      obtain ⟨b0, b1, b2⟩ := HM9.out.gr hg
      go_wp2_with fail
      go_ret
      exact ⟨rfl, (G9).trans hg⟩

set_option maxHeartbeats 8000000 in
set_option maxRecDepth 100000 in
theorem cubeSays_bad_big (y n : Nat) (vx : Vld y n) (y' n' : Int) (h2 : (chk y' n' == 0) = false) (t : Int) (ht : 15 < t) (w : World) :
    Calls Try.prog 5 #[.agg #[.int .i64 y, .int .i64 n], .agg #[.int .i64 y', .int .i64 n'], .int .i64 t] w fun e w' => e = .returned (.bool true) ∧ Gr w w' := by
  have h1 := vx.chk
  have lf := lit_form
  have h2' := bne_of' h2
  have c2 : chk2 y n y' n' = chk y' n' := by simp [chk2, h1]
  have c2' : Hid ((chk2 y n y' n' == 0) = false) := by rw [c2]; exact h2
  have e3 : meetE y n y' n' = chk y' n' := by simp [meetE, c2, h2]
  have e4 : meetY y n y' n' = 0 := by simp [meetY, e3, h2]
  have e5 : meetN y n y' n' = 0 := by simp [meetN, e3, h2]
  have e6 : withinB y n y' n' = false := by simp [withinB, c2, h2]
  have tf : tagsB t = false := by simp [tagsB]; omega
  have q1 : hasE y n t = 1 := by simp [hasE, h1, tf]
  have q2 : hasR y n t = false := by simp [hasR, q1]
  clear tf
  go_enter Try.func5, Try.ntmps5
  go_wp2_with fail
  refine (has_any _ _ _ _).mono ?_
  rintro e v1 ⟨rfl, g1⟩
  have A0 := ((Two.new _ _ _ _).alloc _).gr g1
  have HA1 := Lib.hid A0
  clear A0
  have B0 := (Two.new _ _ _ _).gr g1
  simp only [World.size_alloc] at B0
  have HB1 := Lib.hid B0
  clear B0
  have G1 := (((Gr.refl _).alloc _).alloc _).trans g1
  obtain ⟨oA0, oA1, oA2⟩ := HA1.out
  obtain ⟨oB0, oB1, oB2⟩ := HB1.out
  go_wp2_with fail
  refine (meet_any _ _ _ _ _).mono ?_
  rintro e v2 ⟨rfl, g2⟩
  clear oA0 oA1 oA2
  clear oB0 oB1 oB2
  have A0 := (HA1.out).gr g2
  have HA2 := Lib.hid A0
  clear A0
  clear HA1
  have B0 := (HB1.out).gr g2
  have HB2 := Lib.hid B0
  clear B0
  clear HB1
  have G2 := (G1).trans g2
  obtain ⟨oA0, oA1, oA2⟩ := HA2.out
  obtain ⟨oB0, oB1, oB2⟩ := HB2.out
  go_wp2_with fail
  refine (within_any _ _ _ _ _).mono ?_
  rintro e v3 ⟨rfl, g3⟩
  clear oA0 oA1 oA2
  clear oB0 oB1 oB2
  have A0 := ((HA2.out).alloc _).gr g3
  have HA3 := Lib.hid A0
  clear A0
  clear HA2
  have B0 := ((HB2.out).alloc _).gr g3
  have HB3 := Lib.hid B0
  clear B0
  clear HB2
  have M0 := (Two.new _ _ _ _).gr g3
  have HM3 := Lib.hid M0
  clear M0
  have G3 := ((G2).alloc _).trans g3
  obtain ⟨oA0, oA1, oA2⟩ := HA3.out
  obtain ⟨oB0, oB1, oB2⟩ := HB3.out
  go_wp2_with fail
  refine (less_bad _ _ _ _ _ c2'.out).mono ?_
  rintro e v4 ⟨rfl, g4⟩
  clear oA0 oA1 oA2
  clear oB0 oB1 oB2
  have A0 := (HA3.out).gr g4
  have HA4 := Lib.hid A0
  clear A0
  clear HA3
  have B0 := (HB3.out).gr g4
  have HB4 := Lib.hid B0
  clear B0
  clear HB3
  have M0 := (HM3.out).gr g4
  have HM4 := Lib.hid M0
  clear M0
  clear HM3
  have G4 := (G3).trans g4
  obtain ⟨oA0, oA1, oA2⟩ := HA4.out
  obtain ⟨oB0, oB1, oB2⟩ := HB4.out
  go_wp2_with fail
  refine (count_any _ _ _ vx).mono ?_
  rintro e v5 ⟨rfl, g5⟩
  clear oA0 oA1 oA2
  clear oB0 oB1 oB2
  have A0 := (HA4.out).gr g5
  have HA5 := Lib.hid A0
  clear A0
  clear HA4
  have B0 := (HB4.out).gr g5
  have HB5 := Lib.hid B0
  clear B0
  clear HB4
  have M0 := (HM4.out).gr g5
  have HM5 := Lib.hid M0
  clear M0
  clear HM4
  have G5 := (G4).trans g5
  obtain ⟨oA0, oA1, oA2⟩ := HA5.out
  obtain ⟨oB0, oB1, oB2⟩ := HB5.out
  go_wp2_with fail
  have ST0 : Stay v5 v5 w.heap.size y n := ⟨Gr.refl _, HA5.out⟩
  go_region_held3 (fun x => x.cell? ⟨w.heap.size, 0, none⟩ = some (.int .i64 y) ∧ x.cell? ⟨w.heap.size, 1, none⟩ = some (.int .i64 n)) (go_keep)
    (first | (go_at_call 32; refine (rcube_stay v5 w.heap.size _ _ _ ?_).mono ?_; (first | assumption | (refine Stay.drew ?_; assumption)); rintro e x ⟨rfl, hst, hc1, hc2⟩))
  clear oA0 oA1 oA2
  clear oB0 oB1 oB2
  have HA6 := Lib.hid ((HA5.out).gr (hst.1))
  clear HA5
  have HB6 := Lib.hid ((HB5.out).gr (hst.1))
  clear HB5
  have HM6 := Lib.hid ((HM5.out).gr (hst.1))
  clear HM5
  have G6 := (G5).trans (hst.1)
  obtain ⟨oA0, oA1, oA2⟩ := HA6.out
  obtain ⟨oB0, oB1, oB2⟩ := HB6.out
  clear hc1 hc2 ST0
  go_wp2_with fail
  refine (check_any _ _ _).mono ?_
  rintro e v7 ⟨rfl, g7⟩
  clear oA0 oA1 oA2
  clear oB0 oB1 oB2
  have A0 := (HA6.out).gr g7
  have HA7 := Lib.hid A0
  clear A0
  clear HA6
  have B0 := (HB6.out).gr g7
  have HB7 := Lib.hid B0
  clear B0
  clear HB6
  have M0 := (HM6.out).gr g7
  have HM7 := Lib.hid M0
  clear M0
  clear HM6
  have G7 := (G6).trans g7
  obtain ⟨oA0, oA1, oA2⟩ := HA7.out
  obtain ⟨oB0, oB1, oB2⟩ := HB7.out
  go_wp2_with fail
  refine (check_any _ _ _).mono ?_
  rintro e v8 ⟨rfl, g8⟩
  clear oA0 oA1 oA2
  clear oB0 oB1 oB2
  have A0 := (HA7.out).gr g8
  have HA8 := Lib.hid A0
  clear A0
  clear HA7
  have B0 := (HB7.out).gr g8
  have HB8 := Lib.hid B0
  clear B0
  clear HB7
  have M0 := (HM7.out).gr g8
  have HM8 := Lib.hid M0
  clear M0
  clear HM7
  have G8 := (G7).trans g8
  obtain ⟨oA0, oA1, oA2⟩ := HA8.out
  obtain ⟨oB0, oB1, oB2⟩ := HB8.out
  go_wp2_with fail
  refine (rcube_any _ _ _).mono ?_
  rintro e v9 ⟨rfl, g9⟩
  clear oA0 oA1 oA2
  clear oB0 oB1 oB2
  have A0 := (HA8.out).gr g9
  have HA9 := Lib.hid A0
  clear A0
  clear HA8
  have B0 := (HB8.out).gr g9
  have HB9 := Lib.hid B0
  clear B0
  clear HB8
  have M0 := (HM8.out).gr g9
  have HM9 := Lib.hid M0
  clear M0
  clear HM8
  have G9 := (G8).trans g9
  obtain ⟨oA0, oA1, oA2⟩ := HA9.out
  obtain ⟨oB0, oB1, oB2⟩ := HB9.out
  have HCT := Lib.hid (cntTo_eq vx)
  go_wp2_with fail
  go_loopw [19, 141] (fun c i wr => ∃ k : Nat, k ≤ 16 ∧ i = .int .i64 k ∧ c = .int .i64 (cntTo y n k : Nat) ∧ Gr v9 wr) (fun _ i _ => 16 - (intOf i).toNat)
  case atStart => exact ⟨0, by omega, rfl, rfl, Gr.refl _⟩
  case round =>
    obtain ⟨k, hk, rfl, rfl, hg⟩ := hrel
    obtain ⟨a0, a1, a2⟩ := HA9.out.gr hg
    have hcl := cntTo_le y n k
    have hcl' : ((cntTo y n k : Nat) : Int) ≤ 16 := by omega
    by_cases hlt : k < 16
    · cases hi : in16 y n k
      · have HC : Hid (cntTo y n (k + 1) = cntTo y n k) := by simp [Hid, cntTo, hi]
        go_wp2_with fail
        refine (rin_any _ _ _ _ vx hlt).mono ?_
        rintro e z ⟨rfl, gz⟩
        go_wp2_with fail
        go_roundw
        case rel => exact ⟨k + 1, by omega, by go_num, by rw [HC.out], hg.trans gz⟩
        case measure => simp [intOf]; omega
      · have HC : Hid (cntTo y n (k + 1) = cntTo y n k + 1) := by simp [Hid, cntTo, hi]
        go_wp2_with fail
        refine (rin_any _ _ _ _ vx hlt).mono ?_
        rintro e z ⟨rfl, gz⟩
        go_wp2_with fail
        go_roundw
        case rel => exact ⟨k + 1, by omega, by go_num, by rw [HC.out]; go_num, hg.trans gz⟩
        case measure => simp [intOf]; omega
    · obtain rfl : k = 16 := by omega
      rw [HCT.out]
      clear hcl hcl'
      obtain ⟨b0, b1, b2⟩ := HM9.out.gr hg
      go_wp2_with fail
      go_ret
      exact ⟨rfl, (G9).trans hg⟩

set_option maxHeartbeats 8000000 in
set_option maxRecDepth 100000 in
theorem cubeSays_bad_in (y n : Nat) (vx : Vld y n) (y' n' : Int) (h2 : (chk y' n' == 0) = false) (t : Nat) (ht : t < 16) (w : World) :
    Calls Try.prog 5 #[.agg #[.int .i64 y, .int .i64 n], .agg #[.int .i64 y', .int .i64 n'], .int .i64 t] w fun e w' => e = .returned (.bool true) ∧ Gr w w' := by
  have h1 := vx.chk
  have lf := lit_form
  have h2' := bne_of' h2
  have c2 : chk2 y n y' n' = chk y' n' := by simp [chk2, h1]
  have c2' : Hid ((chk2 y n y' n' == 0) = false) := by rw [c2]; exact h2
  have e3 : meetE y n y' n' = chk y' n' := by simp [meetE, c2, h2]
  have e4 : meetY y n y' n' = 0 := by simp [meetY, e3, h2]
  have e5 : meetN y n y' n' = 0 := by simp [meetN, e3, h2]
  have e6 : withinB y n y' n' = false := by simp [withinB, c2, h2]
  have q1 := hasE_eq vx ht
  have q2 := in_has vx ht
  have ht0 : (0 : Int) ≤ (t : Int) := by omega
  have ht1 : (t : Int) ≤ 15 := by omega
  have HT := Lib.hid ht
  clear ht
  generalize hin : in16 y n t = it at *
  have HIN := Lib.hid hin
  clear hin
  go_enter Try.func5, Try.ntmps5
  go_wp2_with fail
  refine (has_any _ _ _ _).mono ?_
  rintro e v1 ⟨rfl, g1⟩
  have A0 := ((Two.new _ _ _ _).alloc _).gr g1
  have HA1 := Lib.hid A0
  clear A0
  have B0 := (Two.new _ _ _ _).gr g1
  simp only [World.size_alloc] at B0
  have HB1 := Lib.hid B0
  clear B0
  have G1 := (((Gr.refl _).alloc _).alloc _).trans g1
  obtain ⟨oA0, oA1, oA2⟩ := HA1.out
  obtain ⟨oB0, oB1, oB2⟩ := HB1.out
  go_wp2_with fail
  refine (meet_any _ _ _ _ _).mono ?_
  rintro e v2 ⟨rfl, g2⟩
  clear oA0 oA1 oA2
  clear oB0 oB1 oB2
  have A0 := (HA1.out).gr g2
  have HA2 := Lib.hid A0
  clear A0
  clear HA1
  have B0 := (HB1.out).gr g2
  have HB2 := Lib.hid B0
  clear B0
  clear HB1
  have G2 := (G1).trans g2
  obtain ⟨oA0, oA1, oA2⟩ := HA2.out
  obtain ⟨oB0, oB1, oB2⟩ := HB2.out
  go_wp2_with fail
  refine (within_any _ _ _ _ _).mono ?_
  rintro e v3 ⟨rfl, g3⟩
  clear oA0 oA1 oA2
  clear oB0 oB1 oB2
  have A0 := ((HA2.out).alloc _).gr g3
  have HA3 := Lib.hid A0
  clear A0
  clear HA2
  have B0 := ((HB2.out).alloc _).gr g3
  have HB3 := Lib.hid B0
  clear B0
  clear HB2
  have M0 := (Two.new _ _ _ _).gr g3
  have HM3 := Lib.hid M0
  clear M0
  have G3 := ((G2).alloc _).trans g3
  obtain ⟨oA0, oA1, oA2⟩ := HA3.out
  obtain ⟨oB0, oB1, oB2⟩ := HB3.out
  go_wp2_with fail
  refine (less_bad _ _ _ _ _ c2'.out).mono ?_
  rintro e v4 ⟨rfl, g4⟩
  clear oA0 oA1 oA2
  clear oB0 oB1 oB2
  have A0 := (HA3.out).gr g4
  have HA4 := Lib.hid A0
  clear A0
  clear HA3
  have B0 := (HB3.out).gr g4
  have HB4 := Lib.hid B0
  clear B0
  clear HB3
  have M0 := (HM3.out).gr g4
  have HM4 := Lib.hid M0
  clear M0
  clear HM3
  have G4 := (G3).trans g4
  obtain ⟨oA0, oA1, oA2⟩ := HA4.out
  obtain ⟨oB0, oB1, oB2⟩ := HB4.out
  go_wp2_with fail
  refine (count_any _ _ _ vx).mono ?_
  rintro e v5 ⟨rfl, g5⟩
  clear oA0 oA1 oA2
  clear oB0 oB1 oB2
  have A0 := (HA4.out).gr g5
  have HA5 := Lib.hid A0
  clear A0
  clear HA4
  have B0 := (HB4.out).gr g5
  have HB5 := Lib.hid B0
  clear B0
  clear HB4
  have M0 := (HM4.out).gr g5
  have HM5 := Lib.hid M0
  clear M0
  clear HM4
  have G5 := (G4).trans g5
  obtain ⟨oA0, oA1, oA2⟩ := HA5.out
  obtain ⟨oB0, oB1, oB2⟩ := HB5.out
  go_wp2_with fail
  have ST0 : Stay v5 v5 w.heap.size y n := ⟨Gr.refl _, HA5.out⟩
  go_region_held3 (fun x => x.cell? ⟨w.heap.size, 0, none⟩ = some (.int .i64 y) ∧ x.cell? ⟨w.heap.size, 1, none⟩ = some (.int .i64 n)) (go_keep)
    (first | (go_at_call 32; refine (rcube_stay v5 w.heap.size _ _ _ ?_).mono ?_; (first | assumption | (refine Stay.drew ?_; assumption)); rintro e x ⟨rfl, hst, hc1, hc2⟩))
  clear oA0 oA1 oA2
  clear oB0 oB1 oB2
  have HA6 := Lib.hid ((HA5.out).gr (hst.1))
  clear HA5
  have HB6 := Lib.hid ((HB5.out).gr (hst.1))
  clear HB5
  have HM6 := Lib.hid ((HM5.out).gr (hst.1))
  clear HM5
  have G6 := (G5).trans (hst.1)
  obtain ⟨oA0, oA1, oA2⟩ := HA6.out
  obtain ⟨oB0, oB1, oB2⟩ := HB6.out
  clear hc1 hc2 ST0
  go_wp2_with fail
  refine (check_any _ _ _).mono ?_
  rintro e v7 ⟨rfl, g7⟩
  clear oA0 oA1 oA2
  clear oB0 oB1 oB2
  have A0 := (HA6.out).gr g7
  have HA7 := Lib.hid A0
  clear A0
  clear HA6
  have B0 := (HB6.out).gr g7
  have HB7 := Lib.hid B0
  clear B0
  clear HB6
  have M0 := (HM6.out).gr g7
  have HM7 := Lib.hid M0
  clear M0
  clear HM6
  have G7 := (G6).trans g7
  obtain ⟨oA0, oA1, oA2⟩ := HA7.out
  obtain ⟨oB0, oB1, oB2⟩ := HB7.out
  go_wp2_with fail
  refine (check_any _ _ _).mono ?_
  rintro e v8 ⟨rfl, g8⟩
  clear oA0 oA1 oA2
  clear oB0 oB1 oB2
  have A0 := (HA7.out).gr g8
  have HA8 := Lib.hid A0
  clear A0
  clear HA7
  have B0 := (HB7.out).gr g8
  have HB8 := Lib.hid B0
  clear B0
  clear HB7
  have M0 := (HM7.out).gr g8
  have HM8 := Lib.hid M0
  clear M0
  clear HM7
  have G8 := (G7).trans g8
  obtain ⟨oA0, oA1, oA2⟩ := HA8.out
  obtain ⟨oB0, oB1, oB2⟩ := HB8.out
  go_wp2_with fail
  refine (rcube_any _ _ _).mono ?_
  rintro e v9 ⟨rfl, g9⟩
  clear oA0 oA1 oA2
  clear oB0 oB1 oB2
  have A0 := (HA8.out).gr g9
  have HA9 := Lib.hid A0
  clear A0
  clear HA8
  have B0 := (HB8.out).gr g9
  have HB9 := Lib.hid B0
  clear B0
  clear HB8
  have M0 := (HM8.out).gr g9
  have HM9 := Lib.hid M0
  clear M0
  clear HM8
  have G9 := (G8).trans g9
  obtain ⟨oA0, oA1, oA2⟩ := HA9.out
  obtain ⟨oB0, oB1, oB2⟩ := HB9.out
  go_wp2_with fail
  refine (rin_any _ _ _ _ vx HT.out).mono ?_
  rintro e v10 ⟨rfl, g10⟩
  clear oA0 oA1 oA2
  clear oB0 oB1 oB2
  have A0 := (HA9.out).gr g10
  have HA10 := Lib.hid A0
  clear A0
  clear HA9
  have B0 := (HB9.out).gr g10
  have HB10 := Lib.hid B0
  clear B0
  clear HB9
  have M0 := (HM9.out).gr g10
  have HM10 := Lib.hid M0
  clear M0
  clear HM9
  have G10 := (G9).trans g10
  obtain ⟨oA0, oA1, oA2⟩ := HA10.out
  obtain ⟨oB0, oB1, oB2⟩ := HB10.out
  rw [HIN.out]
  have HCT := Lib.hid (cntTo_eq vx)
  go_wp2_with fail
  go_loopw [19, 141] (fun c i wr => ∃ k : Nat, k ≤ 16 ∧ i = .int .i64 k ∧ c = .int .i64 (cntTo y n k : Nat) ∧ Gr v10 wr) (fun _ i _ => 16 - (intOf i).toNat)
  case atStart => exact ⟨0, by omega, rfl, rfl, Gr.refl _⟩
  case round =>
    obtain ⟨k, hk, rfl, rfl, hg⟩ := hrel
    obtain ⟨a0, a1, a2⟩ := HA10.out.gr hg
    have hcl := cntTo_le y n k
    have hcl' : ((cntTo y n k : Nat) : Int) ≤ 16 := by omega
    by_cases hlt : k < 16
    · cases hi : in16 y n k
      · have HC : Hid (cntTo y n (k + 1) = cntTo y n k) := by simp [Hid, cntTo, hi]
        go_wp2_with fail
        refine (rin_any _ _ _ _ vx hlt).mono ?_
        rintro e z ⟨rfl, gz⟩
        go_wp2_with fail
        go_roundw
        case rel => exact ⟨k + 1, by omega, by go_num, by rw [HC.out], hg.trans gz⟩
        case measure => simp [intOf]; omega
      · have HC : Hid (cntTo y n (k + 1) = cntTo y n k + 1) := by simp [Hid, cntTo, hi]
        go_wp2_with fail
        refine (rin_any _ _ _ _ vx hlt).mono ?_
        rintro e z ⟨rfl, gz⟩
        go_wp2_with fail
        go_roundw
        case rel => exact ⟨k + 1, by omega, by go_num, by rw [HC.out]; go_num, hg.trans gz⟩
        case measure => simp [intOf]; omega
    · obtain rfl : k = 16 := by omega
      rw [HCT.out]
      clear hcl hcl'
      obtain ⟨b0, b1, b2⟩ := HM10.out.gr hg
      go_wp2_with fail
      go_ret
      exact ⟨rfl, (G10).trans hg⟩
end Go.Proofs.Ytkdhfpdpbledcaa
