/- The walk of CubeSays. -/
import Derived.Test.YtkdhfpdpbledcaaCubeB
import Derived.Test.YtkdhfpdpbledcaaParts
import Derived.Test.YtkdhfpdpbledcaaDoc1
import Derived.Deep.RegionHeld3
namespace Go.Proofs.Ytkdhfpdpbledcaa
open Go.RowKit Rm
set_option linter.unusedVariables false

/-- nothing old has turned, and a struct of two integers is where it was -/
def Stay (w0 w : World) (b : Nat) (y n : Int) : Prop := Gr w0 w ∧ Two w b y n
theorem Stay.drew {w0 w : World} {b : Nat} {y n : Int} (h : Stay w0 w b y n) : Stay w0 w.drew b y n := ⟨h.1.drew, h.2⟩
theorem rcube_stay (w0 : World) (b : Nat) (y n : Int) (w : World) (h : Stay w0 w b y n) :
    Calls Try.prog 32 #[.agg #[.int .i64 y, .int .i64 n]] w fun e w' => e = .returned (.int .i64 (chk y n)) ∧ Stay w0 w' b y n ∧ w'.cell? ⟨b, 0, none⟩ = some (.int .i64 y) ∧ w'.cell? ⟨b, 1, none⟩ = some (.int .i64 n) :=
  (rcube_any y n w).mono fun e w' ⟨he, g⟩ => ⟨he, ⟨h.1.trans g, h.2.gr g⟩, (h.2.gr g).2.1, (h.2.gr g).2.2⟩
theorem lit_form : chk 1 1 = 3 := by decide +kernel

set_option maxHeartbeats 2000000 in
set_option maxRecDepth 100000 in
theorem cubeSays_bad (y n y' n' t : Int) (w : World) (h1 : (chk y n == 0) = false) :
    Calls Try.prog 5 #[.agg #[.int .i64 y, .int .i64 n], .agg #[.int .i64 y', .int .i64 n'], .int .i64 t] w fun e w' => e = .returned (.bool true) ∧ Gr w w' := by
  have h1' := bne_of' h1
  have c2 : chk2 y n y' n' = chk y n := by simp [chk2, h1]
  have c2' : Hid ((chk2 y n y' n' == 0) = false) := by rw [c2]; exact h1
  have e1 : hasE y n t = chk y n := by simp [hasE, h1]
  have e2 : hasR y n t = false := by simp [hasR, e1, h1]
  have e3 : meetE y n y' n' = chk y n := by simp [meetE, c2, h1]
  have e4 : meetY y n y' n' = 0 := by simp [meetY, e3, h1]
  have e5 : meetN y n y' n' = 0 := by simp [meetN, e3, h1]
  have e6 : withinB y n y' n' = false := by simp [withinB, c2, h1]
  have lf := lit_form
  go_enter Try.func5, Try.ntmps5
  go_wp2_with fail
  refine (has_any _ _ _ _).mono ?_
  rintro e v1 ⟨rfl, g1⟩
  have A0 := ((Two.new _ _ _ _).alloc _).gr g1
  have HA1 := Lib.hid A0
  clear A0
  have B0 := (Two.new _ _ _ _).gr g1
  simp only [World.size_alloc] at B0
  have HB1 := Lib.hid B0
  clear B0
  have G1 := (((Gr.refl _).alloc _).alloc _).trans g1
  obtain ⟨oA0, oA1, oA2⟩ := HA1.out
  obtain ⟨oB0, oB1, oB2⟩ := HB1.out
  go_wp2_with fail
  refine (meet_any _ _ _ _ _).mono ?_
  rintro e v2 ⟨rfl, g2⟩
  clear oA0 oA1 oA2
  clear oB0 oB1 oB2
  have A0 := (HA1.out).gr g2
  have HA2 := Lib.hid A0
  clear A0
  clear HA1
  have B0 := (HB1.out).gr g2
  have HB2 := Lib.hid B0
  clear B0
  clear HB1
  have G2 := (G1).trans g2
  obtain ⟨oA0, oA1, oA2⟩ := HA2.out
  obtain ⟨oB0, oB1, oB2⟩ := HB2.out
  go_wp2_with fail
  refine (within_any _ _ _ _ _).mono ?_
  rintro e v3 ⟨rfl, g3⟩
  clear oA0 oA1 oA2
  clear oB0 oB1 oB2
  have A0 := ((HA2.out).alloc _).gr g3
  have HA3 := Lib.hid A0
  clear A0
  clear HA2
  have B0 := ((HB2.out).alloc _).gr g3
  have HB3 := Lib.hid B0
  clear B0
  clear HB2
  have M0 := (Two.new _ _ _ _).gr g3
  have HM3 := Lib.hid M0
  clear M0
  have G3 := ((G2).alloc _).trans g3
  obtain ⟨oA0, oA1, oA2⟩ := HA3.out
  obtain ⟨oB0, oB1, oB2⟩ := HB3.out
  obtain ⟨oM0, oM1, oM2⟩ := HM3.out
  go_wp2_with fail
  refine (less_bad _ _ _ _ _ c2'.out).mono ?_
  rintro e v4 ⟨rfl, g4⟩
  clear oA0 oA1 oA2
  clear oB0 oB1 oB2
  clear oM0 oM1 oM2
  have A0 := (HA3.out).gr g4
  have HA4 := Lib.hid A0
  clear A0
  clear HA3
  have B0 := (HB3.out).gr g4
  have HB4 := Lib.hid B0
  clear B0
  clear HB3
  have M0 := (HM3.out).gr g4
  have HM4 := Lib.hid M0
  clear M0
  clear HM3
  have G4 := (G3).trans g4
  obtain ⟨oA0, oA1, oA2⟩ := HA4.out
  obtain ⟨oB0, oB1, oB2⟩ := HB4.out
  obtain ⟨oM0, oM1, oM2⟩ := HM4.out
  go_wp2_with fail
  refine (count_bad _ _ _ h1).mono ?_
  rintro e v5 ⟨rfl, g5⟩
  clear oA0 oA1 oA2
  clear oB0 oB1 oB2
  clear oM0 oM1 oM2
  have A0 := (HA4.out).gr g5
  have HA5 := Lib.hid A0
  clear A0
  clear HA4
  have B0 := (HB4.out).gr g5
  have HB5 := Lib.hid B0
  clear B0
  clear HB4
  have M0 := (HM4.out).gr g5
  have HM5 := Lib.hid M0
  clear M0
  clear HM4
  have G5 := (G4).trans g5
  obtain ⟨oA0, oA1, oA2⟩ := HA5.out
  obtain ⟨oB0, oB1, oB2⟩ := HB5.out
  obtain ⟨oM0, oM1, oM2⟩ := HM5.out
  go_wp2_with fail
  have ST0 : Stay v5 v5 w.heap.size y n := ⟨Gr.refl _, HA5.out⟩
  go_region_held3 (fun x => x.cell? ⟨w.heap.size, 0, none⟩ = some (.int .i64 y) ∧ x.cell? ⟨w.heap.size, 1, none⟩ = some (.int .i64 n)) (go_keep)
    (first | (go_at_call 32; refine (rcube_stay v5 w.heap.size _ _ _ ?_).mono ?_; (first | assumption | (refine Stay.drew ?_; assumption)); rintro e x ⟨rfl, hst, hc1, hc2⟩))
  clear oA0 oA1 oA2
  clear oB0 oB1 oB2
  clear oM0 oM1 oM2
  have HA6 := Lib.hid ((HA5.out).gr (hst.1))
  clear HA5
  have HB6 := Lib.hid ((HB5.out).gr (hst.1))
  clear HB5
  have HM6 := Lib.hid ((HM5.out).gr (hst.1))
  clear HM5
  have G6 := (G5).trans (hst.1)
  obtain ⟨oA0, oA1, oA2⟩ := HA6.out
  obtain ⟨oB0, oB1, oB2⟩ := HB6.out
  obtain ⟨oM0, oM1, oM2⟩ := HM6.out
  clear hc1 hc2
  go_wp2_with fail
  refine (check_any _ _ _).mono ?_
  rintro e v7 ⟨rfl, g7⟩
  clear oA0 oA1 oA2
  clear oB0 oB1 oB2
  clear oM0 oM1 oM2
  have A0 := (HA6.out).gr g7
  have HA7 := Lib.hid A0
  clear A0
  clear HA6
  have B0 := (HB6.out).gr g7
  have HB7 := Lib.hid B0
  clear B0
  clear HB6
  have M0 := (HM6.out).gr g7
  have HM7 := Lib.hid M0
  clear M0
  clear HM6
  have G7 := (G6).trans g7
  obtain ⟨oA0, oA1, oA2⟩ := HA7.out
  obtain ⟨oM0, oM1, oM2⟩ := HM7.out
  go_wp2_with fail
  refine (check_any _ _ _).mono ?_
  rintro e v8 ⟨rfl, g8⟩
  clear oA0 oA1 oA2
  clear oM0 oM1 oM2
  have A0 := (HA7.out).gr g8
  have HA8 := Lib.hid A0
  clear A0
  clear HA7
  have B0 := (HB7.out).gr g8
  have HB8 := Lib.hid B0
  clear B0
  clear HB7
  have M0 := (HM7.out).gr g8
  have HM8 := Lib.hid M0
  clear M0
  clear HM7
  have G8 := (G7).trans g8
  obtain ⟨oA0, oA1, oA2⟩ := HA8.out
  obtain ⟨oM0, oM1, oM2⟩ := HM8.out
  go_wp2_with fail
  go_ret
  exact ⟨rfl, G8⟩
end Go.Proofs.Ytkdhfpdpbledcaa
