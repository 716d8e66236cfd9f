/- The walk of FilterPoints. -/
import Derived.Test.YtphcjjhfgpdhcaaFilR
namespace Go.Proofs.Ytphcjjhfgpdhcaa
open Go.RowKit Rm
set_option linter.unusedVariables false

set_option maxHeartbeats 4000000 in
set_option maxRecDepth 100000 in
theorem filterPoints_bad (f g : Value) (lf lg : List BoxI) (w : World) (rf : RdF w f lf) (rg : RdF w g lg) (t n : Int) (hc : (chkF2 lf lg == 0) = false) :
    Calls Try.prog 9 #[f, g, .agg #[.int .i64 t, .int .i64 n]] w fun e w' => e = .returned (.bool true) ∧ Gr w w' := by
  have hc' := bne_of' hc
  have HF0 := Lib.hid rf
  have HG0 := Lib.hid rg
  have HC := Lib.hid hc
  clear rf rg hc
  go_enter Try.func9, Try.ntmps9
  go_wp2_with fail
  refine (begun_any _).mono ?_
  rintro e v1 ⟨rfl, g1⟩
  have G1 := ((Gr.refl _).alloc _).trans g1
  have HF1 := Lib.hid (((HF0.out).alloc _).gr g1)
  clear HF0
  have HG1 := Lib.hid (((HG0.out).alloc _).gr g1)
  clear HG0
  clear g1
  go_wp2_with fail
  refine (fjoin_bad (HF1.out) (HG1.out) HC.out).mono ?_
  rintro e v2 ⟨ja, jc, rfl, g2⟩
  have G2 := (G1).trans g2
  have HF2 := Lib.hid ((HF1.out).gr g2)
  clear HF1
  have HG2 := Lib.hid ((HG1.out).gr g2)
  clear HG1
  clear G1
  clear g2
  go_wp2_with fail
  go_ret
  exact ⟨rfl, G2⟩

set_option maxHeartbeats 4000000 in
set_option maxRecDepth 100000 in
theorem filterPoints_ok (f g : Value) (T U : Nat → Nat) (w : World) (hT : OkT T) (hU : OkT U) (rf : FS w f T) (rg : FS w g U) (t n : Int) :
    Calls Try.prog 9 #[f, g, .agg #[.int .i64 t, .int .i64 n]] w fun e w' => e = .returned (.bool true) ∧ Gr w w' := by
  have HF0 := Lib.hid rf
  have HG0 := Lib.hid rg
  have HP0 := Lib.hid (Two.new w t n 24)
  have E1 := Lib.hid (bitT_or T U t n)
  have E2 := Lib.hid (bitT_and T U t n)
  have E3 := Lib.hid (bitT_less hT hU t n)
  clear rf rg hT hU
  go_enter Try.func9, Try.ntmps9
  go_wp2_with fail
  refine (begun_any _).mono ?_
  rintro e v1 ⟨rfl, g1⟩
  have G1 := ((Gr.refl _).alloc _).trans g1
  have HF1 := Lib.hid (((HF0.out).alloc _).gr g1)
  clear HF0
  have HG1 := Lib.hid (((HG0.out).alloc _).gr g1)
  clear HG0
  have HP1 := Lib.hid (HP0.out.gr g1)
  clear g1
  go_wp2_with fail
  refine (fjoin_ok (HF1.out) (HG1.out)).mono ?_
  rintro e v2 ⟨u2, rfl, h2, g2⟩
  have G2 := (G1).trans g2
  have HF2 := Lib.hid ((HF1.out).gr g2)
  clear HF1
  have HG2 := Lib.hid ((HG1.out).gr g2)
  clear HG1
  have HP2 := Lib.hid ((HP1.out).gr g2)
  clear HP1
  clear G1
  clear g2
  have HJ2 := Lib.hid (h2.le (m := 40) (by omega))
  clear h2
  go_wp2_with fail
  refine (fmeet_ok (HF2.out) (HG2.out)).mono ?_
  rintro e v3 ⟨u3, rfl, h3, g3⟩
  have G3 := (G2).trans g3
  have HF3 := Lib.hid ((HF2.out).gr g3)
  clear HF2
  have HG3 := Lib.hid ((HG2.out).gr g3)
  clear HG2
  have HP3 := Lib.hid ((HP2.out).gr g3)
  clear HP2
  have HJ3 := Lib.hid ((HJ2.out).gr g3)
  clear HJ2
  clear G2
  clear g3
  have HM3 := Lib.hid (h3.le (m := 40) (by omega))
  clear h3
  go_wp2_with fail
  refine (fless_ok (HF3.out) (HG3.out)).mono ?_
  rintro e v4 ⟨u4, rfl, h4, g4⟩
  have G4 := (G3).trans g4
  have HF4 := Lib.hid ((HF3.out).gr g4)
  clear HF3
  have HG4 := Lib.hid ((HG3.out).gr g4)
  clear HG3
  have HP4 := Lib.hid ((HP3.out).gr g4)
  clear HP3
  have HJ4 := Lib.hid ((HJ3.out).gr g4)
  clear HJ3
  have HM4 := Lib.hid ((HM3.out).gr g4)
  clear HM3
  clear G3
  clear g4
  have HL4 := Lib.hid (h4.le (m := 40) (by omega))
  clear h4
  obtain ⟨xP0, xP1, xP2⟩ := (HP4.out)
  go_wp2_with fail
  refine (fhas_ok (HF4.out) _ _).mono ?_
  rintro e v5 ⟨rfl, g5⟩
  clear xP0 xP1 xP2
  have G5 := (G4).trans g5
  have HF5 := Lib.hid ((HF4.out).gr g5)
  clear HF4
  have HG5 := Lib.hid ((HG4.out).gr g5)
  clear HG4
  have HP5 := Lib.hid ((HP4.out).gr g5)
  clear HP4
  have HJ5 := Lib.hid ((HJ4.out).gr g5)
  clear HJ4
  have HM5 := Lib.hid ((HM4.out).gr g5)
  clear HM4
  have HL5 := Lib.hid ((HL4.out).gr g5)
  clear HL4
  clear G4
  clear g5
  obtain ⟨xP0, xP1, xP2⟩ := (HP5.out)
  go_wp2_with fail
  refine (fhas_ok (HG5.out) _ _).mono ?_
  rintro e v6 ⟨rfl, g6⟩
  clear xP0 xP1 xP2
  have G6 := (G5).trans g6
  have HF6 := Lib.hid ((HF5.out).gr g6)
  clear HF5
  have HG6 := Lib.hid ((HG5.out).gr g6)
  clear HG5
  have HP6 := Lib.hid ((HP5.out).gr g6)
  clear HP5
  have HJ6 := Lib.hid ((HJ5.out).gr g6)
  clear HJ5
  have HM6 := Lib.hid ((HM5.out).gr g6)
  clear HM5
  have HL6 := Lib.hid ((HL5.out).gr g6)
  clear HL5
  clear G5
  clear g6
  obtain ⟨xP0, xP1, xP2⟩ := (HP6.out)
  go_wp2_with fail
  refine (fhas_ok (HJ6.out) _ _).mono ?_
  rw [E1.out]
  rintro e v7 ⟨rfl, g7⟩
  clear xP0 xP1 xP2
  have G7 := (G6).trans g7
  have HF7 := Lib.hid ((HF6.out).gr g7)
  clear HF6
  have HG7 := Lib.hid ((HG6.out).gr g7)
  clear HG6
  have HP7 := Lib.hid ((HP6.out).gr g7)
  clear HP6
  have HJ7 := Lib.hid ((HJ6.out).gr g7)
  clear HJ6
  have HM7 := Lib.hid ((HM6.out).gr g7)
  clear HM6
  have HL7 := Lib.hid ((HL6.out).gr g7)
  clear HL6
  clear G6
  clear g7
  obtain ⟨xP0, xP1, xP2⟩ := (HP7.out)
  go_wp2_with fail
  refine (fhas_ok (HM7.out) _ _).mono ?_
  rw [E2.out]
  rintro e v8 ⟨rfl, g8⟩
  clear xP0 xP1 xP2
  have G8 := (G7).trans g8
  have HF8 := Lib.hid ((HF7.out).gr g8)
  clear HF7
  have HG8 := Lib.hid ((HG7.out).gr g8)
  clear HG7
  have HP8 := Lib.hid ((HP7.out).gr g8)
  clear HP7
  have HJ8 := Lib.hid ((HJ7.out).gr g8)
  clear HJ7
  have HM8 := Lib.hid ((HM7.out).gr g8)
  clear HM7
  have HL8 := Lib.hid ((HL7.out).gr g8)
  clear HL7
  clear G7
  clear g8
  obtain ⟨xP0, xP1, xP2⟩ := (HP8.out)
  go_wp2_with fail
  refine (fhas_ok (HL8.out) _ _).mono ?_
  rw [E3.out]
  rintro e v9 ⟨rfl, g9⟩
  clear xP0 xP1 xP2
  have G9 := (G8).trans g9
  have HF9 := Lib.hid ((HF8.out).gr g9)
  clear HF8
  have HG9 := Lib.hid ((HG8.out).gr g9)
  clear HG8
  have HP9 := Lib.hid ((HP8.out).gr g9)
  clear HP8
  have HJ9 := Lib.hid ((HJ8.out).gr g9)
  clear HJ8
  have HM9 := Lib.hid ((HM8.out).gr g9)
  clear HM8
  have HL9 := Lib.hid ((HL8.out).gr g9)
  clear HL8
  clear G8
  clear g9
  clear E1 E2 E3
  generalize bitT T t n = a0 at *
  generalize bitT U t n = b0 at *
  cases hp : pointB t n
  · have he : errP t n = 1 := by simp [errP, hp]
    rw [he]
    cases a0 <;> cases b0
    all_goals
      obtain ⟨xP0, xP1, xP2⟩ := (HP9.out)
      go_wp2_with fail
      refine (point_any _ _ _).mono ?_
      rw [hp]
      rintro e v10 ⟨rfl, g10⟩
      clear xP0 xP1 xP2
      have G10 := (G9).trans g10
      have HF10 := Lib.hid ((HF9.out).gr g10)
      clear HF9
      have HG10 := Lib.hid ((HG9.out).gr g10)
      clear HG9
      have HP10 := Lib.hid ((HP9.out).gr g10)
      clear HP9
      have HJ10 := Lib.hid ((HJ9.out).gr g10)
      clear HJ9
      have HM10 := Lib.hid ((HM9.out).gr g10)
      clear HM9
      have HL10 := Lib.hid ((HL9.out).gr g10)
      clear HL9
      clear G9
      clear g10
      go_wp2_with fail
      go_ret
      exact ⟨rfl, G10⟩
  · have he : errP t n = 0 := by simp [errP, hp]
    rw [he]
    cases a0 <;> cases b0
    all_goals
      obtain ⟨xP0, xP1, xP2⟩ := (HP9.out)
      go_wp2_with fail
      refine (point_any _ _ _).mono ?_
      rw [hp]
      rintro e v10 ⟨rfl, g10⟩
      clear xP0 xP1 xP2
      have G10 := (G9).trans g10
      have HF10 := Lib.hid ((HF9.out).gr g10)
      clear HF9
      have HG10 := Lib.hid ((HG9.out).gr g10)
      clear HG9
      have HP10 := Lib.hid ((HP9.out).gr g10)
      clear HP9
      have HJ10 := Lib.hid ((HJ9.out).gr g10)
      clear HJ9
      have HM10 := Lib.hid ((HM9.out).gr g10)
      clear HM9
      have HL10 := Lib.hid ((HL9.out).gr g10)
      clear HL9
      clear G9
      clear g10
      go_wp2_with fail
      go_ret
      exact ⟨rfl, G10⟩

theorem filterPoints_walk (f : Value) (lf : List BoxI) (g : Value) (lg : List BoxI) (t n : Int) (w : World) (rf : RdF w f lf) (rg : RdF w g lg) :
    Calls Try.prog 9 #[f, g, .agg #[.int .i64 t, .int .i64 n]] w fun e w' => e = .returned (.bool true) ∧ Gr w w' := by
  cases hc : (chkF2 lf lg == 0)
  · exact filterPoints_bad f g lf lg w rf rg t n hc
  · obtain ⟨T, U, a, b, c, d⟩ := fs2_of rf rg hc
    exact filterPoints_ok f g T U w c d a b t n
end Go.Proofs.Ytphcjjhfgpdhcaa
