/- TextBoth: a text is not read -/
import Derived.Test.YtbodadddcbbjeaaTBothA
namespace Go.Proofs.Ytbodadddcbbjeaa
open Go.RowKit Rm
set_option linter.unusedVariables false
set_option linter.unusedSimpArgs false

set_option maxHeartbeats 4000000 in
set_option maxRecDepth 100000 in
theorem tboth_1 (s t q3 q4 q5 : List UInt8) (k1 k2 k3 k4 k5 : Int) (m1 m2 m3 m4 m5 : List Nd) (HADD : Adds2 s t q3 q4 q5) (R1 : ReadsAs s k1 m1) (R2 : ReadsAs t k2 m2) (R3 : ReadsAs q3 k3 m3) (R4 : ReadsAs q4 k4 m4) (R5 : ReadsAs q5 k5 m5)
    (h1 : k1 ≠ 0) (hm : m1 = []) (w : World) :
    Calls Try.prog 4 #[.string (str s), .string (str t)] w fun e w' => e = .returned (.bool true) ∧ Gr w w' := by
  subst hm
  have hk : (k1 != 0) = true := by simpa using h1
  obtain ⟨a1, a2, a3, a4, b2, b3, b4, c1⟩ := HADD
  have hz1 := str_size s
  have hz2 := str_size t
  have H0 := Lib.hid reads_lit
  have H1 := Lib.hid R1
  clear R1
  have H2 := Lib.hid R2
  clear R2
  have H3 := Lib.hid R3
  clear R3
  have H4 := Lib.hid R4
  clear R4
  have H5 := Lib.hid R5
  clear R5
  go_enter Try.func4, Try.ntmps4
  go_wp2_with fail
  refine (H0.out _).mono ?_
  rintro e w1 ⟨u0, rfl, g1, o0⟩
  have G1 := (Gr.refl _).trans g1
  have O0_1 := Lib.hid (o0)
  clear g1
  clear o0 H0
  obtain ⟨ua0, uc0, rfl, hu0⟩ := own_form O0_1.out
  go_wp2_with fail
  refine (H1.out _).mono ?_
  rintro e w2 ⟨u1, rfl, g2, o1⟩
  have G2 := (G1).trans g2
  have O0_2 := Lib.hid (O0_1.out.gr g2)
  clear O0_1
  have O1_2 := Lib.hid (o1)
  clear g2 G1
  clear o1 H1
  obtain ⟨ua1, uc1, rfl, hu1⟩ := own_form O1_2.out
  go_wp2_with fail
  refine (H2.out _).mono ?_
  rintro e w3 ⟨u2, rfl, g3, o2⟩
  have G3 := (G2).trans g3
  have O0_3 := Lib.hid (O0_2.out.gr g3)
  clear O0_2
  have O1_3 := Lib.hid (O1_2.out.gr g3)
  clear O1_2
  have O2_3 := Lib.hid (o2)
  clear g3 G2
  clear o2 H2
  obtain ⟨ua2, uc2, rfl, hu2⟩ := own_form O2_3.out
  go_wp2_with fail
  refine (H3.out _).mono ?_
  rintro e w4 ⟨u3, rfl, g4, o3⟩
  have G4 := (G3).trans g4
  have O0_4 := Lib.hid (O0_3.out.gr g4)
  clear O0_3
  have O1_4 := Lib.hid (O1_3.out.gr g4)
  clear O1_3
  have O2_4 := Lib.hid (O2_3.out.gr g4)
  clear O2_3
  have O3_4 := Lib.hid (o3)
  clear g4 G3
  clear o3 H3
  obtain ⟨ua3, uc3, rfl, hu3⟩ := own_form O3_4.out
  go_wp2_with fail
  refine (H4.out _).mono ?_
  rintro e w5 ⟨u4, rfl, g5, o4⟩
  have G5 := (G4).trans g5
  have O0_5 := Lib.hid (O0_4.out.gr g5)
  clear O0_4
  have O1_5 := Lib.hid (O1_4.out.gr g5)
  clear O1_4
  have O2_5 := Lib.hid (O2_4.out.gr g5)
  clear O2_4
  have O3_5 := Lib.hid (O3_4.out.gr g5)
  clear O3_4
  have O4_5 := Lib.hid (o4)
  clear g5 G4
  clear o4 H4
  obtain ⟨ua4, uc4, rfl, hu4⟩ := own_form O4_5.out
  go_wp2_with fail
  refine (H5.out _).mono ?_
  rintro e w6 ⟨u5, rfl, g6, o5⟩
  have G6 := (G5).trans g6
  have O0_6 := Lib.hid (O0_5.out.gr g6)
  clear O0_5
  have O1_6 := Lib.hid (O1_5.out.gr g6)
  clear O1_5
  have O2_6 := Lib.hid (O2_5.out.gr g6)
  clear O2_5
  have O3_6 := Lib.hid (O3_5.out.gr g6)
  clear O3_5
  have O4_6 := Lib.hid (O4_5.out.gr g6)
  clear O4_5
  have O5_6 := Lib.hid (o5)
  clear g6 G5
  clear o5 H5
  obtain ⟨ua5, uc5, rfl, hu5⟩ := own_form O5_6.out
  go_wp2_with fail
  go_ret
  exact ⟨rfl, G6⟩

set_option maxHeartbeats 4000000 in
set_option maxRecDepth 100000 in
theorem tboth_2 (s t q3 q4 q5 : List UInt8) (k1 k2 k3 k4 k5 : Int) (m1 m2 m3 m4 m5 : List Nd) (HADD : Adds2 s t q3 q4 q5) (R1 : ReadsAs s k1 m1) (R2 : ReadsAs t k2 m2) (R3 : ReadsAs q3 k3 m3) (R4 : ReadsAs q4 k4 m4) (R5 : ReadsAs q5 k5 m5)
    (h1 : k1 = 0) (h2 : k2 ≠ 0) (h3 : k3 ≠ 0) (h4 : k4 ≠ 0) (w : World) :
    Calls Try.prog 4 #[.string (str s), .string (str t)] w fun e w' => e = .returned (.bool true) ∧ Gr w w' := by
  subst h1
  have hk2 : (k2 != 0) = true := by simpa using h2
  have hk3 : (k3 != 0) = true := by simpa using h3
  have hk4 : (k4 != 0) = true := by simpa using h4
  obtain ⟨a1, a2, a3, a4, b2, b3, b4, c1⟩ := HADD
  have hz1 := str_size s
  have hz2 := str_size t
  have H0 := Lib.hid reads_lit
  have H1 := Lib.hid R1
  clear R1
  have H2 := Lib.hid R2
  clear R2
  have H3 := Lib.hid R3
  clear R3
  have H4 := Lib.hid R4
  clear R4
  have H5 := Lib.hid R5
  clear R5
  go_enter Try.func4, Try.ntmps4
  go_wp2_with fail
  refine (H0.out _).mono ?_
  rintro e w1 ⟨u0, rfl, g1, o0⟩
  have G1 := (Gr.refl _).trans g1
  have O0_1 := Lib.hid (o0)
  clear g1
  clear o0 H0
  obtain ⟨ua0, uc0, rfl, hu0⟩ := own_form O0_1.out
  go_wp2_with fail
  refine (H1.out _).mono ?_
  rintro e w2 ⟨u1, rfl, g2, o1⟩
  have G2 := (G1).trans g2
  have O0_2 := Lib.hid (O0_1.out.gr g2)
  clear O0_1
  have O1_2 := Lib.hid (o1)
  clear g2 G1
  clear o1 H1
  obtain ⟨ua1, uc1, rfl, hu1⟩ := own_form O1_2.out
  go_wp2_with fail
  refine (H2.out _).mono ?_
  rintro e w3 ⟨u2, rfl, g3, o2⟩
  have G3 := (G2).trans g3
  have O0_3 := Lib.hid (O0_2.out.gr g3)
  clear O0_2
  have O1_3 := Lib.hid (O1_2.out.gr g3)
  clear O1_2
  have O2_3 := Lib.hid (o2)
  clear g3 G2
  clear o2 H2
  obtain ⟨ua2, uc2, rfl, hu2⟩ := own_form O2_3.out
  go_wp2_with fail
  refine (H3.out _).mono ?_
  rintro e w4 ⟨u3, rfl, g4, o3⟩
  have G4 := (G3).trans g4
  have O0_4 := Lib.hid (O0_3.out.gr g4)
  clear O0_3
  have O1_4 := Lib.hid (O1_3.out.gr g4)
  clear O1_3
  have O2_4 := Lib.hid (O2_3.out.gr g4)
  clear O2_3
  have O3_4 := Lib.hid (o3)
  clear g4 G3
  clear o3 H3
  obtain ⟨ua3, uc3, rfl, hu3⟩ := own_form O3_4.out
  go_wp2_with fail
  refine (H4.out _).mono ?_
  rintro e w5 ⟨u4, rfl, g5, o4⟩
  have G5 := (G4).trans g5
  have O0_5 := Lib.hid (O0_4.out.gr g5)
  clear O0_4
  have O1_5 := Lib.hid (O1_4.out.gr g5)
  clear O1_4
  have O2_5 := Lib.hid (O2_4.out.gr g5)
  clear O2_4
  have O3_5 := Lib.hid (O3_4.out.gr g5)
  clear O3_4
  have O4_5 := Lib.hid (o4)
  clear g5 G4
  clear o4 H4
  obtain ⟨ua4, uc4, rfl, hu4⟩ := own_form O4_5.out
  go_wp2_with fail
  refine (H5.out _).mono ?_
  rintro e w6 ⟨u5, rfl, g6, o5⟩
  have G6 := (G5).trans g6
  have O0_6 := Lib.hid (O0_5.out.gr g6)
  clear O0_5
  have O1_6 := Lib.hid (O1_5.out.gr g6)
  clear O1_5
  have O2_6 := Lib.hid (O2_5.out.gr g6)
  clear O2_5
  have O3_6 := Lib.hid (O3_5.out.gr g6)
  clear O3_5
  have O4_6 := Lib.hid (O4_5.out.gr g6)
  clear O4_5
  have O5_6 := Lib.hid (o5)
  clear g6 G5
  clear o5 H5
  obtain ⟨ua5, uc5, rfl, hu5⟩ := own_form O5_6.out
  go_wp2_with fail
  go_ret
  exact ⟨rfl, G6⟩
end Go.Proofs.Ytbodadddcbbjeaa
