/- TextBoth: all are read -/
import Derived.Test.YtbodadddcbbjeaaTBothA
import Derived.LoopN
namespace Go.Proofs.Ytbodadddcbbjeaa
open Go.RowKit Rm
set_option linter.unusedVariables false
set_option linter.unusedSimpArgs false

set_option maxHeartbeats 4000000 in
set_option maxRecDepth 100000 in
theorem tboth_f (s t q3 q4 q5 : List UInt8) (k1 k2 k3 k4 k5 : Int) (m1 m2 m3 m4 m5 : List Nd) (HADD : Adds2 s t q3 q4 q5) (R1 : ReadsAs s k1 m1) (R2 : ReadsAs t k2 m2) (R3 : ReadsAs q3 k3 m3) (R4 : ReadsAs q4 k4 m4) (R5 : ReadsAs q5 k5 m5)
    (h1 : k1 = 0) (h2 : k2 = 0) (hl1 : m1.length ≤ 30) (hl2 : m2.length ≤ 30) (hs : s.length ≤ 400) (ht : t.length ≤ 400) (h3 : k3 = 0) (h4 : k4 = 0) (h5 : k5 = 0) (hk1 : OkL m1) (hk2 : OkL m2) (hk3 : OkL m3) (hk4 : OkL m4) (hk5 : OkL m5) (hf3 : formP m3 = fun t x => formP m1 t x && formP m2 t x) (hf4 : formP m4 = fun t x => formP m1 t x || formP m2 t x) (hf5 : formP m5 = fun t x => !formP m1 t x) (w : World) :
    Calls Try.prog 4 #[.string (str s), .string (str t)] w fun e w' => e = .returned (.bool true) ∧ Gr w w' := by
  subst h1 h2 h3 h4 h5
  have HF3 := Lib.hid hf3
  clear hf3
  have HF4 := Lib.hid hf4
  clear hf4
  have HF5 := Lib.hid hf5
  clear hf5
  have i1 : (m1.length : Int) ≤ 30 := by omega
  have i2 : (m2.length : Int) ≤ 30 := by omega
  have i3 : (s.length : Int) ≤ 400 := by omega
  have i4 : (t.length : Int) ≤ 400 := by omega
  obtain ⟨a1, a2, a3, a4, b2, b3, b4, c1⟩ := HADD
  have hz1 := str_size s
  have hz2 := str_size t
  have H0 := Lib.hid reads_lit
  have H1 := Lib.hid R1
  clear R1
  have H2 := Lib.hid R2
  clear R2
  have H3 := Lib.hid R3
  clear R3
  have H4 := Lib.hid R4
  clear R4
  have H5 := Lib.hid R5
  clear R5
  go_enter Try.func4, Try.ntmps4
  go_wp2_with fail
  refine (H0.out _).mono ?_
  rintro e w1 ⟨u0, rfl, g1, o0⟩
  have G1 := (Gr.refl _).trans g1
  have O0_1 := Lib.hid (o0)
  clear g1
  clear o0 H0
  obtain ⟨ua0, uc0, rfl, hu0⟩ := own_form O0_1.out
  go_wp2_with fail
  refine (H1.out _).mono ?_
  rintro e w2 ⟨u1, rfl, g2, o1⟩
  have G2 := (G1).trans g2
  have O0_2 := Lib.hid (O0_1.out.gr g2)
  clear O0_1
  have O1_2 := Lib.hid (o1)
  clear g2 G1
  clear o1 H1
  obtain ⟨ua1, uc1, rfl, hu1⟩ := own_form O1_2.out
  go_wp2_with fail
  refine (H2.out _).mono ?_
  rintro e w3 ⟨u2, rfl, g3, o2⟩
  have G3 := (G2).trans g3
  have O0_3 := Lib.hid (O0_2.out.gr g3)
  clear O0_2
  have O1_3 := Lib.hid (O1_2.out.gr g3)
  clear O1_2
  have O2_3 := Lib.hid (o2)
  clear g3 G2
  clear o2 H2
  obtain ⟨ua2, uc2, rfl, hu2⟩ := own_form O2_3.out
  go_wp2_with fail
  refine (H3.out _).mono ?_
  rintro e w4 ⟨u3, rfl, g4, o3⟩
  have G4 := (G3).trans g4
  have O0_4 := Lib.hid (O0_3.out.gr g4)
  clear O0_3
  have O1_4 := Lib.hid (O1_3.out.gr g4)
  clear O1_3
  have O2_4 := Lib.hid (O2_3.out.gr g4)
  clear O2_3
  have O3_4 := Lib.hid (o3)
  clear g4 G3
  clear o3 H3
  obtain ⟨ua3, uc3, rfl, hu3⟩ := own_form O3_4.out
  go_wp2_with fail
  refine (H4.out _).mono ?_
  rintro e w5 ⟨u4, rfl, g5, o4⟩
  have G5 := (G4).trans g5
  have O0_5 := Lib.hid (O0_4.out.gr g5)
  clear O0_4
  have O1_5 := Lib.hid (O1_4.out.gr g5)
  clear O1_4
  have O2_5 := Lib.hid (O2_4.out.gr g5)
  clear O2_4
  have O3_5 := Lib.hid (O3_4.out.gr g5)
  clear O3_4
  have O4_5 := Lib.hid (o4)
  clear g5 G4
  clear o4 H4
  obtain ⟨ua4, uc4, rfl, hu4⟩ := own_form O4_5.out
  go_wp2_with fail
  refine (H5.out _).mono ?_
  rintro e w6 ⟨u5, rfl, g6, o5⟩
  have G6 := (G5).trans g6
  have O0_6 := Lib.hid (O0_5.out.gr g6)
  clear O0_5
  have O1_6 := Lib.hid (O1_5.out.gr g6)
  clear O1_5
  have O2_6 := Lib.hid (O2_5.out.gr g6)
  clear O2_5
  have O3_6 := Lib.hid (O3_5.out.gr g6)
  clear O3_5
  have O4_6 := Lib.hid (O4_5.out.gr g6)
  clear O4_5
  have O5_6 := Lib.hid (o5)
  clear g6 G5
  clear o5 H5
  obtain ⟨ua5, uc5, rfl, hu5⟩ := own_form O5_6.out
  clear O0_6
  go_wp2_with fail
  refine (lfilter_ok O1_6.out.rd hk1).mono ?_
  rintro e w7 ⟨r1, rfl, p1, g7⟩
  have G7 := (G6).trans g7
  have O1_7 := Lib.hid (O1_6.out.gr g7)
  clear O1_6
  have O2_7 := Lib.hid (O2_6.out.gr g7)
  clear O2_6
  have O3_7 := Lib.hid (O3_6.out.gr g7)
  clear O3_6
  have O4_7 := Lib.hid (O4_6.out.gr g7)
  clear O4_6
  have O5_7 := Lib.hid (O5_6.out.gr g7)
  clear O5_6
  have P1_7 := Lib.hid (p1)
  clear g7 G6
  clear p1
  go_wp2_with fail
  refine (lfilter_ok O5_7.out.rd hk5).mono ?_
  rintro e w8 ⟨r2, rfl, p2, g8⟩
  have G8 := (G7).trans g8
  have O1_8 := Lib.hid (O1_7.out.gr g8)
  clear O1_7
  have O2_8 := Lib.hid (O2_7.out.gr g8)
  clear O2_7
  have O3_8 := Lib.hid (O3_7.out.gr g8)
  clear O3_7
  have O4_8 := Lib.hid (O4_7.out.gr g8)
  clear O4_7
  have O5_8 := Lib.hid (O5_7.out.gr g8)
  clear O5_7
  have P1_8 := Lib.hid (P1_7.out.gr g8)
  clear P1_7
  have P2_8 := Lib.hid (p2)
  clear g8 G7
  clear p2
  go_wp2_with fail
  refine (fevery_own _).mono ?_
  rintro e w9 ⟨r3, rfl, p3, g9⟩
  have G9 := (G8).trans g9
  have O1_9 := Lib.hid (O1_8.out.gr g9)
  clear O1_8
  have O2_9 := Lib.hid (O2_8.out.gr g9)
  clear O2_8
  have O3_9 := Lib.hid (O3_8.out.gr g9)
  clear O3_8
  have O4_9 := Lib.hid (O4_8.out.gr g9)
  clear O4_8
  have O5_9 := Lib.hid (O5_8.out.gr g9)
  clear O5_8
  have P1_9 := Lib.hid (P1_8.out.gr g9)
  clear P1_8
  have P2_9 := Lib.hid (P2_8.out.gr g9)
  clear P2_8
  have P3_9 := Lib.hid (p3)
  clear g9 G8
  clear p3
  go_wp2_with fail
  refine (fp_notall P3_9.out P1_9.out).mono ?_
  rintro e w10 ⟨r4, rfl, p4, g10⟩
  have G10 := (G9).trans g10
  have O1_10 := Lib.hid (O1_9.out.gr g10)
  clear O1_9
  have O2_10 := Lib.hid (O2_9.out.gr g10)
  clear O2_9
  have O3_10 := Lib.hid (O3_9.out.gr g10)
  clear O3_9
  have O4_10 := Lib.hid (O4_9.out.gr g10)
  clear O4_9
  have O5_10 := Lib.hid (O5_9.out.gr g10)
  clear O5_9
  have P1_10 := Lib.hid (P1_9.out.gr g10)
  clear P1_9
  have P2_10 := Lib.hid (P2_9.out.gr g10)
  clear P2_9
  have P3_10 := Lib.hid (P3_9.out.gr g10)
  clear P3_9
  have P4_10 := Lib.hid (p4)
  clear g10 G9
  clear p4
  clear P3_10
  clear P1_10
  go_wp2_with fail
  refine (fp_keep_same' P2_10.out P4_10.out HF5.out).mono ?_
  rintro e w11 ⟨rfl, g11⟩
  have G11 := (G10).trans g11
  have O1_11 := Lib.hid (O1_10.out.gr g11)
  clear O1_10
  have O2_11 := Lib.hid (O2_10.out.gr g11)
  clear O2_10
  have O3_11 := Lib.hid (O3_10.out.gr g11)
  clear O3_10
  have O4_11 := Lib.hid (O4_10.out.gr g11)
  clear O4_10
  have O5_11 := Lib.hid (O5_10.out.gr g11)
  clear O5_10
  have P2_11 := Lib.hid (P2_10.out.gr g11)
  clear P2_10
  have P4_11 := Lib.hid (P4_10.out.gr g11)
  clear P4_10
  clear g11 G10
  clear P2_11
  clear P4_11
  clear O5_11
  go_wp2_with fail
  refine (lfilter_ok O1_11.out.rd hk1).mono ?_
  rintro e w12 ⟨q1, rfl, p1, g12⟩
  have G12 := (G11).trans g12
  have O1_12 := Lib.hid (O1_11.out.gr g12)
  clear O1_11
  have O2_12 := Lib.hid (O2_11.out.gr g12)
  clear O2_11
  have O3_12 := Lib.hid (O3_11.out.gr g12)
  clear O3_11
  have O4_12 := Lib.hid (O4_11.out.gr g12)
  clear O4_11
  have Q1_12 := Lib.hid (p1)
  clear g12 G11
  clear p1
  clear O1_12
  go_wp2_with fail
  refine (lfilter_ok O2_12.out.rd hk2).mono ?_
  rintro e w13 ⟨q2, rfl, p1, g13⟩
  have G13 := (G12).trans g13
  have O2_13 := Lib.hid (O2_12.out.gr g13)
  clear O2_12
  have O3_13 := Lib.hid (O3_12.out.gr g13)
  clear O3_12
  have O4_13 := Lib.hid (O4_12.out.gr g13)
  clear O4_12
  have Q1_13 := Lib.hid (Q1_12.out.gr g13)
  clear Q1_12
  have Q2_13 := Lib.hid (p1)
  clear g13 G12
  clear p1
  clear O2_13
  go_wp2_with fail
  refine (lfilter_ok O3_13.out.rd hk3).mono ?_
  rintro e w14 ⟨q3, rfl, p1, g14⟩
  have G14 := (G13).trans g14
  have O3_14 := Lib.hid (O3_13.out.gr g14)
  clear O3_13
  have O4_14 := Lib.hid (O4_13.out.gr g14)
  clear O4_13
  have Q1_14 := Lib.hid (Q1_13.out.gr g14)
  clear Q1_13
  have Q2_14 := Lib.hid (Q2_13.out.gr g14)
  clear Q2_13
  have Q3_14 := Lib.hid (p1)
  clear g14 G13
  clear p1
  clear O3_14
  go_wp2_with fail
  refine (lfilter_ok O4_14.out.rd hk4).mono ?_
  rintro e w15 ⟨q4, rfl, p1, g15⟩
  have G15 := (G14).trans g15
  have O4_15 := Lib.hid (O4_14.out.gr g15)
  clear O4_14
  have Q1_15 := Lib.hid (Q1_14.out.gr g15)
  clear Q1_14
  have Q2_15 := Lib.hid (Q2_14.out.gr g15)
  clear Q2_14
  have Q3_15 := Lib.hid (Q3_14.out.gr g15)
  clear Q3_14
  have Q4_15 := Lib.hid (p1)
  clear g15 G14
  clear p1
  clear O4_15
  go_wp2_with fail
  refine (fp_meet Q1_15.out Q2_15.out).mono ?_
  rintro e w16 ⟨q5, rfl, p1, g16⟩
  have G16 := (G15).trans g16
  have Q1_16 := Lib.hid (Q1_15.out.gr g16)
  clear Q1_15
  have Q2_16 := Lib.hid (Q2_15.out.gr g16)
  clear Q2_15
  have Q3_16 := Lib.hid (Q3_15.out.gr g16)
  clear Q3_15
  have Q4_16 := Lib.hid (Q4_15.out.gr g16)
  clear Q4_15
  have Q5_16 := Lib.hid (p1)
  clear g16 G15
  clear p1
  go_wp2_with fail
  refine (fp_join Q1_16.out Q2_16.out).mono ?_
  rintro e w17 ⟨q6, rfl, p1, g17⟩
  have G17 := (G16).trans g17
  have Q1_17 := Lib.hid (Q1_16.out.gr g17)
  clear Q1_16
  have Q2_17 := Lib.hid (Q2_16.out.gr g17)
  clear Q2_16
  have Q3_17 := Lib.hid (Q3_16.out.gr g17)
  clear Q3_16
  have Q4_17 := Lib.hid (Q4_16.out.gr g17)
  clear Q4_16
  have Q5_17 := Lib.hid (Q5_16.out.gr g17)
  clear Q5_16
  have Q6_17 := Lib.hid (p1)
  clear g17 G16
  clear p1
  clear Q1_17
  clear Q2_17
  go_wp2_with fail
  refine wp_loop_rounds 7 ?_
  rw [rounds_succ]
  go_wp2_with fail
  rw [rounds_succ]
  go_wp2_with fail
  rw [rounds_succ]
  go_wp2_with fail
  rw [rounds_succ]
  go_wp2_with fail
  rw [rounds_succ]
  go_wp2_with fail
  rw [rounds_succ]
  go_wp2_with fail
  rw [rounds_succ]
  go_wp2_with fail
  refine (fp_keep_same' (Q3_17.out.gr ((Gr.refl _).alloc _)) (Q5_17.out.gr ((Gr.refl _).alloc _)) HF3.out).mono ?_
  rintro e w18 ⟨rfl, g18⟩
  have h18 := ((Gr.refl _).alloc _).trans g18
  have G18 := (G17).trans h18
  have Q3_18 := Lib.hid (Q3_17.out.gr h18)
  clear Q3_17
  have Q4_18 := Lib.hid (Q4_17.out.gr h18)
  clear Q4_17
  have Q5_18 := Lib.hid (Q5_17.out.gr h18)
  clear Q5_17
  have Q6_18 := Lib.hid (Q6_17.out.gr h18)
  clear Q6_17
  clear g18 h18 G17
  clear Q3_18
  clear Q5_18
  go_wp2_with fail
  refine (fp_keep_same' Q4_18.out Q6_18.out HF4.out).mono ?_
  rintro e w19 ⟨rfl, g19⟩
  have G19 := (G18).trans g19
  have Q4_19 := Lib.hid (Q4_18.out.gr g19)
  clear Q4_18
  have Q6_19 := Lib.hid (Q6_18.out.gr g19)
  clear Q6_18
  clear g19 G18
  clear Q4_19
  clear Q6_19
  go_wp2_with fail
  go_ret
  exact ⟨rfl, G19⟩
end Go.Proofs.Ytbodadddcbbjeaa
