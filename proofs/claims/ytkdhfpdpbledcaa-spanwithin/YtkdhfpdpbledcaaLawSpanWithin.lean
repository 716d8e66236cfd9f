/- The walk of SpanWithin. -/
import Derived.Test.YtkdhfpdpbledcaaMaskM
namespace Go.Proofs.Ytkdhfpdpbledcaa
open Go.RowKit Rm
set_option linter.unusedVariables false

theorem canon14' : canon 14 = [(1, 4)] := by decide +kernel
theorem canon4 : canon 4 = [(2, 3)] := by decide +kernel
theorem sub414 : subM 4 14 = true := by decide +kernel

set_option maxHeartbeats 4000000 in
set_option maxRecDepth 100000 in
theorem spanWithin_walk (a0 : Int) (w0 : (Lit.int .u32 a0).wf = true) (a1 : Int) (w1 : (Lit.int .u32 a1).wf = true) (a2 : Int) (w2 : (Lit.int .u32 a2).wf = true) (w : World) :
    Calls Try.prog 9 #[.int .u32 a0, .int .u32 a1, .int .u32 a2] w fun e w' => e = .returned (.bool true) ∧ Gr w w' := by
  obtain ⟨A, rfl, hA⟩ := of_u32 w0
  obtain ⟨B, rfl, hB⟩ := of_u32 w1
  obtain ⟨C, rfl, hC⟩ := of_u32 w2
  clear w0 w1 w2
  have HA := Lib.hid hA
  have HB := Lib.hid hB
  have HC := Lib.hid hC
  clear hA hB hC
  have sb := sub414
  go_enter Try.func9, Try.ntmps9
  go_wp2_with fail
  refine (mwithin ((lit1 w 2 3 33 4 canon4 (by decide)).alloc _) (lit1b w _ 1 4 33 14 canon14' (by decide))).mono ?_
  rintro e v1 ⟨rfl, g1⟩
  have G1 := (((Gr.refl _).alloc _).alloc _).trans g1
  clear g1
  go_wp2_with fail
  refine (mspans A _ HA.out).mono ?_
  rintro e v2 ⟨u2, rfl, h2, g2⟩
  have G2 := (G1).trans g2
  clear G1
  clear g2
  have HX2 := Lib.hid h2
  clear h2
  clear sb
  go_wp2_with fail
  refine (mspans B _ HB.out).mono ?_
  rintro e v3 ⟨u3, rfl, h3, g3⟩
  have G3 := (G2).trans g3
  have HX3 := Lib.hid ((HX2.out).gr g3)
  clear HX2
  clear G2
  clear g3
  have HY3 := Lib.hid h3
  clear h3
  go_wp2_with fail
  refine (mspans C _ HC.out).mono ?_
  rintro e v4 ⟨u4, rfl, h4, g4⟩
  have G4 := (G3).trans g4
  have HX4 := Lib.hid ((HX3.out).gr g4)
  clear HX3
  have HY4 := Lib.hid ((HY3.out).gr g4)
  clear HY3
  clear G3
  clear g4
  have HZ4 := Lib.hid h4
  clear h4
  go_wp2_with fail
  refine (mwithin (HX4.out) (HY4.out)).mono ?_
  rintro e v5 ⟨rfl, g5⟩
  have G5 := (G4).trans g5
  have HX5 := Lib.hid ((HX4.out).gr g5)
  clear HX4
  have HY5 := Lib.hid ((HY4.out).gr g5)
  clear HY4
  have HZ5 := Lib.hid ((HZ4.out).gr g5)
  clear HZ4
  clear G4
  clear g5
  go_wp2_with fail
  refine (mwithin (HY5.out) (HZ5.out)).mono ?_
  rintro e v6 ⟨rfl, g6⟩
  have G6 := (G5).trans g6
  have HX6 := Lib.hid ((HX5.out).gr g6)
  clear HX5
  have HY6 := Lib.hid ((HY5.out).gr g6)
  clear HY5
  have HZ6 := Lib.hid ((HZ5.out).gr g6)
  clear HZ5
  clear G5
  clear g6
  go_wp2_with fail
  refine (mwithin (HX6.out) (HZ6.out)).mono ?_
  rintro e v7 ⟨rfl, g7⟩
  have G7 := (G6).trans g7
  have HX7 := Lib.hid ((HX6.out).gr g7)
  clear HX6
  have HY7 := Lib.hid ((HY6.out).gr g7)
  clear HY6
  have HZ7 := Lib.hid ((HZ6.out).gr g7)
  clear HZ6
  clear G6
  clear g7
  go_wp2_with fail
  refine (mwithin (HY7.out) (HX7.out)).mono ?_
  rintro e v8 ⟨rfl, g8⟩
  have G8 := (G7).trans g8
  have HX8 := Lib.hid ((HX7.out).gr g8)
  clear HX7
  have HY8 := Lib.hid ((HY7.out).gr g8)
  clear HY7
  have HZ8 := Lib.hid ((HZ7.out).gr g8)
  clear HZ7
  clear G7
  clear g8
  go_wp2_with fail
  refine (mjoin (HX8.out) (HY8.out)).mono ?_
  rintro e v9 ⟨u9, rfl, h9, g9⟩
  have G9 := (G8).trans g9
  have HX9 := Lib.hid ((HX8.out).gr g9)
  clear HX8
  have HY9 := Lib.hid ((HY8.out).gr g9)
  clear HY8
  have HZ9 := Lib.hid ((HZ8.out).gr g9)
  clear HZ8
  clear G8
  clear g9
  have HJ9 := Lib.hid h9
  clear h9
  have T := sub_trans HA.out HB.out HC.out
  have AN := sub_anti HA.out HB.out
  have JN := sub_join HA.out HB.out
  generalize hE : eqM A B = b5 at *
  generalize hF : eqM (A ||| B) B = b6 at *
  have HE := Lib.hid hE
  have HF := Lib.hid hF
  clear hE hF
  generalize subM A B = b1 at *
  generalize subM B C = b2 at *
  generalize subM A C = b3 at *
  generalize subM B A = b4 at *
  subst JN
  subst AN
  cases b1
  · clear T
    go_wp2_with fail
    refine (mequal (HX9.out) (HY9.out)).mono ?_
    rintro e v10 ⟨rfl, g10⟩
    have G10 := (G9).trans g10
    have HX10 := Lib.hid ((HX9.out).gr g10)
    clear HX9
    have HY10 := Lib.hid ((HY9.out).gr g10)
    clear HY9
    have HZ10 := Lib.hid ((HZ9.out).gr g10)
    clear HZ9
    have HJ10 := Lib.hid ((HJ9.out).gr g10)
    clear HJ9
    clear G9
    clear g10
    rw [HE.out]
    go_wp2_with fail
    refine (mequal (HJ10.out) (HY10.out)).mono ?_
    rintro e v11 ⟨rfl, g11⟩
    have G11 := (G10).trans g11
    have HX11 := Lib.hid ((HX10.out).gr g11)
    clear HX10
    have HY11 := Lib.hid ((HY10.out).gr g11)
    clear HY10
    have HZ11 := Lib.hid ((HZ10.out).gr g11)
    clear HZ10
    have HJ11 := Lib.hid ((HJ10.out).gr g11)
    clear HJ10
    clear G10
    clear g11
    rw [HF.out]
    go_wp2_with fail
    go_ret
    exact ⟨rfl, G11⟩
  · cases b2
    · clear T
      cases b4
      · skip
        go_wp2_with fail
        refine (mequal (HX9.out) (HY9.out)).mono ?_
        rintro e v10 ⟨rfl, g10⟩
        have G10 := (G9).trans g10
        have HX10 := Lib.hid ((HX9.out).gr g10)
        clear HX9
        have HY10 := Lib.hid ((HY9.out).gr g10)
        clear HY9
        have HZ10 := Lib.hid ((HZ9.out).gr g10)
        clear HZ9
        have HJ10 := Lib.hid ((HJ9.out).gr g10)
        clear HJ9
        clear G9
        clear g10
        rw [HE.out]
        go_wp2_with fail
        refine (mequal (HJ10.out) (HY10.out)).mono ?_
        rintro e v11 ⟨rfl, g11⟩
        have G11 := (G10).trans g11
        have HX11 := Lib.hid ((HX10.out).gr g11)
        clear HX10
        have HY11 := Lib.hid ((HY10.out).gr g11)
        clear HY10
        have HZ11 := Lib.hid ((HZ10.out).gr g11)
        clear HZ10
        have HJ11 := Lib.hid ((HJ10.out).gr g11)
        clear HJ10
        clear G10
        clear g11
        rw [HF.out]
        go_wp2_with fail
        go_ret
        exact ⟨rfl, G11⟩
      · skip
        go_wp2_with fail
        refine (mequal (HX9.out) (HY9.out)).mono ?_
        rintro e v10 ⟨rfl, g10⟩
        have G10 := (G9).trans g10
        have HX10 := Lib.hid ((HX9.out).gr g10)
        clear HX9
        have HY10 := Lib.hid ((HY9.out).gr g10)
        clear HY9
        have HZ10 := Lib.hid ((HZ9.out).gr g10)
        clear HZ9
        have HJ10 := Lib.hid ((HJ9.out).gr g10)
        clear HJ9
        clear G9
        clear g10
        rw [HE.out]
        go_wp2_with fail
        refine (mequal (HJ10.out) (HY10.out)).mono ?_
        rintro e v11 ⟨rfl, g11⟩
        have G11 := (G10).trans g11
        have HX11 := Lib.hid ((HX10.out).gr g11)
        clear HX10
        have HY11 := Lib.hid ((HY10.out).gr g11)
        clear HY10
        have HZ11 := Lib.hid ((HZ10.out).gr g11)
        clear HZ10
        have HJ11 := Lib.hid ((HJ10.out).gr g11)
        clear HJ10
        clear G10
        clear g11
        rw [HF.out]
        go_wp2_with fail
        go_ret
        exact ⟨rfl, G11⟩
    · obtain rfl := T rfl rfl
      clear T
      cases b4
      · skip
        go_wp2_with fail
        refine (mequal (HX9.out) (HY9.out)).mono ?_
        rintro e v10 ⟨rfl, g10⟩
        have G10 := (G9).trans g10
        have HX10 := Lib.hid ((HX9.out).gr g10)
        clear HX9
        have HY10 := Lib.hid ((HY9.out).gr g10)
        clear HY9
        have HZ10 := Lib.hid ((HZ9.out).gr g10)
        clear HZ9
        have HJ10 := Lib.hid ((HJ9.out).gr g10)
        clear HJ9
        clear G9
        clear g10
        rw [HE.out]
        go_wp2_with fail
        refine (mequal (HJ10.out) (HY10.out)).mono ?_
        rintro e v11 ⟨rfl, g11⟩
        have G11 := (G10).trans g11
        have HX11 := Lib.hid ((HX10.out).gr g11)
        clear HX10
        have HY11 := Lib.hid ((HY10.out).gr g11)
        clear HY10
        have HZ11 := Lib.hid ((HZ10.out).gr g11)
        clear HZ10
        have HJ11 := Lib.hid ((HJ10.out).gr g11)
        clear HJ10
        clear G10
        clear g11
        rw [HF.out]
        go_wp2_with fail
        go_ret
        exact ⟨rfl, G11⟩
      · skip
        go_wp2_with fail
        refine (mequal (HX9.out) (HY9.out)).mono ?_
        rintro e v10 ⟨rfl, g10⟩
        have G10 := (G9).trans g10
        have HX10 := Lib.hid ((HX9.out).gr g10)
        clear HX9
        have HY10 := Lib.hid ((HY9.out).gr g10)
        clear HY9
        have HZ10 := Lib.hid ((HZ9.out).gr g10)
        clear HZ9
        have HJ10 := Lib.hid ((HJ9.out).gr g10)
        clear HJ9
        clear G9
        clear g10
        rw [HE.out]
        go_wp2_with fail
        refine (mequal (HJ10.out) (HY10.out)).mono ?_
        rintro e v11 ⟨rfl, g11⟩
        have G11 := (G10).trans g11
        have HX11 := Lib.hid ((HX10.out).gr g11)
        clear HX10
        have HY11 := Lib.hid ((HY10.out).gr g11)
        clear HY10
        have HZ11 := Lib.hid ((HZ10.out).gr g11)
        clear HZ10
        have HJ11 := Lib.hid ((HJ10.out).gr g11)
        clear HJ10
        clear G10
        clear g11
        rw [HF.out]
        go_wp2_with fail
        go_ret
        exact ⟨rfl, G11⟩
end Go.Proofs.Ytkdhfpdpbledcaa
