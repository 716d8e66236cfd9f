/- The walk of FilterBox. -/
import Derived.Test.YtphcjjhfgpdhcaaFilS
import Derived.Test.YtphcjjhfgpdhcaaCubeM
import Derived.Test.YtphcjjhfgpdhcaaKeep
namespace Go.Proofs.Ytphcjjhfgpdhcaa
open Go.RowKit Rm
set_option linter.unusedVariables false
theorem canon31 : canon 31 = [(0, 5)] := by decide +kernel
theorem cnt20 : cntT (tabF [((0, 3), 31)]) = 20 := by decide +kernel
theorem vld03 : Vld 0 3 := by refine ⟨?_, ?_, ?_⟩ <;> decide

set_option maxHeartbeats 4000000 in
set_option maxRecDepth 100000 in
theorem filterBox_walk (a0 : Int) (w0 : (Lit.int .i64 a0).wf = true) (a1 : Int) (w1 : (Lit.int .i64 a1).wf = true) (a2 : Int) (w2 : (Lit.int .u32 a2).wf = true) (a3 : Int) (w3 : (Lit.int .u32 a3).wf = true) (w : World) :
    Calls Try.prog 12 #[.int .i64 a0, .int .i64 a1, .int .u32 a2, .int .u32 a3] w fun e w' => e = .returned (.bool true) ∧ Gr w w' := by
  obtain ⟨A, rfl, hA⟩ := of_u32 w2
  obtain ⟨B, rfl, hB⟩ := of_u32 w3
  clear w0 w1 w2 w3
  have HA := Lib.hid hA
  have HB := Lib.hid hB
  have HL0 := Lib.hid (fun S B => (lit_box w 0 3 0 5 S B 31 canon31 (by decide) vld03).le (m := 40) (by omega))
  have hc20 := cnt20
  clear hA hB
  go_enter Try.func12, Try.ntmps12
  go_wp2_with fail
  refine (fcount_ok (HL0.out _ _)).mono ?_
  rw [hc20]
  rintro e v1 ⟨rfl, g1⟩
  have G1 := (((Gr.refl _).alloc _).alloc _).trans g1
  clear g1
  clear HL0 hc20
  go_wp2_with fail
  refine (one_any _ _).mono ?_
  rintro e v2 ⟨y1, n1, V1, rfl, g2⟩
  have G2 := (G1).trans g2
  clear G1
  clear g2
  have HV1 := Lib.hid V1
  clear V1
  go_wp2_with fail
  refine (mspans A _ HA.out).mono ?_
  rintro e v3 ⟨u3, rfl, h3, g3⟩
  have G3 := (G2).trans g3
  clear G2
  clear g3
  have HSX3 := Lib.hid (h3)
  clear h3
  obtain ⟨sxa, sxc, rfl⟩ := HSX3.out.form
  go_wp2_with fail
  refine (one_any _ _).mono ?_
  rintro e v4 ⟨y2, n2, V2, rfl, g4⟩
  have G4 := (G3).trans g4
  have HSX4 := Lib.hid ((HSX3.out).gr g4)
  clear HSX3
  clear G3
  clear g4
  have HV2 := Lib.hid V2
  clear V2
  go_wp2_with fail
  refine (mspans B _ HB.out).mono ?_
  rintro e v5 ⟨u5, rfl, h5, g5⟩
  have G5 := (G4).trans g5
  have HSX5 := Lib.hid ((HSX4.out).gr g5)
  clear HSX4
  clear G4
  clear g5
  have HSY5 := Lib.hid (h5)
  clear h5
  obtain ⟨sya, syc, rfl⟩ := HSY5.out.form
  generalize hlx : (pairs (canon A)).length = lx at *
  generalize hly : (pairs (canon B)).length = ly at *
  have HLX := Lib.hid hlx
  have HLY := Lib.hid hly
  clear hlx hly
  have HX0 := Lib.hid ((Three.new v5 y1 n1 (.slice sxa lx sxc) 56).alloc (.cells #[.int .i64 (y2 : Int), .int .i64 (n2 : Int), .slice sya ly syc] 56))
  have HY0 := Lib.hid (Three.new2 v5 (.cells #[.int .i64 (y1 : Int), .int .i64 (n1 : Int), .slice sxa lx sxc] 56) y2 n2 (.slice sya ly syc) 56)
  have HSXb := Lib.hid ((HSX5.out.alloc (.cells #[.int .i64 (y1 : Int), .int .i64 (n1 : Int), .slice sxa lx sxc] 56)).alloc (.cells #[.int .i64 (y2 : Int), .int .i64 (n2 : Int), .slice sya ly syc] 56))
  have HSYb := Lib.hid ((HSY5.out.alloc (.cells #[.int .i64 (y1 : Int), .int .i64 (n1 : Int), .slice sxa lx sxc] 56)).alloc (.cells #[.int .i64 (y2 : Int), .int .i64 (n2 : Int), .slice sya ly syc] 56))
  have GB := (G5.alloc (.cells #[.int .i64 (y1 : Int), .int .i64 (n1 : Int), .slice sxa lx sxc] 56)).alloc (.cells #[.int .i64 (y2 : Int), .int .i64 (n2 : Int), .slice sya ly syc] 56)
  clear HSX5 HSY5 G5
  obtain ⟨b1, hb1⟩ : ∃ b1, b1 = v5.heap.size := ⟨_, rfl⟩
  go_wp2_with fail
  refine (fcount_ok (box1 y1 n1 _ (v5.heap.size + 1 + 1) (by simp) (HSXb.out) HV1.out)).mono ?_
  rintro e v6 ⟨rfl, g6⟩
  have G6 := ((GB).alloc _).trans g6
  have HSX6 := Lib.hid (((HSXb.out).alloc _).gr g6)
  clear HSXb
  have HSY6 := Lib.hid (((HSYb.out).alloc _).gr g6)
  clear HSYb
  have HX6 := Lib.hid (((HX0.out).alloc _).gr g6)
  clear HX0
  have HY6 := Lib.hid (((HY0.out).alloc _).gr g6)
  clear HY0
  clear GB
  clear g6
  clear hb1
  generalize v5.heap.size = BX at *
  obtain ⟨qX9, qX0, qX1, qX2⟩ := (HX6.out)
  go_wp2_with fail
  refine (count_any y1 n1 _ HV1.out).mono ?_
  rintro e v7 ⟨rfl, g7⟩
  have G7 := (G6).trans g7
  have HSX7 := Lib.hid ((HSX6.out).gr g7)
  clear HSX6
  have HSY7 := Lib.hid ((HSY6.out).gr g7)
  clear HSY6
  have HX7 := Lib.hid ((HX6.out).gr g7)
  clear HX6
  have HY7 := Lib.hid ((HY6.out).gr g7)
  clear HY6
  clear G6
  clear g7
  clear qX9 qX0 qX1 qX2
  obtain ⟨qX9, qX0, qX1, qX2⟩ := (HX7.out)
  go_wp2_with fail
  refine (mcount (HSX7.out)).mono ?_
  rintro e v8 ⟨rfl, g8⟩
  have G8 := (G7).trans g8
  have HSX8 := Lib.hid ((HSX7.out).gr g8)
  clear HSX7
  have HSY8 := Lib.hid ((HSY7.out).gr g8)
  clear HSY7
  have HX8 := Lib.hid ((HX7.out).gr g8)
  clear HX7
  have HY8 := Lib.hid ((HY7.out).gr g8)
  clear HY7
  clear G7
  clear g8
  clear qX9 qX0 qX1 qX2
  obtain ⟨qX9, qX0, qX1, qX2⟩ := (HX8.out)
  obtain ⟨qY9, qY0, qY1, qY2⟩ := (HY8.out)
  go_wp2_with fail
  refine (fmeet_ok ((box1 y1 n1 _ v8.heap.size rfl HSX8.out HV1.out).alloc _) (box1 y2 n2 _ (v8.heap.size + 1) (by simp) (HSY8.out.alloc _) HV2.out)).mono ?_
  rintro e v9 ⟨u9, rfl, h9, g9⟩
  have G9 := (((G8).alloc _).alloc _).trans g9
  have HSX9 := Lib.hid ((((HSX8.out).alloc _).alloc _).gr g9)
  clear HSX8
  have HSY9 := Lib.hid ((((HSY8.out).alloc _).alloc _).gr g9)
  clear HSY8
  have HX9 := Lib.hid ((((HX8.out).alloc _).alloc _).gr g9)
  clear HX8
  have HY9 := Lib.hid ((((HY8.out).alloc _).alloc _).gr g9)
  clear HY8
  clear G8
  clear g9
  have HM9 := Lib.hid (h9.le (m := 40) (by omega))
  clear h9
  clear qX9 qX0 qX1 qX2
  clear qY9 qY0 qY1 qY2
  obtain ⟨qX9, qX0, qX1, qX2⟩ := (HX9.out)
  obtain ⟨qY9, qY0, qY1, qY2⟩ := (HY9.out)
  go_wp2_with fail
  refine (mmeet (HSX9.out) (HSY9.out)).mono ?_
  rintro e v10 ⟨u10, rfl, h10, g10⟩
  have G10 := (G9).trans g10
  have HSX10 := Lib.hid ((HSX9.out).gr g10)
  clear HSX9
  have HSY10 := Lib.hid ((HSY9.out).gr g10)
  clear HSY9
  have HX10 := Lib.hid ((HX9.out).gr g10)
  clear HX9
  have HY10 := Lib.hid ((HY9.out).gr g10)
  clear HY9
  have HM10 := Lib.hid ((HM9.out).gr g10)
  clear HM9
  clear G9
  clear g10
  have HSS10 := Lib.hid (h10)
  clear h10
  clear qX9 qX0 qX1 qX2
  clear qY9 qY0 qY1 qY2
  obtain ⟨ssa, ssc, rfl⟩ := HSS10.out.form
  have E1 := Lib.hid (cnt1 HV1.out A)
  have hcl : cnt y1 n1 ≤ 16 := cnt_le y1 HV1.out.1 n1 HV1.out.2.1
  have hpl := popc_le A
  have hmu : cnt y1 n1 * popc A ≤ 512 := Nat.le_trans (Nat.mul_le_mul hcl hpl) (by decide)
  have hmu2 : ((cnt y1 n1 : Nat) : Int) * ((popc A : Nat) : Int) = ((cntT (tabF [((y1, n1), A)]) : Nat) : Int) := by rw [E1.out]; simp
  have hcn : cntT (tabF [((y1, n1), A)]) ≤ 512 := by rw [E1.out]; exact hmu
  cases hap : apartB y1 n1 y2 n2
  · obtain ⟨a, b, hvab, e1, e2, e3, -, -, -, -, hhas, -, -⟩ := meet_some HV1.out HV2.out hap
    have E4 := Lib.hid (meet1_some hhas A B)
    have E5 : Hid (meetE y1 n1 y2 n2 = 0 ∧ meetY y1 n1 y2 n2 = (a : Int) ∧ meetN y1 n1 y2 n2 = (b : Int)) := ⟨e1, e2, e3⟩
    have HVAB := Lib.hid hvab
    clear e1 e2 e3 hhas hvab
    obtain ⟨qX9, qX0, qX1, qX2⟩ := (HX10.out)
    obtain ⟨qY9, qY0, qY1, qY2⟩ := (HY10.out)
    go_wp2_with fail
    refine (meet_any _ _ _ _ _).mono ?_
    rw [E5.out.1, E5.out.2.1, E5.out.2.2]
    rintro e v11 ⟨rfl, g11⟩
    have G11 := (G10).trans g11
    have HSX11 := Lib.hid ((HSX10.out).gr g11)
    clear HSX10
    have HSY11 := Lib.hid ((HSY10.out).gr g11)
    clear HSY10
    have HX11 := Lib.hid ((HX10.out).gr g11)
    clear HX10
    have HY11 := Lib.hid ((HY10.out).gr g11)
    clear HY10
    have HM11 := Lib.hid ((HM10.out).gr g11)
    clear HM10
    have HSS11 := Lib.hid ((HSS10.out).gr g11)
    clear HSS10
    clear G10
    clear g11
    clear qX9 qX0 qX1 qX2
    clear qY9 qY0 qY1 qY2
    go_wp2_with fail
    refine (same_any ((HM11.out.alloc _).alloc _) (box1 a b _ (v11.heap.size + 1) (by simp) (HSS11.out.alloc _) HVAB.out)).mono ?_
    rw [E4.out]
    rintro e v12 ⟨rfl, g12⟩
    have G12 := (((G11).alloc _).alloc _).trans g12
    have HSX12 := Lib.hid ((((HSX11.out).alloc _).alloc _).gr g12)
    clear HSX11
    have HSY12 := Lib.hid ((((HSY11.out).alloc _).alloc _).gr g12)
    clear HSY11
    have HX12 := Lib.hid ((((HX11.out).alloc _).alloc _).gr g12)
    clear HX11
    have HY12 := Lib.hid ((((HY11.out).alloc _).alloc _).gr g12)
    clear HY11
    have HM12 := Lib.hid ((((HM11.out).alloc _).alloc _).gr g12)
    clear HM11
    have HSS12 := Lib.hid ((((HSS11.out).alloc _).alloc _).gr g12)
    clear HSS11
    clear G11
    clear g12
    go_wp2_with fail
    go_ret
    exact ⟨rfl, G12⟩
  · obtain ⟨e1, e2, e3⟩ := meet_none HV1.out HV2.out hap
    have E4 := Lib.hid (meet1_none HV1.out HV2.out hap A B)
    have E5 : Hid (meetE y1 n1 y2 n2 = 4 ∧ meetY y1 n1 y2 n2 = 0 ∧ meetN y1 n1 y2 n2 = 0) := ⟨e1, e2, e3⟩
    clear e1 e2 e3
    obtain ⟨qX9, qX0, qX1, qX2⟩ := (HX10.out)
    obtain ⟨qY9, qY0, qY1, qY2⟩ := (HY10.out)
    go_wp2_with fail
    refine (meet_any _ _ _ _ _).mono ?_
    rw [E5.out.1, E5.out.2.1, E5.out.2.2]
    rintro e v11 ⟨rfl, g11⟩
    have G11 := (G10).trans g11
    have HSX11 := Lib.hid ((HSX10.out).gr g11)
    clear HSX10
    have HSY11 := Lib.hid ((HSY10.out).gr g11)
    clear HSY10
    have HX11 := Lib.hid ((HX10.out).gr g11)
    clear HX10
    have HY11 := Lib.hid ((HY10.out).gr g11)
    clear HY10
    have HM11 := Lib.hid ((HM10.out).gr g11)
    clear HM10
    have HSS11 := Lib.hid ((HSS10.out).gr g11)
    clear HSS10
    clear G10
    clear g11
    clear qX9 qX0 qX1 qX2
    clear qY9 qY0 qY1 qY2
    go_wp2_with fail
    refine (fcount_ok ((HM11.out).alloc _)).mono ?_
    rw [E4.out]
    rintro e v12 ⟨rfl, g12⟩
    have G12 := ((G11).alloc _).trans g12
    have HSX12 := Lib.hid (((HSX11.out).alloc _).gr g12)
    clear HSX11
    have HSY12 := Lib.hid (((HSY11.out).alloc _).gr g12)
    clear HSY11
    have HX12 := Lib.hid (((HX11.out).alloc _).gr g12)
    clear HX11
    have HY12 := Lib.hid (((HY11.out).alloc _).gr g12)
    clear HY11
    have HM12 := Lib.hid (((HM11.out).alloc _).gr g12)
    clear HM11
    have HSS12 := Lib.hid (((HSS11.out).alloc _).gr g12)
    clear HSS11
    clear G11
    clear g12
    go_wp2_with fail
    go_ret
    exact ⟨rfl, G12⟩
end Go.Proofs.Ytphcjjhfgpdhcaa
