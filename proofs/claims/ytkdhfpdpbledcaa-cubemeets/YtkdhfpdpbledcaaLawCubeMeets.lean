/- The walk of CubeMeets. -/
import Derived.Test.YtkdhfpdpbledcaaKeep
import Derived.Test.YtkdhfpdpbledcaaPure3
namespace Go.Proofs.Ytkdhfpdpbledcaa
open Go.RowKit Rm
set_option linter.unusedVariables false

theorem lit_meet : meetE 1 0 0 2 = 0 ∧ meetY 1 0 0 2 = 1 ∧ meetN 1 0 0 2 = 2 := by decide +kernel

set_option maxHeartbeats 2000000 in
set_option maxRecDepth 100000 in
theorem cubeMeets_walk (a0 : Int) (w0 : (Lit.int .i64 a0).wf = true) (a1 : Int) (w1 : (Lit.int .i64 a1).wf = true) (a2 : Int) (w2 : (Lit.int .i64 a2).wf = true) (a3 : Int) (w3 : (Lit.int .i64 a3).wf = true) (w : World) :
    Calls Try.prog 10 #[.int .i64 a0, .int .i64 a1, .int .i64 a2, .int .i64 a3] w fun e w' => e = .returned (.bool true) ∧ Gr w w' := by
  clear w0 w1 w2 w3
  obtain ⟨l1, l2, l3⟩ := lit_meet
  go_enter Try.func10, Try.ntmps10
  go_wp2_with fail
  refine (meet_any _ _ _ _ _).mono ?_
  rintro e v1 ⟨rfl, g1⟩
  have G1 := g1
  go_wp2_with fail
  refine (one_any _ _).mono ?_
  rintro e v2 ⟨xy, xn, vx, rfl, g2⟩
  have G2 := ((G1).alloc _).trans g2
  clear l1 l2 l3
  go_wp2_with fail
  refine (one_any _ _).mono ?_
  rintro e v3 ⟨yy, yn, vy, rfl, g3⟩
  have G3 := (G2).trans g3
  go_wp2_with fail
  refine (one_any _ _).mono ?_
  rintro e v4 ⟨zy, zn, vz, rfl, g4⟩
  have G4 := (G3).trans g4
  go_wp2_with fail
  refine (keepWithin_any _ _ (by omega) (by omega) _).mono ?_
  rintro e w5 ⟨rfl, rfl⟩
  obtain ⟨t, ht⟩ := Int.eq_ofNat_of_zero_le (rem_lt a3 16 (by omega)).1
  have ht' : t < 16 := by have := (rem_lt a3 16 (by omega)).2; omega
  rw [ht]
  clear ht
  have E1 := vz.chk2 vx
  have E2 := vz.chk2 vy
  have E5 := hasE_eq vx ht'
  have E6 := hasE_eq vy ht'
  cases ha : apartB xy xn yy yn
  · obtain ⟨my, mn, vm, e1, e2, e3, f1, f2, f3, gal, hsm, -, -⟩ := meet_some vx vy ha
    have GL := Lib.hid (gal zy zn vz)
    have HS := Lib.hid (hsm t ht')
    have E3 := vz.chk2 vm
    have E7 := hasE_eq vm ht'
    clear gal hsm
    have t1 : (bits .and .i64 (xy : Int) (yn : Int) != 0) = false := by
      unfold apartB at ha
      simp only [Bool.or_eq_false_iff] at ha
      exact ha.1
    have t2 : (bits .and .i64 (xn : Int) (yy : Int) != 0) = false := by
      unfold apartB at ha
      simp only [Bool.or_eq_false_iff] at ha
      exact ha.2
    go_wp2_with fail
    refine (meet_any _ _ _ _ _).mono ?_
    rintro e v5 ⟨rfl, g5⟩
    have X0 := (((Two.new _ _ _ _).alloc _).alloc _).gr g5
    have HX5 := Lib.hid X0
    clear X0
    have Y0 := ((Two.new _ _ _ _).alloc _).gr g5
    simp only [World.size_alloc] at Y0
    have HY5 := Lib.hid Y0
    clear Y0
    have Z0 := (Two.new _ _ _ _).gr g5
    simp only [World.size_alloc] at Z0
    have HZ5 := Lib.hid Z0
    clear Z0
    have G5 := ((((G4).alloc _).alloc _).alloc _).trans g5
    obtain ⟨oX0, oX1, oX2⟩ := HX5.out
    obtain ⟨oY0, oY1, oY2⟩ := HY5.out
    obtain ⟨oZ0, oZ1, oZ2⟩ := HZ5.out
    go_wp2_with fail
    refine (meet_any _ _ _ _ _).mono ?_
    rintro e v6 ⟨rfl, g6⟩
    clear oX0 oX1 oX2
    clear oY0 oY1 oY2
    clear oZ0 oZ1 oZ2
    have X0 := ((HX5.out).alloc _).gr g6
    have HX6 := Lib.hid X0
    clear X0
    clear HX5
    have Y0 := ((HY5.out).alloc _).gr g6
    have HY6 := Lib.hid Y0
    clear Y0
    clear HY5
    have Z0 := ((HZ5.out).alloc _).gr g6
    have HZ6 := Lib.hid Z0
    clear Z0
    clear HZ5
    have M0 := (Two.new _ _ _ _).gr g6
    have HM6 := Lib.hid M0
    clear M0
    have G6 := ((G5).alloc _).trans g6
    obtain ⟨oX0, oX1, oX2⟩ := HX6.out
    obtain ⟨oY0, oY1, oY2⟩ := HY6.out
    obtain ⟨oZ0, oZ1, oZ2⟩ := HZ6.out
    obtain ⟨oM0, oM1, oM2⟩ := HM6.out
    go_wp2_with fail
    refine (within_any _ _ _ _ _).mono ?_
    rintro e v7 ⟨rfl, g7⟩
    clear oX0 oX1 oX2
    clear oY0 oY1 oY2
    clear oZ0 oZ1 oZ2
    clear oM0 oM1 oM2
    have X0 := ((HX6.out).alloc _).gr g7
    have HX7 := Lib.hid X0
    clear X0
    clear HX6
    have Y0 := ((HY6.out).alloc _).gr g7
    have HY7 := Lib.hid Y0
    clear Y0
    clear HY6
    have Z0 := ((HZ6.out).alloc _).gr g7
    have HZ7 := Lib.hid Z0
    clear Z0
    clear HZ6
    have M0 := ((HM6.out).alloc _).gr g7
    have HM7 := Lib.hid M0
    clear M0
    clear HM6
    have N0 := (Two.new _ _ _ _).gr g7
    have HN7 := Lib.hid N0
    clear N0
    have G7 := ((G6).alloc _).trans g7
    obtain ⟨oX0, oX1, oX2⟩ := HX7.out
    obtain ⟨oY0, oY1, oY2⟩ := HY7.out
    obtain ⟨oZ0, oZ1, oZ2⟩ := HZ7.out
    obtain ⟨oM0, oM1, oM2⟩ := HM7.out
    clear t1 t2 e1 e2 e3 f1 f2 f3
    go_wp2_with fail
    refine (within_any _ _ _ _ _).mono ?_
    rintro e v8 ⟨rfl, g8⟩
    clear oX0 oX1 oX2
    clear oY0 oY1 oY2
    clear oZ0 oZ1 oZ2
    clear oM0 oM1 oM2
    have X0 := (HX7.out).gr g8
    have HX8 := Lib.hid X0
    clear X0
    clear HX7
    have Y0 := (HY7.out).gr g8
    have HY8 := Lib.hid Y0
    clear Y0
    clear HY7
    have Z0 := (HZ7.out).gr g8
    have HZ8 := Lib.hid Z0
    clear Z0
    clear HZ7
    have M0 := (HM7.out).gr g8
    have HM8 := Lib.hid M0
    clear M0
    clear HM7
    have N0 := (HN7.out).gr g8
    have HN8 := Lib.hid N0
    clear N0
    clear HN7
    have G8 := (G7).trans g8
    obtain ⟨oX0, oX1, oX2⟩ := HX8.out
    obtain ⟨oY0, oY1, oY2⟩ := HY8.out
    obtain ⟨oZ0, oZ1, oZ2⟩ := HZ8.out
    obtain ⟨oM0, oM1, oM2⟩ := HM8.out
    go_wp2_with fail
    refine (within_any _ _ _ _ _).mono ?_
    rintro e v9 ⟨rfl, g9⟩
    clear oX0 oX1 oX2
    clear oY0 oY1 oY2
    clear oZ0 oZ1 oZ2
    clear oM0 oM1 oM2
    have X0 := (HX8.out).gr g9
    have HX9 := Lib.hid X0
    clear X0
    clear HX8
    have Y0 := (HY8.out).gr g9
    have HY9 := Lib.hid Y0
    clear Y0
    clear HY8
    have Z0 := (HZ8.out).gr g9
    have HZ9 := Lib.hid Z0
    clear Z0
    clear HZ8
    have M0 := (HM8.out).gr g9
    have HM9 := Lib.hid M0
    clear M0
    clear HM8
    have N0 := (HN8.out).gr g9
    have HN9 := Lib.hid N0
    clear N0
    clear HN8
    have G9 := (G8).trans g9
    obtain ⟨oX0, oX1, oX2⟩ := HX9.out
    obtain ⟨oY0, oY1, oY2⟩ := HY9.out
    obtain ⟨oM0, oM1, oM2⟩ := HM9.out
    go_wp2_with fail
    refine (has_any _ _ _ _).mono ?_
    rintro e v10 ⟨rfl, g10⟩
    clear oX0 oX1 oX2
    clear oY0 oY1 oY2
    clear oM0 oM1 oM2
    have X0 := (HX9.out).gr g10
    have HX10 := Lib.hid X0
    clear X0
    clear HX9
    have Y0 := (HY9.out).gr g10
    have HY10 := Lib.hid Y0
    clear Y0
    clear HY9
    have Z0 := (HZ9.out).gr g10
    have HZ10 := Lib.hid Z0
    clear Z0
    clear HZ9
    have M0 := (HM9.out).gr g10
    have HM10 := Lib.hid M0
    clear M0
    clear HM9
    have N0 := (HN9.out).gr g10
    have HN10 := Lib.hid N0
    clear N0
    clear HN9
    have G10 := (G9).trans g10
    obtain ⟨oY0, oY1, oY2⟩ := HY10.out
    obtain ⟨oM0, oM1, oM2⟩ := HM10.out
    go_wp2_with fail
    refine (has_any _ _ _ _).mono ?_
    rintro e v11 ⟨rfl, g11⟩
    clear oY0 oY1 oY2
    clear oM0 oM1 oM2
    have X0 := (HX10.out).gr g11
    have HX11 := Lib.hid X0
    clear X0
    clear HX10
    have Y0 := (HY10.out).gr g11
    have HY11 := Lib.hid Y0
    clear Y0
    clear HY10
    have Z0 := (HZ10.out).gr g11
    have HZ11 := Lib.hid Z0
    clear Z0
    clear HZ10
    have M0 := (HM10.out).gr g11
    have HM11 := Lib.hid M0
    clear M0
    clear HM10
    have N0 := (HN10.out).gr g11
    have HN11 := Lib.hid N0
    clear N0
    clear HN10
    have G11 := (G10).trans g11
    obtain ⟨oM0, oM1, oM2⟩ := HM11.out
    go_wp2_with fail
    refine (has_any _ _ _ _).mono ?_
    rintro e v12 ⟨rfl, g12⟩
    clear oM0 oM1 oM2
    have X0 := (HX11.out).gr g12
    have HX12 := Lib.hid X0
    clear X0
    clear HX11
    have Y0 := (HY11.out).gr g12
    have HY12 := Lib.hid Y0
    clear Y0
    clear HY11
    have Z0 := (HZ11.out).gr g12
    have HZ12 := Lib.hid Z0
    clear Z0
    clear HZ11
    have M0 := (HM11.out).gr g12
    have HM12 := Lib.hid M0
    clear M0
    clear HM11
    have N0 := (HN11.out).gr g12
    have HN12 := Lib.hid N0
    clear N0
    clear HN11
    have G12 := (G11).trans g12
    rw [GL.out, HS.out]
    generalize withinB zy zn xy xn = b1 at *
    generalize withinB zy zn yy yn = b2 at *
    generalize hasR xy xn t = b3 at *
    generalize hasR yy yn t = b4 at *
    clear E1 E2 E3 E5 E6 GL HS
    have fin : Gr w v12 := G12
    cases b1 <;> cases b2 <;> cases b3 <;> cases b4
    all_goals
      go_wp2
      go_ret
      exact ⟨rfl, fin⟩
  · obtain ⟨e1, e2, e3⟩ := meet_none vx vy ha
    obtain ⟨f1, f2, f3⟩ := meet_none vy vx (by rw [apart_comm vx vy]; exact ha)
    have NW := Lib.hid (none_within vx vy vz ha)
    go_wp2_with fail
    refine (meet_any _ _ _ _ _).mono ?_
    rintro e v5 ⟨rfl, g5⟩
    have X0 := (((Two.new _ _ _ _).alloc _).alloc _).gr g5
    have HX5 := Lib.hid X0
    clear X0
    have Y0 := ((Two.new _ _ _ _).alloc _).gr g5
    simp only [World.size_alloc] at Y0
    have HY5 := Lib.hid Y0
    clear Y0
    have Z0 := (Two.new _ _ _ _).gr g5
    simp only [World.size_alloc] at Z0
    have HZ5 := Lib.hid Z0
    clear Z0
    have G5 := ((((G4).alloc _).alloc _).alloc _).trans g5
    obtain ⟨oX0, oX1, oX2⟩ := HX5.out
    obtain ⟨oY0, oY1, oY2⟩ := HY5.out
    obtain ⟨oZ0, oZ1, oZ2⟩ := HZ5.out
    go_wp2_with fail
    refine (meet_any _ _ _ _ _).mono ?_
    rintro e v6 ⟨rfl, g6⟩
    clear oX0 oX1 oX2
    clear oY0 oY1 oY2
    clear oZ0 oZ1 oZ2
    have X0 := ((HX5.out).alloc _).gr g6
    have HX6 := Lib.hid X0
    clear X0
    clear HX5
    have Y0 := ((HY5.out).alloc _).gr g6
    have HY6 := Lib.hid Y0
    clear Y0
    clear HY5
    have Z0 := ((HZ5.out).alloc _).gr g6
    have HZ6 := Lib.hid Z0
    clear Z0
    clear HZ5
    have M0 := (Two.new _ _ _ _).gr g6
    have HM6 := Lib.hid M0
    clear M0
    have G6 := ((G5).alloc _).trans g6
    obtain ⟨oX0, oX1, oX2⟩ := HX6.out
    obtain ⟨oY0, oY1, oY2⟩ := HY6.out
    obtain ⟨oZ0, oZ1, oZ2⟩ := HZ6.out
    obtain ⟨oM0, oM1, oM2⟩ := HM6.out
    cases t1 : (bits .and .i64 (xy : Int) (yn : Int) != 0)
    · have t2 : (bits .and .i64 (xn : Int) (yy : Int) != 0) = true := by
        unfold apartB at ha
        rw [t1] at ha
        simpa using ha
      go_wp2_with fail
      refine (within_any _ _ _ _ _).mono ?_
      rintro e v7 ⟨rfl, g7⟩
      clear oX0 oX1 oX2
      clear oY0 oY1 oY2
      clear oZ0 oZ1 oZ2
      clear oM0 oM1 oM2
      have X0 := ((HX6.out).alloc _).gr g7
      have HX7 := Lib.hid X0
      clear X0
      clear HX6
      have Y0 := ((HY6.out).alloc _).gr g7
      have HY7 := Lib.hid Y0
      clear Y0
      clear HY6
      have Z0 := ((HZ6.out).alloc _).gr g7
      have HZ7 := Lib.hid Z0
      clear Z0
      clear HZ6
      have M0 := ((HM6.out).alloc _).gr g7
      have HM7 := Lib.hid M0
      clear M0
      clear HM6
      have N0 := (Two.new _ _ _ _).gr g7
      have HN7 := Lib.hid N0
      clear N0
      have G7 := ((G6).alloc _).trans g7
      obtain ⟨oY0, oY1, oY2⟩ := HY7.out
      obtain ⟨oZ0, oZ1, oZ2⟩ := HZ7.out
      go_wp2_with fail
      refine (within_any _ _ _ _ _).mono ?_
      rintro e v8 ⟨rfl, g8⟩
      clear oY0 oY1 oY2
      clear oZ0 oZ1 oZ2
      have X0 := (HX7.out).gr g8
      have HX8 := Lib.hid X0
      clear X0
      clear HX7
      have Y0 := (HY7.out).gr g8
      have HY8 := Lib.hid Y0
      clear Y0
      clear HY7
      have Z0 := (HZ7.out).gr g8
      have HZ8 := Lib.hid Z0
      clear Z0
      clear HZ7
      have M0 := (HM7.out).gr g8
      have HM8 := Lib.hid M0
      clear M0
      clear HM7
      have N0 := (HN7.out).gr g8
      have HN8 := Lib.hid N0
      clear N0
      clear HN7
      have G8 := (G7).trans g8
      have NW' := NW.out
      clear NW
      generalize withinB zy zn xy xn = b1 at *
      generalize withinB zy zn yy yn = b2 at *
      have fin : Gr w v8 := G8
      clear E5 E6 t1
      cases b1
      · clear NW'
        go_wp2
        all_goals
          go_ret
          exact ⟨rfl, fin⟩
      · obtain rfl : b2 = false := by simpa using NW'
        clear NW'
        go_wp2
        go_ret
        exact ⟨rfl, fin⟩
    · skip
      go_wp2_with fail
      refine (within_any _ _ _ _ _).mono ?_
      rintro e v7 ⟨rfl, g7⟩
      clear oX0 oX1 oX2
      clear oY0 oY1 oY2
      clear oZ0 oZ1 oZ2
      clear oM0 oM1 oM2
      have X0 := ((HX6.out).alloc _).gr g7
      have HX7 := Lib.hid X0
      clear X0
      clear HX6
      have Y0 := ((HY6.out).alloc _).gr g7
      have HY7 := Lib.hid Y0
      clear Y0
      clear HY6
      have Z0 := ((HZ6.out).alloc _).gr g7
      have HZ7 := Lib.hid Z0
      clear Z0
      clear HZ6
      have M0 := ((HM6.out).alloc _).gr g7
      have HM7 := Lib.hid M0
      clear M0
      clear HM6
      have N0 := (Two.new _ _ _ _).gr g7
      have HN7 := Lib.hid N0
      clear N0
      have G7 := ((G6).alloc _).trans g7
      obtain ⟨oY0, oY1, oY2⟩ := HY7.out
      obtain ⟨oZ0, oZ1, oZ2⟩ := HZ7.out
      go_wp2_with fail
      refine (within_any _ _ _ _ _).mono ?_
      rintro e v8 ⟨rfl, g8⟩
      clear oY0 oY1 oY2
      clear oZ0 oZ1 oZ2
      have X0 := (HX7.out).gr g8
      have HX8 := Lib.hid X0
      clear X0
      clear HX7
      have Y0 := (HY7.out).gr g8
      have HY8 := Lib.hid Y0
      clear Y0
      clear HY7
      have Z0 := (HZ7.out).gr g8
      have HZ8 := Lib.hid Z0
      clear Z0
      clear HZ7
      have M0 := (HM7.out).gr g8
      have HM8 := Lib.hid M0
      clear M0
      clear HM7
      have N0 := (HN7.out).gr g8
      have HN8 := Lib.hid N0
      clear N0
      clear HN7
      have G8 := (G7).trans g8
      have NW' := NW.out
      clear NW
      generalize withinB zy zn xy xn = b1 at *
      generalize withinB zy zn yy yn = b2 at *
      have fin : Gr w v8 := G8
      clear E5 E6 t1
      cases b1
      · clear NW'
        go_wp2
        all_goals
          go_ret
          exact ⟨rfl, fin⟩
      · obtain rfl : b2 = false := by simpa using NW'
        clear NW'
        go_wp2
        go_ret
        exact ⟨rfl, fin⟩
end Go.Proofs.Ytkdhfpdpbledcaa
