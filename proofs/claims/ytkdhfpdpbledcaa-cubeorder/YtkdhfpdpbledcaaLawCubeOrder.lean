/- The walk of CubeOrder. -/
import Derived.Test.YtkdhfpdpbledcaaKeep
namespace Go.Proofs.Ytkdhfpdpbledcaa
open Go.RowKit Rm
set_option linter.unusedVariables false

theorem lit_within : withinB 3 0 1 0 = true := by decide +kernel
theorem lit_chk2 : chk2 3 0 1 0 = 0 := by decide +kernel

set_option maxHeartbeats 1000000 in
theorem cubeOrder_walk (a0 : Int) (w0 : (Lit.int .i64 a0).wf = true) (a1 : Int) (w1 : (Lit.int .i64 a1).wf = true) (a2 : Int) (w2 : (Lit.int .i64 a2).wf = true) (a3 : Int) (w3 : (Lit.int .i64 a3).wf = true) (w : World) :
    Calls Try.prog 14 #[.int .i64 a0, .int .i64 a1, .int .i64 a2, .int .i64 a3] w fun e w' => e = .returned (.bool true) ∧ Gr w w' := by
  clear w0 w1 w2 w3
  have l1 := lit_within
  have l2 := lit_chk2
  go_enter Try.func14, Try.ntmps14
  go_wp2_with fail
  refine (within_any _ _ _ _ _).mono ?_
  rintro e w1 ⟨rfl, g1⟩
  go_wp2_with fail
  refine (one_any _ _).mono ?_
  rintro e w2 ⟨xy, xn, vx, rfl, g2⟩
  go_wp2_with fail
  refine (one_any _ _).mono ?_
  rintro e w3 ⟨yy, yn, vy, rfl, g3⟩
  go_wp2_with fail
  refine (one_any _ _).mono ?_
  rintro e w4 ⟨zy, zn, vz, rfl, g4⟩
  have G4 := ((g1.trans g2).trans g3).trans g4
  clear g1 g2 g3 g4 l1 l2
  go_wp2_with fail
  refine (keepWithin_any _ _ (by omega) (by omega) _).mono ?_
  rintro e w5 ⟨rfl, rfl⟩
  obtain ⟨t, ht⟩ := Int.eq_ofNat_of_zero_le (rem_lt a3 16 (by omega)).1
  have ht' : t < 16 := by have := (rem_lt a3 16 (by omega)).2; omega
  rw [ht]
  clear ht
  have E1 := vx.chk2 vy
  have E2 := vy.chk2 vx
  have E3 := vy.chk2 vz
  have E4 := vx.chk2 vz
  have E5 := hasE_eq vx ht'
  have E6 := hasE_eq vy ht'
  go_wp2_with fail
  refine (within_any _ _ _ _ _).mono ?_
  rintro e w6 ⟨rfl, g6⟩
  have G6 := g6
  clear g6
  obtain ⟨hbc, hbf⟩ := G6.cells
  go_wp2_with fail
  refine (within_any _ _ _ _ _).mono ?_
  rintro e w7 ⟨rfl, g7⟩
  clear hbc hbf
  have G7 := G6.trans g7
  clear g7 G6
  obtain ⟨hbc, hbf⟩ := G7.cells
  go_wp2_with fail
  refine (within_any _ _ _ _ _).mono ?_
  rintro e w8 ⟨rfl, g8⟩
  clear hbc hbf
  have G8 := G7.trans g8
  clear g8 G7
  obtain ⟨hbc, hbf⟩ := G8.cells
  go_wp2_with fail
  refine (within_any _ _ _ _ _).mono ?_
  rintro e w9 ⟨rfl, g9⟩
  clear hbc hbf
  have G9 := G8.trans g9
  clear g9 G8
  obtain ⟨hbc, hbf⟩ := G9.cells
  go_wp2_with fail
  refine (has_any _ _ _ _).mono ?_
  rintro e w10 ⟨rfl, g10⟩
  clear hbc hbf
  have G10 := G9.trans g10
  clear g10 G9
  obtain ⟨hbc, hbf⟩ := G10.cells
  go_wp2_with fail
  refine (has_any _ _ _ _).mono ?_
  rintro e w11 ⟨rfl, g11⟩
  clear hbc hbf
  have G11 := G10.trans g11
  clear g11 G10
  obtain ⟨hbc, hbf⟩ := G11.cells
  go_wp2_with fail
  go_loop [92] (fun i => ∃ k : Nat, k ≤ 6 ∧ i = .int .i64 k) (fun i => 6 - (intOf i).toNat)
  case atStart => exact ⟨0, by omega, rfl⟩
  case round =>
    obtain ⟨k, hk, rfl⟩ := hrel
    by_cases hlt : k < 6
    · have h6 : k = 0 ∨ k = 1 ∨ k = 2 ∨ k = 3 ∨ k = 4 ∨ k = 5 := by omega
      clear hbc hbf E1 E2 E3 E4 E5 E6
      rcases h6 with rfl | rfl | rfl | rfl | rfl | rfl
      all_goals
        go_wp2
        go_round
        case rel => exact ⟨_, by decide, rfl⟩
        case measure => simp [intOf]
    · obtain rfl : k = 6 := by omega
      clear E1 E2 E3 E4 E5 E6
      have hz1 := G11.le
      simp at hz1
      have hz2 : w4.heap.size < w11.heap.size := by omega
      have hz3 : w4.heap.size + 1 < w11.heap.size := by omega
      have fin : ∀ o, Gr w (w11.alloc o) := fun o => ((((G4.alloc _).alloc _).alloc _).trans G11).alloc o
      have A := order_anti vx vy
      have T := order_trans vx vy vz
      have HH := order_has vx vy ht'
      generalize withinB xy xn yy yn = b1 at *
      generalize withinB yy yn xy xn = b2 at *
      generalize withinB yy yn zy zn = b3 at *
      generalize withinB xy xn zy zn = b4 at *
      generalize hasR xy xn t = b5 at *
      generalize hasR yy yn t = b6 at *
      cases b1
      · have hne : ¬ (xy = yy ∧ xn = yn) := by
          simp at A
          intro h
          exact A h.1 h.2
        clear A T HH
        go_wp2
        all_goals
          go_ret
          exact ⟨rfl, fin _⟩
      · have T' := T rfl
        have HH' := HH rfl
        clear T HH
        cases b3
        · clear T'
          cases b5
          · clear HH'
            cases b2
            · have hne : ¬ (xy = yy ∧ xn = yn) := by
                simp at A
                intro h
                exact A h.1 h.2
              clear A
              go_wp2
              all_goals
                go_ret
                exact ⟨rfl, fin _⟩
            · have he : xy = yy ∧ xn = yn := by simpa using A.symm
              obtain ⟨rfl, rfl⟩ := he
              clear A
              go_wp2
              all_goals
                go_ret
                exact ⟨rfl, fin _⟩
          · have e6 := HH' rfl
            clear HH'
            subst e6
            cases b2
            · have hne : ¬ (xy = yy ∧ xn = yn) := by
                simp at A
                intro h
                exact A h.1 h.2
              clear A
              go_wp2
              all_goals
                go_ret
                exact ⟨rfl, fin _⟩
            · have he : xy = yy ∧ xn = yn := by simpa using A.symm
              obtain ⟨rfl, rfl⟩ := he
              clear A
              go_wp2
              all_goals
                go_ret
                exact ⟨rfl, fin _⟩
        · have e4 := T' rfl
          clear T'
          subst e4
          cases b5
          · clear HH'
            cases b2
            · have hne : ¬ (xy = yy ∧ xn = yn) := by
                simp at A
                intro h
                exact A h.1 h.2
              clear A
              go_wp2
              all_goals
                go_ret
                exact ⟨rfl, fin _⟩
            · have he : xy = yy ∧ xn = yn := by simpa using A.symm
              obtain ⟨rfl, rfl⟩ := he
              clear A
              go_wp2
              all_goals
                go_ret
                exact ⟨rfl, fin _⟩
          · have e6 := HH' rfl
            clear HH'
            subst e6
            cases b2
            · have hne : ¬ (xy = yy ∧ xn = yn) := by
                simp at A
                intro h
                exact A h.1 h.2
              clear A
              go_wp2
              all_goals
                go_ret
                exact ⟨rfl, fin _⟩
            · have he : xy = yy ∧ xn = yn := by simpa using A.symm
              obtain ⟨rfl, rfl⟩ := he
              clear A
              go_wp2
              all_goals
                go_ret
                exact ⟨rfl, fin _⟩
end Go.Proofs.Ytkdhfpdpbledcaa
