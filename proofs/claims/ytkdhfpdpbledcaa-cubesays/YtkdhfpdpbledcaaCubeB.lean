/- The contracts of package cube's Within, Has, Meet. -/
import Derived.Test.YtkdhfpdpbledcaaCubeA
namespace Go.Proofs.Ytkdhfpdpbledcaa
open Go.RowKit Rm


set_option maxHeartbeats 400000 in
theorem within_any (y n y' n' : Int) (w : World) :
    Calls Try.prog 29 #[.agg #[.int .i64 y, .int .i64 n], .agg #[.int .i64 y', .int .i64 n']] w fun e w' => e = .returned (.tuple #[.bool (withinB y n y' n'), .int .i64 (chk2 y n y' n')]) ∧ Gr w w' := by
  cases hc : (chk2 y n y' n' == 0)
  · have hc2 : withinB y n y' n' = false := by simp [withinB, hc]
    rw [hc2]
    have hc' := bne_of' hc
    go_enter Try.func29, Try.ntmps29
    go_wp2_with (go_at_call 52; refine (checkBoth_any _ _ _ _ _).mono ?_; rintro e w1 ⟨rfl, hb⟩)
    go_ret2
    exact ⟨rfl, (((Gr.refl _).alloc _).alloc _).trans hb⟩
  · have hc' := bne_of hc
    have h0 : chk2 y n y' n' = 0 := by simpa using hc
    cases h1 : (bits .andNot .i64 y' y == 0)
    · have hc2 : withinB y n y' n' = false := by simp [withinB, inB, h1]
      rw [hc2, h0]
      go_enter Try.func29, Try.ntmps29
      go_wp2_with fail
      refine (checkBoth_any _ _ _ _ _).mono ?_
      rintro e w1 ⟨rfl, hb⟩
      obtain ⟨hbc, hbf⟩ := hb.cells
      go_wp2_with fail
      go_ret2
      exact ⟨rfl, (((Gr.refl _).alloc _).alloc _).trans hb⟩
    · cases h2 : (bits .andNot .i64 n' n == 0)
      · have hc2 : withinB y n y' n' = false := by simp [withinB, inB, h2]
        rw [hc2, h0]
        go_enter Try.func29, Try.ntmps29
        go_wp2_with fail
        refine (checkBoth_any _ _ _ _ _).mono ?_
        rintro e w1 ⟨rfl, hb⟩
        obtain ⟨hbc, hbf⟩ := hb.cells
        go_wp2_with fail
        go_ret2
        exact ⟨rfl, (((Gr.refl _).alloc _).alloc _).trans hb⟩
      · have hc2 : withinB y n y' n' = true := by simp [withinB, inB, h0, h1, h2]
        rw [hc2, h0]
        go_enter Try.func29, Try.ntmps29
        go_wp2_with fail
        refine (checkBoth_any _ _ _ _ _).mono ?_
        rintro e w1 ⟨rfl, hb⟩
        obtain ⟨hbc, hbf⟩ := hb.cells
        go_wp2_with fail
        go_ret2
        exact ⟨rfl, (((Gr.refl _).alloc _).alloc _).trans hb⟩

set_option maxHeartbeats 400000 in
theorem has_any (y n t : Int) (w : World) :
    Calls Try.prog 27 #[.agg #[.int .i64 y, .int .i64 n], .int .i64 t] w fun e w' => e = .returned (.tuple #[.bool (hasR y n t), .int .i64 (hasE y n t)]) ∧ Gr w w' := by
  cases hc : (chk y n == 0)
  · have hc1 : hasE y n t = chk y n := by simp [hasE, hc]
    have hc2 : hasR y n t = false := by simp [hasR, hc1, hc]
    rw [hc2, hc1]
    have hc' := bne_of' hc
    clear hc1 hc2
    go_enter Try.func27, Try.ntmps27
    go_wp2_with (go_at_call 33; refine (check_any _ _ _).mono ?_; rintro e w1 ⟨rfl, hb⟩)
    go_ret2
    exact ⟨rfl, ((Gr.refl _).alloc _).trans hb⟩
  · have hc' := bne_of hc
    have h0 : chk y n = 0 := by simpa using hc
    cases ht : tagsB t
    · have hc1 : hasE y n t = 1 := by simp [hasE, h0, ht]
      have hc2 : hasR y n t = false := by simp [hasR, hc1]
      rw [hc2, hc1]
      clear hc1 hc2 h0
      go_enter Try.func27, Try.ntmps27
      go_wp2_with fail
      refine (check_any _ _ _).mono ?_
      rintro e w1 ⟨rfl, hb⟩
      go_wp2_with (go_at_call 51; refine (areTags_any _ _).mono ?_; rintro e w' ⟨rfl, rfl⟩)
      go_ret2
      exact ⟨rfl, ((Gr.refl _).alloc _).trans hb⟩
    · have hc1 : hasE y n t = 0 := by simp [hasE, h0, ht]
      cases h1 : (bits .andNot .i64 y t == 0)
      · have hc2 : hasR y n t = false := by simp [hasR, hasB, hc1, h1]
        rw [hc2, hc1]
        clear hc1 hc2 h0
        go_enter Try.func27, Try.ntmps27
        go_wp2_with fail
        refine (check_any _ _ _).mono ?_
        rintro e w1 ⟨rfl, hb⟩
        obtain ⟨hbc, hbf⟩ := hb.cells
        go_wp2_with (go_at_call 51; refine (areTags_any _ _).mono ?_; rintro e w' ⟨rfl, rfl⟩)
        go_ret2
        exact ⟨rfl, ((Gr.refl _).alloc _).trans hb⟩
      · cases h2 : (bits .and .i64 n t == 0)
        · have hc2 : hasR y n t = false := by simp [hasR, hasB, hc1, h2]
          rw [hc2, hc1]
          clear hc1 hc2 h0
          go_enter Try.func27, Try.ntmps27
          go_wp2_with fail
          refine (check_any _ _ _).mono ?_
          rintro e w1 ⟨rfl, hb⟩
          obtain ⟨hbc, hbf⟩ := hb.cells
          go_wp2_with (go_at_call 51; refine (areTags_any _ _).mono ?_; rintro e w' ⟨rfl, rfl⟩)
          go_ret2
          exact ⟨rfl, ((Gr.refl _).alloc _).trans hb⟩
        · have hc2 : hasR y n t = true := by simp [hasR, hasB, hc1, h1, h2]
          rw [hc2, hc1]
          clear hc1 hc2 h0
          go_enter Try.func27, Try.ntmps27
          go_wp2_with fail
          refine (check_any _ _ _).mono ?_
          rintro e w1 ⟨rfl, hb⟩
          obtain ⟨hbc, hbf⟩ := hb.cells
          go_wp2_with (go_at_call 51; refine (areTags_any _ _).mono ?_; rintro e w' ⟨rfl, rfl⟩)
          go_ret2
          exact ⟨rfl, ((Gr.refl _).alloc _).trans hb⟩

set_option maxHeartbeats 400000 in
theorem meet_any (y n y' n' : Int) (w : World) :
    Calls Try.prog 28 #[.agg #[.int .i64 y, .int .i64 n], .agg #[.int .i64 y', .int .i64 n']] w fun e w' =>
      e = .returned (.tuple #[.agg #[.int .i64 (meetY y n y' n'), .int .i64 (meetN y n y' n')], .int .i64 (meetE y n y' n')]) ∧ Gr w w' := by
  cases hc : (chk2 y n y' n' == 0)
  · have hc1 : meetE y n y' n' = chk2 y n y' n' := by simp [meetE, hc]
    have hc2 : meetY y n y' n' = 0 := by simp [meetY, hc1, hc]
    have hc3 : meetN y n y' n' = 0 := by simp [meetN, hc1, hc]
    rw [hc2, hc1, hc3]
    have hc' := bne_of' hc
    clear hc1 hc2 hc3
    go_enter Try.func28, Try.ntmps28
    go_wp2_with fail
    refine (checkBoth_any _ _ _ _ _).mono ?_
    rintro e w1 ⟨rfl, hb⟩
    obtain ⟨hbc, hbf⟩ := hb.cells
    go_wp2_with fail
    refine bodyPost_ret (v := .tuple #[.agg #[.int .i64 0, .int .i64 0], .int .i64 (chk2 y n y' n')]) (by simp [results, Try.results28, go_sem, hbc]) rfl ⟨rfl, ?_⟩
    exact ((((((Gr.refl _).alloc _).alloc _).alloc _).trans hb).setCell (by simp <;> omega) _).setCell (by simp <;> omega) _
  · have hc' := bne_of hc
    have h0 : chk2 y n y' n' = 0 := by simpa using hc
    cases ha : apartB y n y' n'
    · have hc1 : meetE y n y' n' = 0 := by simp [meetE, h0, ha]
      have hc2 : meetY y n y' n' = bits .or .i64 y y' := by simp [meetY, hc1]
      have hc3 : meetN y n y' n' = bits .or .i64 n n' := by simp [meetN, hc1]
      rw [hc2, hc1, hc3]
      clear hc1 hc2 hc3
      go_enter Try.func28, Try.ntmps28
      go_wp2_with fail
      refine (checkBoth_any _ _ _ _ _).mono ?_
      rintro e w1 ⟨rfl, hb⟩
      obtain ⟨hbc, hbf⟩ := hb.cells
      go_wp2_with fail
      refine (apart_any _ _ _ _ _).mono ?_
      rintro e w2 ⟨rfl, hb2⟩
      clear hbc hbf
      have hb3 := hb.trans hb2
      obtain ⟨hbc, hbf⟩ := hb3.cells
      go_wp2_with fail
      refine bodyPost_ret (v := .tuple #[.agg #[.int .i64 (bits .or .i64 y y'), .int .i64 (bits .or .i64 n n')], .int .i64 0]) (by simp [results, Try.results28, go_sem, hbc]) rfl ⟨rfl, ?_⟩
      exact (((((((Gr.refl _).alloc _).alloc _).alloc _).trans hb).trans hb2).setCell (by simp <;> omega) _).setCell (by simp <;> omega) _
    · have hc1 : meetE y n y' n' = 4 := by simp [meetE, h0, ha]
      have hc2 : meetY y n y' n' = 0 := by simp [meetY, hc1]
      have hc3 : meetN y n y' n' = 0 := by simp [meetN, hc1]
      rw [hc2, hc1, hc3]
      clear hc1 hc2 hc3
      go_enter Try.func28, Try.ntmps28
      go_wp2_with fail
      refine (checkBoth_any _ _ _ _ _).mono ?_
      rintro e w1 ⟨rfl, hb⟩
      obtain ⟨hbc, hbf⟩ := hb.cells
      go_wp2_with fail
      refine (apart_any _ _ _ _ _).mono ?_
      rintro e w2 ⟨rfl, hb2⟩
      clear hbc hbf
      have hb3 := hb.trans hb2
      obtain ⟨hbc, hbf⟩ := hb3.cells
      go_wp2_with fail
      refine bodyPost_ret (v := .tuple #[.agg #[.int .i64 0, .int .i64 0], .int .i64 4]) (by simp [results, Try.results28, go_sem, hbc]) rfl ⟨rfl, ?_⟩
      exact (((((((Gr.refl _).alloc _).alloc _).alloc _).trans hb).trans hb2).setCell (by simp <;> omega) _).setCell (by simp <;> omega) _

end Go.Proofs.Ytkdhfpdpbledcaa
