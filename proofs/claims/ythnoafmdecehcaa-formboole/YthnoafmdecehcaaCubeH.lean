/- The contract of cube.Has. -/
import Derived.Test.YthnoafmdecehcaaCubeA
namespace Go.Proofs.Ythnoafmdecehcaa
open Go.RowKit Rm

set_option maxHeartbeats 400000 in
set_option maxRecDepth 100000 in
theorem has_any (y n t : Int) (w : World) :
    Calls Try.prog 86 #[.agg #[.int .i64 y, .int .i64 n], .int .i64 t] w fun e w' => e = .returned (.tuple #[.bool (hasR y n t), .int .i64 (hasE y n t)]) ∧ Gr w w' := by
  cases hc : (chk y n == 0)
  · have hc1 : hasE y n t = chk y n := by simp [hasE, hc]
    have hc2 : hasR y n t = false := by simp [hasR, hc1, hc]
    rw [hc2, hc1]
    have hc' := bne_of' hc
    clear hc1 hc2
    go_enter Try.func86, Try.ntmps86
    go_wp2_with (go_at_call 83; refine (check_any _ _ _).mono ?_; rintro e w1 ⟨rfl, hb⟩)
    go_ret2
    exact ⟨rfl, ((Gr.refl _).alloc _).trans hb⟩
  · have hc' := bne_of hc
    have h0 : chk y n = 0 := by simpa using hc
    cases ht : tagsB t
    · have hc1 : hasE y n t = 1 := by simp [hasE, h0, ht]
      have hc2 : hasR y n t = false := by simp [hasR, hc1]
      rw [hc2, hc1]
      clear hc1 hc2 h0
      go_enter Try.func86, Try.ntmps86
      go_wp2_with fail
      refine (check_any _ _ _).mono ?_
      rintro e w1 ⟨rfl, hb⟩
      go_wp2_with (go_at_call 93; refine (areTags_any _ _).mono ?_; rintro e w' ⟨rfl, rfl⟩)
      go_ret2
      exact ⟨rfl, ((Gr.refl _).alloc _).trans hb⟩
    · have hc1 : hasE y n t = 0 := by simp [hasE, h0, ht]
      cases h1 : (bits .andNot .i64 y t == 0)
      · have hc2 : hasR y n t = false := by simp [hasR, hasB, hc1, h1]
        rw [hc2, hc1]
        clear hc1 hc2 h0
        go_enter Try.func86, Try.ntmps86
        go_wp2_with fail
        refine (check_any _ _ _).mono ?_
        rintro e w1 ⟨rfl, hb⟩
        obtain ⟨hbc, hbf⟩ := hb.cells
        go_wp2_with (go_at_call 93; refine (areTags_any _ _).mono ?_; rintro e w' ⟨rfl, rfl⟩)
        go_ret2
        exact ⟨rfl, ((Gr.refl _).alloc _).trans hb⟩
      · cases h2 : (bits .and .i64 n t == 0)
        · have hc2 : hasR y n t = false := by simp [hasR, hasB, hc1, h2]
          rw [hc2, hc1]
          clear hc1 hc2 h0
          go_enter Try.func86, Try.ntmps86
          go_wp2_with fail
          refine (check_any _ _ _).mono ?_
          rintro e w1 ⟨rfl, hb⟩
          obtain ⟨hbc, hbf⟩ := hb.cells
          go_wp2_with (go_at_call 93; refine (areTags_any _ _).mono ?_; rintro e w' ⟨rfl, rfl⟩)
          go_ret2
          exact ⟨rfl, ((Gr.refl _).alloc _).trans hb⟩
        · have hc2 : hasR y n t = true := by simp [hasR, hasB, hc1, h1, h2]
          rw [hc2, hc1]
          clear hc1 hc2 h0
          go_enter Try.func86, Try.ntmps86
          go_wp2_with fail
          refine (check_any _ _ _).mono ?_
          rintro e w1 ⟨rfl, hb⟩
          obtain ⟨hbc, hbf⟩ := hb.cells
          go_wp2_with (go_at_call 93; refine (areTags_any _ _).mono ?_; rintro e w' ⟨rfl, rfl⟩)
          go_ret2
          exact ⟨rfl, ((Gr.refl _).alloc _).trans hb⟩

end Go.Proofs.Ythnoafmdecehcaa
