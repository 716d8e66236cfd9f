/- The contract of cube.Meet. -/
import Derived.Test.YtphcjjhfgpdhcaaCubeA
namespace Go.Proofs.Ytphcjjhfgpdhcaa
open Go.RowKit Rm

set_option maxHeartbeats 400000 in
set_option maxRecDepth 100000 in
theorem meet_any (y n y' n' : Int) (w : World) :
    Calls Try.prog 45 #[.agg #[.int .i64 y, .int .i64 n], .agg #[.int .i64 y', .int .i64 n']] w fun e w' =>
      e = .returned (.tuple #[.agg #[.int .i64 (meetY y n y' n'), .int .i64 (meetN y n y' n')], .int .i64 (meetE y n y' n')]) ∧ Gr w w' := by
  cases hc : (chk2 y n y' n' == 0)
  · have hc1 : meetE y n y' n' = chk2 y n y' n' := by simp [meetE, hc]
    have hc2 : meetY y n y' n' = 0 := by simp [meetY, hc1, hc]
    have hc3 : meetN y n y' n' = 0 := by simp [meetN, hc1, hc]
    rw [hc2, hc1, hc3]
    have hc' := bne_of' hc
    clear hc1 hc2 hc3
    go_enter Try.func45, Try.ntmps45
    go_wp2_with fail
    refine (checkBoth_any _ _ _ _ _).mono ?_
    rintro e w1 ⟨rfl, hb⟩
    obtain ⟨hbc, hbf⟩ := hb.cells
    go_wp2_with fail
    refine bodyPost_ret (v := .tuple #[.agg #[.int .i64 0, .int .i64 0], .int .i64 (chk2 y n y' n')]) (by simp [results, Try.results45, go_sem, hbc]) rfl ⟨rfl, ?_⟩
    exact ((((((Gr.refl _).alloc _).alloc _).alloc _).trans hb).setCell (by simp <;> omega) _).setCell (by simp <;> omega) _
  · have hc' := bne_of hc
    have h0 : chk2 y n y' n' = 0 := by simpa using hc
    cases ha : apartB y n y' n'
    · have hc1 : meetE y n y' n' = 0 := by simp [meetE, h0, ha]
      have hc2 : meetY y n y' n' = bits .or .i64 y y' := by simp [meetY, hc1]
      have hc3 : meetN y n y' n' = bits .or .i64 n n' := by simp [meetN, hc1]
      rw [hc2, hc1, hc3]
      clear hc1 hc2 hc3
      go_enter Try.func45, Try.ntmps45
      go_wp2_with fail
      refine (checkBoth_any _ _ _ _ _).mono ?_
      rintro e w1 ⟨rfl, hb⟩
      obtain ⟨hbc, hbf⟩ := hb.cells
      go_wp2_with fail
      refine (apart_any _ _ _ _ _).mono ?_
      rintro e w2 ⟨rfl, hb2⟩
      clear hbc hbf
      have hb3 := hb.trans hb2
      obtain ⟨hbc, hbf⟩ := hb3.cells
      go_wp2_with fail
      refine bodyPost_ret (v := .tuple #[.agg #[.int .i64 (bits .or .i64 y y'), .int .i64 (bits .or .i64 n n')], .int .i64 0]) (by simp [results, Try.results45, go_sem, hbc]) rfl ⟨rfl, ?_⟩
      exact (((((((Gr.refl _).alloc _).alloc _).alloc _).trans hb).trans hb2).setCell (by simp <;> omega) _).setCell (by simp <;> omega) _
    · have hc1 : meetE y n y' n' = 4 := by simp [meetE, h0, ha]
      have hc2 : meetY y n y' n' = 0 := by simp [meetY, hc1]
      have hc3 : meetN y n y' n' = 0 := by simp [meetN, hc1]
      rw [hc2, hc1, hc3]
      clear hc1 hc2 hc3
      go_enter Try.func45, Try.ntmps45
      go_wp2_with fail
      refine (checkBoth_any _ _ _ _ _).mono ?_
      rintro e w1 ⟨rfl, hb⟩
      obtain ⟨hbc, hbf⟩ := hb.cells
      go_wp2_with fail
      refine (apart_any _ _ _ _ _).mono ?_
      rintro e w2 ⟨rfl, hb2⟩
      clear hbc hbf
      have hb3 := hb.trans hb2
      obtain ⟨hbc, hbf⟩ := hb3.cells
      go_wp2_with fail
      refine bodyPost_ret (v := .tuple #[.agg #[.int .i64 0, .int .i64 0], .int .i64 4]) (by simp [results, Try.results45, go_sem, hbc]) rfl ⟨rfl, ?_⟩
      exact (((((((Gr.refl _).alloc _).alloc _).alloc _).trans hb).trans hb2).setCell (by simp <;> omega) _).setCell (by simp <;> omega) _

end Go.Proofs.Ytphcjjhfgpdhcaa
