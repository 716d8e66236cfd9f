/- Joined: CubeA, CubeH. -/
import Derived.Test.YtbodadddcbbjeaaProg
import Derived.Test.YtbodadddcbbjeaaPure
import Derived.WalkKit
import Derived.WalkSpells
import Derived.WalkLawsBesides
import Derived.Deep.QuietTactic
import Derived.BigQuiet
import Derived.Lib.Hide
/- The contracts of package cube's small functions. -/
namespace Go.Proofs.Ytbodadddcbbjeaa
open Go.RowKit Rm

theorem bne_of {a : Int} (h : (a == 0) = true) : (a != 0) = false := by simp [bne, h]
theorem bne_of' {a : Int} (h : (a == 0) = false) : (a != 0) = true := by simp [bne, h]

set_option maxHeartbeats 400000 in
set_option maxRecDepth 100000 in
theorem areTags_any (x : Int) (w : World) :
    Calls Try.prog 77 #[.int .i64 x] w fun e w' => e = .returned (.bool (tagsB x)) ∧ w = w' := by
  by_cases h0 : 0 ≤ x
  · by_cases h1 : x ≤ 15
    · have ht : tagsB x = true := by simp [tagsB, h0, h1]
      rw [ht]
      go_enter Try.func77, Try.ntmps77
      go_wp2
      go_ret
      exact ⟨rfl, rfl⟩
    · have ht : tagsB x = false := by simp [tagsB, h1]
      rw [ht]
      go_enter Try.func77, Try.ntmps77
      go_wp2
      go_ret
      exact ⟨rfl, rfl⟩
  · have ht : tagsB x = false := by simp [tagsB, h0]
    rw [ht]
    go_enter Try.func77, Try.ntmps77
    go_wp2
    go_ret
    exact ⟨rfl, rfl⟩

set_option maxHeartbeats 400000 in
set_option maxRecDepth 100000 in
theorem check_any (y n : Int) (w : World) :
    Calls Try.prog 64 #[.agg #[.int .i64 y, .int .i64 n]] w fun e w' => e = .returned (.int .i64 (chk y n)) ∧ Gr w w' := by
  cases hy : tagsB y
  · have hc : chk y n = 1 := by simp [chk, hy]
    rw [hc]
    go_enter Try.func64, Try.ntmps64
    go_wp2_with (go_at_call 77; refine (areTags_any _ _).mono ?_; rintro e w' ⟨rfl, rfl⟩)
    go_ret
    exact ⟨rfl, (Gr.refl _).alloc _⟩
  cases hn : tagsB n
  · have hc : chk y n = 1 := by simp [chk, hn]
    rw [hc]
    go_enter Try.func64, Try.ntmps64
    go_wp2_with (go_at_call 77; refine (areTags_any _ _).mono ?_; rintro e w' ⟨rfl, rfl⟩)
    go_ret
    exact ⟨rfl, (Gr.refl _).alloc _⟩
  cases hb : (bits .and .i64 y n == 0)
  · have hc : chk y n = 3 := by simp [chk, hy, hn, hb]
    rw [hc]
    have hb' : (bits .and .i64 y n != 0) = true := by simp [bne, hb]
    go_enter Try.func64, Try.ntmps64
    go_wp2_with (go_at_call 77; refine (areTags_any _ _).mono ?_; rintro e w' ⟨rfl, rfl⟩)
    go_ret
    exact ⟨rfl, (Gr.refl _).alloc _⟩
  · have hc : chk y n = 0 := by simp [chk, hy, hn, hb]
    rw [hc]
    have hb' : (bits .and .i64 y n != 0) = false := by simp [bne, hb]
    go_enter Try.func64, Try.ntmps64
    go_wp2_with (go_at_call 77; refine (areTags_any _ _).mono ?_; rintro e w' ⟨rfl, rfl⟩)
    go_ret
    exact ⟨rfl, (Gr.refl _).alloc _⟩

end Go.Proofs.Ytbodadddcbbjeaa
/- The contract of cube.Has. -/
namespace Go.Proofs.Ytbodadddcbbjeaa
open Go.RowKit Rm

set_option maxHeartbeats 400000 in
set_option maxRecDepth 100000 in
theorem has_any (y n t : Int) (w : World) :
    Calls Try.prog 74 #[.agg #[.int .i64 y, .int .i64 n], .int .i64 t] w fun e w' => e = .returned (.tuple #[.bool (hasR y n t), .int .i64 (hasE y n t)]) ∧ Gr w w' := by
  cases hc : (chk y n == 0)
  · have hc1 : hasE y n t = chk y n := by simp [hasE, hc]
    have hc2 : hasR y n t = false := by simp [hasR, hc1, hc]
    rw [hc2, hc1]
    have hc' := bne_of' hc
    clear hc1 hc2
    go_enter Try.func74, Try.ntmps74
    go_wp2_with (go_at_call 64; refine (check_any _ _ _).mono ?_; rintro e w1 ⟨rfl, hb⟩)
    go_ret2
    exact ⟨rfl, ((Gr.refl _).alloc _).trans hb⟩
  · have hc' := bne_of hc
    have h0 : chk y n = 0 := by simpa using hc
    cases ht : tagsB t
    · have hc1 : hasE y n t = 1 := by simp [hasE, h0, ht]
      have hc2 : hasR y n t = false := by simp [hasR, hc1]
      rw [hc2, hc1]
      clear hc1 hc2 h0
      go_enter Try.func74, Try.ntmps74
      go_wp2_with fail
      refine (check_any _ _ _).mono ?_
      rintro e w1 ⟨rfl, hb⟩
      go_wp2_with (go_at_call 77; refine (areTags_any _ _).mono ?_; rintro e w' ⟨rfl, rfl⟩)
      go_ret2
      exact ⟨rfl, ((Gr.refl _).alloc _).trans hb⟩
    · have hc1 : hasE y n t = 0 := by simp [hasE, h0, ht]
      cases h1 : (bits .andNot .i64 y t == 0)
      · have hc2 : hasR y n t = false := by simp [hasR, hasB, hc1, h1]
        rw [hc2, hc1]
        clear hc1 hc2 h0
        go_enter Try.func74, Try.ntmps74
        go_wp2_with fail
        refine (check_any _ _ _).mono ?_
        rintro e w1 ⟨rfl, hb⟩
        obtain ⟨hbc, hbf⟩ := hb.cells
        go_wp2_with (go_at_call 77; refine (areTags_any _ _).mono ?_; rintro e w' ⟨rfl, rfl⟩)
        go_ret2
        exact ⟨rfl, ((Gr.refl _).alloc _).trans hb⟩
      · cases h2 : (bits .and .i64 n t == 0)
        · have hc2 : hasR y n t = false := by simp [hasR, hasB, hc1, h2]
          rw [hc2, hc1]
          clear hc1 hc2 h0
          go_enter Try.func74, Try.ntmps74
          go_wp2_with fail
          refine (check_any _ _ _).mono ?_
          rintro e w1 ⟨rfl, hb⟩
          obtain ⟨hbc, hbf⟩ := hb.cells
          go_wp2_with (go_at_call 77; refine (areTags_any _ _).mono ?_; rintro e w' ⟨rfl, rfl⟩)
          go_ret2
          exact ⟨rfl, ((Gr.refl _).alloc _).trans hb⟩
        · have hc2 : hasR y n t = true := by simp [hasR, hasB, hc1, h1, h2]
          rw [hc2, hc1]
          clear hc1 hc2 h0
          go_enter Try.func74, Try.ntmps74
          go_wp2_with fail
          refine (check_any _ _ _).mono ?_
          rintro e w1 ⟨rfl, hb⟩
          obtain ⟨hbc, hbf⟩ := hb.cells
          go_wp2_with (go_at_call 77; refine (areTags_any _ _).mono ?_; rintro e w' ⟨rfl, rfl⟩)
          go_ret2
          exact ⟨rfl, ((Gr.refl _).alloc _).trans hb⟩

end Go.Proofs.Ytbodadddcbbjeaa
