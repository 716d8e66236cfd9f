/- The contracts of package cube's small functions. -/
import Derived.Test.YtphcjjhfgpdhcaaProg
import Derived.Test.YtphcjjhfgpdhcaaPure
import Derived.WalkKit
import Derived.WalkSpells
import Derived.WalkLawsBesides
import Derived.Deep.QuietTactic
import Derived.BigQuiet
import Derived.Lib.Hide
namespace Go.Proofs.Ytphcjjhfgpdhcaa
open Go.RowKit Rm

theorem bne_of {a : Int} (h : (a == 0) = true) : (a != 0) = false := by simp [bne, h]
theorem bne_of' {a : Int} (h : (a == 0) = false) : (a != 0) = true := by simp [bne, h]

set_option maxHeartbeats 400000 in
set_option maxRecDepth 100000 in
theorem areTags_any (x : Int) (w : World) :
    Calls Try.prog 86 #[.int .i64 x] w fun e w' => e = .returned (.bool (tagsB x)) ∧ w = w' := by
  by_cases h0 : 0 ≤ x
  · by_cases h1 : x ≤ 15
    · have ht : tagsB x = true := by simp [tagsB, h0, h1]
      rw [ht]
      go_enter Try.func86, Try.ntmps86
      go_wp2
      go_ret
      exact ⟨rfl, rfl⟩
    · have ht : tagsB x = false := by simp [tagsB, h1]
      rw [ht]
      go_enter Try.func86, Try.ntmps86
      go_wp2
      go_ret
      exact ⟨rfl, rfl⟩
  · have ht : tagsB x = false := by simp [tagsB, h0]
    rw [ht]
    go_enter Try.func86, Try.ntmps86
    go_wp2
    go_ret
    exact ⟨rfl, rfl⟩

set_option maxHeartbeats 400000 in
set_option maxRecDepth 100000 in
theorem check_any (y n : Int) (w : World) :
    Calls Try.prog 64 #[.agg #[.int .i64 y, .int .i64 n]] w fun e w' => e = .returned (.int .i64 (chk y n)) ∧ Gr w w' := by
  cases hy : tagsB y
  · have hc : chk y n = 1 := by simp [chk, hy]
    rw [hc]
    go_enter Try.func64, Try.ntmps64
    go_wp2_with (go_at_call 86; refine (areTags_any _ _).mono ?_; rintro e w' ⟨rfl, rfl⟩)
    go_ret
    exact ⟨rfl, (Gr.refl _).alloc _⟩
  cases hn : tagsB n
  · have hc : chk y n = 1 := by simp [chk, hn]
    rw [hc]
    go_enter Try.func64, Try.ntmps64
    go_wp2_with (go_at_call 86; refine (areTags_any _ _).mono ?_; rintro e w' ⟨rfl, rfl⟩)
    go_ret
    exact ⟨rfl, (Gr.refl _).alloc _⟩
  cases hb : (bits .and .i64 y n == 0)
  · have hc : chk y n = 3 := by simp [chk, hy, hn, hb]
    rw [hc]
    have hb' : (bits .and .i64 y n != 0) = true := by simp [bne, hb]
    go_enter Try.func64, Try.ntmps64
    go_wp2_with (go_at_call 86; refine (areTags_any _ _).mono ?_; rintro e w' ⟨rfl, rfl⟩)
    go_ret
    exact ⟨rfl, (Gr.refl _).alloc _⟩
  · have hc : chk y n = 0 := by simp [chk, hy, hn, hb]
    rw [hc]
    have hb' : (bits .and .i64 y n != 0) = false := by simp [bne, hb]
    go_enter Try.func64, Try.ntmps64
    go_wp2_with (go_at_call 86; refine (areTags_any _ _).mono ?_; rintro e w' ⟨rfl, rfl⟩)
    go_ret
    exact ⟨rfl, (Gr.refl _).alloc _⟩

set_option maxHeartbeats 400000 in
set_option maxRecDepth 100000 in
theorem checkBoth_any (y n y' n' : Int) (w : World) :
    Calls Try.prog 76 #[.agg #[.int .i64 y, .int .i64 n], .agg #[.int .i64 y', .int .i64 n']] w fun e w' => e = .returned (.int .i64 (chk2 y n y' n')) ∧ Gr w w' := by
  cases hc : (chk y n == 0)
  · have hc2 : chk2 y n y' n' = chk y n := by simp [chk2, hc]
    rw [hc2]
    have hc' : (chk y n != 0) = true := by simp [bne, hc]
    go_enter Try.func76, Try.ntmps76
    go_wp2_with (go_at_call 64; refine (check_any _ _ _).mono ?_; rintro e w1 ⟨rfl, hb⟩)
    go_ret
    exact ⟨rfl, (((Gr.refl _).alloc _).alloc _).trans hb⟩
  · have hc2 : chk2 y n y' n' = chk y' n' := by simp [chk2, hc]
    rw [hc2]
    have hc' : (chk y n != 0) = false := by simp [bne, hc]
    go_enter Try.func76, Try.ntmps76
    go_wp2_with fail
    refine (check_any _ _ _).mono ?_
    rintro e w1 ⟨rfl, hb⟩
    obtain ⟨hbc, hbf⟩ := hb.cells
    go_wp2_with fail
    refine (check_any _ _ _).mono ?_
    rintro e w2 ⟨rfl, hb2⟩
    go_wp2_with fail
    go_ret
    exact ⟨rfl, ((((Gr.refl _).alloc _).alloc _).trans hb).trans hb2⟩

set_option maxHeartbeats 400000 in
set_option maxRecDepth 100000 in
theorem apart_any (y n y' n' : Int) (w : World) :
    Calls Try.prog 77 #[.agg #[.int .i64 y, .int .i64 n], .agg #[.int .i64 y', .int .i64 n']] w fun e w' => e = .returned (.bool (apartB y n y' n')) ∧ Gr w w' := by
  cases h1 : (bits .and .i64 y n' != 0)
  · cases h2 : (bits .and .i64 n y' != 0)
    · have hc : apartB y n y' n' = false := by simp [apartB, h1, h2]
      rw [hc]
      go_enter Try.func77, Try.ntmps77
      go_wp2
      go_ret
      exact ⟨rfl, ((Gr.refl _).alloc _).alloc _⟩
    · have hc : apartB y n y' n' = true := by simp [apartB, h2]
      rw [hc]
      go_enter Try.func77, Try.ntmps77
      go_wp2
      go_ret
      exact ⟨rfl, ((Gr.refl _).alloc _).alloc _⟩
  · have hc : apartB y n y' n' = true := by simp [apartB, h1]
    rw [hc]
    go_enter Try.func77, Try.ntmps77
    go_wp2
    go_ret
    exact ⟨rfl, ((Gr.refl _).alloc _).alloc _⟩

end Go.Proofs.Ytphcjjhfgpdhcaa
