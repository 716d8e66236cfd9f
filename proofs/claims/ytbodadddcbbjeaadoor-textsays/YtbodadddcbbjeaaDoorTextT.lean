/- Package text: textOf. -/
import Derived.Test.YtbodadddcbbjeaaDoorTextS
import Derived.BigQuiet
namespace Go.Proofs.YtbodadddcbbjeaaDoor
open Go.RowKit Rm
set_option linter.unusedVariables false
set_option linter.unusedSimpArgs false

set_option maxHeartbeats 1000000 in
set_option maxRecDepth 100000 in
theorem textOf_all (a b : Int) (v : Value) (w : World) :
    Calls Tryd.prog 20 #[.agg #[.int .i64 1, .int .i64 a, .int .i64 b], v] w fun e w' => e = .returned (.string (str [42])) ∧ Gr w w' := by
  go_enter Tryd.func20, Tryd.ntmps20
  go_wp2_with fail
  go_ret
  exact ⟨rfl, (Gr.refl _).alloc _⟩
set_option maxHeartbeats 1000000 in
set_option maxRecDepth 100000 in
theorem textOf_tag (a : Nat) (b : Int) (v : Value) (w : World) (ha : a < 4) :
    Calls Tryd.prog 20 #[.agg #[.int .i64 2, .int .i64 (a : Int), .int .i64 b], v] w fun e w' => e = .returned (.string (str (35 :: dec a))) ∧ Gr w w' := by
  have z1 := dec_le a
  have H := Lib.hid (itoa_any a (by omega))
  generalize dec a = ta at *
  have s1 := strs_sum [35] ta ⟨#[35]⟩ _ rfl rfl (by decide) (by omega) (35 :: ta) rfl
  go_enter Tryd.func20, Tryd.ntmps20
  go_wp2_with (go_at_call 40; refine (H.out _).mono ?_; rintro e w' ⟨rfl, rfl⟩)
  go_ret
  exact ⟨rfl, (Gr.refl _).alloc _⟩
set_option maxHeartbeats 2000000 in
set_option maxRecDepth 100000 in
theorem textOf_num (a b : Nat) (v : Value) (w : World) (ha : a < b) (hb : b ≤ 32) :
    Calls Tryd.prog 20 #[.agg #[.int .i64 3, .int .i64 (a : Int), .int .i64 (b : Int)], v] w fun e w' => e = .returned (.string (str (91 :: (dec a ++ 44 :: (dec b ++ [41]))))) ∧ Gr w w' := by
  have z1 := dec_le a
  have z2 := dec_le b
  have H := Lib.hid (itoa_any a (by omega))
  have H2 := Lib.hid (itoa_any b (by omega))
  generalize dec a = ta at *
  generalize dec b = tb at *
  have s1 := strs_sum [91] ta ⟨#[91]⟩ _ rfl rfl (by decide) (by omega) (91 :: ta) rfl
  have s2 := strs_sum (91 :: ta) [44] _ ⟨#[44]⟩ rfl rfl (by simp; omega) (by decide) (91 :: (ta ++ [44])) rfl
  have s3 := strs_sum (91 :: (ta ++ [44])) tb _ _ rfl rfl (by simp; omega) (by omega) (91 :: (ta ++ 44 :: tb)) (by simp)
  have s4 := strs_sum (91 :: (ta ++ 44 :: tb)) [41] _ ⟨#[41]⟩ rfl rfl (by simp; omega) (by decide) (91 :: (ta ++ 44 :: (tb ++ [41]))) (by simp)
  go_enter Tryd.func20, Tryd.ntmps20
  go_wp2_with fail
  go_quiet (first | (go_at_call 40; exact Calls.quiet_of_same (H.out _)) | (go_at_call 40; exact Calls.quiet_of_same (H2.out _)))
  go_wp2_with fail
  go_ret
  exact ⟨rfl, ((Gr.refl _).alloc _).drewN _⟩
set_option maxHeartbeats 1000000 in
set_option maxRecDepth 100000 in
theorem textOf_not (a : Nat) (b : Int) (v : Value) (L : List (List UInt8)) (w : World) (ha : a < L.length) (hv : RdV w v (strs L)) (hL : ∀ x ∈ L, x.length ≤ 401) (hl : L.length ≤ 30) :
    Calls Tryd.prog 20 #[.agg #[.int .i64 4, .int .i64 (a : Int), .int .i64 b], v] w fun e w' => e = .returned (.string (str (33 :: getS L a))) ∧ Gr w w' := by
  obtain ⟨va, vc, rfl, hvc, hcell⟩ := hv
  rw [strs_len] at *
  obtain ⟨vb, off, rfl, hb', hc⟩ := hcell (by intro e; rw [← strs_len, e] at ha; simp at ha)
  have c1 := hc a _ (strs_at (getS_at ha))
  have z1 := getS_le hL a
  have h1' : (a : Int) < (L.length : Int) := by omega
  clear hc hL hcell
  generalize getS L a = ta at *
  have s1 := strs_sum [33] ta ⟨#[33]⟩ _ rfl rfl (by decide) (by omega) (33 :: ta) rfl
  go_enter Tryd.func20, Tryd.ntmps20
  go_wp2_with fail
  go_ret
  exact ⟨rfl, (Gr.refl _).alloc _⟩

set_option maxHeartbeats 2000000 in
set_option maxRecDepth 100000 in
theorem textOf_both (a b : Nat) (v : Value) (L : List (List UInt8)) (w : World) (ha : a < L.length) (hb : b < L.length) (hv : RdV w v (strs L)) (hL : ∀ x ∈ L, x.length ≤ 401) (hl : L.length ≤ 30) :
    Calls Tryd.prog 20 #[.agg #[.int .i64 5, .int .i64 (a : Int), .int .i64 (b : Int)], v] w fun e w' => e = .returned (.string (str (40 :: (getS L a ++ 38 :: (getS L b ++ [41]))))) ∧ Gr w w' := by
  obtain ⟨va, vc, rfl, hvc, hcell⟩ := hv
  rw [strs_len] at *
  obtain ⟨vb, off, rfl, hb', hc⟩ := hcell (by intro e; rw [← strs_len, e] at ha; simp at ha)
  have c1 := hc a _ (strs_at (getS_at ha))
  have c2 := hc b _ (strs_at (getS_at hb))
  have z1 := getS_le hL a
  have z2 := getS_le hL b
  have h1' : (a : Int) < (L.length : Int) := by omega
  have h2' : (b : Int) < (L.length : Int) := by omega
  clear hc hL hcell
  generalize getS L a = ta at *
  generalize getS L b = tb at *
  have s1 := strs_sum [40] ta ⟨#[40]⟩ _ rfl rfl (by decide) (by omega) (40 :: ta) rfl
  have s2 := strs_sum (40 :: ta) [38] _ ⟨#[38]⟩ rfl rfl (by simp; omega) (by decide) (40 :: (ta ++ [38])) rfl
  have s3 := strs_sum (40 :: (ta ++ [38])) tb _ _ rfl rfl (by simp; omega) (by omega) (40 :: (ta ++ 38 :: tb)) (by simp)
  have s4 := strs_sum (40 :: (ta ++ 38 :: tb)) [41] _ ⟨#[41]⟩ rfl rfl (by simp; omega) (by decide) (40 :: (ta ++ 38 :: (tb ++ [41]))) (by simp)
  go_enter Tryd.func20, Tryd.ntmps20
  go_wp2_with fail
  go_quiet (fail)
  go_wp2_with fail
  go_ret
  exact ⟨rfl, ((Gr.refl _).alloc _).drewN _⟩

set_option maxHeartbeats 2000000 in
set_option maxRecDepth 100000 in
theorem textOf_any (a b : Nat) (v : Value) (L : List (List UInt8)) (w : World) (ha : a < L.length) (hb : b < L.length) (hv : RdV w v (strs L)) (hL : ∀ x ∈ L, x.length ≤ 401) (hl : L.length ≤ 30) :
    Calls Tryd.prog 20 #[.agg #[.int .i64 6, .int .i64 (a : Int), .int .i64 (b : Int)], v] w fun e w' => e = .returned (.string (str (40 :: (getS L a ++ 124 :: (getS L b ++ [41]))))) ∧ Gr w w' := by
  obtain ⟨va, vc, rfl, hvc, hcell⟩ := hv
  rw [strs_len] at *
  obtain ⟨vb, off, rfl, hb', hc⟩ := hcell (by intro e; rw [← strs_len, e] at ha; simp at ha)
  have c1 := hc a _ (strs_at (getS_at ha))
  have c2 := hc b _ (strs_at (getS_at hb))
  have z1 := getS_le hL a
  have z2 := getS_le hL b
  have h1' : (a : Int) < (L.length : Int) := by omega
  have h2' : (b : Int) < (L.length : Int) := by omega
  clear hc hL hcell
  generalize getS L a = ta at *
  generalize getS L b = tb at *
  have s1 := strs_sum [40] ta ⟨#[40]⟩ _ rfl rfl (by decide) (by omega) (40 :: ta) rfl
  have s2 := strs_sum (40 :: ta) [124] _ ⟨#[124]⟩ rfl rfl (by simp; omega) (by decide) (40 :: (ta ++ [124])) rfl
  have s3 := strs_sum (40 :: (ta ++ [124])) tb _ _ rfl rfl (by simp; omega) (by omega) (40 :: (ta ++ 124 :: tb)) (by simp)
  have s4 := strs_sum (40 :: (ta ++ 124 :: tb)) [41] _ ⟨#[41]⟩ rfl rfl (by simp; omega) (by decide) (40 :: (ta ++ 124 :: (tb ++ [41]))) (by simp)
  go_enter Tryd.func20, Tryd.ntmps20
  go_wp2_with fail
  go_quiet (fail)
  go_wp2_with fail
  go_ret
  exact ⟨rfl, ((Gr.refl _).alloc _).drewN _⟩
end Go.Proofs.YtbodadddcbbjeaaDoor
