/- TextFront: no text that is read begins another one. -/
import Derived.Test.YtbodadddcbbjeaaTextP
namespace Go.Proofs.Ytbodadddcbbjeaa
open Go.RowKit Rm
set_option linter.unusedVariables false
set_option linter.unusedSimpArgs false
theorem str_add (a b : List UInt8) (ha : a.length ≤ 2 ^ 47) (hb : b.length ≤ 2 ^ 48) (w : World) : (Op.stringOp .add (str a) (str b)).run Try.prog w = .ok (.string (str (a ++ b))) w := by
  rw [run_string_add_sum _ _ _ (by rw [str_size, str_size]; omega), str_app]
theorem front_lit : readL [40, 42, 38, 91, 51, 44, 57, 41, 41] = (0, [(1, 0, 0), (3, 3, 9), (5, 0, 1)]) := by kernel_rfl

set_option maxHeartbeats 1000000 in
set_option maxRecDepth 100000 in
theorem textFront_walk (s t : List UInt8) (hs : s.length ≤ 2 ^ 47) (ht : t.length ≤ 2 ^ 47) (W : World) :
    Calls Try.prog 3 #[.string (str s), .string (str t)] W fun e W' => e = .returned (.bool true) ∧ Gr W W' := by
  have hadd := str_add s t hs (by omega)
  have hnn : (ByteArray.mk #[]).toList = [] := str_list []
  have hst := str_list t
  have H0 := Lib.hid (read_any [40, 42, 38, 91, 51, 44, 57, 41, 41])
  have H1 := Lib.hid (read_any s)
  have H2 := Lib.hid (read_any (s ++ t))
  rw [front_lit] at H0
  by_cases h1 : (readL s).1 = 0
  · have h10 := h1
    by_cases h2 : t = []
    · subst h2
      rw [List.append_nil] at hadd H2
      generalize (readL s).1 = k1 at *
      subst h1
      generalize (readL s).2 = m1 at *
      clear h10
      go_enter Try.func3, Try.ntmps3
      go_wp2_with (first | (go_at_call 6; refine (H0.out _).mono ?_; rintro e w1 ⟨u1, rfl, g1, o1⟩; obtain ⟨ua1, uc1, rfl, hu1⟩ := own_form o1; clear H0) | (go_at_call 6; refine (H1.out _).mono ?_; rintro e w2 ⟨u2, rfl, g2, o2⟩; obtain ⟨ua2, uc2, rfl, hu2⟩ := own_form o2; clear H1) | (go_at_call 6; refine (H2.out _).mono ?_; rintro e w3 ⟨u3, rfl, g3, o3⟩; obtain ⟨ua3, uc3, rfl, hu3⟩ := own_form o3))
      go_ret
      exact ⟨rfl, (g1.trans g2).trans g3⟩
    · have h3 := readL_front h1 h2
      have h4 := readL_bad h3
      generalize (readL s).1 = k1 at *
      subst h1
      generalize (readL s).2 = m1 at *
      generalize (readL (s ++ t)).1 = k2 at *
      generalize (readL (s ++ t)).2 = m2 at *
      subst h4
      have hk : (k2 != 0) = true := by simpa using h3
      have ht0 : (t == []) = false := by simpa using h2
      clear h10
      go_enter Try.func3, Try.ntmps3
      go_wp2_with (first | (go_at_call 6; refine (H0.out _).mono ?_; rintro e w1 ⟨u1, rfl, g1, o1⟩; obtain ⟨ua1, uc1, rfl, hu1⟩ := own_form o1; clear H0) | (go_at_call 6; refine (H1.out _).mono ?_; rintro e w2 ⟨u2, rfl, g2, o2⟩; obtain ⟨ua2, uc2, rfl, hu2⟩ := own_form o2; clear H1) | (go_at_call 6; refine (H2.out _).mono ?_; rintro e w3 ⟨u3, rfl, g3, o3⟩; obtain ⟨ua3, uc3, rfl, hu3⟩ := own_form o3))
      go_ret
      exact ⟨rfl, (g1.trans g2).trans g3⟩
  · have h4 := readL_bad h1
    generalize (readL s).1 = k1 at *
    generalize (readL s).2 = m1 at *
    subst h4
    generalize (readL (s ++ t)).1 = k2 at *
    generalize (readL (s ++ t)).2 = m2 at *
    have hk : (k1 != 0) = true := by simpa using h1
    go_enter Try.func3, Try.ntmps3
    go_wp2_with (first | (go_at_call 6; refine (H0.out _).mono ?_; rintro e w1 ⟨u1, rfl, g1, o1⟩; obtain ⟨ua1, uc1, rfl, hu1⟩ := own_form o1; clear H0) | (go_at_call 6; refine (H1.out _).mono ?_; rintro e w2 ⟨u2, rfl, g2, o2⟩; obtain ⟨ua2, uc2, rfl, hu2⟩ := own_form o2; clear H1) | (go_at_call 6; refine (H2.out _).mono ?_; rintro e w3 ⟨u3, rfl, g3, o3⟩; obtain ⟨ua3, uc3, rfl, hu3⟩ := own_form o3))
    go_ret
    exact ⟨rfl, (g1.trans g2).trans g3⟩
end Go.Proofs.Ytbodadddcbbjeaa
