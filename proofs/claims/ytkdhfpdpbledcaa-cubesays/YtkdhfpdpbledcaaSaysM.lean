/- What the tables say of two valid cubes, for the walk of CubeSays. -/
import Derived.Test.YtkdhfpdpbledcaaParts
import Derived.Test.YtkdhfpdpbledcaaDoc1
import Derived.Test.YtkdhfpdpbledcaaCubeB
namespace Go.Proofs.Ytkdhfpdpbledcaa
open Go.RowKit Rm

theorem lessN_eq {y n y' n' : Nat} (h : Vld y n) (h' : Vld y' n') : lessN y n y' n' = lessL y n y' n' := by
  unfold lessN lessL
  rw [apartN_eq h h']
theorem says_at {y n y' n' : Nat} (h : Vld y n) (h' : Vld y' n') : cntTo y n 16 = cnt y n ∧ saysN y n y' n' = true := by
  have H := allSays_true
  unfold allSays at H
  rw [List.all_eq_true] at H
  have H1 := H y (List.mem_range.2 h.1)
  rw [List.all_eq_true] at H1
  have H2 := H1 n (List.mem_range.2 h.2.1)
  rw [vldN_iff.2 h.2.2] at H2
  simp only [Bool.not_true, Bool.false_or, Bool.and_eq_true, beq_iff_eq] at H2
  obtain ⟨Hc, H2⟩ := H2
  rw [List.all_eq_true] at H2
  have H3 := H2 y' (List.mem_range.2 h'.1)
  rw [List.all_eq_true] at H3
  have H4 := H3 n' (List.mem_range.2 h'.2.1)
  rw [vldN_iff.2 h'.2.2] at H4
  exact ⟨Hc, by simpa using H4⟩
theorem cntTo_eq {y n : Nat} (h : Vld y n) : cntTo y n 16 = cnt y n := (says_at h h).1
theorem saysT_at {y n y' n' : Nat} {L : List (Nat × Nat)} : ∀ {j : Nat}, saysT y n y' n' L j = true → ∀ k, k < j → timesN L k = (if in16 y n k && !in16 y' n' k then 1 else 0)
  | 0, _, k, hk => by omega
  | j + 1, h, k, hk => by
    unfold saysT at h
    rw [Bool.and_eq_true, beq_iff_eq] at h
    rcases Nat.lt_or_ge k j with c | c
    · exact saysT_at h.1 k c
    · have : k = j := by omega
      subst this
      exact h.2
theorem says_of {y n y' n' : Nat} (h : Vld y n) (h' : Vld y' n') :
    (∀ k, k < 16 → timesN (lessL y n y' n') k = (if in16 y n k && !in16 y' n' k then 1 else 0)) ∧ withinTo y n y' n' 16 = withinB y n y' n' ∧ (bothTo y n y' n' 16 == 0) = apartB y n y' n' := by
  have H := (says_at h h').2
  unfold saysN at H
  simp only [Bool.and_eq_true, beq_iff_eq] at H
  obtain ⟨⟨H1, H2⟩, H3⟩ := H
  rw [lessN_eq h h'] at H1
  refine ⟨fun k hk => saysT_at H1 k hk, ?_, ?_⟩
  · rw [H2, within_eq h h']; rfl
  · rw [← apartN_eq h h', ← H3, Bool.eq_iff_iff]
    simp only [beq_iff_eq, Nat.beq_eq]
theorem in_has {y n t : Nat} (h : Vld y n) (ht : t < 16) : hasR y n t = in16 y n t := by rw [has_eq h ht]; rfl
theorem times_take {l : List (Nat × Nat)} {k : Nat} {c : Nat × Nat} (h : l[k]? = some c) (t : Nat) : timesN (l.take (k + 1)) t = timesN (l.take k) t + (if in16 c.1 c.2 t then 1 else 0) := by
  have app : ∀ (l : List (Nat × Nat)), timesN (l ++ [c]) t = timesN l t + (if in16 c.1 c.2 t then 1 else 0) := by
    intro l
    induction l with
    | nil => simp [timesN]
    | cons x l ih => simp [timesN, ih]; omega
  obtain ⟨hk, e⟩ := List.getElem?_eq_some_iff.1 h
  rw [List.take_succ_eq_append_getElem hk, e, app]
theorem times_le (l : List (Nat × Nat)) (t : Nat) : timesN l t ≤ l.length := by
  induction l with
  | nil => simp [timesN]
  | cons x l ih => simp only [timesN, List.length_cons]; split <;> omega
theorem cntTo_le (y n k : Nat) : cntTo y n k ≤ k := by
  induction k with
  | zero => simp [cntTo]
  | succ k ih => simp only [cntTo]; split <;> omega
theorem bothTo_le (y n y' n' k : Nat) : bothTo y n y' n' k ≤ k := by
  induction k with
  | zero => simp [bothTo]
  | succ k ih => simp only [bothTo]; split <;> omega
end Go.Proofs.Ytkdhfpdpbledcaa
