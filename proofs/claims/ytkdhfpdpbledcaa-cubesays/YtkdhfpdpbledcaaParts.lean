/- What the table says of the difference of two valid cubes. -/
import Derived.Test.YtkdhfpdpbledcaaPure5
import Derived.Test.YtkdhfpdpbledcaaOnes
import Derived.Test.YtkdhfpdpbledcaaCubeLess
namespace Go.Proofs.Ytkdhfpdpbledcaa
open Go.RowKit Rm

theorem pop_eq (a : Nat) : popN a = pop4 a := rfl
theorem cnt_eq (y n : Nat) : cntN y n = cnt y n := rfl
theorem vldN_iff {y n : Nat} : vldN y n = true ↔ Nat.land y n = 0 := by simp [vldN]
theorem apartN_eq {y n y' n' : Nat} (h : Vld y n) (h' : Vld y' n') : apartN y n y' n' = apartB y n y' n' := by
  rw [apart_eq h h']; rfl
theorem parts_at {y n y' n' : Nat} (h : Vld y n) (h' : Vld y' n') : partsN y n y' n' = true := by
  have H := allParts_true
  unfold allParts at H
  rw [List.all_eq_true] at H
  have H1 := H y (List.mem_range.2 h.1)
  rw [List.all_eq_true] at H1
  have H2 := H1 n (List.mem_range.2 h.2.1)
  rw [vldN_iff.2 h.2.2] at H2
  simp only [Bool.not_true, Bool.false_or] at H2
  rw [List.all_eq_true] at H2
  have H3 := H2 y' (List.mem_range.2 h'.1)
  rw [List.all_eq_true] at H3
  have H4 := H3 n' (List.mem_range.2 h'.2.1)
  rw [vldN_iff.2 h'.2.2] at H4
  simpa using H4
theorem good_of {y n y' n' : Nat} {c : Nat × Nat} (h : Vld y n) (h' : Vld y' n') (hg : goodN y n y' n' c = true) : Vld c.1 c.2 ∧ withinB c.1 c.2 y n = true ∧ apartB c.1 c.2 y' n' = true := by
  unfold goodN at hg
  simp only [Bool.and_eq_true, Nat.blt_eq] at hg
  obtain ⟨⟨⟨⟨⟨h1, h2⟩, h3⟩, h4⟩, h5⟩, h6⟩ := hg
  have hv : Vld c.1 c.2 := ⟨h1, h2, vldN_iff.1 h3⟩
  refine ⟨hv, ?_, ?_⟩
  · rw [within_eq hv h]
    simp only [sub, Bool.and_eq_true]
    exact ⟨h4, h5⟩
  · rw [← apartN_eq hv h']; exact h6
theorem pairwise_of : ∀ (l : List (Nat × Nat)), pairwiseN l = true → ∀ (i j : Nat) (c d : Nat × Nat), j < i → l[i]? = some c → l[j]? = some d → apartN c.1 c.2 d.1 d.2 = true
  | [], _, i, j, c, d, _, hc, _ => by simp at hc
  | x :: l, h, i, j, c, d, hij, hc, hd => by
    simp only [pairwiseN, Bool.and_eq_true, List.all_eq_true] at h
    cases i with
    | zero => omega
    | succ i =>
      cases j with
      | zero =>
        simp at hd
        subst hd
        exact h.1 c (List.mem_of_getElem? (by simpa using hc))
      | succ j => exact pairwise_of l h.2 i j c d (by omega) (by simpa using hc) (by simpa using hd)

/-- all that CubeParts asks of the difference -/
theorem less_parts {y n y' n' : Nat} (h : Vld y n) (h' : Vld y' n') :
    (∀ c ∈ lessL y n y' n', Vld c.1 c.2 ∧ withinB c.1 c.2 y n = true ∧ apartB c.1 c.2 y' n' = true) ∧
    (∀ (i j : Nat) (c d : Nat × Nat), j < i → (lessL y n y' n')[i]? = some c → (lessL y n y' n')[j]? = some d → apartB c.1 c.2 d.1 d.2 = true) ∧
    (apartB y n y' n' = true → sumN (lessL y n y' n') = cnt y n) ∧ (apartB y n y' n' = false → sumN (lessL y n y' n') + cnt (Nat.lor y y') (Nat.lor n n') = cnt y n) ∧ (lessL y n y' n').length ≤ 4 := by
  cases ha : apartB y n y' n'
  · have e : lessL y n y' n' = (lessTo y n y' n' 4).1 := by simp [lessL, ha]
    rw [e]
    have H := parts_at h h'
    unfold partsN at H
    rw [apartN_eq h h', ha, Bool.false_or] at H
    simp only [Bool.and_eq_true, List.all_eq_true, beq_iff_eq] at H
    obtain ⟨⟨H1, H2⟩, H3⟩ := H
    refine ⟨fun c hc => good_of h h' (H1 c hc), fun i j c d hij hc hd => ?_, by simp, fun _ => H3, (lessTo_ok y n y' n' h.1 h.2.1 4 (by omega)).2.2⟩
    have v1 := (good_of h h' (H1 c (List.mem_of_getElem? hc))).1
    have v2 := (good_of h h' (H1 d (List.mem_of_getElem? hd))).1
    rw [← apartN_eq v1 v2]
    exact pairwise_of _ H2 i j c d hij hc hd
  · have e : lessL y n y' n' = [(y, n)] := by simp [lessL, ha]
    rw [e]
    refine ⟨fun c hc => ?_, fun i j c d hij hc hd => ?_, fun _ => rfl, by simp, by simp⟩
    · simp at hc
      subst hc
      refine ⟨h, ?_, ha⟩
      rw [within_eq h h]
      simp [sub_refl16 _ h.1, sub_refl16 _ h.2.1]
    · cases i with
      | zero => omega
      | succ i => simp at hc

theorem less_any (y n y' n' : Nat) (w : World) (h : Vld y n) (h' : Vld y' n') :
    Calls Try.prog 30 #[.agg #[.int .i64 y, .int .i64 n], .agg #[.int .i64 y', .int .i64 n']] w fun e w' =>
      ∃ v, e = .returned (.tuple #[v, .int .i64 0]) ∧ Rd2 w' v (pairs (lessL y n y' n')) ∧ Gr w w' := by
  cases ha : apartB y n y' n'
  · have e : lessL y n y' n' = (lessTo y n y' n' 4).1 := by simp [lessL, ha]
    rw [e]
    exact less_ok y n y' n' w h h' ha
  · have e : lessL y n y' n' = [(y, n)] := by simp [lessL, ha]
    rw [e]
    exact less_apart y n y' n' w h h' ha

theorem sum_snoc (l : List (Nat × Nat)) (c : Nat × Nat) : sumN (l ++ [c]) = sumN l + cnt c.1 c.2 := by
  induction l with
  | nil => simp [sumN, cnt_eq]
  | cons x l ih => simp [sumN, ih]; omega
theorem sum_take {l : List (Nat × Nat)} {k : Nat} {c : Nat × Nat} (h : l[k]? = some c) : sumN (l.take (k + 1)) = sumN (l.take k) + cnt c.1 c.2 := by
  obtain ⟨hk, e⟩ := List.getElem?_eq_some_iff.1 h
  rw [List.take_succ_eq_append_getElem hk, e, sum_snoc]
theorem cnt_le (y n : Nat) : cnt y n ≤ 16 := by
  have h : 15 - Nat.lor y n < 16 := by omega
  have := pop4_le _ h
  unfold cnt
  calc 2 ^ pop4 (15 - Nat.lor y n) ≤ 2 ^ 4 := Nat.pow_le_pow_right (by omega) this
    _ = 16 := by decide
theorem sum_le (l : List (Nat × Nat)) : sumN l ≤ 16 * l.length := by
  induction l with
  | nil => simp [sumN]
  | cons x l ih => have := cnt_le x.1 x.2; simp [sumN, cnt_eq]; omega
end Go.Proofs.Ytkdhfpdpbledcaa
