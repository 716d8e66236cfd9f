/- What know.build computes: the form of the dots up to the counts and of those in a sorted list. -/
import Derived.Test.YtghjfakellaecaaKnG
namespace Rm
open Go Go.RowKit
/-- counts with one changed -/
def setC (v : List Nat) (s n : Nat) : List Nat := (five v).set s n
theorem cv_setC (v : List Nat) (s n t : Nat) (hs : s < 5) (ht : t < 5) : cv (setC v s n) t = if t = s then n else cv v t := by
  unfold setC
  by_cases h : t = s
  · subst h
    rw [if_pos rfl]; unfold cv
    rw [List.getD_eq_getElem?_getD, List.getElem?_set_self (by simp [five]; omega)]; rfl
  · rw [if_neg h]
    have := five_at v t ht
    unfold cv
    rw [List.getD_eq_getElem?_getD, List.getElem?_set_ne (fun e => h e.symm), this]; rfl
theorem cv_setC' (v : List Nat) (s n t : Nat) (hs : s < 5) : cv (setC v s n) t = if t = s then n else if t < 5 then cv v t else 0 := by
  by_cases ht : t < 5
  · rw [cv_setC v s n t hs ht, if_pos ht]
  · rw [if_neg (by omega : ¬ t = s), if_neg ht]; exact cv_out (by simp [setC, five]; omega)
/-- what the loop has after some dots -/
structure BInv (v0 : List Nat) (pre : List (Nat × Nat)) (v : List Nat) (m : List (Nat × Nat)) : Prop where
  le : ∀ s, s < 5 → cv v s ≤ 1000
  dots : ∀ d ∈ m, d.1 < 5 ∧ d.2 ≤ 1000 ∧ cv v d.1 + 2 ≤ d.2
  sort : m.Pairwise ltD
  sub : ∀ d ∈ m, d ∈ pre
  len : m.length ≤ pre.length
  mem : ∀ s c, inR s c → (memB v m s c = true ↔ (1 ≤ c ∧ c ≤ cv v0 s) ∨ (s, c) ∈ pre)
theorem BInv.start (v : List Nat) (h : ∀ s, s < 5 → cv v s ≤ 1000) : BInv v [] v [] where
  le := h
  dots := fun d hd => by simp at hd
  sort := List.Pairwise.nil
  sub := fun d hd => by simp at hd
  len := Nat.le_refl _
  mem := fun s c _ => by rw [memB_iff]
theorem BInv.up {v0 v : List Nat} {pre m : List (Nat × Nat)} {s c : Nat} (h : BInv v0 pre v m) (hs : ∀ x ∈ pre, ltD x (s, c)) (hr : inR s c) (he : c = cv v s + 1) : BInv v0 (pre ++ [(s, c)]) (setC v s c) m := by
  obtain ⟨r1, r2, r3⟩ := hr
  have hno : ∀ d ∈ m, d.1 ≠ s := by
    intro d hd e
    have h1 := hs d (h.sub d hd)
    have h2 := (h.dots d hd).2.2
    unfold ltD at h1
    simp only at h1
    rw [e] at h2
    omega
  refine ⟨fun t ht => ?_, fun d hd => ?_, h.sort, fun d hd => List.mem_append_left _ (h.sub d hd), by have := h.len; simp; omega, fun t n ht => ?_⟩
  · rw [cv_setC v s c t r1 ht]; split
    · exact r3
    · exact h.le t ht
  · have hd' := h.dots d hd
    rw [cv_setC v s c d.1 r1 hd'.1, if_neg (hno d hd)]
    exact hd'
  · have h1 := h.mem t n ht
    rw [memB_iff] at h1 ⊢
    rw [cv_setC v s c t r1 ht.1, List.mem_append, List.mem_singleton, Prod.mk.injEq]
    by_cases e : t = s
    · subst e
      rw [if_pos rfl]
      have hm : (t, n) ∉ m := fun q => hno _ q rfl
      have h2 : (1 ≤ n ∧ n ≤ cv v t) ↔ (1 ≤ n ∧ n ≤ cv v0 t) ∨ (t, n) ∈ pre := by
        rw [← h1]; simp [hm]
      constructor
      · rintro (⟨q1, q2⟩ | q)
        · by_cases e' : n = c
          · exact .inr (.inr ⟨rfl, e'⟩)
          · rcases h2.1 ⟨q1, by omega⟩ with k | k
            · exact .inl k
            · exact .inr (.inl k)
        · exact absurd q hm
      · rintro (q | q | q)
        · have := h2.2 (.inl q); exact .inl ⟨this.1, by omega⟩
        · have := h2.2 (.inr q); exact .inl ⟨this.1, by omega⟩
        · exact .inl ⟨by omega, by omega⟩
    · rw [if_neg e, h1]
      constructor
      · rintro (q | q)
        · exact .inl q
        · exact .inr (.inl q)
      · rintro (q | q | q)
        · exact .inl q
        · exact .inr q
        · exact absurd q.1 e
theorem BInv.more {v0 v : List Nat} {pre m : List (Nat × Nat)} {s c : Nat} (h : BInv v0 pre v m) (hs : ∀ x ∈ pre, ltD x (s, c)) (hr : inR s c) (he : cv v s + 2 ≤ c) : BInv v0 (pre ++ [(s, c)]) v (m ++ [(s, c)]) := by
  obtain ⟨r1, r2, r3⟩ := hr
  refine ⟨h.le, fun d hd => ?_, ?_, fun d hd => ?_, by have := h.len; simp; omega, fun t n ht => ?_⟩
  · rcases List.mem_append.1 hd with q | q
    · exact h.dots d q
    · rw [List.mem_singleton] at q; subst q; exact ⟨r1, r3, he⟩
  · rw [List.pairwise_append]
    refine ⟨h.sort, List.pairwise_singleton _ _, fun x hx y hy => ?_⟩
    rw [List.mem_singleton] at hy; subst hy
    exact hs x (h.sub x hx)
  · rcases List.mem_append.1 hd with q | q
    · exact List.mem_append_left _ (h.sub d q)
    · exact List.mem_append_right _ q
  · have h1 := h.mem t n ht
    rw [memB_iff] at h1 ⊢
    rw [List.mem_append, List.mem_append, ← or_assoc, ← or_assoc, h1]
theorem BInv.old {v0 v : List Nat} {pre m : List (Nat × Nat)} {s c : Nat} (h : BInv v0 pre v m) (hr : inR s c) (he : c ≤ cv v s) : BInv v0 (pre ++ [(s, c)]) v m := by
  refine ⟨h.le, h.dots, h.sort, fun d hd => List.mem_append_left _ (h.sub d hd), by have := h.len; simp; omega, fun t n ht => ?_⟩
  have h1 := h.mem t n ht
  rw [h1, List.mem_append, List.mem_singleton, Prod.mk.injEq]
  constructor
  · rintro (q | q)
    · exact .inl q
    · exact .inr (.inl q)
  · rintro (q | q | ⟨rfl, rfl⟩)
    · exact .inl q
    · exact .inr q
    · exact h1.1 ((memB_iff ..).2 (.inl ⟨hr.2.1, he⟩))
/-- the dots up to some counts, and those of a list -/
def upD (v : List Nat) (l : List (Nat × Nat)) : DS := fun s c => decide (1 ≤ c ∧ c ≤ cv v s) || l.contains (s, c)
theorem BInv.okv {v0 v : List Nat} {pre m : List (Nat × Nat)} (h : BInv v0 pre v m) : OkV (trimL (five v)) m where
  len := Nat.le_trans (trimL_len _) (by simp [five])
  le := fun x hx => by
    have h1 := trimL_mem _ x hx
    simp only [five, List.mem_cons, List.not_mem_nil, or_false] at h1
    rcases h1 with q | q | q | q | q <;> rw [q] <;> exact h.le _ (by omega)
  last := trimL_last _
  dots := fun d hd => by
    have h1 := h.dots d hd
    rw [trimL_cv, cv_five, if_pos h1.1]; exact h1
  sort := h.sort
theorem BInv.form {v0 v : List Nat} {pre m : List (Nat × Nat)} (h : BInv v0 pre v m) : formV (upD v0 pre) = trimL (five v) ∧ formM (upD v0 pre) = m := by
  refine h.okv.form (fun s c hr => ?_)
  rw [Bool.eq_iff_iff]
  have h1 := h.mem s c hr
  rw [memB_iff] at h1 ⊢
  rw [trimL_cv, cv_five, if_pos hr.1, h1]
  simp [upD]
theorem upD_congr {v : List Nat} {l l' : List (Nat × Nat)} (h : ∀ d, d ∈ l ↔ d ∈ l') : upD v l = upD v l' := by
  funext s c
  rw [Bool.eq_iff_iff]
  simp [upD, h]
end Rm
