/- What a check of a set of dots says, as read: the first fault. -/
import Derived.Test.YtghjfakellaecaaPure
import Derived.Test.YtghjfakellaecaaKnP
namespace Rm
open Go Go.RowKit
/-- the first answer that is not 0 -/
def first (f : Nat → Int) : Nat → Int
  | 0 => 0
  | n + 1 => if first f n = 0 then f n else first f n
theorem first_none {f : Nat → Int} {n : Nat} (h : ∀ j, j < n → f j = 0) : first f n = 0 := by
  induction n with
  | zero => rfl
  | succ n ih => unfold first; rw [if_pos (ih fun j hj => h j (by omega))]; exact h n (by omega)
theorem first_some {f : Nat → Int} {n k : Nat} (h : ∀ j, j < k → f j = 0) (hk : k < n) (hf : f k ≠ 0) : first f n = f k := by
  induction n with
  | zero => omega
  | succ n ih =>
    unfold first
    by_cases e : k = n
    · subst e; rw [if_pos (first_none h)]
    · have := ih (by omega)
      rw [this, if_neg hf]
theorem first_zero {f : Nat → Int} {n : Nat} (h : first f n = 0) : ∀ j, j < n → f j = 0 := by
  induction n with
  | zero => intro j hj; omega
  | succ n ih =>
    unfold first at h
    by_cases e : first f n = 0
    · rw [if_pos e] at h
      intro j hj
      by_cases q : j = n
      · rw [q]; exact h
      · exact ih e j (by omega)
    · rw [if_neg e] at h; exact absurd h e
def ints (l : List Nat) : List Int := l.map fun (x : Nat) => (x : Int)
theorem ints_len (l : List Nat) : (ints l).length = l.length := by simp [ints]
theorem ints_at {l : List Nat} {i x : Nat} (h : l[i]? = some x) : (ints l)[i]? = some (x : Int) := by simp [ints, h]
/-- a count that may not be -/
def badV (V : List Int) (i : Nat) : Int := match V[i]? with
  | some x => if x < 0 ∨ 1000 < x then 1 else 0
  | none => 0
def dotB (d : Int × Int) : Bool := decide (0 ≤ d.1) && decide (d.1 < 5) && decide (1 ≤ d.2) && decide (d.2 ≤ 1000)
theorem dotB_iff (d : Int × Int) : dotB d = true ↔ 0 ≤ d.1 ∧ d.1 < 5 ∧ 1 ≤ d.2 ∧ d.2 ≤ 1000 := by simp [dotB, and_assoc]
def ltI (a b : Int × Int) : Prop := a.1 < b.1 ∨ a.1 = b.1 ∧ a.2 < b.2
instance (a b : Int × Int) : Decidable (ltI a b) := by unfold ltI; infer_instance
/-- a dot that may not be, or not there -/
def badM (v : List Nat) (M : List (Int × Int)) (i : Nat) : Int := match M[i]? with
  | some d => if dotB d = false then 1 else if d.2 < (cv v d.1.toNat : Int) + 2 ∨ (0 < i ∧ ¬ ltI (M.getD (i - 1) (0, 0)) d) then 3 else 0
  | none => 0
def chkV (V : List Int) : Int := if first (badV V) V.length ≠ 0 then first (badV V) V.length else if V.getLast? = some 0 then 3 else 0
def chkM (v : List Nat) (M : List (Int × Int)) : Int := first (badM v M) M.length
def natsI (V : List Int) : List Nat := V.map Int.toNat
def chkK (V : List Int) (M : List (Int × Int)) : Int := if 5 < V.length ∨ 60 < M.length then 2 else if chkV V ≠ 0 then chkV V else chkM (natsI V) M
theorem badV_zero {V : List Int} (h : ∀ i, i < V.length → badV V i = 0) : ∀ x ∈ V, 0 ≤ x ∧ x ≤ 1000 := by
  intro x hx
  obtain ⟨i, hi⟩ := List.getElem?_of_mem hx
  have := h i (List.getElem?_eq_some_iff.1 hi).1
  unfold badV at this
  rw [hi] at this
  simp only at this
  split at this <;> omega
theorem chkV_zero {V : List Int} (h : chkV V = 0) : (∀ x ∈ V, 0 ≤ x ∧ x ≤ 1000) ∧ V.getLast? ≠ some 0 := by
  unfold chkV at h
  split at h
  · omega
  · rename_i e
    split at h
    · cases h
    · rename_i q
      exact ⟨badV_zero (first_zero (by simpa using e)), q⟩
theorem natsI_ints (v : List Nat) : natsI (ints v) = v := by simp [natsI, ints, Function.comp_def]
theorem ints_natsI {V : List Int} (h : ∀ x ∈ V, 0 ≤ x ∧ x ≤ 1000) : ints (natsI V) = V := by
  unfold ints natsI
  rw [List.map_map]
  conv => rhs; rw [← List.map_id V]
  apply List.map_congr_left
  intro x hx
  have := h x hx
  simp; omega
theorem getLast_ints (v : List Nat) : (ints v).getLast? = (v.getLast?).map fun (x : Nat) => (x : Int) := by simp [ints, List.getLast?_map]
theorem badM_zero {v : List Nat} {M : List (Int × Int)} {n : Nat} (h : ∀ i, i < n → badM v M i = 0) : ∀ i d, i < n → M[i]? = some d → dotB d = true ∧ (cv v d.1.toNat : Int) + 2 ≤ d.2 ∧ (0 < i → ltI (M.getD (i - 1) (0, 0)) d) := by
  intro i d hi hd
  have := h i hi
  unfold badM at this
  rw [hd] at this
  simp only at this
  split at this
  · cases this
  · rename_i e
    split at this
    · cases this
    · rename_i q
      refine ⟨by simpa using e, by omega, fun h0 => ?_⟩
      exact Classical.byContradiction fun hn => q (.inr ⟨h0, hn⟩)
def natD (d : Int × Int) : Nat × Nat := (d.1.toNat, d.2.toNat)
theorem pairs_natD {M : List (Int × Int)} (h : ∀ d ∈ M, 0 ≤ d.1 ∧ 0 ≤ d.2) : pairs (M.map natD) = M := by
  unfold pairs
  rw [List.map_map]
  conv => rhs; rw [← List.map_id M]
  apply List.map_congr_left
  intro d hd
  have := h d hd
  obtain ⟨a, b⟩ := d
  simp only [natD, Function.comp, id] at *
  congr <;> omega
theorem pairwise_of_next {α : Type} {R : α → α → Prop} (tr : ∀ a b c, R a b → R b c → R a c) : ∀ {l : List α}, (∀ i a b, l[i]? = some a → l[i + 1]? = some b → R a b) → l.Pairwise R
  | [], _ => List.Pairwise.nil
  | a :: l, h => by
    have ih : l.Pairwise R := pairwise_of_next tr fun i x y hx hy => h (i + 1) x y (by simpa using hx) (by simpa using hy)
    rw [List.pairwise_cons]
    refine ⟨?_, ih⟩
    cases l with
    | nil => intro x hx; cases hx
    | cons b l =>
      have hab := h 0 a b rfl rfl
      intro x hx
      rcases List.mem_cons.1 hx with rfl | q
      · exact hab
      · exact tr _ _ _ hab ((List.pairwise_cons.1 ih).1 x q)
/-- what passes is a set in its form -/
theorem chkK_zero {V : List Int} {M : List (Int × Int)} (h : chkK V M = 0) : ∃ v m, V = ints v ∧ M = pairs m ∧ OkV v m ∧ m.length ≤ 60 := by
  unfold chkK at h
  split at h
  · cases h
  · rename_i hl
    split at h
    · rename_i e; exact absurd h e
    · rename_i e
      obtain ⟨hv, hlast⟩ := chkV_zero (Classical.not_not.1 e)
      have hb := badM_zero (first_zero h)
      have hin : ∀ d ∈ M, dotB d = true := fun d hd => by
        obtain ⟨i, hi⟩ := List.getElem?_of_mem hd
        exact (hb i d (List.getElem?_eq_some_iff.1 hi).1 hi).1
      have hM : pairs (M.map natD) = M := pairs_natD fun d hd => by have := (dotB_iff d).1 (hin d hd); omega
      refine ⟨natsI V, M.map natD, (ints_natsI hv).symm, hM.symm, ⟨?_, ?_, ?_, ?_, ?_⟩, ?_⟩
      · simp [natsI]; omega
      · intro x hx
        obtain ⟨y, hy, rfl⟩ := List.mem_map.1 hx
        have := hv y hy; omega
      · intro q
        apply hlast
        rw [← ints_natsI hv, getLast_ints, q]; rfl
      · intro d hd
        obtain ⟨e, he, rfl⟩ := List.mem_map.1 hd
        obtain ⟨i, hi⟩ := List.getElem?_of_mem he
        have h1 := hb i e (List.getElem?_eq_some_iff.1 hi).1 hi
        have h2 := (dotB_iff e).1 h1.1
        simp only [natD]
        omega
      · refine pairwise_of_next (R := ltD) (fun _ _ _ h k => ltD_trans h k) ?_
        intro i a b ha hb'
        rw [List.getElem?_map] at ha hb'
        cases ea : M[i]? with
        | none => rw [ea] at ha; cases ha
        | some x => cases eb : M[i + 1]? with
          | none => rw [eb] at hb'; cases hb'
          | some y =>
            rw [ea] at ha; rw [eb] at hb'
            simp only [Option.map_some, Option.some.injEq] at ha hb'
            subst ha hb'
            have h1 := hb (i + 1) y (List.getElem?_eq_some_iff.1 eb).1 eb
            have h2 := h1.2.2 (by omega)
            have hx := (dotB_iff x).1 (hin x (List.mem_of_getElem? ea))
            have hy := (dotB_iff y).1 (hin y (List.mem_of_getElem? eb))
            rw [show i + 1 - 1 = i from rfl, List.getD_eq_getElem?_getD, ea] at h2
            simp only [Option.getD_some] at h2
            unfold ltI at h2
            unfold ltD natD
            simp only
            omega
      · simp; omega
/-- a set in its form passes -/
theorem OkV.chk {v : List Nat} {m : List (Nat × Nat)} (h : OkV v m) (hl : m.length ≤ 60) : chkK (ints v) (pairs m) = 0 := by
  have hV : first (badV (ints v)) (ints v).length = 0 := first_none fun i hi => by
    unfold badV
    rw [ints_len] at hi
    rw [ints_at (List.getElem?_eq_getElem hi)]
    have := h.le _ (List.getElem_mem hi)
    simp only
    rw [if_neg (by omega)]
  have hC : chkV (ints v) = 0 := by
    unfold chkV
    rw [hV, if_neg (by simp), if_neg]
    rw [getLast_ints]
    intro q
    apply h.last
    cases e : v.getLast? with
    | none => rw [e] at q; cases q
    | some x => rw [e] at q; simp at q; rw [q]
  unfold chkK
  rw [ints_len, pairs_len, if_neg (by have := h.len; omega), hC, if_neg (by simp), natsI_ints]
  refine first_none fun i hi => ?_
  rw [pairs_len] at hi
  have hd := h.dots _ (List.getElem_mem hi)
  unfold badM
  rw [pairs_at (List.getElem?_eq_getElem hi)]
  simp only
  rw [if_neg, if_neg]
  · simp only [Int.toNat_natCast, not_or, not_and, Classical.not_not]
    refine ⟨by omega, fun h0 => ?_⟩
    have h1 : i - 1 < m.length := by omega
    have h2 := List.pairwise_iff_getElem.1 h.sort (i - 1) i h1 hi (by omega)
    rw [List.getD_eq_getElem?_getD, pairs_at (List.getElem?_eq_getElem h1)]
    unfold ltD at h2
    unfold ltI
    simp only [Option.getD_some]
    omega
  · rw [Bool.eq_false_iff, ne_eq, dotB_iff, Classical.not_not]
    simp only
    omega
end Rm
