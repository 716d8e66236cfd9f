/- The plain mathematics of masks: Boole, De Morgan, parts, counts. -/
import Derived.Test.YthnoafmdecehcaaSpanI
namespace Go.Proofs.Ythnoafmdecehcaa
open Rm

theorem bit_big {a i : Nat} (h : a < 2 ^ 32) (hi : ¬ i < 32) : a.testBit i = false :=
  Nat.testBit_lt_two_pow (Nat.lt_of_lt_of_le h (Nat.pow_le_pow_right (by omega) (by omega)))
theorem mask_ext {a b : Nat} (ha : a < 2 ^ 32) (hb : b < 2 ^ 32) (h : ∀ i, i < 32 → a.testBit i = b.testBit i) : a = b := by
  apply Nat.eq_of_testBit_eq
  intro i
  by_cases hi : i < 32
  · exact h i hi
  · rw [bit_big ha hi, bit_big hb hi]
theorem or_lt {a b : Nat} (ha : a < 2 ^ 32) (hb : b < 2 ^ 32) : a ||| b < 2 ^ 32 := Nat.or_lt_two_pow ha hb
theorem and_lt {a b : Nat} (ha : a < 2 ^ 32) : a &&& b < 2 ^ 32 := Nat.lt_of_le_of_lt Nat.and_le_left ha
theorem full_lt : 4294967295 < 2 ^ 32 := by decide
theorem full_bit (i : Nat) (h : i < 32) : (4294967295 : Nat).testBit i = true := by
  have e : (4294967295 : Nat) = 2 ^ 32 - 1 := by decide
  rw [e, Nat.testBit_two_pow_sub_one]
  simpa using h
theorem m_absorb (a b : Nat) : a ||| (a &&& b) = a := by
  apply Nat.eq_of_testBit_eq; intro i; simp only [Nat.testBit_or, Nat.testBit_and]; cases a.testBit i <;> simp
theorem m_absorb' (a b : Nat) : a &&& (a ||| b) = a := by
  apply Nat.eq_of_testBit_eq; intro i; simp only [Nat.testBit_or, Nat.testBit_and]; cases a.testBit i <;> simp
theorem m_distrib (a b c : Nat) : a &&& (b ||| c) = (a &&& b) ||| (a &&& c) := by
  apply Nat.eq_of_testBit_eq; intro i; simp only [Nat.testBit_or, Nat.testBit_and]; cases a.testBit i <;> simp
theorem m_morgan {a b : Nat} (ha : a < 2 ^ 32) (hb : b < 2 ^ 32) : lessM 4294967295 (a &&& b) = lessM 4294967295 a ||| lessM 4294967295 b := by
  refine mask_ext (lessM_lt _ _ full_lt) (or_lt (lessM_lt _ _ full_lt) (lessM_lt _ _ full_lt)) fun i hi => ?_
  rw [Nat.testBit_or, lessM_bit _ _ _ (and_lt ha) full_lt, lessM_bit _ _ _ ha full_lt, lessM_bit _ _ _ hb full_lt, Nat.testBit_and]
  cases a.testBit i <;> cases b.testBit i <;> simp
theorem m_twice {a : Nat} (ha : a < 2 ^ 32) : lessM 4294967295 (lessM 4294967295 a) = a := by
  refine mask_ext (lessM_lt _ _ full_lt) ha fun i hi => ?_
  rw [lessM_bit _ _ _ (lessM_lt _ _ full_lt) full_lt, lessM_bit _ _ _ ha full_lt, full_bit i hi]
  cases a.testBit i <;> rfl
theorem m_less {a b : Nat} (ha : a < 2 ^ 32) (hb : b < 2 ^ 32) : lessM a b = a &&& lessM 4294967295 b := by
  refine mask_ext (lessM_lt _ _ ha) (and_lt ha) fun i hi => ?_
  rw [Nat.testBit_and, lessM_bit _ _ _ hb ha, lessM_bit _ _ _ hb full_lt, full_bit i hi]
  cases a.testBit i <;> simp
theorem m_whole {a b : Nat} (ha : a < 2 ^ 32) (hb : b < 2 ^ 32) : (a &&& b) ||| lessM a b = a := by
  refine mask_ext (or_lt (and_lt ha) (lessM_lt _ _ ha)) ha fun i hi => ?_
  rw [Nat.testBit_or, Nat.testBit_and, lessM_bit _ _ _ hb ha]
  cases a.testBit i <;> cases b.testBit i <;> rfl
theorem m_none {a b : Nat} (ha : a < 2 ^ 32) (hb : b < 2 ^ 32) : (a &&& b) &&& lessM a b = 0 := by
  refine mask_ext (and_lt (and_lt ha)) (by decide) fun i hi => ?_
  rw [Nat.testBit_and, Nat.testBit_and, lessM_bit _ _ _ hb ha, Nat.zero_testBit]
  cases a.testBit i <;> cases b.testBit i <;> rfl
theorem popTo_incl (a b : Nat) : ∀ k, popTo a k + popTo b k = popTo (a ||| b) k + popTo (a &&& b) k
  | 0 => rfl
  | k + 1 => by
    have ih := popTo_incl a b k
    simp only [popTo, Nat.testBit_or, Nat.testBit_and]
    cases a.testBit k <;> cases b.testBit k <;> simp <;> omega
theorem popTo_parts {a b : Nat} (ha : a < 2 ^ 32) (hb : b < 2 ^ 32) : ∀ k, popTo (a &&& b) k + popTo (lessM a b) k = popTo a k
  | 0 => rfl
  | k + 1 => by
    have ih := popTo_parts ha hb k
    simp only [popTo, Nat.testBit_and, lessM_bit _ _ _ hb ha]
    cases a.testBit k <;> cases b.testBit k <;> simp <;> omega
theorem sub_iff {a b : Nat} (ha : a < 2 ^ 32) (hb : b < 2 ^ 32) : subM a b = true ↔ ∀ i, i < 32 → a.testBit i = true → b.testBit i = true := by
  unfold subM
  simp only [beq_iff_eq]
  constructor
  · intro h i hi hai
    have e := lessM_bit a b i hb ha
    rw [h, Nat.zero_testBit, hai] at e
    cases hbi : b.testBit i
    · rw [hbi] at e; cases e
    · rfl
  · intro h
    refine mask_ext (lessM_lt _ _ ha) (by decide) fun i hi => ?_
    rw [lessM_bit _ _ _ hb ha, Nat.zero_testBit]
    cases hai : a.testBit i
    · rfl
    · rw [h i hi hai]; rfl
theorem sub_trans {a b c : Nat} (ha : a < 2 ^ 32) (hb : b < 2 ^ 32) (hc : c < 2 ^ 32) (h1 : subM a b = true) (h2 : subM b c = true) : subM a c = true :=
  (sub_iff ha hc).2 fun i hi h => (sub_iff hb hc).1 h2 i hi ((sub_iff ha hb).1 h1 i hi h)
theorem sub_anti {a b : Nat} (ha : a < 2 ^ 32) (hb : b < 2 ^ 32) : (subM a b && subM b a) = eqM a b := by
  rw [Bool.eq_iff_iff]
  simp only [Bool.and_eq_true, eqM, decide_eq_true_eq]
  constructor
  · rintro ⟨h1, h2⟩
    refine mask_ext ha hb fun i hi => ?_
    rw [Bool.eq_iff_iff]
    exact ⟨(sub_iff ha hb).1 h1 i hi, (sub_iff hb ha).1 h2 i hi⟩
  · rintro rfl
    exact ⟨(sub_iff ha ha).2 fun _ _ h => h, (sub_iff ha ha).2 fun _ _ h => h⟩
theorem sub_join {a b : Nat} (ha : a < 2 ^ 32) (hb : b < 2 ^ 32) : subM a b = eqM (a ||| b) b := by
  rw [Bool.eq_iff_iff, sub_iff ha hb]
  simp only [eqM, decide_eq_true_eq]
  constructor
  · intro h
    refine mask_ext (or_lt ha hb) hb fun i hi => ?_
    rw [Nat.testBit_or]
    cases hai : a.testBit i
    · simp
    · rw [h i hi hai]; rfl
  · intro h i hi hai
    rw [← h, Nat.testBit_or, hai]
    rfl
end Go.Proofs.Ythnoafmdecehcaa
