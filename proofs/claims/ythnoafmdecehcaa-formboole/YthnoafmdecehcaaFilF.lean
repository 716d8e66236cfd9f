/- The plain mathematics of blocks and merge. -/
import Derived.Test.YthnoafmdecehcaaFilE
namespace Rm
open Go Go.RowKit
theorem xor16 : ∀ a < 16, ∀ b < 16, bits .xor .i64 ((a : Nat) : Int) ((b : Nat) : Int) = ((a ^^^ b : Nat) : Int) := by decide +kernel
theorem andNot16' : ∀ a < 16, ∀ b < 16, bits .andNot .i64 ((a : Nat) : Int) ((b : Nat) : Int) = ((a &&& (15 - b) : Nat) : Int) := by decide +kernel
theorem xor16_lt : ∀ a < 16, ∀ b < 16, a ^^^ b < 16 := by decide +kernel
theorem andNot16_lt (a b : Nat) (h : a < 16) : a &&& (15 - b) < 16 := Nat.lt_of_le_of_lt Nat.and_le_left h
/-- the block of one combination of tags -/
def blk1 (T : Nat → Nat) (k : Nat) : Bx := ((k, 15 - k), T k)
theorem not15 : ∀ k < 16, bits .andNot .i64 15 ((k : Nat) : Int) = ((15 - k : Nat) : Int) := by decide +kernel
def blkT (T : Nat → Nat) : Nat → List Bx
  | 0 => []
  | k + 1 => if T k = 0 then blkT T k else blkT T k ++ [blk1 T k]
theorem blkT_no {T : Nat → Nat} {k : Nat} (h : T k = 0) : blkT T (k + 1) = blkT T k := by simp [blkT, h]
theorem blkT_yes {T : Nat → Nat} {k : Nat} (h : ¬ T k = 0) : blkT T (k + 1) = blkT T k ++ [blk1 T k] := by simp [blkT, h]
theorem blkT_len (T : Nat → Nat) : ∀ k, (blkT T k).length ≤ k
  | 0 => Nat.le_refl _
  | k + 1 => by
    have := blkT_len T k
    unfold blkT
    split
    · omega
    · simp; omega
theorem blkT_mem (T : Nat → Nat) (b : Bx) : ∀ k, b ∈ blkT T k → ∃ i, i < k ∧ b = blk1 T i
  | 0, h => by cases h
  | k + 1, h => by
    unfold blkT at h
    split at h
    · obtain ⟨i, a, b⟩ := blkT_mem T b k h; exact ⟨i, by omega, b⟩
    · rcases List.mem_append.1 h with h | h
      · obtain ⟨i, a, b⟩ := blkT_mem T b k h; exact ⟨i, by omega, b⟩
      · exact ⟨k, by omega, by simpa using h⟩
theorem vld15 : ∀ k < 16, Nat.land k (15 - k) = 0 := by decide
theorem blkT_ok {T : Nat → Nat} (hT : ∀ t, t < 16 → T t < 2 ^ 32) {k : Nat} (hk : k ≤ 16) : OkF (blkT T k) := by
  intro b hb
  obtain ⟨i, hi, rfl⟩ := blkT_mem T b k hb
  exact ⟨⟨by simp [blk1]; omega, by simp [blk1]; omega, vld15 i (by omega)⟩, hT i (by omega)⟩
def inTab : Bool := (List.range 16).all fun k => (List.range 16).all fun t => hasR ((k : Nat) : Int) ((15 - k : Nat) : Int) ((t : Nat) : Int) == decide (k = t)
theorem inTab_true : inTab = true := by decide +kernel
theorem in_blk1 (T : Nat → Nat) {k t : Nat} (hk : k < 16) (ht : t < 16) : inC (blk1 T k) t = decide (k = t) := by
  have H := inTab_true
  unfold inTab at H
  rw [List.all_eq_true] at H
  have := H k (List.mem_range.2 hk)
  rw [List.all_eq_true] at this
  have h2 := this t (List.mem_range.2 ht)
  rw [beq_iff_eq] at h2
  exact h2
theorem tab_blkT (T : Nat → Nat) {t : Nat} (ht : t < 16) : ∀ k, k ≤ 16 → tabF (blkT T k) t = if t < k then T t else 0
  | 0, _ => by simp [blkT, tabF]
  | k + 1, hk => by
    have ih := tab_blkT T ht k (by omega)
    unfold blkT
    split
    · rename_i h
      rw [ih]
      by_cases e : t = k
      · subst e; rw [if_neg (by omega), if_pos (by omega), h]
      · have : (t < k) ↔ (t < k + 1) := by omega
        simp only [this]
    · rw [tabF_snoc, ih, addB, in_blk1 T (by omega) ht]
      by_cases e : k = t
      · subst e
        rw [if_pos (by simp), if_neg (by omega), if_pos (by omega)]
        simp [blk1]
      · have : (t < k) ↔ (t < k + 1) := by omega
        rw [if_neg (by simpa using e)]
        simp only [this]

/-- what merge looks for, and what it makes of two -/
def twin (g : Nat) (b : Bx) : Bx := ((b.1.1 ^^^ g, b.1.2 ^^^ g), b.2)
def both (g : Nat) (b : Bx) : Bx := ((b.1.1 &&& (15 - g), b.1.2 &&& (15 - g)), b.2)
def twinTab (i : Nat) : Bool := (List.range 16).all fun y => (List.range 16).all fun n => (List.range 16).all fun t =>
  !(Nat.land y n == 0 && Nat.land (y ^^^ 2 ^ i) (n ^^^ 2 ^ i) == 0) ||
  ((hasR ((y &&& (15 - 2 ^ i) : Nat) : Int) ((n &&& (15 - 2 ^ i) : Nat) : Int) ((t : Nat) : Int) == (hasR ((y ^^^ 2 ^ i : Nat) : Int) ((n ^^^ 2 ^ i : Nat) : Int) ((t : Nat) : Int) || hasR ((y : Nat) : Int) ((n : Nat) : Int) ((t : Nat) : Int))) && (Nat.land (y &&& (15 - 2 ^ i)) (n &&& (15 - 2 ^ i)) == 0))
theorem twinTab0 : twinTab 0 = true := by decide +kernel
theorem twinTab1 : twinTab 1 = true := by decide +kernel
theorem twinTab2 : twinTab 2 = true := by decide +kernel
theorem twinTab3 : twinTab 3 = true := by decide +kernel
theorem twinTab_all (i : Nat) (h : i < 4) : twinTab i = true := by
  match i, h with
  | 0, _ => exact twinTab0
  | 1, _ => exact twinTab1
  | 2, _ => exact twinTab2
  | 3, _ => exact twinTab3
theorem twin_both {i : Nat} (hi : i < 4) {b : Bx} (h : OkB b) (h' : OkB (twin (2 ^ i) b)) : OkB (both (2 ^ i) b) ∧ ∀ t, t < 16 → inC (both (2 ^ i) b) t = (inC (twin (2 ^ i) b) t || inC b t) := by
  obtain ⟨⟨y, n⟩, m⟩ := b
  obtain ⟨⟨h1, h2, h3⟩, h4⟩ := h
  obtain ⟨⟨_, _, h5⟩, _⟩ := h'
  simp only [twin] at h1 h2 h3 h4 h5
  have key : ∀ t, t < 16 → _ := fun t ht => by
    have H := twinTab_all i hi
    unfold twinTab at H
    rw [List.all_eq_true] at H
    have H1 := H y (List.mem_range.2 h1)
    rw [List.all_eq_true] at H1
    have H2 := H1 n (List.mem_range.2 h2)
    rw [List.all_eq_true] at H2
    have H3 := H2 t (List.mem_range.2 ht)
    rw [h3, h5] at H3
    simp only [beq_self_eq_true, Bool.and_self, Bool.not_true, Bool.false_or, Bool.and_eq_true, beq_iff_eq] at H3
    exact H3
  refine ⟨⟨⟨andNot16_lt _ _ h1, andNot16_lt _ _ h2, (key 0 (by omega)).2⟩, h4⟩, fun t ht => (key t ht).1⟩
/-- a block put to those that were merged -/
theorem tab_set {M : List Bx} {b : Bx} {i j : Nat} (hi : i < 4) (hM : OkF M) (hb : OkB b) (hj : M[j]? = some (twin (2 ^ i) b)) : OkF (M.set j (both (2 ^ i) b)) ∧ ∀ t, t < 16 → tabF (M.set j (both (2 ^ i) b)) t = addB t (tabF M t) b := by
  have hjl : j < M.length := (List.getElem?_eq_some_iff.1 hj).1
  obtain ⟨k1, k2⟩ := twin_both hi hb (hM _ (List.mem_of_getElem? hj))
  have hmem : ∀ c, c ∈ M.set j (both (2 ^ i) b) ↔ c = both (2 ^ i) b ∨ ∃ l, l ≠ j ∧ M[l]? = some c := by
    intro c
    rw [List.mem_iff_getElem?]
    constructor
    · rintro ⟨l, hl⟩
      by_cases e : l = j
      · subst e
        rw [List.getElem?_set_self hjl] at hl
        exact .inl (by simpa using hl.symm)
      · rw [List.getElem?_set_ne (fun h => e h.symm)] at hl
        exact .inr ⟨l, e, hl⟩
    · rintro (rfl | ⟨l, e, hl⟩)
      · exact ⟨j, List.getElem?_set_self hjl⟩
      · exact ⟨l, by rw [List.getElem?_set_ne (fun h => e h.symm)]; exact hl⟩
  refine ⟨fun c hc => ?_, fun t ht => ?_⟩
  · rcases (hmem c).1 hc with rfl | ⟨l, _, hl⟩
    · exact k1
    · exact hM c (List.mem_of_getElem? hl)
  · apply Nat.eq_of_testBit_eq
    intro n
    rw [Bool.eq_iff_iff, tabF_bit]
    have e1 : (addB t (tabF M t) b).testBit n = true ↔ (tabF M t).testBit n = true ∨ (inC b t = true ∧ b.2.testBit n = true) := by
      unfold addB
      split
      · rename_i h; simp [h]
      · rename_i h; simp [h]
    rw [e1, tabF_bit]
    constructor
    · rintro ⟨c, hc, h1, h2⟩
      rcases (hmem c).1 hc with rfl | ⟨l, _, hl⟩
      · rw [k2 t ht, Bool.or_eq_true] at h1
        rcases h1 with h1 | h1
        · exact .inl ⟨_, List.mem_of_getElem? hj, h1, h2⟩
        · exact .inr ⟨h1, h2⟩
      · exact .inl ⟨c, List.mem_of_getElem? hl, h1, h2⟩
    · rintro (⟨c, hc, h1, h2⟩ | ⟨h1, h2⟩)
      · obtain ⟨l, hl⟩ := List.mem_iff_getElem?.1 hc
        by_cases e : l = j
        · subst e
          rw [hj] at hl
          obtain rfl := Option.some.inj hl
          exact ⟨both (2 ^ i) b, (hmem _).2 (.inl rfl), by rw [k2 t ht, h1]; rfl, h2⟩
        · exact ⟨c, (hmem c).2 (.inr ⟨l, e, hl⟩), h1, h2⟩
      · exact ⟨both (2 ^ i) b, (hmem _).2 (.inl rfl), by rw [k2 t ht, h1]; simp, h2⟩

/-- the cells of a list of blocks -/
def flatK (l : List Bx) : List Value := l.flatMap fun b => [.int .i64 (b.1.1 : Nat), .int .i64 (b.1.2 : Nat), .int .u64 (b.2 : Nat)]
theorem flatK_cons (p : Bx) (l : List Bx) : flatK (p :: l) = .int .i64 (p.1.1 : Nat) :: .int .i64 (p.1.2 : Nat) :: .int .u64 (p.2 : Nat) :: flatK l := rfl
theorem flatK_app (l r : List Bx) : flatK (l ++ r) = flatK l ++ flatK r := by simp [flatK]
theorem flatK_len (l : List Bx) : (flatK l).length = l.length * 3 := by
  induction l with
  | nil => rfl
  | cons p l ih => rw [flatK_cons]; simp [ih]; omega
theorem flatK_at (l : List Bx) (i : Nat) (p : Bx) (h : l[i]? = some p) : (flatK l)[i * 3]? = some (.int .i64 (p.1.1 : Nat)) ∧ (flatK l)[i * 3 + 1]? = some (.int .i64 (p.1.2 : Nat)) ∧ (flatK l)[i * 3 + 2]? = some (.int .u64 (p.2 : Nat)) := by
  induction l generalizing i with
  | nil => simp at h
  | cons q l ih =>
    rw [flatK_cons]
    cases i with
    | zero => simp at h; subst h; simp
    | succ i =>
      have e : (i + 1) * 3 = i * 3 + 1 + 1 + 1 := by omega
      rw [e]
      simpa using ih i (by simpa using h)
theorem flatK_set (l : List Bx) (i : Nat) (p q : Bx) (h : l[i]? = some p) (e : p.2 = q.2) : ((flatK l).set (i * 3) (.int .i64 (q.1.1 : Nat))).set (i * 3 + 1) (.int .i64 (q.1.2 : Nat)) = flatK (l.set i q) := by
  induction l generalizing i with
  | nil => simp at h
  | cons r l ih =>
    cases i with
    | zero => simp at h; subst h; simp [flatK_cons, e]
    | succ i =>
      have e : (i + 1) * 3 = i * 3 + 1 + 1 + 1 := by omega
      have e2 : (r :: l).set (i + 1) q = r :: l.set i q := rfl
      rw [e, e2, flatK_cons, flatK_cons]
      simpa using ih i (by simpa using h)
end Rm
