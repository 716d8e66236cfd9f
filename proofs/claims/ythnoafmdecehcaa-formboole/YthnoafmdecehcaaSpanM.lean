/- The plain mathematics of sets of integers as sorted lists of intervals: a valid list is told by its members. -/
import Derived.Test.YthnoafmdecehcaaPure
namespace Rm

/-- sorted, apart, not adjacent, from lo on, below 32 -/
def VF : Nat → List (Nat × Nat) → Prop
  | _, [] => True
  | lo, p :: l => lo ≤ p.1 ∧ p.1 < p.2 ∧ p.2 ≤ 32 ∧ VF (p.2 + 1) l
/-- is a number in a list of intervals? -/
def memS (l : List (Nat × Nat)) (n : Nat) : Prop := ∃ p ∈ l, p.1 ≤ n ∧ n < p.2

theorem memS_nil (n : Nat) : ¬ memS [] n := by rintro ⟨p, hp, _⟩; cases hp
theorem memS_cons (p : Nat × Nat) (l : List (Nat × Nat)) (n : Nat) : memS (p :: l) n ↔ (p.1 ≤ n ∧ n < p.2) ∨ memS l n := by simp [memS]
theorem memS_app (l r : List (Nat × Nat)) (n : Nat) : memS (l ++ r) n ↔ memS l n ∨ memS r n := by
  induction l with
  | nil => simp [memS]
  | cons p l ih => rw [List.cons_append, memS_cons, memS_cons, ih, or_assoc]
theorem memS_one (f t n : Nat) : memS [(f, t)] n ↔ f ≤ n ∧ n < t := by simp [memS]
theorem VF.mono {lo lo' : Nat} {l : List (Nat × Nat)} (h : VF lo l) (hl : lo' ≤ lo) : VF lo' l := by
  cases l with
  | nil => trivial
  | cons p l => exact ⟨by have := h.1; omega, h.2⟩
theorem VF.ge {lo : Nat} {l : List (Nat × Nat)} (h : VF lo l) {n : Nat} (hn : memS l n) : lo ≤ n ∧ n < 32 := by
  induction l generalizing lo with
  | nil => exact absurd hn (memS_nil n)
  | cons p l ih =>
    obtain ⟨h1, h2, h3, h4⟩ := h
    rcases (memS_cons p l n).1 hn with h | h
    · omega
    · have := ih h4 h; omega
theorem VF.len {lo : Nat} {l : List (Nat × Nat)} (h : VF lo l) (hl : l ≠ []) : lo + 2 * l.length ≤ 33 := by
  induction l generalizing lo with
  | nil => exact absurd rfl hl
  | cons p l ih =>
    obtain ⟨h1, h2, h3, h4⟩ := h
    cases l with
    | nil => simp; omega
    | cons q l => have := ih h4 (by simp); simp at this ⊢; omega
theorem VF.len16 {l : List (Nat × Nat)} (h : VF 0 l) : l.length ≤ 16 := by
  cases l with
  | nil => simp
  | cons p l => have := h.len (by simp); simp at this ⊢; omega

theorem VF.uniq {a a' : Nat} {l l' : List (Nat × Nat)} (h : VF a l) (h' : VF a' l') (e : ∀ n, memS l n ↔ memS l' n) : l = l' := by
  induction l generalizing a a' l' with
  | nil =>
    cases l' with
    | nil => rfl
    | cons p r =>
      obtain ⟨_, h2, _, _⟩ := h'
      exact absurd ((e p.1).2 ((memS_cons p r p.1).2 (.inl ⟨Nat.le_refl _, h2⟩))) (memS_nil _)
  | cons p l ih =>
    cases l' with
    | nil =>
      obtain ⟨_, h2, _, _⟩ := h
      exact absurd ((e p.1).1 ((memS_cons p l p.1).2 (.inl ⟨Nat.le_refl _, h2⟩))) (memS_nil _)
    | cons q r =>
      obtain ⟨f, t⟩ := p
      obtain ⟨f', t'⟩ := q
      obtain ⟨h1, h2, h3, h4⟩ := h
      obtain ⟨g1, g2, g3, g4⟩ := h'
      simp only at h1 h2 h3 h4 g1 g2 g3 g4
      have ef : f = f' := by
        have a1 := (memS_cons _ _ _).1 ((e f).1 ((memS_cons (f, t) l f).2 (.inl ⟨Nat.le_refl _, h2⟩)))
        have a2 := (memS_cons _ _ _).1 ((e f').2 ((memS_cons (f', t') r f').2 (.inl ⟨Nat.le_refl _, g2⟩)))
        have b1 : f' ≤ f := by
          rcases a1 with a | a
          · exact a.1
          · have := g4.ge a; omega
        have b2 : f ≤ f' := by
          rcases a2 with a | a
          · exact a.1
          · have := h4.ge a; omega
        omega
      subst ef
      have et : t = t' := by
        rcases Nat.lt_trichotomy t t' with c | c | c
        · have a2 := (memS_cons _ _ _).1 ((e t).2 ((memS_cons (f, t') r t).2 (.inl ⟨by simp only; omega, c⟩)))
          rcases a2 with a | a
          · simp only at a; omega
          · have := h4.ge a; omega
        · exact c
        · have a2 := (memS_cons _ _ _).1 ((e t').1 ((memS_cons (f, t) l t').2 (.inl ⟨by simp only; omega, c⟩)))
          rcases a2 with a | a
          · simp only at a; omega
          · have := g4.ge a; omega
      subst et
      congr 1
      refine ih h4 g4 fun n => ⟨fun hn => ?_, fun hn => ?_⟩
      · have := h4.ge hn
        rcases (memS_cons _ _ _).1 ((e n).1 ((memS_cons (f, t) l n).2 (.inr hn))) with a | a
        · simp only at a; omega
        · exact a
      · have := g4.ge hn
        rcases (memS_cons _ _ _).1 ((e n).2 ((memS_cons (f, t) r n).2 (.inr hn))) with a | a
        · simp only at a; omega
        · exact a

/-- put an interval behind -/
theorem VF.snoc {lo f t : Nat} {l : List (Nat × Nat)} (h : VF lo l) (hl : ∀ p ∈ l, p.2 < f) (h0 : lo ≤ f) (h1 : f < t) (h2 : t ≤ 32) : VF lo (l ++ [(f, t)]) := by
  induction l generalizing lo with
  | nil => exact ⟨h0, h1, h2, trivial⟩
  | cons p l ih =>
    obtain ⟨a1, a2, a3, a4⟩ := h
    exact ⟨a1, a2, a3, ih a4 (fun q hq => hl q (List.mem_cons_of_mem _ hq)) (by have := hl p (List.mem_cons_self ..); omega)⟩
theorem VF.front {lo f t : Nat} {l : List (Nat × Nat)} (h : VF lo (l ++ [(f, t)])) : VF lo l ∧ (∀ p ∈ l, p.2 < f) ∧ lo ≤ f ∧ f < t ∧ t ≤ 32 := by
  induction l generalizing lo with
  | nil => exact ⟨trivial, by simp, h.1, h.2.1, h.2.2.1⟩
  | cons p l ih =>
    obtain ⟨a1, a2, a3, a4⟩ := h
    obtain ⟨b1, b2, b3, b4, b5⟩ := ih a4
    refine ⟨⟨a1, a2, a3, b1⟩, fun q hq => ?_, by omega, b4, b5⟩
    rcases List.mem_cons.1 hq with rfl | hq
    · omega
    · exact b2 q hq

/-- the set of a function, from the front: as package span makes it -/
def push (l : List (Nat × Nat)) (n : Nat) : List (Nat × Nat) :=
  match l.getLast? with
  | some p => if p.2 = n then l.dropLast ++ [(p.1, n + 1)] else l ++ [(n, n + 1)]
  | none => [(n, n + 1)]
def listTo (s : Nat → Bool) : Nat → List (Nat × Nat)
  | 0 => []
  | n + 1 => if s n then push (listTo s n) n else listTo s n

theorem push_nil (n : Nat) : push [] n = [(n, n + 1)] := rfl
theorem push_snoc (l : List (Nat × Nat)) (f t n : Nat) : push (l ++ [(f, t)]) n = if t = n then l ++ [(f, n + 1)] else l ++ [(f, t)] ++ [(n, n + 1)] := by
  simp [push]
theorem push_ok {l : List (Nat × Nat)} {n : Nat} (h : VF 0 l) (hl : ∀ p ∈ l, p.2 ≤ n) (hn : n < 32) :
    VF 0 (push l n) ∧ (∀ p ∈ push l n, p.2 ≤ n + 1) ∧ ∀ i, memS (push l n) i ↔ memS l i ∨ i = n := by
  rcases List.eq_nil_or_concat l with rfl | ⟨l, ⟨f, t⟩, rfl⟩
  · rw [push_nil]
    refine ⟨⟨by omega, by simp, by simp; omega, trivial⟩, by simp, fun i => ?_⟩
    rw [memS_one]
    simp [memS]
    omega
  · rw [List.concat_eq_append] at *
    obtain ⟨a1, a2, a3, a4, a5⟩ := h.front
    have ht : t ≤ n := hl (f, t) (by simp)
    rw [push_snoc]
    split
    · rename_i e
      subst e
      refine ⟨a1.snoc a2 a3 (by omega) (by omega), fun p hp => ?_, fun i => ?_⟩
      · rcases List.mem_append.1 hp with hp | hp
        · have := a2 p hp; omega
        · simp at hp; subst hp; simp
      · rw [memS_app, memS_app, memS_one, memS_one, or_assoc]
        have : (f ≤ i ∧ i < t + 1) ↔ ((f ≤ i ∧ i < t) ∨ i = t) := by omega
        rw [this]
    · rename_i e
      refine ⟨h.snoc (fun p hp => ?_) (by omega) (by omega) (by omega), fun p hp => ?_, fun i => ?_⟩
      · rcases List.mem_append.1 hp with hp | hp
        · have := a2 p hp; omega
        · simp at hp; subst hp; simp; omega
      · rcases List.mem_append.1 hp with hp | hp
        · have := hl p hp; omega
        · simp at hp; subst hp; simp
      · rw [memS_app (l ++ [(f, t)]), memS_one]
        have : (n ≤ i ∧ i < n + 1) ↔ i = n := by omega
        rw [this]
theorem listTo_ok (s : Nat → Bool) : ∀ n, n ≤ 32 → VF 0 (listTo s n) ∧ (∀ p ∈ listTo s n, p.2 ≤ n) ∧ ∀ i, memS (listTo s n) i ↔ i < n ∧ s i = true
  | 0, _ => ⟨trivial, by simp [listTo], fun i => by simp [listTo, memS]⟩
  | n + 1, h => by
    obtain ⟨h1, h2, h3⟩ := listTo_ok s n (by omega)
    unfold listTo
    cases hs : s n
    · simp only [Bool.false_eq_true, if_false]
      refine ⟨h1, fun p hp => by have := h2 p hp; omega, fun i => ?_⟩
      rw [h3]
      constructor
      · rintro ⟨a, b⟩; exact ⟨by omega, b⟩
      · rintro ⟨a, b⟩
        refine ⟨?_, b⟩
        rcases Nat.lt_or_ge i n with c | c
        · exact c
        · have : i = n := by omega
          subst this
          rw [hs] at b; cases b
    · simp only [if_true]
      obtain ⟨g1, g2, g3⟩ := push_ok h1 h2 (by omega)
      refine ⟨g1, g2, fun i => ?_⟩
      rw [g3, h3]
      constructor
      · rintro (⟨a, b⟩ | rfl)
        · exact ⟨by omega, b⟩
        · exact ⟨by omega, hs⟩
      · rintro ⟨a, b⟩
        rcases Nat.lt_or_ge i n with c | c
        · exact .inl ⟨c, b⟩
        · exact .inr (by omega)

/-- the same set, from behind: as the document's answer makes it -/
def pre (l : List (Nat × Nat)) (n : Nat) : List (Nat × Nat) :=
  match l with
  | [] => [(n, n + 1)]
  | p :: r => if p.1 = n + 1 then (n, p.2) :: r else (n, n + 1) :: p :: r
def toldTo (s : Nat → Bool) : Nat → List (Nat × Nat)
  | 0 => []
  | k + 1 => if s (31 - k) then pre (toldTo s k) (31 - k) else toldTo s k
theorem pre_ok {l : List (Nat × Nat)} {n : Nat} (h : VF (n + 1) l) (hn : n < 32) : VF n (pre l n) ∧ ∀ i, memS (pre l n) i ↔ memS l i ∨ i = n := by
  cases l with
  | nil =>
    refine ⟨⟨Nat.le_refl _, by simp, by simp; omega, trivial⟩, fun i => ?_⟩
    simp only [pre]
    rw [memS_one]
    simp [memS]
    omega
  | cons p r =>
    obtain ⟨f, t⟩ := p
    obtain ⟨a1, a2, a3, a4⟩ := h
    simp only at a1 a2 a3 a4
    simp only [pre]
    split
    · rename_i e
      subst e
      refine ⟨⟨Nat.le_refl _, by simp only; omega, a3, a4⟩, fun i => ?_⟩
      rw [memS_cons, memS_cons]
      simp only
      have : (n ≤ i ∧ i < t) ↔ ((n + 1 ≤ i ∧ i < t) ∨ i = n) := by omega
      rw [this]
      constructor
      · rintro ((c | c) | c)
        · exact .inl (.inl c)
        · exact .inr c
        · exact .inl (.inr c)
      · rintro ((c | c) | c)
        · exact .inl (.inl c)
        · exact .inr c
        · exact .inl (.inr c)
    · rename_i e
      refine ⟨⟨Nat.le_refl _, by simp, by simp; omega, ⟨by simp only; omega, a2, a3, a4⟩⟩, fun i => ?_⟩
      rw [memS_cons]
      simp only
      have : (n ≤ i ∧ i < n + 1) ↔ i = n := by omega
      rw [this]
      exact or_comm
theorem toldTo_ok (s : Nat → Bool) : ∀ k, k ≤ 32 → VF (32 - k) (toldTo s k) ∧ ∀ i, memS (toldTo s k) i ↔ 32 - k ≤ i ∧ i < 32 ∧ s i = true
  | 0, _ => ⟨trivial, fun i => by simp [toldTo, memS]; omega⟩
  | k + 1, h => by
    obtain ⟨h1, h2⟩ := toldTo_ok s k (by omega)
    unfold toldTo
    have e : 32 - (k + 1) = 31 - k := by omega
    have e2 : 32 - k = 31 - k + 1 := by omega
    rw [e]
    rw [e2] at h1 h2
    generalize 31 - k = n at *
    cases hs : s n
    · simp only [Bool.false_eq_true, if_false]
      refine ⟨h1.mono (by omega), fun i => ?_⟩
      rw [h2]
      constructor
      · rintro ⟨a, b, c⟩; exact ⟨by omega, b, c⟩
      · rintro ⟨a, b, c⟩
        refine ⟨?_, b, c⟩
        rcases Nat.lt_or_ge n i with d | d
        · omega
        · have : i = n := by omega
          subst this
          rw [hs] at c; cases c
    · simp only [if_true]
      have hn : n < 32 := by omega
      obtain ⟨g1, g2⟩ := pre_ok h1 hn
      refine ⟨g1, fun i => ?_⟩
      rw [g2, h2]
      constructor
      · rintro (⟨a, b, c⟩ | rfl)
        · exact ⟨by omega, b, c⟩
        · exact ⟨Nat.le_refl _, hn, hs⟩
      · rintro ⟨a, b, c⟩
        rcases Nat.lt_or_ge n i with d | d
        · exact .inl ⟨by omega, b, c⟩
        · exact .inr (by omega)
theorem told_eq (s : Nat → Bool) : toldTo s 32 = listTo s 32 := by
  obtain ⟨a1, a2⟩ := toldTo_ok s 32 (by omega)
  obtain ⟨b1, _, b2⟩ := listTo_ok s 32 (by omega)
  refine a1.uniq b1 fun n => ?_
  rw [a2, b2]
  constructor
  · rintro ⟨_, h⟩; exact h
  · rintro h; exact ⟨by omega, h⟩

/-- the list of a mask -/
def canon (m : Nat) : List (Nat × Nat) := listTo m.testBit 32
theorem canon_VF (m : Nat) : VF 0 (canon m) := (listTo_ok _ 32 (by omega)).1
theorem canon_mem (m i : Nat) : memS (canon m) i ↔ i < 32 ∧ m.testBit i = true := (listTo_ok _ 32 (by omega)).2.2 i

/-- the mask of a list, number by number -/
def orTo (m f : Nat) : Nat → Nat
  | 0 => m
  | k + 1 => orTo m f k ||| 2 ^ (f + k)
def maskL (l : List (Nat × Nat)) : Nat := l.foldl (fun m p => orTo m p.1 (p.2 - p.1)) 0
theorem maskL_snoc (l : List (Nat × Nat)) (p : Nat × Nat) : maskL (l ++ [p]) = orTo (maskL l) p.1 (p.2 - p.1) := by simp [maskL]
theorem orTo_bit (m f k i : Nat) : (orTo m f k).testBit i = (m.testBit i || decide (f ≤ i ∧ i < f + k)) := by
  induction k with
  | zero =>
    simp [orTo]
    omega
  | succ k ih =>
    simp only [orTo, Nat.testBit_or, ih, Nat.testBit_two_pow, Bool.or_assoc]
    congr 1
    rw [Bool.eq_iff_iff]
    simp
    omega
theorem orTo_lt {m f k : Nat} (hm : m < 2 ^ 32) (h : f + k ≤ 32) : orTo m f k < 2 ^ 32 := by
  induction k with
  | zero => exact hm
  | succ k ih => exact Nat.or_lt_two_pow (ih (by omega)) (Nat.pow_lt_pow_right (by omega) (by omega))
theorem foldl_bit (l : List (Nat × Nat)) (m i : Nat) (hl : ∀ p ∈ l, p.1 ≤ p.2) : (l.foldl (fun m p => orTo m p.1 (p.2 - p.1)) m).testBit i = true ↔ m.testBit i = true ∨ memS l i := by
  induction l generalizing m with
  | nil => simp [memS]
  | cons p l ih =>
    rw [List.foldl_cons, ih _ (fun q hq => hl q (List.mem_cons_of_mem _ hq)), orTo_bit, memS_cons]
    have := hl p (List.mem_cons_self ..)
    simp only [Bool.or_eq_true, decide_eq_true_eq, or_assoc]
    have e : p.1 + (p.2 - p.1) = p.2 := by omega
    rw [e]
theorem VF.le {lo : Nat} {l : List (Nat × Nat)} (h : VF lo l) : ∀ p ∈ l, p.1 < p.2 ∧ p.2 ≤ 32 := by
  induction l generalizing lo with
  | nil => simp
  | cons q l ih =>
    obtain ⟨_, h2, h3, h4⟩ := h
    intro p hp
    rcases List.mem_cons.1 hp with rfl | hp
    · exact ⟨h2, h3⟩
    · exact ih h4 p hp
theorem maskL_bit {l : List (Nat × Nat)} (h : VF 0 l) (i : Nat) : (maskL l).testBit i = true ↔ memS l i := by
  unfold maskL
  rw [foldl_bit l 0 i (fun p hp => Nat.le_of_lt (h.le p hp).1)]
  simp
theorem foldl_lt (l : List (Nat × Nat)) (m : Nat) (hm : m < 2 ^ 32) (hl : ∀ p ∈ l, p.1 < p.2 ∧ p.2 ≤ 32) : l.foldl (fun m p => orTo m p.1 (p.2 - p.1)) m < 2 ^ 32 := by
  induction l generalizing m with
  | nil => exact hm
  | cons p l ih =>
    have := hl p (List.mem_cons_self ..)
    exact ih _ (orTo_lt hm (by omega)) (fun q hq => hl q (List.mem_cons_of_mem _ hq))
theorem maskL_lt {l : List (Nat × Nat)} (hl : ∀ p ∈ l, p.1 < p.2 ∧ p.2 ≤ 32) : maskL l < 2 ^ 32 := foldl_lt l 0 (by decide) hl
theorem canon_maskL {l : List (Nat × Nat)} (h : VF 0 l) : canon (maskL l) = l := by
  refine (canon_VF _).uniq h fun n => ?_
  rw [canon_mem, maskL_bit h]
  exact ⟨fun a => a.2, fun a => ⟨(h.ge a).2, a⟩⟩
theorem maskL_canon {m : Nat} (hm : m < 2 ^ 32) : maskL (canon m) = m := by
  apply Nat.eq_of_testBit_eq
  intro i
  rw [Bool.eq_iff_iff, maskL_bit (canon_VF m), canon_mem]
  refine ⟨fun a => a.2, fun a => ⟨?_, a⟩⟩
  rcases Nat.lt_or_ge i 32 with c | c
  · exact c
  · have := Nat.testBit_lt_two_pow (Nat.lt_of_lt_of_le hm (Nat.pow_le_pow_right (by omega) c))
    rw [this] at a; cases a

end Rm
