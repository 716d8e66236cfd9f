/- The plain mathematics of the text form: trees, their texts and nodes; the parser reads just the texts of trees. -/
import Derived.Test.YtbodadddcbbjeaaDoorTextE
namespace Rm
open Go Go.RowKit

inductive Tr where
  | all
  | tag (a : Nat)
  | num (a b : Nat)
  | not (t : Tr)
  | both (t u : Tr)
  | any (t u : Tr)
/-- a number below 100 in decimal -/
def dec (n : Nat) : List UInt8 := if n < 10 then [UInt8.ofNat (48 + n)] else [UInt8.ofNat (48 + n / 10), UInt8.ofNat (48 + n % 10)]
def text : Tr → List UInt8
  | .all => [42]
  | .tag a => 35 :: dec a
  | .num a b => 91 :: (dec a ++ 44 :: (dec b ++ [41]))
  | .not t => 33 :: text t
  | .both t u => 40 :: (text t ++ 38 :: (text u ++ [41]))
  | .any t u => 40 :: (text t ++ 124 :: (text u ++ [41]))
def cnt : Tr → Nat
  | .all => 1
  | .tag _ => 1
  | .num _ _ => 1
  | .not t => cnt t + 1
  | .both t u => cnt t + cnt u + 1
  | .any t u => cnt t + cnt u + 1
def nodesAt (k : Nat) : Tr → List Nd
  | .all => [(1, 0, 0)]
  | .tag a => [(2, (a : Int), 0)]
  | .num a b => [(3, (a : Int), (b : Int))]
  | .not t => nodesAt k t ++ [(4, ((k + cnt t - 1 : Nat) : Int), 0)]
  | .both t u => nodesAt k t ++ nodesAt (k + cnt t) u ++ [(5, ((k + cnt t - 1 : Nat) : Int), ((k + cnt t + cnt u - 1 : Nat) : Int))]
  | .any t u => nodesAt k t ++ nodesAt (k + cnt t) u ++ [(6, ((k + cnt t - 1 : Nat) : Int), ((k + cnt t + cnt u - 1 : Nat) : Int))]
def evT : Tr → Pt
  | .all => fun _ _ => true
  | .tag a => fun t _ => t.testBit a
  | .num a b => fun _ x => decide ((a : Int) ≤ (x : Int)) && decide ((x : Int) < (b : Int))
  | .not u => fun t x => !evT u t x
  | .both u v => fun t x => evT u t x && evT v t x
  | .any u v => fun t x => evT u t x || evT v t x
/-- numbers of at most two digits -/
def Two99 : Tr → Prop
  | .all => True
  | .tag a => a ≤ 99
  | .num a b => a ≤ 99 ∧ b ≤ 99
  | .not t => Two99 t
  | .both t u => Two99 t ∧ Two99 u
  | .any t u => Two99 t ∧ Two99 u
/-- numbers that may be -/
def Vt : Tr → Prop
  | .all => True
  | .tag a => a < 4
  | .num a b => a < b ∧ b ≤ 32
  | .not t => Vt t
  | .both t u => Vt t ∧ Vt u
  | .any t u => Vt t ∧ Vt u
theorem Vt.two : ∀ {T : Tr}, Vt T → Two99 T
  | .all, _ => trivial
  | .tag a, h => by simp only [Vt] at h; simp only [Two99]; omega
  | .num a b, h => by simp only [Vt] at h; simp only [Two99]; omega
  | .not t, h => Vt.two (T := t) h
  | .both t u, h => ⟨Vt.two h.1, Vt.two h.2⟩
  | .any t u, h => ⟨Vt.two h.1, Vt.two h.2⟩
theorem cnt_pos : ∀ T : Tr, 0 < cnt T
  | .all => by decide
  | .tag _ => by simp [cnt]
  | .num _ _ => by simp [cnt]
  | .not t => by simp [cnt]
  | .both t u => by simp [cnt]
  | .any t u => by simp [cnt]
theorem nodesAt_len : ∀ (T : Tr) (k : Nat), (nodesAt k T).length = cnt T
  | .all, k => rfl
  | .tag _, k => rfl
  | .num _ _, k => rfl
  | .not t, k => by simp [nodesAt, cnt, nodesAt_len t]
  | .both t u, k => by simp [nodesAt, cnt, nodesAt_len t, nodesAt_len u]; omega
  | .any t u, k => by simp [nodesAt, cnt, nodesAt_len t, nodesAt_len u]; omega
theorem dec_pos (n : Nat) : 0 < (dec n).length := by unfold dec; split <;> simp
theorem text_pos : ∀ T : Tr, 0 < (text T).length := by intro T; cases T <;> simp [text]
theorem cnt_le : ∀ T : Tr, cnt T ≤ (text T).length
  | .all => by decide
  | .tag a => by have := dec_pos a; simp [cnt, text]
  | .num a b => by simp [cnt, text]
  | .not t => by have := cnt_le t; simp [cnt, text]; omega
  | .both t u => by have := cnt_le t; have := cnt_le u; simp [cnt, text]; omega
  | .any t u => by have := cnt_le t; have := cnt_le u; simp [cnt, text]; omega

/-! digits -/
theorem dig_byte : ∀ d < 10, digB (UInt8.ofNat (48 + d)) = true ∧ (UInt8.ofNat (48 + d)).toNat = 48 + d := by decide
theorem dig_of {c : UInt8} (h : digB c = true) : ∃ d, d < 10 ∧ c = UInt8.ofNat (48 + d) ∧ c.toNat = 48 + d := by
  have hb : 48 ≤ (c.toNat : Int) ∧ (c.toNat : Int) ≤ 57 := by simpa [digB] using h
  refine ⟨c.toNat - 48, by omega, ?_, by omega⟩
  have e : 48 + (c.toNat - 48) = c.toNat := by omega
  rw [e]
  exact (UInt8.ofNat_toNat).symm
/-- nothing, or a byte that is no digit -/
def NoDig (r : List UInt8) : Prop := ∀ d r', r = d :: r' → digB d = false
theorem NoDig.nil : NoDig [] := fun _ _ h => by cases h
theorem NoDig.cons {c : UInt8} (h : digB c = false) (r : List UInt8) : NoDig (c :: r) := fun d r' e => by cases e; exact h
theorem pNum_dec {a : Nat} (h : a ≤ 99) {r : List UInt8} (hr : NoDig r) : pNum (dec a ++ r) = some (a, r) := by
  unfold dec
  split
  · rename_i h10
    obtain ⟨h1, h2⟩ := dig_byte a h10
    cases r with
    | nil => simp only [List.cons_append, List.nil_append, pNum, h1, h2, if_true]; simp
    | cons d r' =>
      have hd := hr d r' rfl
      simp only [List.cons_append, List.nil_append, pNum, h1, h2, hd, if_true]
      simp
  · rename_i h10
    obtain ⟨h1, h2⟩ := dig_byte (a / 10) (by omega)
    obtain ⟨h3, h4⟩ := dig_byte (a % 10) (by omega)
    have hne : 48 + a / 10 ≠ 48 ∧ True := ⟨by omega, trivial⟩
    simp only [List.cons_append, List.nil_append, pNum, h1, h2, h3, h4, if_true]
    rw [if_pos ⟨by omega, trivial⟩]
    congr 2
    omega
theorem pNum_of {s r : List UInt8} {a : Nat} (h : pNum s = some (a, r)) : a ≤ 99 ∧ s = dec a ++ r := by
  unfold pNum at h
  split at h
  · cases h
  · rename_i c r0
    split at h
    · rename_i hc
      obtain ⟨d, hd, e, et⟩ := dig_of hc
      have one : ∀ x, dec d ++ x = c :: x := fun x => by unfold dec; rw [if_pos hd, e]; rfl
      split at h
      · cases h
        rw [et, show 48 + d - 48 = d from by omega, one]
        exact ⟨by omega, rfl⟩
      · rename_i d2 r'
        split at h
        · rename_i hh
          obtain ⟨b, hb, e2, et2⟩ := dig_of hh.2
          cases h
          have hd0 : d ≠ 0 := by omega
          rw [et, et2, show 10 * (48 + d - 48) + (48 + b - 48) = 10 * d + b from by omega]
          refine ⟨by omega, ?_⟩
          unfold dec
          rw [if_neg (by omega), show (10 * d + b) / 10 = d from by omega, show (10 * d + b) % 10 = b from by omega, e, e2]
          rfl
        · cases h
          rw [et, show 48 + d - 48 = d from by omega, one]
          exact ⟨by omega, rfl⟩
    · cases h
theorem pExp_of {x : UInt8} {s r : List UInt8} (h : pExp x s = some r) : s = x :: r := by
  unfold pExp at h
  split at h
  · cases h
  · split at h
    · rename_i e; cases h; rw [e]
    · cases h
theorem pExp_cons (x : UInt8) (r : List UInt8) : pExp x (x :: r) = some r := by simp [pExp]
theorem pOp_of {k : Int} {s r : List UInt8} (h : pOp s = some (k, r)) : (k = 5 ∧ s = 38 :: r) ∨ (k = 6 ∧ s = 124 :: r) := by
  unfold pOp at h
  split at h
  · cases h
  · split at h
    · rename_i e; cases h; exact .inl ⟨rfl, by rw [e]⟩
    · split at h
      · rename_i e; cases h; exact .inr ⟨rfl, by rw [e]⟩
      · cases h
theorem pIn_of {s r : List UInt8} {l m : List Nd} (h : pIn s l = some (r, m)) : ∃ a b, a ≤ 99 ∧ b ≤ 99 ∧ s = dec a ++ 44 :: (dec b ++ 41 :: r) ∧ m = l ++ [(3, (a : Int), (b : Int))] := by
  unfold pIn at h
  cases h1 : pNum s with
  | none => rw [h1] at h; cases h
  | some p =>
    rw [h1] at h
    obtain ⟨a, s1⟩ := p
    simp only at h
    cases h2 : pExp 44 s1 with
    | none => rw [h2] at h; cases h
    | some s2 =>
      rw [h2] at h
      simp only at h
      cases h3 : pNum s2 with
      | none => rw [h3] at h; cases h
      | some p =>
        rw [h3] at h
        obtain ⟨b, s3⟩ := p
        simp only at h
        cases h4 : pExp 41 s3 with
        | none => rw [h4] at h; cases h
        | some s4 =>
          rw [h4] at h
          cases h
          obtain ⟨a9, e1⟩ := pNum_of h1
          obtain ⟨b9, e3⟩ := pNum_of h3
          exact ⟨a, b, a9, b9, by rw [e1, pExp_of h2, e3, pExp_of h4], rfl⟩
/-- what the parser reads is the text of a tree, and it makes the tree's nodes -/
theorem pNode_of : ∀ (f : Nat) {s r : List UInt8} {l m : List Nd}, pNode f s l = some (r, m) → ∃ T, Two99 T ∧ s = text T ++ r ∧ m = l ++ nodesAt l.length T
  | 0, s, r, l, m, h => by simp [pNode] at h
  | f + 1, [], r, l, m, h => by simp [pNode] at h
  | f + 1, c :: s, r, l, m, h => by
    unfold pNode at h
    split at h
    · rename_i e; cases h; exact ⟨.all, trivial, by rw [e]; rfl, rfl⟩
    · split at h
      · rename_i e
        cases h1 : pNum s with
        | none => rw [h1] at h; cases h
        | some p =>
          rw [h1] at h
          cases h
          obtain ⟨a9, e1⟩ := pNum_of h1
          exact ⟨.tag _, a9, by rw [e, e1]; rfl, rfl⟩
      · split at h
        · rename_i e
          obtain ⟨a, b, a9, b9, e1, e2⟩ := pIn_of h
          exact ⟨.num a b, ⟨a9, b9⟩, by rw [e, e1]; simp [text], e2⟩
        · split at h
          · rename_i e
            cases h1 : pNode f s l with
            | none => rw [h1] at h; cases h
            | some p =>
              rw [h1] at h
              cases h
              obtain ⟨T, hT, e1, e2⟩ := pNode_of f h1
              refine ⟨.not T, hT, by rw [e, e1]; rfl, ?_⟩
              rw [e2]
              simp [nodesAt, nodesAt_len]
          · split at h
            · rename_i e
              cases h1 : pNode f s l with
              | none => rw [h1] at h; cases h
              | some p =>
                rw [h1] at h
                obtain ⟨s1, l1⟩ := p
                simp only at h
                cases h2 : pOp s1 with
                | none => rw [h2] at h; cases h
                | some p =>
                  rw [h2] at h
                  obtain ⟨k, s2⟩ := p
                  simp only at h
                  cases h3 : pNode f s2 l1 with
                  | none => rw [h3] at h; cases h
                  | some p =>
                    rw [h3] at h
                    obtain ⟨s3, l2⟩ := p
                    simp only at h
                    cases h4 : pExp 41 s3 with
                    | none => rw [h4] at h; cases h
                    | some s4 =>
                      rw [h4] at h
                      cases h
                      obtain ⟨T, hT, e1, e2⟩ := pNode_of f h1
                      obtain ⟨U, hU, e3, e4⟩ := pNode_of f h3
                      have e5 := pExp_of h4
                      have hl1 : l1.length = l.length + cnt T := by rw [e2]; simp [nodesAt_len]
                      rw [hl1] at e4
                      have hl2 : l2.length = l.length + cnt T + cnt U := by rw [e4]; simp [nodesAt_len, hl1]
                      rcases pOp_of h2 with ⟨rfl, e6⟩ | ⟨rfl, e6⟩
                      · refine ⟨.both T U, ⟨hT, hU⟩, by rw [e, e1, e6, e3, e5]; simp [text], ?_⟩
                        rw [hl2, hl1, e4, e2]
                        simp [nodesAt]
                      · refine ⟨.any T U, ⟨hT, hU⟩, by rw [e, e1, e6, e3, e5]; simp [text], ?_⟩
                        rw [hl2, hl1, e4, e2]
                        simp [nodesAt]
            · cases h
/-- and it reads every such text -/
theorem pNode_text : ∀ (T : Tr) (f : Nat) (r : List UInt8) (l : List Nd), Two99 T → NoDig r → (text T).length < f → pNode f (text T ++ r) l = some (r, l ++ nodesAt l.length T)
  | T, 0, r, l, _, _, hf => by omega
  | .all, f + 1, r, l, _, _, _ => rfl
  | .tag a, f + 1, r, l, h, hr, _ => by
    show (match pNum (dec a ++ r) with | none => none | some (a, s1) => some (s1, l ++ [(2, (a : Int), 0)])) = _
    rw [pNum_dec h hr]
    rfl
  | .num a b, f + 1, r, l, h, hr, _ => by
    have e : text (.num a b) ++ r = 91 :: (dec a ++ 44 :: (dec b ++ 41 :: r)) := by simp [text]
    rw [e]
    show pIn (dec a ++ 44 :: (dec b ++ 41 :: r)) l = _
    unfold pIn
    rw [pNum_dec h.1 (NoDig.cons (by decide) _)]
    simp only [pExp_cons]
    rw [pNum_dec h.2 (NoDig.cons (by decide) _)]
    simp only [pExp_cons]
    rfl
  | .not T, f + 1, r, l, h, hr, hf => by
    show (match pNode f (text T ++ r) l with | none => none | some (s1, l1) => some (s1, l1 ++ [(4, ((l1.length - 1 : Nat) : Int), 0)])) = _
    rw [pNode_text T f r l h hr (by simp [text] at hf; omega)]
    simp [nodesAt, nodesAt_len]
  | .both T U, f + 1, r, l, h, hr, hf => by
    have e : text (.both T U) ++ r = 40 :: (text T ++ 38 :: (text U ++ 41 :: r)) := by simp [text]
    simp [text] at hf
    rw [e, pNode_pair]
    unfold pPair
    rw [pNode_text T f _ l h.1 (NoDig.cons (by decide) _) (by omega)]
    simp only [show ∀ x, pOp (38 :: x) = some (5, x) from fun x => rfl]
    rw [pNode_text U f _ _ h.2 (NoDig.cons (by decide) _) (by omega)]
    simp only [pExp_cons]
    simp [nodesAt, nodesAt_len, Nat.add_assoc]
  | .any T U, f + 1, r, l, h, hr, hf => by
    have e : text (.any T U) ++ r = 40 :: (text T ++ 124 :: (text U ++ 41 :: r)) := by simp [text]
    simp [text] at hf
    rw [e, pNode_pair]
    unfold pPair
    rw [pNode_text T f _ l h.1 (NoDig.cons (by decide) _) (by omega)]
    simp only [show ∀ x, pOp (124 :: x) = some (6, x) from fun x => rfl]
    rw [pNode_text U f _ _ h.2 (NoDig.cons (by decide) _) (by omega)]
    simp only [pExp_cons]
    simp [nodesAt, nodesAt_len, Nat.add_assoc]
theorem parseL_of {s : List UInt8} {m : List Nd} (h : parseL s = some m) : ∃ T, Two99 T ∧ s = text T ∧ m = nodesAt 0 T := by
  unfold parseL at h
  split at h
  · rename_i m' e
    cases h
    obtain ⟨T, h1, h2, h3⟩ := pNode_of _ e
    exact ⟨T, h1, by simpa using h2, by simpa using h3⟩
  · cases h
theorem parseL_text {T : Tr} (h : Two99 T) : parseL (text T) = some (nodesAt 0 T) := by
  have := pNode_text T ((text T).length + 1) [] [] h NoDig.nil (by omega)
  unfold parseL
  simp only [List.append_nil] at this
  rw [this]
  simp
/-! which trees' nodes may be -/
theorem at_snoc {l : List Nd} {x n : Nd} {i : Nat} (h : (l ++ [x])[i]? = some n) : (l[i]? = some n) ∨ (i = l.length ∧ n = x) := by
  rcases Nat.lt_or_ge i l.length with c | c
  · rw [List.getElem?_append_left c] at h; exact .inl h
  · rw [List.getElem?_append_right c] at h
    rcases Nat.eq_zero_or_pos (i - l.length) with z | z
    · rw [z] at h; simp at h; exact .inr ⟨by omega, h.symm⟩
    · rw [List.getElem?_eq_none (by simp; omega)] at h; cases h
theorem at_app {l r : List Nd} {n : Nd} {i : Nat} (h : (l ++ r)[i]? = some n) : (l[i]? = some n) ∨ (l.length ≤ i ∧ r[i - l.length]? = some n) := by
  rcases Nat.lt_or_ge i l.length with c | c
  · rw [List.getElem?_append_left c] at h; exact .inl h
  · rw [List.getElem?_append_right c] at h; exact .inr ⟨c, h⟩
theorem okN_all (a b : Int) (i : Nat) : OkN (1, a, b) i := ⟨rfl, rfl⟩
theorem nodes_ok : ∀ (T : Tr) (k : Nat), Vt T → ∀ i n, (nodesAt k T)[i]? = some n → OkN n (k + i)
  | .all, k, h, i, n, hi => by
    simp [nodesAt] at hi
    rw [List.getElem?_eq_some_iff] at hi
    obtain ⟨h1, h2⟩ := hi
    simp at h1
    subst h1
    simp at h2
    subst h2
    exact okN_all _ _ _
  | .tag a, k, h, i, n, hi => by
    simp only [nodesAt] at hi
    rw [List.getElem?_eq_some_iff] at hi
    obtain ⟨h1, h2⟩ := hi
    simp at h1
    subst h1
    simp at h2
    subst h2
    exact okN_tag h
  | .num a b, k, h, i, n, hi => by
    simp only [nodesAt] at hi
    rw [List.getElem?_eq_some_iff] at hi
    obtain ⟨h1, h2⟩ := hi
    simp at h1
    subst h1
    simp at h2
    subst h2
    exact okN_num h.1 h.2
  | .not T, k, h, i, n, hi => by
    rcases at_snoc hi with c | ⟨rfl, rfl⟩
    · exact nodes_ok T k h i n c
    · have := cnt_pos T
      rw [nodesAt_len]
      exact okN_n (by omega)
  | .both T U, k, h, i, n, hi => by
    have := cnt_pos T
    have := cnt_pos U
    rcases at_snoc hi with c | ⟨rfl, rfl⟩
    · rcases at_app c with d | ⟨d1, d2⟩
      · exact nodes_ok T k h.1 i n d
      · rw [nodesAt_len] at d1 d2
        have := nodes_ok U (k + cnt T) h.2 _ n d2
        rwa [show k + cnt T + (i - cnt T) = k + i from by omega] at this
    · simp only [List.length_append, nodesAt_len]
      exact okN_b (by omega) (by omega)
  | .any T U, k, h, i, n, hi => by
    have := cnt_pos T
    have := cnt_pos U
    rcases at_snoc hi with c | ⟨rfl, rfl⟩
    · rcases at_app c with d | ⟨d1, d2⟩
      · exact nodes_ok T k h.1 i n d
      · rw [nodesAt_len] at d1 d2
        have := nodes_ok U (k + cnt T) h.2 _ n d2
        rwa [show k + cnt T + (i - cnt T) = k + i from by omega] at this
    · simp only [List.length_append, nodesAt_len]
      exact okN_a (by omega) (by omega)
theorem nodes_vt : ∀ (T : Tr) (k : Nat), (∀ i n, (nodesAt k T)[i]? = some n → OkN n (k + i)) → Vt T
  | .all, k, h => trivial
  | .tag a, k, h => by
    have := (h 0 (2, (a : Int), 0) rfl).2
    simp [okN] at this
    simp only [Vt]
    omega
  | .num a b, k, h => by
    have := (h 0 (3, (a : Int), (b : Int)) rfl).2
    simp [okN] at this
    exact ⟨by omega, by omega⟩
  | .not T, k, h => nodes_vt T k fun i n hi => h i n (by simp only [nodesAt]; rw [List.getElem?_append_left (List.getElem?_eq_some_iff.1 hi).1]; exact hi)
  | .both T U, k, h => ⟨nodes_vt T k fun i n hi => h i n (by simp only [nodesAt, List.append_assoc]; rw [List.getElem?_append_left (List.getElem?_eq_some_iff.1 hi).1]; exact hi),
      nodes_vt U (k + cnt T) fun i n hi => by
        have := h (cnt T + i) n (by simp only [nodesAt, List.append_assoc]; rw [List.getElem?_append_right (by rw [nodesAt_len]; omega), nodesAt_len, Nat.add_sub_cancel_left, List.getElem?_append_left (List.getElem?_eq_some_iff.1 hi).1]; exact hi)
        rwa [← Nat.add_assoc] at this⟩
  | .any T U, k, h => ⟨nodes_vt T k fun i n hi => h i n (by simp only [nodesAt, List.append_assoc]; rw [List.getElem?_append_left (List.getElem?_eq_some_iff.1 hi).1]; exact hi),
      nodes_vt U (k + cnt T) fun i n hi => by
        have := h (cnt T + i) n (by simp only [nodesAt, List.append_assoc]; rw [List.getElem?_append_right (by rw [nodesAt_len]; omega), nodesAt_len, Nat.add_sub_cancel_left, List.getElem?_append_left (List.getElem?_eq_some_iff.1 hi).1]; exact hi)
        rwa [← Nat.add_assoc] at this⟩
theorem nodes_okL {T : Tr} (h : Vt T) (hc : cnt T ≤ 30) : OkL (nodesAt 0 T) := ⟨by rw [nodesAt_len]; exact cnt_pos T, by rw [nodesAt_len]; exact hc, fun i n hi => by have := nodes_ok T 0 h i n hi; rwa [Nat.zero_add] at this⟩
theorem okL_nodes {T : Tr} (h : OkL (nodesAt 0 T)) : Vt T ∧ cnt T ≤ 30 := ⟨nodes_vt T 0 fun i n hi => by rw [Nat.zero_add]; exact h.2.2 i n hi, by rw [← nodesAt_len T 0]; exact h.2.1⟩
/-! what they say -/
theorem nodes_sem : ∀ (T : Tr) (l : List Nd), getP (semL (l ++ nodesAt l.length T)) (l.length + cnt T - 1) = evT T
  | .all, l => by
    show getP (semL (l ++ [(1, 0, 0)])) (l.length + 1 - 1) = _
    rw [Nat.add_sub_cancel, semL_end]; rfl
  | .tag a, l => by
    show getP (semL (l ++ [(2, (a : Int), 0)])) (l.length + 1 - 1) = _
    rw [Nat.add_sub_cancel, semL_end]; rfl
  | .num a b, l => by
    show getP (semL (l ++ [(3, (a : Int), (b : Int))])) (l.length + 1 - 1) = _
    rw [Nat.add_sub_cancel, semL_end]; rfl
  | .not T, l => by
    have h := nodes_sem T l
    simp only [nodesAt, cnt, ← List.append_assoc]
    rw [show l.length + (cnt T + 1) - 1 = (l ++ nodesAt l.length T).length from by simp [nodesAt_len], semL_end]
    funext t x
    simp only [ndP, ndB, evT]
    simp [h]
  | .both T U, l => by
    have h := nodes_sem T l
    have h2 := nodes_sem U (l ++ nodesAt l.length T)
    have hT := cnt_pos T
    rw [show (l ++ nodesAt l.length T).length = l.length + cnt T from by simp [nodesAt_len]] at h2
    have h1 : getP (semL (l ++ nodesAt l.length T ++ nodesAt (l.length + cnt T) U)) (l.length + cnt T - 1) = evT T := by
      rw [semL_more (by simp [nodesAt_len]; omega)]; exact h
    simp only [nodesAt, cnt, ← List.append_assoc]
    rw [show l.length + (cnt T + cnt U + 1) - 1 = (l ++ nodesAt l.length T ++ nodesAt (l.length + cnt T) U).length from by simp only [List.length_append, nodesAt_len]; omega, semL_end]
    funext t x
    rw [List.append_assoc] at h1 h2
    simp only [ndP, ndB, evT]
    simp [h1, h2]
  | .any T U, l => by
    have h := nodes_sem T l
    have h2 := nodes_sem U (l ++ nodesAt l.length T)
    have hT := cnt_pos T
    rw [show (l ++ nodesAt l.length T).length = l.length + cnt T from by simp [nodesAt_len]] at h2
    have h1 : getP (semL (l ++ nodesAt l.length T ++ nodesAt (l.length + cnt T) U)) (l.length + cnt T - 1) = evT T := by
      rw [semL_more (by simp [nodesAt_len]; omega)]; exact h
    simp only [nodesAt, cnt, ← List.append_assoc]
    rw [show l.length + (cnt T + cnt U + 1) - 1 = (l ++ nodesAt l.length T ++ nodesAt (l.length + cnt T) U).length from by simp only [List.length_append, nodesAt_len]; omega, semL_end]
    funext t x
    rw [List.append_assoc] at h1 h2
    simp only [ndP, ndB, evT]
    simp [h1, h2]
theorem nodes_form (T : Tr) : formP (nodesAt 0 T) = evT T := by
  have := nodes_sem T []
  simp only [List.nil_append, List.length_nil, Nat.zero_add] at this
  unfold formP
  rw [nodesAt_len]
  exact this
/-! a text begins no other -/
theorem dec_inj {a b : Nat} (ha : a ≤ 99) (hb : b ≤ 99) {r r' : List UInt8} (hr : NoDig r) (hr' : NoDig r') (h : dec a ++ r = dec b ++ r') : a = b ∧ r = r' := by
  have h1 := pNum_dec ha hr
  have h2 := pNum_dec hb hr'
  rw [h, h2] at h1
  simp at h1
  exact ⟨h1.1.symm, h1.2.symm⟩
theorem dec_one {a : Nat} (h : a < 10) : dec a = [UInt8.ofNat (48 + a)] := by unfold dec; rw [if_pos h]
theorem byte_inj : ∀ a < 10, ∀ b < 10, UInt8.ofNat (48 + a) = UInt8.ofNat (48 + b) → a = b := by decide
theorem text_inj : ∀ (T U : Tr) (r r' : List UInt8), Vt T → Vt U → text T ++ r = text U ++ r' → T = U ∧ r = r'
  | .all, U, r, r', _, _, h => by
    cases U <;> simp [text] at h
    exact ⟨rfl, h⟩
  | .tag a, U, r, r', hT, hU, h => by
    cases U with
    | tag b =>
      simp only [Vt] at hT hU
      simp only [text, dec_one (show a < 10 by omega), dec_one (show b < 10 by omega), List.cons_append, List.nil_append, List.cons.injEq, true_and] at h
      exact ⟨by rw [byte_inj a (by omega) b (by omega) h.1], h.2⟩
    | _ => simp [text] at h
  | .num a b, U, r, r', hT, hU, h => by
    cases U with
    | num c d =>
      simp only [Vt] at hT hU
      simp only [text, List.cons_append, List.append_assoc, List.cons.injEq, true_and, List.nil_append] at h
      obtain ⟨e1, h2⟩ := dec_inj (by omega) (by omega) (NoDig.cons (by decide) _) (NoDig.cons (by decide) _) h
      simp only [List.cons.injEq, true_and] at h2
      obtain ⟨e2, h3⟩ := dec_inj (by omega) (by omega) (NoDig.cons (by decide) _) (NoDig.cons (by decide) _) h2
      simp at h3
      exact ⟨by rw [e1, e2], h3⟩
    | _ => simp [text] at h
  | .not T, U, r, r', hT, hU, h => by
    cases U with
    | not U =>
      simp only [text, List.cons_append, List.cons.injEq, true_and] at h
      obtain ⟨e, h2⟩ := text_inj T U r r' hT hU h
      exact ⟨by rw [e], h2⟩
    | _ => simp [text] at h
  | .both T T2, U, r, r', hT, hU, h => by
    cases U with
    | both U U2 =>
      simp only [text, List.cons_append, List.append_assoc, List.cons.injEq, true_and, List.nil_append] at h
      obtain ⟨e, h2⟩ := text_inj T U _ _ hT.1 hU.1 h
      simp only [List.cons.injEq, true_and] at h2
      obtain ⟨e2, h3⟩ := text_inj T2 U2 _ _ hT.2 hU.2 h2
      simp at h3
      exact ⟨by rw [e, e2], h3⟩
    | any U U2 =>
      simp only [text, List.cons_append, List.append_assoc, List.cons.injEq, true_and, List.nil_append] at h
      obtain ⟨e, h2⟩ := text_inj T U _ _ hT.1 hU.1 h
      simp at h2
    | _ => simp [text] at h
  | .any T T2, U, r, r', hT, hU, h => by
    cases U with
    | any U U2 =>
      simp only [text, List.cons_append, List.append_assoc, List.cons.injEq, true_and, List.nil_append] at h
      obtain ⟨e, h2⟩ := text_inj T U _ _ hT.1 hU.1 h
      simp only [List.cons.injEq, true_and] at h2
      obtain ⟨e2, h3⟩ := text_inj T2 U2 _ _ hT.2 hU.2 h2
      simp at h3
      exact ⟨by rw [e, e2], h3⟩
    | both U U2 =>
      simp only [text, List.cons_append, List.append_assoc, List.cons.injEq, true_and, List.nil_append] at h
      obtain ⟨e, h2⟩ := text_inj T U _ _ hT.1 hU.1 h
      simp at h2
    | _ => simp [text] at h
/-! what Read says -/
theorem readL_text {T : Tr} (h : Vt T) : readL (text T) = if 400 < (text T).length then (2, []) else if 30 < cnt T then (2, []) else (0, nodesAt 0 T) := by
  unfold readL
  split
  · rfl
  · rw [parseL_text h.two]
    simp only
    split
    · rename_i h0
      have := (okL_nodes (okL_of h0)).2
      rw [if_neg (by omega)]
    · rename_i h0
      rw [if_pos]
      · have hl : 30 < (nodesAt 0 T).length := by
          rcases Nat.lt_or_ge 30 (cnt T) with c | c
          · rw [nodesAt_len]; exact c
          · exact absurd (chkL_of (nodes_okL h c)) h0
        simp [chkL, hl]
      · rcases Nat.lt_or_ge 30 (cnt T) with c | c
        · exact c
        · exact absurd (chkL_of (nodes_okL h c)) h0
theorem readL_ok {s : List UInt8} (h : (readL s).1 = 0) : ∃ T, Vt T ∧ s = text T ∧ s.length ≤ 400 ∧ cnt T ≤ 30 ∧ (readL s).2 = nodesAt 0 T := by
  unfold readL at h ⊢
  split at h
  · cases h
  · rename_i h4
    rw [if_neg h4]
    split at h
    · cases h
    · rename_i m hm
      split at h
      · rename_i h0
        rw [if_pos h0]
        obtain ⟨T, h1, h2, h3⟩ := parseL_of hm
        subst h3
        obtain ⟨hv, hc⟩ := okL_nodes (okL_of h0)
        exact ⟨T, hv, h2, by omega, hc, rfl⟩
      · rename_i h0
        exact absurd h h0
theorem readL_bad {s : List UInt8} (h : (readL s).1 ≠ 0) : (readL s).2 = [] := by
  unfold readL at h ⊢
  split
  · rfl
  · rename_i h4
    rw [if_neg h4] at h
    split
    · rfl
    · rename_i m hm
      rw [hm] at h
      simp only at h
      split
      · rename_i h0; rw [if_pos h0] at h; exact absurd rfl h
      · rfl
/-- a text that is read begins no other one -/
theorem readL_front {s t : List UInt8} (h : (readL s).1 = 0) (ht : t ≠ []) : (readL (s ++ t)).1 ≠ 0 := by
  intro h2
  obtain ⟨T, hT, e1, _⟩ := readL_ok h
  obtain ⟨U, hU, e2, _⟩ := readL_ok h2
  rw [e1] at e2
  obtain ⟨_, e⟩ := text_inj T U t [] hT hU (by rw [e2]; simp)
  exact ht e
end Rm
namespace Rm
open Go Go.RowKit
/-! texts with an operator -/
def bothS (s t : List UInt8) : List UInt8 := 40 :: (s ++ 38 :: (t ++ [41]))
def anyS (s t : List UInt8) : List UInt8 := 40 :: (s ++ 124 :: (t ++ [41]))
theorem bothS_text (T U : Tr) : bothS (text T) (text U) = text (.both T U) := rfl
theorem anyS_text (T U : Tr) : anyS (text T) (text U) = text (.any T U) := rfl
/-- a ! ahead -/
theorem read_not {s : List UInt8} (h : (readL s).1 = 0) :
    ((readL (33 :: s)).1 = 0 ∧ OkL (readL (33 :: s)).2 ∧ formP (readL (33 :: s)).2 = fun t x => !formP (readL s).2 t x) ∨ ((readL (33 :: s)).1 ≠ 0 ∧ (30 ≤ (readL s).2.length ∨ 400 ≤ s.length)) := by
  obtain ⟨T, hT, e, h4, hc, em⟩ := readL_ok h
  have h2 : readL (33 :: s) = if 400 < (text (.not T)).length then (2, []) else if 30 < cnt (.not T) then (2, []) else (0, nodesAt 0 (.not T)) := by
    rw [e]; exact readL_text (T := .not T) hT
  have el : (text (.not T)).length = s.length + 1 := by rw [e]; rfl
  have ec : cnt (.not T) = cnt T + 1 := rfl
  rw [em, nodesAt_len, h2, el, ec]
  by_cases c1 : 400 < s.length + 1
  · rw [if_pos c1]; exact .inr ⟨by decide, .inr (by omega)⟩
  · rw [if_neg c1]
    by_cases c2 : 30 < cnt T + 1
    · rw [if_pos c2]; exact .inr ⟨by decide, .inl (by omega)⟩
    · rw [if_neg c2]
      refine .inl ⟨rfl, nodes_okL (T := .not T) hT (by omega), ?_⟩
      simp only
      rw [nodes_form, nodes_form]
      rfl
/-- a sign between -/
theorem read_pair {s t : List UInt8} (h : (readL s).1 = 0) (h' : (readL t).1 = 0) :
    ((readL (bothS s t)).1 = 0 ∧ (readL (anyS s t)).1 = 0 ∧ OkL (readL (bothS s t)).2 ∧ OkL (readL (anyS s t)).2 ∧ (formP (readL (bothS s t)).2 = fun a x => formP (readL s).2 a x && formP (readL t).2 a x) ∧ (formP (readL (anyS s t)).2 = fun a x => formP (readL s).2 a x || formP (readL t).2 a x) ∧ (readL s).2.length < 30 ∧ s.length < 400) ∨
    ((readL (bothS s t)).1 = 2 ∧ (readL (anyS s t)).1 = 2 ∧ (30 ≤ (readL s).2.length + (readL t).2.length ∨ 400 < s.length + t.length + 3)) := by
  obtain ⟨T, hT, e, h4, hc, em⟩ := readL_ok h
  obtain ⟨U, hU, e', h4', hc', em'⟩ := readL_ok h'
  have h2 : readL (bothS s t) = if 400 < (text (.both T U)).length then (2, []) else if 30 < cnt (.both T U) then (2, []) else (0, nodesAt 0 (.both T U)) := by
    rw [e, e', bothS_text]; exact readL_text (T := .both T U) ⟨hT, hU⟩
  have h3 : readL (anyS s t) = if 400 < (text (.any T U)).length then (2, []) else if 30 < cnt (.any T U) then (2, []) else (0, nodesAt 0 (.any T U)) := by
    rw [e, e', anyS_text]; exact readL_text (T := .any T U) ⟨hT, hU⟩
  have el : (text (.both T U)).length = s.length + t.length + 3 := by rw [e, e']; simp [text]; omega
  have el' : (text (.any T U)).length = s.length + t.length + 3 := by rw [e, e']; simp [text]; omega
  have ec : cnt (.both T U) = cnt T + cnt U + 1 := rfl
  have ec' : cnt (.any T U) = cnt T + cnt U + 1 := rfl
  have p := cnt_pos U
  rw [em, em', nodesAt_len, nodesAt_len, h2, h3, el, el', ec, ec']
  by_cases c1 : 400 < s.length + t.length + 3
  · rw [if_pos c1, if_pos c1]; exact .inr ⟨rfl, rfl, .inr c1⟩
  · rw [if_neg c1, if_neg c1]
    by_cases c2 : 30 < cnt T + cnt U + 1
    · rw [if_pos c2, if_pos c2]; exact .inr ⟨rfl, rfl, .inl (by omega)⟩
    · rw [if_neg c2, if_neg c2]
      refine .inl ⟨rfl, rfl, nodes_okL (T := .both T U) ⟨hT, hU⟩ (by omega), nodes_okL (T := .any T U) ⟨hT, hU⟩ (by omega), ?_, ?_, by omega, by omega⟩
      · simp only
        rw [nodes_form, nodes_form, nodes_form]
        rfl
      · simp only
        rw [nodes_form, nodes_form, nodes_form]
        rfl
/-- what is read between is read alone -/
theorem read_apart {s t : List UInt8} (h : (readL s).1 = 0) (h' : (readL t).1 ≠ 0) : (readL (bothS s t)).1 ≠ 0 ∧ (readL (anyS s t)).1 ≠ 0 := by
  obtain ⟨T, hT, e, h4, hc, em⟩ := readL_ok h
  constructor
  · intro h2
    obtain ⟨X, hX, e2, l2, c2, _⟩ := readL_ok h2
    have e3 : text X = 40 :: (text T ++ 38 :: (t ++ [41])) := by rw [← e2, e]; rfl
    cases X with
    | both A B =>
      simp only [text, List.cons.injEq, true_and] at e3
      obtain ⟨_, e4⟩ := text_inj A T _ _ hX.1 hT e3
      simp only [List.cons.injEq, true_and] at e4
      have e5 : text B = t := List.append_cancel_right e4
      apply h'
      rw [← e5, readL_text hX.2]
      have : (text B).length ≤ 400 := by rw [e2] at l2; simp [text] at l2; omega
      simp only [cnt] at c2
      rw [if_neg (by omega), if_neg (by omega)]
    | any A B =>
      simp only [text, List.cons.injEq, true_and] at e3
      obtain ⟨_, e4⟩ := text_inj A T _ _ hX.1 hT e3
      simp at e4
    | _ => simp [text] at e3
  · intro h2
    obtain ⟨X, hX, e2, l2, c2, _⟩ := readL_ok h2
    have e3 : text X = 40 :: (text T ++ 124 :: (t ++ [41])) := by rw [← e2, e]; rfl
    cases X with
    | any A B =>
      simp only [text, List.cons.injEq, true_and] at e3
      obtain ⟨_, e4⟩ := text_inj A T _ _ hX.1 hT e3
      simp only [List.cons.injEq, true_and] at e4
      have e5 : text B = t := List.append_cancel_right e4
      apply h'
      rw [← e5, readL_text hX.2]
      have : (text B).length ≤ 400 := by rw [e2] at l2; simp [text] at l2; omega
      simp only [cnt] at c2
      rw [if_neg (by omega), if_neg (by omega)]
    | both A B =>
      simp only [text, List.cons.injEq, true_and] at e3
      obtain ⟨_, e4⟩ := text_inj A T _ _ hX.1 hT e3
      simp at e4
    | _ => simp [text] at e3
end Rm
