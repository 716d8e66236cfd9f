/- The plain mathematics of Show: the trees of a formula's nodes. -/
import Derived.Test.YtbodadddcbbjeaaDoorTextU
namespace Rm
open Go Go.RowKit
def ndTr (n : Nd) (ts : Nat → Tr) : Tr :=
  if n.1 = 2 then .tag n.2.1.toNat
  else if n.1 = 3 then .num n.2.1.toNat n.2.2.toNat
  else if n.1 = 4 then .not (ts n.2.1.toNat)
  else if n.1 = 5 then .both (ts n.2.1.toNat) (ts n.2.2.toNat)
  else if n.1 = 6 then .any (ts n.2.1.toNat) (ts n.2.2.toNat)
  else .all
def getT (v : List Tr) (i : Nat) : Tr := v.getD i .all
def treeF (v : List Tr) (n : Nd) : List Tr := v ++ [ndTr n (getT v)]
def treeL (l : List Nd) : List Tr := l.foldl treeF []
/-- the tree of a formula -/
def treeOf (l : List Nd) : Tr := getT (treeL l) (l.length - 1)
theorem treeL_snoc (l : List Nd) (n : Nd) : treeL (l ++ [n]) = treeL l ++ [ndTr n (getT (treeL l))] := by simp [treeL, treeF]
theorem treeL_len (l : List Nd) : (treeL l).length = l.length := by
  suffices h : ∀ v : List Tr, (l.foldl treeF v).length = v.length + l.length by simpa [treeL] using h []
  induction l with
  | nil => intro v; rfl
  | cons n l ih => intro v; simp only [List.foldl_cons]; rw [ih]; simp [treeF]; omega
theorem getT_app {v : List Tr} {i : Nat} (h : i < v.length) (s : List Tr) : getT (v ++ s) i = getT v i := by
  unfold getT; simp only [List.getD_eq_getElem?_getD]; rw [List.getElem?_append_left h]
theorem getT_end (v : List Tr) (T : Tr) : getT (v ++ [T]) v.length = T := by unfold getT; simp [List.getD_eq_getElem?_getD]
theorem getS_app {v : List (List UInt8)} {i : Nat} (h : i < v.length) (s : List (List UInt8)) : getS (v ++ s) i = getS v i := by
  unfold getS; simp only [List.getD_eq_getElem?_getD]; rw [List.getElem?_append_left h]
theorem getS_end (v : List (List UInt8)) (x : List UInt8) : getS (v ++ [x]) v.length = x := by unfold getS; simp [List.getD_eq_getElem?_getD]
theorem treeL_app (l r : List Nd) : ∃ s, treeL (l ++ r) = treeL l ++ s := by
  unfold treeL
  rw [List.foldl_append]
  generalize l.foldl treeF [] = v
  induction r generalizing v with
  | nil => exact ⟨[], by simp⟩
  | cons n r ih =>
    simp only [List.foldl_cons]
    obtain ⟨s, hs⟩ := ih (treeF v n)
    exact ⟨_, by rw [hs, treeF, List.append_assoc]⟩
theorem treeL_more {l : List Nd} {i : Nat} (hi : i < l.length) (r : List Nd) : getT (treeL (l ++ r)) i = getT (treeL l) i := by
  obtain ⟨s, hs⟩ := treeL_app l r
  rw [hs, getT_app (by rw [treeL_len]; omega)]
theorem treeL_end (l : List Nd) (n : Nd) : getT (treeL (l ++ [n])) l.length = ndTr n (getT (treeL l)) := by
  rw [treeL_snoc]
  have := getT_end (treeL l) (ndTr n (getT (treeL l)))
  rwa [treeL_len] at this
/-- a cut behind the cut -/
theorem cut_mid (p x q : List UInt8) : (p ++ (x.take 401 ++ q)).take 401 = (p ++ (x ++ q)).take 401 := by
  rcases Nat.lt_or_ge x.length 402 with c | c
  · rw [List.take_of_length_le (i := 401) (l := x) (by omega)]
  · rw [← List.append_assoc, ← List.append_assoc, List.take_append_of_le_length (by rw [List.length_append, List.length_take]; omega), List.take_append_of_le_length (l₁ := p ++ x) (by rw [List.length_append]; omega)]
    rw [List.take_append, List.take_append, List.take_take]
    congr 2
    omega
theorem cut_one (p x : List UInt8) : (p ++ x.take 401).take 401 = (p ++ x).take 401 := by
  have := cut_mid p x []
  simpa using this
theorem cut_two (p x q y r : List UInt8) : (p ++ (x.take 401 ++ (q ++ (y.take 401 ++ r)))).take 401 = (p ++ (x ++ (q ++ (y ++ r)))).take 401 := by
  rw [cut_mid]
  have := cut_mid (p ++ (x ++ q)) y r
  simpa using this
/-- the trees of the nodes: their texts, what they say, and that they may be -/
theorem trees_ok {l : List Nd} (h : ∀ k n, l[k]? = some n → OkN n k) : ∀ k, k ≤ l.length → ∀ i, i < k → getS (showL (l.take k)) i = (text (getT (treeL (l.take k)) i)).take 401 ∧ evT (getT (treeL (l.take k)) i) = getP (semL (l.take k)) i ∧ Vt (getT (treeL (l.take k)) i) := by
  intro k
  induction k with
  | zero => intro _ i hi; omega
  | succ k ih =>
    intro hk i hi
    have ih := ih (by omega)
    obtain ⟨n, hn⟩ : ∃ p, l[k]? = some p := ⟨_, List.getElem?_eq_getElem (by omega)⟩
    have hok := h k n hn
    have hl : (l.take k).length = k := by rw [List.length_take]; omega
    obtain ⟨hlt, e⟩ := List.getElem?_eq_some_iff.1 hn
    have et : l.take (k + 1) = l.take k ++ [n] := by rw [List.take_succ_eq_append_getElem hlt, e]
    rw [et, showL_snoc, treeL_snoc, semL_snoc]
    generalize l.take k = m at *
    rcases Nat.lt_or_ge i k with c | c
    · rw [getS_app (by rw [showL_len]; omega), getT_app (by rw [treeL_len]; omega), getP_app (by rw [semL_len]; omega)]
      exact ih i c
    · obtain rfl : i = k := by omega
      have a1 := getS_end (showL m) ((ndS n (getS (showL m))).take 401)
      have a2 := getT_end (treeL m) (ndTr n (getT (treeL m)))
      have a3 := getP_end (semL m) (ndP n (getP (semL m)))
      rw [showL_len, hl] at a1
      rw [treeL_len, hl] at a2
      rw [semL_len, hl] at a3
      rw [a1, a2, a3]
      cases hok.of with
      | all a b i => exact ⟨rfl, rfl, trivial⟩
      | tag a b i h => exact ⟨rfl, rfl, h⟩
      | num a b i h hb => exact ⟨rfl, rfl, h, hb⟩
      | not a b i h =>
        obtain ⟨b1, b2, b3⟩ := ih a h
        refine ⟨?_, ?_, b3⟩
        · show (33 :: getS (showL m) a).take 401 = (33 :: text (getT (treeL m) a)).take 401
          rw [b1]
          exact cut_one [33] _
        · show (fun t x => !evT (getT (treeL m) a) t x) = fun t x => !getP (semL m) a t x
          rw [b2]
      | both a b i h hb =>
        obtain ⟨b1, b2, b3⟩ := ih a h
        obtain ⟨c1, c2, c3⟩ := ih b hb
        refine ⟨?_, ?_, b3, c3⟩
        · show (40 :: (getS (showL m) a ++ 38 :: (getS (showL m) b ++ [41]))).take 401 = (40 :: (text (getT (treeL m) a) ++ 38 :: (text (getT (treeL m) b) ++ [41]))).take 401
          rw [b1, c1]
          exact cut_two [40] _ [38] _ [41]
        · show (fun t x => evT (getT (treeL m) a) t x && evT (getT (treeL m) b) t x) = fun t x => getP (semL m) a t x && getP (semL m) b t x
          rw [b2, c2]
      | any a b i h hb =>
        obtain ⟨b1, b2, b3⟩ := ih a h
        obtain ⟨c1, c2, c3⟩ := ih b hb
        refine ⟨?_, ?_, b3, c3⟩
        · show (40 :: (getS (showL m) a ++ 124 :: (getS (showL m) b ++ [41]))).take 401 = (40 :: (text (getT (treeL m) a) ++ 124 :: (text (getT (treeL m) b) ++ [41]))).take 401
          rw [b1, c1]
          exact cut_two [40] _ [124] _ [41]
        · show (fun t x => evT (getT (treeL m) a) t x || evT (getT (treeL m) b) t x) = fun t x => getP (semL m) a t x || getP (semL m) b t x
          rw [b2, c2]
theorem tree_ok {l : List Nd} (h : OkL l) : Vt (treeOf l) ∧ evT (treeOf l) = formP l ∧ getS (showL l) (l.length - 1) = (text (treeOf l)).take 401 := by
  have := trees_ok h.2.2 l.length (Nat.le_refl _) (l.length - 1) (by have := h.1; omega)
  rw [List.take_length] at this
  exact ⟨this.2.2, this.2.1, this.1⟩
theorem showS_ok {l : List Nd} (h : OkL l) : showS l = if 400 < (text (treeOf l)).length then (2, []) else (0, text (treeOf l)) := by
  obtain ⟨_, _, h3⟩ := tree_ok h
  unfold showS
  rw [if_neg (by simp [chkL_of h]), h3, List.length_take]
  by_cases c : 400 < (text (treeOf l)).length
  · rw [if_pos c, if_pos (by omega)]
  · rw [if_neg c, if_neg (by omega), List.take_of_length_le (by omega)]
/-- the tree of a tree's nodes -/
theorem nodes_tree : ∀ (T : Tr) (l : List Nd), getT (treeL (l ++ nodesAt l.length T)) (l.length + cnt T - 1) = T
  | .all, l => by
    show getT (treeL (l ++ [(1, 0, 0)])) (l.length + 1 - 1) = _
    rw [Nat.add_sub_cancel, treeL_end]; rfl
  | .tag a, l => by
    show getT (treeL (l ++ [(2, (a : Int), 0)])) (l.length + 1 - 1) = _
    rw [Nat.add_sub_cancel, treeL_end]; rfl
  | .num a b, l => by
    show getT (treeL (l ++ [(3, (a : Int), (b : Int))])) (l.length + 1 - 1) = _
    rw [Nat.add_sub_cancel, treeL_end]; rfl
  | .not T, l => by
    have h := nodes_tree T l
    simp only [nodesAt, cnt, ← List.append_assoc]
    rw [show l.length + (cnt T + 1) - 1 = (l ++ nodesAt l.length T).length from by simp [nodesAt_len], treeL_end]
    simp only [ndTr]
    simp [h]
  | .both T U, l => by
    have h := nodes_tree T l
    have h2 := nodes_tree U (l ++ nodesAt l.length T)
    have hT := cnt_pos T
    rw [show (l ++ nodesAt l.length T).length = l.length + cnt T from by simp [nodesAt_len]] at h2
    have h1 : getT (treeL (l ++ nodesAt l.length T ++ nodesAt (l.length + cnt T) U)) (l.length + cnt T - 1) = T := by
      rw [treeL_more (by simp [nodesAt_len]; omega)]; exact h
    simp only [nodesAt, cnt, ← List.append_assoc]
    rw [show l.length + (cnt T + cnt U + 1) - 1 = (l ++ nodesAt l.length T ++ nodesAt (l.length + cnt T) U).length from by simp only [List.length_append, nodesAt_len]; omega, treeL_end]
    rw [List.append_assoc] at h1 h2
    simp only [ndTr]
    simp [h1, h2]
  | .any T U, l => by
    have h := nodes_tree T l
    have h2 := nodes_tree U (l ++ nodesAt l.length T)
    have hT := cnt_pos T
    rw [show (l ++ nodesAt l.length T).length = l.length + cnt T from by simp [nodesAt_len]] at h2
    have h1 : getT (treeL (l ++ nodesAt l.length T ++ nodesAt (l.length + cnt T) U)) (l.length + cnt T - 1) = T := by
      rw [treeL_more (by simp [nodesAt_len]; omega)]; exact h
    simp only [nodesAt, cnt, ← List.append_assoc]
    rw [show l.length + (cnt T + cnt U + 1) - 1 = (l ++ nodesAt l.length T ++ nodesAt (l.length + cnt T) U).length from by simp only [List.length_append, nodesAt_len]; omega, treeL_end]
    rw [List.append_assoc] at h1 h2
    simp only [ndTr]
    simp [h1, h2]
theorem nodes_treeOf (T : Tr) : treeOf (nodesAt 0 T) = T := by
  have := nodes_tree T []
  simp only [List.nil_append, List.length_nil, Nat.zero_add] at this
  unfold treeOf
  rw [nodesAt_len]
  exact this
/-- what is read is shown as it was -/
theorem read_show {s : List UInt8} (h : (readL s).1 = 0) : showS (readL s).2 = (0, s) ∧ OkL (readL s).2 := by
  obtain ⟨T, hT, e, h4, hc, em⟩ := readL_ok h
  have hk := nodes_okL hT hc
  rw [em, showS_ok hk, nodes_treeOf, ← e, if_neg (by omega)]
  exact ⟨rfl, hk⟩
/-- what is shown is read as a sentence that says the same, or there are too many nodes -/
theorem show_read {l : List Nd} (h : (showS l).1 = 0) : OkL l ∧ (((readL (showS l).2).1 = 0 ∧ OkL (readL (showS l).2).2 ∧ formP (readL (showS l).2).2 = formP l) ∨ (readL (showS l).2).1 = 2) := by
  have hk : OkL l := by
    apply okL_of
    unfold showS at h
    split at h
    · rename_i hc; exact absurd h hc
    · rename_i hc; simpa using hc
  refine ⟨hk, ?_⟩
  obtain ⟨hv, he, _⟩ := tree_ok hk
  rw [showS_ok hk] at h ⊢
  split at h
  · cases h
  · rename_i h4
    rw [if_neg h4]
    simp only
    rw [readL_text hv, if_neg h4]
    by_cases c : 30 < cnt (treeOf l)
    · rw [if_pos c]; exact .inr rfl
    · rw [if_neg c]
      refine .inl ⟨rfl, nodes_okL hv (by omega), ?_⟩
      simp only
      rw [nodes_form, he]
theorem showS_bad {l : List Nd} (h : (showS l).1 ≠ 0) : (showS l).2 = [] := by
  unfold showS at h ⊢
  split
  · rfl
  · rename_i hc
    rw [if_neg hc] at h
    split
    · rfl
    · rename_i h4; rw [if_neg h4] at h; exact absurd rfl h
end Rm
