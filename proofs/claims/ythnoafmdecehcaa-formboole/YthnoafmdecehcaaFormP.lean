/- The plain mathematics of formulas: nodes as they are read, what Check says, what each node says of a point. -/
import Derived.Test.YthnoafmdecehcaaPure
namespace Rm
open Go Go.RowKit

/-- a node, as it is read: its kind, A and B -/
abbrev Nd := Int × Int × Int
def earB (k i : Int) : Bool := decide (0 ≤ k) && decide (k < i)
/-- is a node of a kind that is known right, at its place? -/
def okN (n : Nd) (i : Int) : Bool :=
  if n.1 = 1 then true
  else if n.1 = 2 then decide (0 ≤ n.2.1) && decide (n.2.1 < 4)
  else if n.1 = 3 then decide (0 ≤ n.2.1) && decide (n.2.2 ≤ 32) && decide (n.2.1 < n.2.2)
  else if n.1 = 4 then earB n.2.1 i
  else earB n.2.1 i && earB n.2.2 i
def kindB (k : Int) : Bool := decide (1 ≤ k) && decide (k ≤ 6)
def chkN (n : Nd) (i : Int) : Int := if kindB n.1 then (if okN n i then 0 else 1) else 3
def chkNs : Nat → List Nd → Int
  | _, [] => 0
  | i, n :: r => if chkN n i == 0 then chkNs (i + 1) r else chkN n i
/-- what Check says of a formula -/
def chkL (l : List Nd) : Int := if l.length = 0 ∨ 30 < l.length then 2 else chkNs 0 l

theorem chkNs_drop {l : List Nd} {k : Nat} {n : Nd} (h : l[k]? = some n) : chkNs k (l.drop k) = if chkN n k == 0 then chkNs (k + 1) (l.drop (k + 1)) else chkN n k := by
  obtain ⟨hk, e⟩ := List.getElem?_eq_some_iff.1 h
  rw [List.drop_eq_getElem_cons hk, e]
  rfl
/-- a node that is right at its place -/
def OkN (n : Nd) (i : Nat) : Prop := kindB n.1 = true ∧ okN n i = true
theorem okN_of {n : Nd} {i : Nat} (h : chkN n i = 0) : OkN n i := by
  unfold chkN at h
  split at h
  · split at h
    · exact ⟨by assumption, by assumption⟩
    · omega
  · omega
theorem chkN_of {n : Nd} {i : Nat} (h : OkN n i) : chkN n i = 0 := by simp [chkN, h.1, h.2]
/-- a formula that may be -/
def OkL (l : List Nd) : Prop := 0 < l.length ∧ l.length ≤ 30 ∧ ∀ k n, l[k]? = some n → OkN n k
theorem chkNs_of {l : List Nd} : ∀ {i : Nat}, (∀ k n, l[k]? = some n → OkN n (i + k)) → chkNs i l = 0 := by
  induction l with
  | nil => intro i _; rfl
  | cons n r ih =>
    intro i h
    have h0 := chkN_of (h 0 n rfl)
    simp only [Nat.add_zero] at h0
    show (if chkN n i == 0 then chkNs (i + 1) r else chkN n i) = 0
    rw [if_pos (by rw [h0]; rfl)]
    exact ih (fun k m hm => by have := h (k + 1) m hm; rwa [show i + (k + 1) = i + 1 + k from by omega] at this)
theorem okNs_of {l : List Nd} : ∀ {i : Nat}, chkNs i l = 0 → ∀ k n, l[k]? = some n → OkN n (i + k) := by
  induction l with
  | nil => intro i _ k n h; simp at h
  | cons m r ih =>
    intro i h k n hk
    simp only [chkNs] at h
    split at h
    · rename_i h0
      cases k with
      | zero => simp at hk; subst hk; exact okN_of (by simpa using h0)
      | succ k => have := ih h k n (by simpa using hk); rwa [show i + (k + 1) = i + 1 + k from by omega]
    · rename_i h0
      rw [h] at h0
      simp at h0
theorem chkL_of {l : List Nd} (h : OkL l) : chkL l = 0 := by
  unfold chkL
  rw [if_neg (by have := h.1; have := h.2.1; omega)]
  exact chkNs_of (fun k n hk => by rw [Nat.zero_add]; exact h.2.2 k n hk)
theorem okL_of {l : List Nd} (h : chkL l = 0) : OkL l := by
  unfold chkL at h
  split at h
  · omega
  · rename_i h0
    refine ⟨by omega, by omega, fun k n hk => ?_⟩
    have := okNs_of h k n hk
    rwa [Nat.zero_add] at this

/-- what a node says of a point, by what the earlier ones say of it -/
def ndB (n : Nd) (t x : Nat) (b : Nat → Bool) : Bool :=
  if n.1 = 2 then t.testBit n.2.1.toNat
  else if n.1 = 3 then decide (n.2.1 ≤ (x : Int)) && decide ((x : Int) < n.2.2)
  else if n.1 = 4 then !(b n.2.1.toNat)
  else if n.1 = 5 then b n.2.1.toNat && b n.2.2.toNat
  else if n.1 = 6 then b n.2.1.toNat || b n.2.2.toNat
  else true
/-- a set of points: of tags and a number -/
abbrev Pt := Nat → Nat → Bool
def getP (v : List Pt) (i : Nat) : Pt := v.getD i (fun _ _ => false)
def ndP (n : Nd) (v : Nat → Pt) : Pt := fun t x => ndB n t x (fun i => v i t x)
/-- what the nodes say, each -/
def semL (l : List Nd) : List Pt := l.foldl (fun v n => v ++ [ndP n (getP v)]) []
/-- what a formula says -/
def formP (l : List Nd) : Pt := getP (semL l) (l.length - 1)
theorem semL_nil : semL [] = [] := rfl
theorem semL_snoc (l : List Nd) (n : Nd) : semL (l ++ [n]) = semL l ++ [ndP n (getP (semL l))] := by simp [semL]
theorem semFold_len (l : List Nd) : ∀ v : List Pt, (l.foldl (fun v n => v ++ [ndP n (getP v)]) v).length = v.length + l.length := by
  induction l with
  | nil => intro v; rfl
  | cons n l ih => intro v; simp only [List.foldl_cons]; rw [ih]; simp; omega
theorem semL_len (l : List Nd) : (semL l).length = l.length := by unfold semL; rw [semFold_len]; simp
theorem semFold_pre (l : List Nd) : ∀ v : List Pt, ∃ s, l.foldl (fun v n => v ++ [ndP n (getP v)]) v = v ++ s := by
  induction l with
  | nil => intro v; exact ⟨[], by simp⟩
  | cons n l ih =>
    intro v
    simp only [List.foldl_cons]
    obtain ⟨s, hs⟩ := ih (v ++ [ndP n (getP v)])
    exact ⟨_, by rw [hs, List.append_assoc]⟩
theorem semL_app (l r : List Nd) : ∃ s, semL (l ++ r) = semL l ++ s := by
  unfold semL
  rw [List.foldl_append]
  exact semFold_pre r _
theorem semL_take {l : List Nd} {k : Nat} {n : Nd} (h : l[k]? = some n) : semL (l.take (k + 1)) = semL (l.take k) ++ [ndP n (getP (semL (l.take k)))] := by
  obtain ⟨hk, e⟩ := List.getElem?_eq_some_iff.1 h
  rw [List.take_succ_eq_append_getElem hk, e, semL_snoc]
theorem getP_app {v : List Pt} {i : Nat} (h : i < v.length) (s : List Pt) : getP (v ++ s) i = getP v i := by
  unfold getP
  simp only [List.getD_eq_getElem?_getD]
  rw [List.getElem?_append_left h]
theorem getP_end (v : List Pt) (P : Pt) : getP (v ++ [P]) v.length = P := by
  unfold getP
  simp [List.getD_eq_getElem?_getD]
theorem semL_pre {l : List Nd} {k i : Nat} (hk : k ≤ l.length) (hi : i < k) : getP (semL (l.take k)) i = getP (semL l) i := by
  obtain ⟨s, hs⟩ := semL_app (l.take k) (l.drop k)
  rw [List.take_append_drop] at hs
  rw [hs, getP_app (by rw [semL_len, List.length_take]; omega)]
theorem semL_more {l : List Nd} {i : Nat} (hi : i < l.length) (r : List Nd) : getP (semL (l ++ r)) i = getP (semL l) i := by
  obtain ⟨s, hs⟩ := semL_app l r
  rw [hs, getP_app (by rw [semL_len]; omega)]
theorem formP_snoc (l : List Nd) (n : Nd) : formP (l ++ [n]) = ndP n (getP (semL l)) := by
  unfold formP
  rw [semL_snoc]
  have e : (l ++ [n]).length - 1 = (semL l).length := by rw [semL_len]; simp
  rw [e, getP_end]
theorem formP_take {l : List Nd} {k : Nat} (hk : k < l.length) : formP (l.take (k + 1)) = getP (semL l) k := by
  unfold formP
  rw [List.length_take, Nat.min_eq_left (by omega), Nat.add_sub_cancel]
  exact semL_pre (by omega) (by omega)
theorem OkL.take {l : List Nd} (h : OkL l) {k : Nat} (hk : k < l.length) : OkL (l.take (k + 1)) := by
  refine ⟨by rw [List.length_take]; omega, by have := h.2.1; rw [List.length_take]; omega, fun i n hi => ?_⟩
  have hi' : i < k + 1 := by have := (List.getElem?_eq_some_iff.1 hi).1; rw [List.length_take] at this; omega
  rw [List.getElem?_take_of_lt hi'] at hi
  exact h.2.2 i n hi
theorem OkL.snoc {l : List Nd} (h : OkL l) (hl : l.length < 30) {n : Nd} (hn : OkN n l.length) : OkL (l ++ [n]) := by
  refine ⟨by simp, by simp; omega, fun i m hi => ?_⟩
  rcases Nat.lt_or_ge i l.length with c | c
  · rw [List.getElem?_append_left c] at hi
    exact h.2.2 i m hi
  · rw [List.getElem?_append_right c] at hi
    have : i - l.length = 0 := by
      rcases Nat.eq_zero_or_pos (i - l.length) with z | z
      · exact z
      · rw [List.getElem?_eq_none (by simp; omega)] at hi; cases hi
    rw [this] at hi
    simp at hi
    subst hi
    rwa [show i = l.length from by omega]
theorem earB_of {k i : Int} (h : earB k i = true) : ∃ m : Nat, k = m ∧ (m : Int) < i := by
  simp [earB] at h
  exact ⟨k.toNat, by omega, by omega⟩
/-- a valid node, kind by kind -/
inductive NdOf : Nd → Nat → Prop
  | all (a b : Int) (i : Nat) : NdOf (1, a, b) i
  | tag (a : Nat) (b : Int) (i : Nat) (h : a < 4) : NdOf (2, (a : Int), b) i
  | num (a b : Nat) (i : Nat) (h : a < b) (hb : b ≤ 32) : NdOf (3, (a : Int), (b : Int)) i
  | not (a : Nat) (b : Int) (i : Nat) (h : a < i) : NdOf (4, (a : Int), b) i
  | both (a b : Nat) (i : Nat) (h : a < i) (hb : b < i) : NdOf (5, (a : Int), (b : Int)) i
  | any (a b : Nat) (i : Nat) (h : a < i) (hb : b < i) : NdOf (6, (a : Int), (b : Int)) i
theorem OkN.of {n : Nd} {i : Nat} (h : OkN n i) : NdOf n i := by
  obtain ⟨k, a, b⟩ := n
  obtain ⟨h1, h2⟩ := h
  have hk : k = 1 ∨ k = 2 ∨ k = 3 ∨ k = 4 ∨ k = 5 ∨ k = 6 := by simp [kindB] at h1; omega
  rcases hk with rfl | rfl | rfl | rfl | rfl | rfl
  · exact .all a b i
  · simp [okN] at h2
    obtain ⟨m, rfl⟩ := Int.eq_ofNat_of_zero_le h2.1
    exact .tag m b i (by omega)
  · simp [okN] at h2
    obtain ⟨m, rfl⟩ := Int.eq_ofNat_of_zero_le h2.1.1
    obtain ⟨p, rfl⟩ := Int.eq_ofNat_of_zero_le (show 0 ≤ b by omega)
    exact .num m p i (by omega) (by omega)
  · simp [okN] at h2
    obtain ⟨m, rfl, hm⟩ := earB_of h2
    exact .not m b i (by omega)
  · simp [okN] at h2
    obtain ⟨m, rfl, hm⟩ := earB_of h2.1
    obtain ⟨p, rfl, hp⟩ := earB_of h2.2
    exact .both m p i (by omega) (by omega)
  · simp [okN] at h2
    obtain ⟨m, rfl, hm⟩ := earB_of h2.1
    obtain ⟨p, rfl, hp⟩ := earB_of h2.2
    exact .any m p i (by omega) (by omega)
end Rm
