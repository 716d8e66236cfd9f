/- Joined: FormP, FormA. -/
import Derived.Test.YtbodadddcbbjeaaPure
import Derived.Test.YtbodadddcbbjeaaFilE
/- The plain mathematics of formulas: nodes as they are read, what Check says, what each node says of a point. -/
namespace Rm
open Go Go.RowKit

/-- a node, as it is read: its kind, A and B -/
abbrev Nd := Int × Int × Int
def earB (k i : Int) : Bool := decide (0 ≤ k) && decide (k < i)
/-- is a node of a kind that is known right, at its place? -/
def okN (n : Nd) (i : Int) : Bool :=
  if n.1 = 1 then true
  else if n.1 = 2 then decide (0 ≤ n.2.1) && decide (n.2.1 < 4)
  else if n.1 = 3 then decide (0 ≤ n.2.1) && decide (n.2.2 ≤ 32) && decide (n.2.1 < n.2.2)
  else if n.1 = 4 then earB n.2.1 i
  else earB n.2.1 i && earB n.2.2 i
def kindB (k : Int) : Bool := decide (1 ≤ k) && decide (k ≤ 6)
def chkN (n : Nd) (i : Int) : Int := if kindB n.1 then (if okN n i then 0 else 1) else 3
def chkNs : Nat → List Nd → Int
  | _, [] => 0
  | i, n :: r => if chkN n i == 0 then chkNs (i + 1) r else chkN n i
/-- what Check says of a formula -/
def chkL (l : List Nd) : Int := if l.length = 0 ∨ 30 < l.length then 2 else chkNs 0 l

theorem chkNs_drop {l : List Nd} {k : Nat} {n : Nd} (h : l[k]? = some n) : chkNs k (l.drop k) = if chkN n k == 0 then chkNs (k + 1) (l.drop (k + 1)) else chkN n k := by
  obtain ⟨hk, e⟩ := List.getElem?_eq_some_iff.1 h
  rw [List.drop_eq_getElem_cons hk, e]
  rfl
/-- a node that is right at its place -/
def OkN (n : Nd) (i : Nat) : Prop := kindB n.1 = true ∧ okN n i = true
theorem okN_of {n : Nd} {i : Nat} (h : chkN n i = 0) : OkN n i := by
  unfold chkN at h
  split at h
  · split at h
    · exact ⟨by assumption, by assumption⟩
    · omega
  · omega
theorem chkN_of {n : Nd} {i : Nat} (h : OkN n i) : chkN n i = 0 := by simp [chkN, h.1, h.2]
/-- a formula that may be -/
def OkL (l : List Nd) : Prop := 0 < l.length ∧ l.length ≤ 30 ∧ ∀ k n, l[k]? = some n → OkN n k
theorem chkNs_of {l : List Nd} : ∀ {i : Nat}, (∀ k n, l[k]? = some n → OkN n (i + k)) → chkNs i l = 0 := by
  induction l with
  | nil => intro i _; rfl
  | cons n r ih =>
    intro i h
    have h0 := chkN_of (h 0 n rfl)
    simp only [Nat.add_zero] at h0
    show (if chkN n i == 0 then chkNs (i + 1) r else chkN n i) = 0
    rw [if_pos (by rw [h0]; rfl)]
    exact ih (fun k m hm => by have := h (k + 1) m hm; rwa [show i + (k + 1) = i + 1 + k from by omega] at this)
theorem okNs_of {l : List Nd} : ∀ {i : Nat}, chkNs i l = 0 → ∀ k n, l[k]? = some n → OkN n (i + k) := by
  induction l with
  | nil => intro i _ k n h; simp at h
  | cons m r ih =>
    intro i h k n hk
    simp only [chkNs] at h
    split at h
    · rename_i h0
      cases k with
      | zero => simp at hk; subst hk; exact okN_of (by simpa using h0)
      | succ k => have := ih h k n (by simpa using hk); rwa [show i + (k + 1) = i + 1 + k from by omega]
    · rename_i h0
      rw [h] at h0
      simp at h0
theorem chkL_of {l : List Nd} (h : OkL l) : chkL l = 0 := by
  unfold chkL
  rw [if_neg (by have := h.1; have := h.2.1; omega)]
  exact chkNs_of (fun k n hk => by rw [Nat.zero_add]; exact h.2.2 k n hk)
theorem okL_of {l : List Nd} (h : chkL l = 0) : OkL l := by
  unfold chkL at h
  split at h
  · omega
  · rename_i h0
    refine ⟨by omega, by omega, fun k n hk => ?_⟩
    have := okNs_of h k n hk
    rwa [Nat.zero_add] at this

/-- what a node says of a point, by what the earlier ones say of it -/
def ndB (n : Nd) (t x : Nat) (b : Nat → Bool) : Bool :=
  if n.1 = 2 then t.testBit n.2.1.toNat
  else if n.1 = 3 then decide (n.2.1 ≤ (x : Int)) && decide ((x : Int) < n.2.2)
  else if n.1 = 4 then !(b n.2.1.toNat)
  else if n.1 = 5 then b n.2.1.toNat && b n.2.2.toNat
  else if n.1 = 6 then b n.2.1.toNat || b n.2.2.toNat
  else true
/-- a set of points: of tags and a number -/
abbrev Pt := Nat → Nat → Bool
def getP (v : List Pt) (i : Nat) : Pt := v.getD i (fun _ _ => false)
def ndP (n : Nd) (v : Nat → Pt) : Pt := fun t x => ndB n t x (fun i => v i t x)
/-- what the nodes say, each -/
def semL (l : List Nd) : List Pt := l.foldl (fun v n => v ++ [ndP n (getP v)]) []
/-- what a formula says -/
def formP (l : List Nd) : Pt := getP (semL l) (l.length - 1)
theorem semL_nil : semL [] = [] := rfl
theorem semL_snoc (l : List Nd) (n : Nd) : semL (l ++ [n]) = semL l ++ [ndP n (getP (semL l))] := by simp [semL]
theorem semFold_len (l : List Nd) : ∀ v : List Pt, (l.foldl (fun v n => v ++ [ndP n (getP v)]) v).length = v.length + l.length := by
  induction l with
  | nil => intro v; rfl
  | cons n l ih => intro v; simp only [List.foldl_cons]; rw [ih]; simp; omega
theorem semL_len (l : List Nd) : (semL l).length = l.length := by unfold semL; rw [semFold_len]; simp
theorem semFold_pre (l : List Nd) : ∀ v : List Pt, ∃ s, l.foldl (fun v n => v ++ [ndP n (getP v)]) v = v ++ s := by
  induction l with
  | nil => intro v; exact ⟨[], by simp⟩
  | cons n l ih =>
    intro v
    simp only [List.foldl_cons]
    obtain ⟨s, hs⟩ := ih (v ++ [ndP n (getP v)])
    exact ⟨_, by rw [hs, List.append_assoc]⟩
theorem semL_app (l r : List Nd) : ∃ s, semL (l ++ r) = semL l ++ s := by
  unfold semL
  rw [List.foldl_append]
  exact semFold_pre r _
theorem semL_take {l : List Nd} {k : Nat} {n : Nd} (h : l[k]? = some n) : semL (l.take (k + 1)) = semL (l.take k) ++ [ndP n (getP (semL (l.take k)))] := by
  obtain ⟨hk, e⟩ := List.getElem?_eq_some_iff.1 h
  rw [List.take_succ_eq_append_getElem hk, e, semL_snoc]
theorem getP_app {v : List Pt} {i : Nat} (h : i < v.length) (s : List Pt) : getP (v ++ s) i = getP v i := by
  unfold getP
  simp only [List.getD_eq_getElem?_getD]
  rw [List.getElem?_append_left h]
theorem getP_end (v : List Pt) (P : Pt) : getP (v ++ [P]) v.length = P := by
  unfold getP
  simp [List.getD_eq_getElem?_getD]
theorem semL_pre {l : List Nd} {k i : Nat} (hk : k ≤ l.length) (hi : i < k) : getP (semL (l.take k)) i = getP (semL l) i := by
  obtain ⟨s, hs⟩ := semL_app (l.take k) (l.drop k)
  rw [List.take_append_drop] at hs
  rw [hs, getP_app (by rw [semL_len, List.length_take]; omega)]
theorem semL_more {l : List Nd} {i : Nat} (hi : i < l.length) (r : List Nd) : getP (semL (l ++ r)) i = getP (semL l) i := by
  obtain ⟨s, hs⟩ := semL_app l r
  rw [hs, getP_app (by rw [semL_len]; omega)]
theorem formP_snoc (l : List Nd) (n : Nd) : formP (l ++ [n]) = ndP n (getP (semL l)) := by
  unfold formP
  rw [semL_snoc]
  have e : (l ++ [n]).length - 1 = (semL l).length := by rw [semL_len]; simp
  rw [e, getP_end]
theorem formP_take {l : List Nd} {k : Nat} (hk : k < l.length) : formP (l.take (k + 1)) = getP (semL l) k := by
  unfold formP
  rw [List.length_take, Nat.min_eq_left (by omega), Nat.add_sub_cancel]
  exact semL_pre (by omega) (by omega)
theorem OkL.take {l : List Nd} (h : OkL l) {k : Nat} (hk : k < l.length) : OkL (l.take (k + 1)) := by
  refine ⟨by rw [List.length_take]; omega, by have := h.2.1; rw [List.length_take]; omega, fun i n hi => ?_⟩
  have hi' : i < k + 1 := by have := (List.getElem?_eq_some_iff.1 hi).1; rw [List.length_take] at this; omega
  rw [List.getElem?_take_of_lt hi'] at hi
  exact h.2.2 i n hi
theorem OkL.snoc {l : List Nd} (h : OkL l) (hl : l.length < 30) {n : Nd} (hn : OkN n l.length) : OkL (l ++ [n]) := by
  refine ⟨by simp, by simp; omega, fun i m hi => ?_⟩
  rcases Nat.lt_or_ge i l.length with c | c
  · rw [List.getElem?_append_left c] at hi
    exact h.2.2 i m hi
  · rw [List.getElem?_append_right c] at hi
    have : i - l.length = 0 := by
      rcases Nat.eq_zero_or_pos (i - l.length) with z | z
      · exact z
      · rw [List.getElem?_eq_none (by simp; omega)] at hi; cases hi
    rw [this] at hi
    simp at hi
    subst hi
    rwa [show i = l.length from by omega]
theorem earB_of {k i : Int} (h : earB k i = true) : ∃ m : Nat, k = m ∧ (m : Int) < i := by
  simp [earB] at h
  exact ⟨k.toNat, by omega, by omega⟩
/-- a valid node, kind by kind -/
inductive NdOf : Nd → Nat → Prop
  | all (a b : Int) (i : Nat) : NdOf (1, a, b) i
  | tag (a : Nat) (b : Int) (i : Nat) (h : a < 4) : NdOf (2, (a : Int), b) i
  | num (a b : Nat) (i : Nat) (h : a < b) (hb : b ≤ 32) : NdOf (3, (a : Int), (b : Int)) i
  | not (a : Nat) (b : Int) (i : Nat) (h : a < i) : NdOf (4, (a : Int), b) i
  | both (a b : Nat) (i : Nat) (h : a < i) (hb : b < i) : NdOf (5, (a : Int), (b : Int)) i
  | any (a b : Nat) (i : Nat) (h : a < i) (hb : b < i) : NdOf (6, (a : Int), (b : Int)) i
theorem OkN.of {n : Nd} {i : Nat} (h : OkN n i) : NdOf n i := by
  obtain ⟨k, a, b⟩ := n
  obtain ⟨h1, h2⟩ := h
  have hk : k = 1 ∨ k = 2 ∨ k = 3 ∨ k = 4 ∨ k = 5 ∨ k = 6 := by simp [kindB] at h1; omega
  rcases hk with rfl | rfl | rfl | rfl | rfl | rfl
  · exact .all a b i
  · simp [okN] at h2
    obtain ⟨m, rfl⟩ := Int.eq_ofNat_of_zero_le h2.1
    exact .tag m b i (by omega)
  · simp [okN] at h2
    obtain ⟨m, rfl⟩ := Int.eq_ofNat_of_zero_le h2.1.1
    obtain ⟨p, rfl⟩ := Int.eq_ofNat_of_zero_le (show 0 ≤ b by omega)
    exact .num m p i (by omega) (by omega)
  · simp [okN] at h2
    obtain ⟨m, rfl, hm⟩ := earB_of h2
    exact .not m b i (by omega)
  · simp [okN] at h2
    obtain ⟨m, rfl, hm⟩ := earB_of h2.1
    obtain ⟨p, rfl, hp⟩ := earB_of h2.2
    exact .both m p i (by omega) (by omega)
  · simp [okN] at h2
    obtain ⟨m, rfl, hm⟩ := earB_of h2.1
    obtain ⟨p, rfl, hp⟩ := earB_of h2.2
    exact .any m p i (by omega) (by omega)
end Rm
/- A slice of nodes reads as a list; the contract of formula.Check. -/
namespace Rm
open Go Go.RowKit
def flatN (l : List Nd) : List Value := l.flatMap fun p => [.int .i64 p.1, .int .i64 p.2.1, .int .i64 p.2.2]
theorem flatN_cons (p : Nd) (l : List Nd) : flatN (p :: l) = .int .i64 p.1 :: .int .i64 p.2.1 :: .int .i64 p.2.2 :: flatN l := rfl
theorem flatN_app (l r : List Nd) : flatN (l ++ r) = flatN l ++ flatN r := by simp [flatN]
theorem flatN_len (l : List Nd) : (flatN l).length = l.length * 3 := by
  induction l with
  | nil => rfl
  | cons p l ih => rw [flatN_cons]; simp [ih]; omega
theorem flatN_at (l : List Nd) (i : Nat) (p : Nd) (h : l[i]? = some p) : (flatN l)[i * 3]? = some (.int .i64 p.1) ∧ (flatN l)[i * 3 + 1]? = some (.int .i64 p.2.1) ∧ (flatN l)[i * 3 + 2]? = some (.int .i64 p.2.2) := by
  induction l generalizing i with
  | nil => simp at h
  | cons q l ih =>
    rw [flatN_cons]
    cases i with
    | zero => simp at h; subst h; simp
    | succ i =>
      have e : (i + 1) * 3 = i * 3 + 1 + 1 + 1 := by omega
      rw [e]
      simpa using ih i (by simpa using h)
theorem flatN_one (l : List Nd) : ∀ u ∈ flatN l, u.oneCell' = true := by
  intro u hu
  simp only [flatN, List.mem_flatMap] at hu
  obtain ⟨p, _, hp⟩ := hu
  simp at hp
  rcases hp with rfl | rfl | rfl <;> rfl
/-- a slice of nodes reads as a list -/
def RdN (w : World) (v : Value) (l : List Nd) : Prop :=
  ∃ a c, v = .slice a l.length c ∧ l.length ≤ c ∧ (l ≠ [] → ∃ b off, a = some ⟨b, off, none⟩ ∧ b < w.heap.size ∧
    ∀ i p, l[i]? = some p → w.cell? ⟨b, off + i * 3, none⟩ = some (.int .i64 p.1) ∧ w.cell? ⟨b, off + i * 3 + 1, none⟩ = some (.int .i64 p.2.1) ∧ w.cell? ⟨b, off + i * 3 + 2, none⟩ = some (.int .i64 p.2.2))
theorem RdN.gr {w w' : World} {v : Value} {l : List Nd} (h : RdN w v l) (g : Gr w w') : RdN w' v l := by
  obtain ⟨a, c, e, hc, h⟩ := h
  refine ⟨a, c, e, hc, fun hl => ?_⟩
  obtain ⟨b, off, ea, hb, hx⟩ := h hl
  refine ⟨b, off, ea, Nat.lt_of_lt_of_le hb g.le, fun i p hp => ?_⟩
  obtain ⟨h1, h2, h3⟩ := hx i p hp
  exact ⟨(g.cells.1 b _ hb).trans h1, (g.cells.1 b _ hb).trans h2, (g.cells.1 b _ hb).trans h3⟩
theorem RdN.alloc {w : World} {v : Value} {l : List Nd} (h : RdN w v l) (o : Obj) : RdN (w.alloc o) v l := h.gr ((Gr.refl w).alloc o)
theorem RdN.drew {w : World} {v : Value} {l : List Nd} (h : RdN w v l) : RdN w.drew v l := h
theorem RdN.nil (w : World) : RdN w (.slice none 0 0) [] := ⟨none, 0, rfl, Nat.le_refl _, fun h => absurd rfl h⟩
theorem RdN.own {w : World} {base : Nat} {e : TypeId} {v : Value} {l : List Nd} (h : w.ownsRow base e 3 v l.length (flatN l)) : RdN w v l := by
  obtain ⟨hl, h⟩ := h
  rcases h with ⟨rfl, h0⟩ | ⟨g, cap, cur, rfl, _, hg, hn, _, hs, ht⟩
  · have : l = [] := List.eq_nil_of_length_eq_zero h0
    subst this
    exact RdN.nil w
  · refine ⟨_, _, rfl, hn, fun hne => ?_⟩
    have hlt : g < w.heap.size := by
      rcases Nat.lt_or_ge g w.heap.size with h | h
      · exact h
      · rw [Array.getElem?_eq_none h] at hg; cases hg
    refine ⟨g, 0, rfl, hlt, fun i p hp => ?_⟩
    have hi : i < l.length := (List.getElem?_eq_some_iff.1 hp).1
    have hf := flatN_at l i p hp
    rw [← ht] at hf
    have key : ∀ j, j < l.length * 3 → w.cell? ⟨g, 0 + j, none⟩ = (cur.toList.take (l.length * 3))[j]? := by
      intro j hj
      rw [List.getElem?_take_of_lt hj]
      simp [World.cell?, hg]
    have k2 := key (i * 3 + 1) (by omega)
    have k3 := key (i * 3 + 2) (by omega)
    rw [← Nat.add_assoc] at k2 k3
    exact ⟨(key (i * 3) (by omega)).trans hf.1, k2.trans hf.2.1, k3.trans hf.2.2⟩
theorem RdN.take {w : World} {a : Option Addr} {n c : Nat} {l : List Nd} (h : RdN w (.slice a n c) l) {k : Nat} (hk : k ≤ l.length) : RdN w (.slice a k c) (l.take k) := by
  obtain ⟨a', c', e, hc, h⟩ := h
  simp only [Value.slice.injEq] at e
  obtain ⟨rfl, rfl, rfl⟩ := e
  have hlen : (l.take k).length = k := by rw [List.length_take]; omega
  refine ⟨a, c, by rw [hlen], by rw [hlen]; omega, fun hne => ?_⟩
  obtain ⟨b, off, ea, hb, hx⟩ := h (by intro e; subst e; simp at hne)
  refine ⟨b, off, ea, hb, fun i p hp => ?_⟩
  have hi : i < k := by have := (List.getElem?_eq_some_iff.1 hp).1; omega
  rw [List.getElem?_take_of_lt hi] at hp
  exact hx i p hp
theorem rdN_form {w : World} {v : Value} {l : List Nd} (h : RdN w v l) : ∃ a c, v = .slice a l.length c ∧ l.length ≤ c := by
  obtain ⟨a, c, e, hc, _⟩ := h
  exact ⟨a, c, e, hc⟩
end Rm
namespace Go.Proofs.Ytbodadddcbbjeaa
open Go.RowKit Rm
set_option linter.unusedVariables false

set_option maxHeartbeats 400000 in
set_option maxRecDepth 100000 in
theorem isEarlier_any (k i : Int) (w : World) :
    Calls Try.prog 72 #[.int .i64 k, .int .i64 i] w fun e w' => e = .returned (.bool (earB k i)) ∧ w' = w := by
  by_cases h1 : 0 ≤ k
  · by_cases h2 : k < i
    · have e : earB k i = true := by simp [earB, h1, h2]
      rw [e]
      go_enter Try.func72, Try.ntmps72
      go_wp2
      go_ret
      exact ⟨rfl, rfl⟩
    · have e : earB k i = false := by simp [earB, h2]
      rw [e]
      go_enter Try.func72, Try.ntmps72
      go_wp2
      go_ret
      exact ⟨rfl, rfl⟩
  · have e : earB k i = false := by simp [earB, h1]
    rw [e]
    go_enter Try.func72, Try.ntmps72
    go_wp2
    go_ret
    exact ⟨rfl, rfl⟩

theorem kind_no {k : Int} (h : kindB k = false) : (k == 1) = false ∧ (k == 2) = false ∧ (k == 3) = false ∧ (k == 4) = false ∧ (k == 5) = false ∧ (k == 6) = false := by
  simp [kindB] at h
  simp only [Bool.eq_false_iff, ne_eq, beq_iff_eq]
  omega

set_option maxHeartbeats 1000000 in
set_option maxRecDepth 100000 in
theorem checkNode_any (k a b i : Int) (w : World) :
    Calls Try.prog 56 #[.agg #[.int .i64 k, .int .i64 a, .int .i64 b], .int .i64 i] w fun e w' => e = .returned (.int .i64 (chkN (k, a, b) i)) ∧ Gr w w' := by
  cases hk : kindB k
  · obtain ⟨k1, k2, k3, k4, k5, k6⟩ := kind_no hk
    have e : chkN (k, a, b) i = 3 := by simp [chkN, hk]
    rw [e]
    clear e hk
    go_enter Try.func56, Try.ntmps56
    go_wp2
    go_ret
    exact ⟨rfl, (Gr.refl _).alloc _⟩
  · have e : chkN (k, a, b) i = if okN (k, a, b) i then 0 else 1 := by simp [chkN, hk]
    rw [e]
    clear e
    have hk' : k = 1 ∨ k = 2 ∨ k = 3 ∨ k = 4 ∨ k = 5 ∨ k = 6 := by simp [kindB] at hk; omega
    clear hk
    rcases hk' with rfl | rfl | rfl | rfl | rfl | rfl
    · have e : okN (1, a, b) i = true := rfl
      rw [e]
      clear e
      go_enter Try.func56, Try.ntmps56
      go_wp2
      go_ret
      exact ⟨rfl, (Gr.refl _).alloc _⟩
    · have e : okN (2, a, b) i = (decide (0 ≤ a) && decide (a < 4)) := rfl
      rw [e]
      clear e
      by_cases h1 : 0 ≤ a
      · by_cases h2 : a < 4
        · have e : (decide (0 ≤ a) && decide (a < 4)) = true := by simp [h1, h2]
          rw [e]
          clear e
          go_enter Try.func56, Try.ntmps56
          go_wp2
          go_ret
          exact ⟨rfl, (Gr.refl _).alloc _⟩
        · have e : (decide (0 ≤ a) && decide (a < 4)) = false := by simp [h2]
          rw [e]
          clear e
          go_enter Try.func56, Try.ntmps56
          go_wp2
          go_ret
          exact ⟨rfl, (Gr.refl _).alloc _⟩
      · have e : (decide (0 ≤ a) && decide (a < 4)) = false := by simp [h1]
        rw [e]
        clear e
        go_enter Try.func56, Try.ntmps56
        go_wp2
        go_ret
        exact ⟨rfl, (Gr.refl _).alloc _⟩
    · have e : okN (3, a, b) i = (decide (0 ≤ a) && decide (b ≤ 32) && decide (a < b)) := rfl
      rw [e]
      clear e
      by_cases h1 : 0 ≤ a
      · by_cases h2 : b ≤ 32
        · by_cases h3 : a < b
          · have e : (decide (0 ≤ a) && decide (b ≤ 32) && decide (a < b)) = true := by simp [h1, h2, h3]
            rw [e]
            clear e
            go_enter Try.func56, Try.ntmps56
            go_wp2
            go_ret
            exact ⟨rfl, (Gr.refl _).alloc _⟩
          · have e : (decide (0 ≤ a) && decide (b ≤ 32) && decide (a < b)) = false := by simp [h3]
            rw [e]
            clear e
            go_enter Try.func56, Try.ntmps56
            go_wp2
            go_ret
            exact ⟨rfl, (Gr.refl _).alloc _⟩
        · have e : (decide (0 ≤ a) && decide (b ≤ 32) && decide (a < b)) = false := by simp [h2]
          rw [e]
          clear e
          go_enter Try.func56, Try.ntmps56
          go_wp2
          go_ret
          exact ⟨rfl, (Gr.refl _).alloc _⟩
      · have e : (decide (0 ≤ a) && decide (b ≤ 32) && decide (a < b)) = false := by simp [h1]
        rw [e]
        clear e
        go_enter Try.func56, Try.ntmps56
        go_wp2
        go_ret
        exact ⟨rfl, (Gr.refl _).alloc _⟩
    · have e : okN (4, a, b) i = earB a i := rfl
      rw [e]
      clear e
      cases h : earB a i
      all_goals
        go_enter Try.func56, Try.ntmps56
        go_wp2_with fail
        refine (isEarlier_any _ _ _).mono ?_
        rw [h]
        rintro e w1 ⟨rfl, rfl⟩
        go_wp2_with fail
        go_ret
        exact ⟨rfl, (Gr.refl _).alloc _⟩
    all_goals
      first
        | rw [show okN (5, a, b) i = (earB a i && earB b i) from rfl]
        | rw [show okN (6, a, b) i = (earB a i && earB b i) from rfl]
      cases h : earB a i
      · go_enter Try.func56, Try.ntmps56
        go_wp2_with fail
        refine (isEarlier_any _ _ _).mono ?_
        rw [h]
        rintro e w1 ⟨rfl, rfl⟩
        go_wp2_with fail
        go_ret
        exact ⟨rfl, (Gr.refl _).alloc _⟩
      · cases h2 : earB b i
        all_goals
          go_enter Try.func56, Try.ntmps56
          go_wp2_with fail
          refine (isEarlier_any _ _ _).mono ?_
          rw [h]
          rintro e w1 ⟨rfl, rfl⟩
          go_wp2_with fail
          refine (isEarlier_any _ _ _).mono ?_
          rw [h2]
          rintro e w1 ⟨rfl, rfl⟩
          go_wp2_with fail
          go_ret
          exact ⟨rfl, (Gr.refl _).alloc _⟩

/-- a node alone in its block -/
def NdAt (w : World) (b : Nat) (n : Nd) : Prop := b < w.heap.size ∧ w.cell? ⟨b, 0, none⟩ = some (.int .i64 n.1) ∧ w.cell? ⟨b, 1, none⟩ = some (.int .i64 n.2.1) ∧ w.cell? ⟨b, 2, none⟩ = some (.int .i64 n.2.2)

set_option maxHeartbeats 1000000 in
set_option maxRecDepth 100000 in
theorem lcheck_any (v : Value) (l : List Nd) (w : World) (hr : RdN w v l) :
    Calls Try.prog 32 #[v] w fun e w' => e = .returned (.int .i64 (chkL l)) ∧ Gr w w' := by
  obtain ⟨a, cp, rfl, hcp, hx⟩ := hr
  by_cases h0 : l.length = 0
  · have e : chkL l = 2 := by simp [chkL, h0]
    rw [e]
    have hz : ((l.length : Int) == 0) = true := by rw [beq_iff_eq]; omega
    clear hx
    go_enter Try.func32, Try.ntmps32
    go_wp2
    go_ret
    exact ⟨rfl, Gr.refl _⟩
  · have hz : ((l.length : Int) == 0) = false := by rw [Bool.eq_false_iff]; intro h; rw [beq_iff_eq] at h; omega
    by_cases h30 : 30 < l.length
    · have e : chkL l = 2 := by simp [chkL, h30]
      rw [e]
      have hz2 : (30 : Int) < (l.length : Int) := by omega
      clear hx
      go_enter Try.func32, Try.ntmps32
      go_wp2
      go_ret
      exact ⟨rfl, Gr.refl _⟩
    · have e : chkL l = chkNs 0 l := by simp [chkL, h30]; intro e; subst e; simp at h0
      rw [e]
      clear e
      have hz2 : ¬ (30 : Int) < (l.length : Int) := by omega
      have HX := Lib.hid hx
      clear hx
      go_enter Try.func32, Try.ntmps32
      go_wp2
      go_loopw [16] (fun i wr => ∃ k : Nat, k ≤ l.length ∧ i = .int .i64 k ∧ Hid (chkNs 0 l = chkNs k (l.drop k)) ∧ Gr w wr) (fun i _ => l.length - (intOf i).toNat)
      case atStart => exact ⟨0, by omega, rfl, rfl, Gr.refl _⟩
      case round =>
        obtain ⟨k, hk, rfl, he, hg⟩ := hrel
        by_cases hlt : k < l.length
        · obtain ⟨⟨kd, na, nb⟩, hp⟩ : ∃ p, l[k]? = some p := ⟨_, List.getElem?_eq_getElem hlt⟩
          obtain ⟨b, off, rfl, hb, hcell⟩ := HX.out (by intro e; rw [e] at hlt; simp at hlt)
          obtain ⟨c1, c2, c3⟩ := hcell k _ hp
          rw [← hg.cells.1 b _ hb] at c1 c2 c3
          simp only at c1 c2 c3
          have hbr : b < wr.heap.size := Nat.lt_of_lt_of_le hb hg.le
          have hk30 : (k : Int) < 30 := by omega
          have HE := Lib.hid (he.out.trans (chkNs_drop hp))
          clear hcell hp he
          go_wp2_with fail
          refine (checkNode_any _ _ _ _ _).mono ?_
          rintro e w1 ⟨rfl, g1⟩
          have G1 := (hg.alloc (.cells #[.int .i64 kd, .int .i64 na, .int .i64 nb] 40)).trans g1
          clear g1
          cases hc : (chkN (kd, na, nb) (k : Int) == 0)
          · have hc' := bne_of' hc
            have HF : Hid (chkNs 0 l = chkN (kd, na, nb) (k : Int)) := by rw [HE.out, hc]; rfl
            clear HE
            go_wp2_with fail
            go_ret
            exact ⟨by rw [HF.out]; rfl, G1⟩
          · have hc' := bne_of hc
            have HF : Hid (chkNs 0 l = chkNs (k + 1) (l.drop (k + 1))) := by rw [HE.out, hc]; rfl
            clear HE
            go_wp2_with fail
            go_roundw
            case rel => exact ⟨k + 1, by omega, by go_num, HF, G1⟩
            case measure => simp [intOf]; omega
        · obtain rfl : k = l.length := by omega
          have HF : Hid (chkNs 0 l = 0) := by rw [he.out, List.drop_length]; rfl
          clear he
          go_wp2_with fail
          go_ret
          exact ⟨by rw [HF.out]; rfl, hg⟩
end Go.Proofs.Ytbodadddcbbjeaa
