/- Joined: FormH, FormI, FormJ, FormK. -/
import Derived.Test.YtbodadddcbbjeaaFormA
import Derived.Test.YtbodadddcbbjeaaFilA
import Derived.Test.YtbodadddcbbjeaaFormD
/- The plain mathematics of formula.Of: the nodes that it adds, and what they say. -/
namespace Rm
open Go Go.RowKit
set_option linter.unusedVariables false

/-- nodes that are right, each at its place -/
def OkG (l : List Nd) : Prop := ∀ k n, l[k]? = some n → OkN n k
theorem OkG.snoc {l : List Nd} (h : OkG l) {n : Nd} (hn : OkN n l.length) : OkG (l ++ [n]) := by
  intro i m hi
  rcases Nat.lt_or_ge i l.length with c | c
  · rw [List.getElem?_append_left c] at hi
    exact h i m hi
  · rw [List.getElem?_append_right c] at hi
    have : i - l.length = 0 := by
      rcases Nat.eq_zero_or_pos (i - l.length) with z | z
      · exact z
      · rw [List.getElem?_eq_none (by simp; omega)] at hi; cases hi
    rw [this] at hi
    simp at hi
    subst hi
    rwa [show i = l.length from by omega]
theorem OkG.okL {l : List Nd} (h : OkG l) (h0 : 0 < l.length) (h30 : l.length ≤ 30) : OkL l := ⟨h0, h30, h⟩
/-- node r says P -/
def Val (l : List Nd) (r : Nat) (P : Pt) : Prop := r < l.length ∧ ∀ t, t < 16 → ∀ x, x < 32 → getP (semL l) r t x = P t x
theorem Val.more {l : List Nd} {r : Nat} {P : Pt} (h : Val l r P) (s : List Nd) : Val (l ++ s) r P :=
  ⟨by rw [List.length_append]; have := h.1; omega, fun t ht x hx => by rw [semL_more h.1]; exact h.2 t ht x hx⟩
theorem Val.ext {l : List Nd} {r : Nat} {P Q : Pt} (h : Val l r P) (e : ∀ t, t < 16 → ∀ x, x < 32 → P t x = Q t x) : Val l r Q := ⟨h.1, fun t ht x hx => (h.2 t ht x hx).trans (e t ht x hx)⟩
theorem semL_end (l : List Nd) (n : Nd) : getP (semL (l ++ [n])) l.length = ndP n (getP (semL l)) := by
  rw [semL_snoc, ← semL_len l, getP_end]
theorem Val.snoc {l : List Nd} {n : Nd} {P : Pt} (h : ∀ t, t < 16 → ∀ x, x < 32 → ndP n (getP (semL l)) t x = P t x) : Val (l ++ [n]) l.length P :=
  ⟨by simp, fun t ht x hx => by rw [semL_end]; exact h t ht x hx⟩
theorem val_tag (l : List Nd) (i : Nat) : Val (l ++ [(2, (i : Int), 0)]) l.length (fun t _ => t.testBit i) := Val.snoc (fun t _ x _ => rfl)
theorem val_num (l : List Nd) (a b : Nat) : Val (l ++ [(3, (a : Int), (b : Int))]) l.length (fun _ x => decide ((a : Int) ≤ (x : Int)) && decide ((x : Int) < (b : Int))) := Val.snoc (fun t _ x _ => rfl)
theorem Val.not {l : List Nd} {a : Nat} {P : Pt} (h : Val l a P) : Val (l ++ [(4, (a : Int), 0)]) l.length (fun t x => !P t x) := Val.snoc (fun t ht x hx => by rw [← h.2 t ht x hx]; rfl)
theorem Val.both {l : List Nd} {a b : Nat} {P Q : Pt} (h : Val l a P) (h' : Val l b Q) : Val (l ++ [(5, (a : Int), (b : Int))]) l.length (fun t x => P t x && Q t x) := Val.snoc (fun t ht x hx => by rw [← h.2 t ht x hx, ← h'.2 t ht x hx]; rfl)
theorem Val.any {l : List Nd} {a b : Nat} {P Q : Pt} (h : Val l a P) (h' : Val l b Q) : Val (l ++ [(6, (a : Int), (b : Int))]) l.length (fun t x => P t x || Q t x) := Val.snoc (fun t ht x hx => by rw [← h.2 t ht x hx, ← h'.2 t ht x hx]; rfl)
theorem okN_tag {a i : Nat} (h : a < 4) : OkN (2, (a : Int), 0) i := ⟨rfl, by simp [okN]; omega⟩
theorem okN_num {a b i : Nat} (h : a < b) (hb : b ≤ 32) : OkN (3, (a : Int), (b : Int)) i := ⟨rfl, by simp [okN]; omega⟩
theorem okN_n {a i : Nat} (h : a < i) : OkN (4, (a : Int), 0) i := ⟨rfl, by simp [okN, earB]; omega⟩
theorem okN_b {a b i : Nat} (h : a < i) (hb : b < i) : OkN (5, (a : Int), (b : Int)) i := ⟨rfl, by simp [okN, earB]; omega⟩
theorem okN_a {a b i : Nat} (h : a < i) (hb : b < i) : OkN (6, (a : Int), (b : Int)) i := ⟨rfl, by simp [okN, earB]; omega⟩

/-- nodes, and the number of the one that counts -/
abbrev NS := List Nd × Nat
def addTag (y n i : Nat) (s : NS) : NS :=
  if n.testBit i then (s.1 ++ [(2, (i : Int), 0), (4, (s.1.length : Int), 0), (5, (s.2 : Int), ((s.1.length + 1 : Nat) : Int))], s.1.length + 2)
  else if y.testBit i then (s.1 ++ [(2, (i : Int), 0), (5, (s.2 : Int), (s.1.length : Int))], s.1.length + 1)
  else s
def addTags (y n : Nat) : Nat → NS → NS
  | 0, s => s
  | k + 1, s => addTag y n k (addTags y n k s)
def condT (y n i t : Nat) : Bool := if n.testBit i then !t.testBit i else if y.testBit i then t.testBit i else true
def condTs (y n : Nat) : Nat → Nat → Bool
  | 0, _ => true
  | k + 1, t => condTs y n k t && condT y n k t
def addSp (s : NS) (p : Nat × Nat) : NS := (s.1 ++ [(3, (p.1 : Int), (p.2 : Int)), (6, (s.2 : Int), (s.1.length : Int))], s.1.length + 1)
def addSps (L : List (Nat × Nat)) (s : NS) : NS := L.foldl addSp s
def boxMid (b : Bx) (l : List Nd) : NS := addTags b.1.1 b.1.2 4 (l, 0)
def boxNum (b : Bx) (l : List Nd) : NS := addSps (canon b.2) ((boxMid b l).1, 1)
def addBox (s : NS) (b : Bx) : NS :=
  ((boxNum b s.1).1 ++ [(5, ((boxMid b s.1).2 : Int), ((boxNum b s.1).2 : Int)), (6, (s.2 : Int), ((boxNum b s.1).1.length : Int))], (boxNum b s.1).1.length + 1)
def ofS (F : List Bx) : NS := F.foldl addBox ([(1, 0, 0), (4, 0, 0)], 1)

/-- from s on nodes were added, and the one that counts says P -/
def Adds (l : List Nd) (s : NS) (P : Pt) : Prop := OkG s.1 ∧ Val s.1 s.2 P ∧ ∃ e, s.1 = l ++ e
theorem Adds.ext {l : List Nd} {s : NS} {P Q : Pt} (h : Adds l s P) (e : ∀ t, t < 16 → ∀ x, x < 32 → P t x = Q t x) : Adds l s Q := ⟨h.1, h.2.1.ext e, h.2.2⟩
theorem adds_tag {l : List Nd} {s : NS} {P : Pt} (h : Adds l s P) (y n : Nat) {i : Nat} (hi : i < 4) : Adds l (addTag y n i s) (fun t x => P t x && condT y n i t) := by
  obtain ⟨hg, hv, e, he⟩ := h
  have hr := hv.1
  unfold addTag condT
  split
  · rename_i hn
    have h1 : OkG (s.1 ++ [(2, (i : Int), 0)]) := hg.snoc (okN_tag hi)
    have v1 := val_tag s.1 i
    have h2 : OkG ((s.1 ++ [(2, (i : Int), 0)]) ++ [(4, (s.1.length : Int), 0)]) := h1.snoc (okN_n (by simp))
    have v2 := v1.not
    have h3 : OkG (((s.1 ++ [(2, (i : Int), 0)]) ++ [(4, (s.1.length : Int), 0)]) ++ [(5, (s.2 : Int), ((s.1.length + 1 : Nat) : Int))]) := h2.snoc (okN_b (by simp; omega) (by simp))
    have v3 := ((hv.more [(2, (i : Int), 0)]).more [(4, (s.1.length : Int), 0)]).both v2
    simp only [List.length_append, List.length_singleton, List.append_assoc, List.singleton_append] at h3 v3
    refine ⟨by simpa using h3, ?_, e ++ _, by rw [he, List.append_assoc]⟩
    simp only [List.nil_append, List.cons_append] at v3
    exact v3
  · split
    · rename_i hn hy
      have h1 : OkG (s.1 ++ [(2, (i : Int), 0)]) := hg.snoc (okN_tag hi)
      have v1 := val_tag s.1 i
      have h3 : OkG ((s.1 ++ [(2, (i : Int), 0)]) ++ [(5, (s.2 : Int), (s.1.length : Int))]) := h1.snoc (okN_b (by simp; omega) (by simp))
      have v3 := (hv.more [(2, (i : Int), 0)]).both v1
      simp only [List.length_append, List.length_singleton, List.append_assoc, List.singleton_append] at h3 v3
      refine ⟨by simpa using h3, by simpa using v3, e ++ _, by rw [he, List.append_assoc]⟩
    · exact ⟨hg, by simpa using hv, e, he⟩
theorem adds_tags {l : List Nd} {s : NS} {P : Pt} (h : Adds l s P) (y n : Nat) : ∀ k, k ≤ 4 → Adds l (addTags y n k s) (fun t x => P t x && condTs y n k t)
  | 0, _ => h.ext (fun t _ x _ => by simp [condTs])
  | k + 1, hk => (adds_tag (adds_tags h y n k (by omega)) y n (by omega)).ext (fun t _ x _ => by simp [condTs, Bool.and_assoc])
theorem adds_sp {l : List Nd} {s : NS} {P : Pt} (h : Adds l s P) {p : Nat × Nat} (hp : p.1 < p.2 ∧ p.2 ≤ 32) : Adds l (addSp s p) (fun t x => P t x || (decide (p.1 ≤ x) && decide (x < p.2))) := by
  obtain ⟨hg, hv, e, he⟩ := h
  have hr := hv.1
  have h1 : OkG (s.1 ++ [(3, (p.1 : Int), (p.2 : Int))]) := hg.snoc (okN_num hp.1 hp.2)
  have v1 := val_num s.1 p.1 p.2
  have h2 : OkG ((s.1 ++ [(3, (p.1 : Int), (p.2 : Int))]) ++ [(6, (s.2 : Int), (s.1.length : Int))]) := h1.snoc (okN_a (by simp; omega) (by simp))
  have v2 := (hv.more [(3, (p.1 : Int), (p.2 : Int))]).any v1
  simp only [List.length_append, List.length_singleton, List.append_assoc, List.singleton_append] at h2 v2
  refine ⟨by simpa [addSp] using h2, ?_, e ++ _, by unfold addSp; simp only; rw [he, List.append_assoc]⟩
  unfold addSp
  exact Val.ext (by simpa using v2) (fun t _ x _ => by simp)
theorem adds_sps (L : List (Nat × Nat)) : ∀ {l : List Nd} {s : NS} {P : Pt}, Adds l s P → (∀ p ∈ L, p.1 < p.2 ∧ p.2 ≤ 32) → Adds l (addSps L s) (fun t x => P t x || L.any fun p => decide (p.1 ≤ x) && decide (x < p.2)) := by
  induction L with
  | nil => intro l s P h _; exact h.ext (fun t _ x _ => by simp)
  | cons p L ih =>
    intro l s P h hp
    exact (ih (adds_sp h (hp p (List.mem_cons_self ..))) (fun q hq => hp q (List.mem_cons_of_mem _ hq))).ext (fun t _ x _ => by simp [Bool.or_assoc])
theorem cond_tab : ∀ y < 16, ∀ n < 16, ∀ t < 16, Nat.land y n = 0 → condTs y n 4 t = inC ((y, n), 0) t := by decide +kernel
theorem cond_inC {b : Bx} (h : OkB b) {t : Nat} (ht : t < 16) : condTs b.1.1 b.1.2 4 t = inC b t := cond_tab _ h.1.1 _ h.1.2.1 t ht h.1.2.2
theorem canon_any {m : Nat} (hm : m < 2 ^ 32) {x : Nat} (hx : x < 32) : ((canon m).any fun p => decide (p.1 ≤ x) && decide (x < p.2)) = m.testBit x := by
  rw [Bool.eq_iff_iff]
  have h := canon_mem m x
  simp only [List.any_eq_true, Bool.and_eq_true, decide_eq_true_eq]
  constructor
  · rintro ⟨p, hp, h1, h2⟩
    exact (h.1 ⟨p, hp, h1, h2⟩).2
  · intro hb
    obtain ⟨p, hp, h1, h2⟩ := h.2 ⟨hx, hb⟩
    exact ⟨p, hp, h1, h2⟩
/-- the two first nodes are there: all, and none -/
def Base (l : List Nd) : Prop := OkG l ∧ Val l 0 (fun _ _ => true) ∧ Val l 1 (fun _ _ => false)
theorem Base.of {l : List Nd} {s : NS} {P : Pt} (h : Base l) (a : Adds l s P) : Base s.1 := by
  obtain ⟨hg, hv, e, he⟩ := a
  refine ⟨hg, ?_, ?_⟩
  · rw [he]; exact h.2.1.more e
  · rw [he]; exact h.2.2.more e
theorem adds_box {s : NS} {P : Pt} {b : Bx} (hb : OkB b) (h : Base s.1) (hv : Val s.1 s.2 P) : Adds s.1 (addBox s b) (fun t x => P t x || (inC b t && b.2.testBit x)) ∧ Base (addBox s b).1 := by
  have a1 : Adds s.1 (boxMid b s.1) (fun t x => true && condTs b.1.1 b.1.2 4 t) := adds_tags (s := (s.1, 0)) ⟨h.1, h.2.1, [], by simp⟩ _ _ 4 (Nat.le_refl _)
  have b1 := h.of a1
  obtain ⟨e1, he1⟩ := a1.2.2
  have a2 : Adds (boxMid b s.1).1 (boxNum b s.1) (fun t x => false || (canon b.2).any fun p => decide (p.1 ≤ x) && decide (x < p.2)) := adds_sps (canon b.2) (s := ((boxMid b s.1).1, 1)) ⟨b1.1, b1.2.2, [], by simp⟩ (fun p hp => (canon_VF b.2).le p hp)
  have b2 := b1.of a2
  obtain ⟨e2, he2⟩ := a2.2.2
  have v1 : Val (boxNum b s.1).1 (boxMid b s.1).2 (fun t x => true && condTs b.1.1 b.1.2 4 t) := by rw [he2]; exact a1.2.1.more e2
  have v0 : Val (boxNum b s.1).1 s.2 P := by rw [he2, he1, List.append_assoc]; exact hv.more _
  have v3 := v1.both a2.2.1
  have g3 : OkG ((boxNum b s.1).1 ++ [(5, ((boxMid b s.1).2 : Int), ((boxNum b s.1).2 : Int))]) := a2.1.snoc (okN_b v1.1 a2.2.1.1)
  have v4 := (v0.more [(5, ((boxMid b s.1).2 : Int), ((boxNum b s.1).2 : Int))]).any v3
  have g4 : OkG (((boxNum b s.1).1 ++ [(5, ((boxMid b s.1).2 : Int), ((boxNum b s.1).2 : Int))]) ++ [(6, (s.2 : Int), ((boxNum b s.1).1.length : Int))]) := g3.snoc (okN_a (by have := v0.1; simp; omega) (by simp))
  simp only [List.length_append, List.length_singleton, List.append_assoc, List.singleton_append] at g4 v4
  have key : Adds s.1 (addBox s b) (fun t x => P t x || (inC b t && b.2.testBit x)) := by
    refine ⟨by simpa [addBox] using g4, ?_, e1 ++ (e2 ++ _), by unfold addBox; simp only; rw [he2, he1, List.append_assoc, List.append_assoc]⟩
    unfold addBox
    refine Val.ext (by simpa using v4) (fun t ht x hx => ?_)
    show (P t x || (true && condTs b.1.1 b.1.2 4 t && (false || _))) = _
    rw [cond_inC hb ht, canon_any hb.2 hx, Bool.true_and, Bool.false_or]
  exact ⟨key, h.of key⟩
theorem base0 : Base [(1, 0, 0), (4, 0, 0)] := by
  refine ⟨?_, ⟨by simp, fun t _ x _ => rfl⟩, ⟨by simp, fun t _ x _ => rfl⟩⟩
  intro k n hk
  match k with
  | 0 => simp at hk; subst hk; exact ⟨rfl, rfl⟩
  | 1 => simp at hk; subst hk; exact ⟨rfl, rfl⟩
  | k + 2 => simp at hk
theorem ofS_snoc (F : List Bx) (b : Bx) : ofS (F ++ [b]) = addBox (ofS F) b := by simp [ofS]
theorem ofS_take {F : List Bx} {k : Nat} {b : Bx} (h : F[k]? = some b) : ofS (F.take (k + 1)) = addBox (ofS (F.take k)) b := by
  obtain ⟨hk, e⟩ := List.getElem?_eq_some_iff.1 h
  rw [List.take_succ_eq_append_getElem hk, e, ofS_snoc]
theorem ofS_ok {F : List Bx} (h : OkF F) : ∀ k, k ≤ F.length → Base (ofS (F.take k)).1 ∧ Val (ofS (F.take k)).1 (ofS (F.take k)).2 (fun t x => (tabF (F.take k) t).testBit x) ∧ (ofS (F.take k)).2 + 1 = (ofS (F.take k)).1.length
  | 0, _ => ⟨base0, base0.2.2.ext (fun t _ x _ => by simp [tabF]), rfl⟩
  | k + 1, hk => by
    obtain ⟨b, hb⟩ : ∃ b, F[k]? = some b := ⟨_, List.getElem?_eq_getElem (by omega)⟩
    obtain ⟨i1, i2, i3⟩ := ofS_ok h k (by omega)
    have hB : OkB b := h b (List.mem_of_getElem? hb)
    obtain ⟨a1, a2⟩ := adds_box hB i1 i2
    rw [ofS_take hb]
    refine ⟨a2, a1.2.1.ext (fun t ht x hx => ?_), by simp [addBox]⟩
    rw [tabF_take hb]
    unfold addB
    cases hc : inC b t
    · simp
    · simp [Nat.testBit_or]
/-- the nodes that Of makes -/
def ofL (F : List Bx) : List Nd := (ofS F).1
theorem ofL_ok {F : List Bx} (h : OkF F) : OkG (ofL F) ∧ 0 < (ofL F).length ∧ ∀ t, t < 16 → ∀ x, x < 32 → formP (ofL F) t x = (tabF F t).testBit x := by
  obtain ⟨h1, h2, h3⟩ := ofS_ok h F.length (Nat.le_refl _)
  rw [List.take_length] at h1 h2 h3
  refine ⟨h1.1, by unfold ofL; omega, fun t ht x hx => ?_⟩
  unfold formP ofL
  rw [← h3, Nat.add_sub_cancel]
  exact h2.2 t ht x hx

/-- how many nodes -/
def tagN (y n i : Nat) : Nat := if n.testBit i then 3 else if y.testBit i then 2 else 0
theorem addTag_len (y n i : Nat) (s : NS) : (addTag y n i s).1.length = s.1.length + tagN y n i := by
  unfold addTag tagN
  split
  · simp
  · split <;> simp
def tagNs (y n : Nat) : Nat → Nat
  | 0 => 0
  | k + 1 => tagNs y n k + tagN y n k
theorem addTags_len (y n : Nat) (s : NS) : ∀ k, (addTags y n k s).1.length = s.1.length + tagNs y n k
  | 0 => rfl
  | k + 1 => by simp only [addTags, tagNs]; rw [addTag_len, addTags_len y n s k]; omega
theorem tagNs_le (y n : Nat) : ∀ k, tagNs y n k ≤ 3 * k
  | 0 => Nat.le_refl _
  | k + 1 => by
    have := tagNs_le y n k
    simp only [tagNs]
    have : tagN y n k ≤ 3 := by unfold tagN; split <;> (try split) <;> omega
    omega
theorem addSps_len (L : List (Nat × Nat)) : ∀ s : NS, (addSps L s).1.length = s.1.length + 2 * L.length := by
  induction L with
  | nil => intro s; rfl
  | cons p L ih =>
    intro s
    show (addSps L (addSp s p)).1.length = _
    rw [ih]
    simp [addSp]
    omega
def boxN (b : Bx) : Nat := 2 + tagNs b.1.1 b.1.2 4 + 2 * (canon b.2).length
theorem addBox_len (s : NS) (b : Bx) : (addBox s b).1.length = s.1.length + boxN b := by
  unfold addBox boxN boxNum boxMid
  simp only [List.length_append]
  rw [addSps_len]
  simp only
  rw [addTags_len]
  simp
  omega
def boxNs (F : List Bx) : Nat := F.foldl (fun n b => n + boxN b) 2
theorem ofL_len (F : List Bx) : (ofL F).length = boxNs F := by
  unfold ofL ofS boxNs
  have key : ∀ (G : List Bx) (s : NS) (n : Nat), s.1.length = n → (G.foldl addBox s).1.length = G.foldl (fun n b => n + boxN b) n := by
    intro G
    induction G with
    | nil => intro s n h; exact h
    | cons b G ih => intro s n h; exact ih _ _ (by rw [addBox_len, h])
  exact key F _ _ rfl
theorem canon_len16 (m : Nat) : (canon m).length ≤ 16 := (canon_VF m).len16
theorem boxN_le (b : Bx) : boxN b ≤ 46 := by have := tagNs_le b.1.1 b.1.2 4; have := canon_len16 b.2; unfold boxN; omega
theorem ofS_len (F : List Bx) : (ofS F).1.length ≤ 2 + 46 * F.length := by
  unfold ofS
  have key : ∀ (G : List Bx) (s : NS), (G.foldl addBox s).1.length ≤ s.1.length + 46 * G.length := by
    intro G
    induction G with
    | nil => intro s; simp
    | cons b G ih => intro s; have h1 := ih (addBox s b); have h2 := addBox_len s b; have h3 := boxN_le b; simp only [List.foldl_cons, List.length_cons]; omega
  have := key F ([(1, 0, 0), (4, 0, 0)], 1)
  simpa using this
end Rm
/- The contracts of package formula's Of: the closure that adds a node, addCube and addSpans. -/
namespace Go.Proofs.Ytbodadddcbbjeaa
open Go.RowKit Rm
set_option linter.unusedVariables false

/-- every block but those of the list that grows is as it was -/
def Typ (w w' : World) : Prop := ∀ (k : Nat) (cs : Array Value) (t : TypeId) (fr : Nat × Nat), w.heap[k]? = some (.cells cs t fr) → t ≠ 22 → t ≠ 40 → w'.heap[k]? = some (.cells cs t fr)
theorem Typ.refl (w : World) : Typ w w := fun _ _ _ _ h _ _ => h
theorem Typ.trans {a b c : World} (h : Typ a b) (h' : Typ b c) : Typ a c := fun k cs t fr e h1 h2 => h' k cs t fr (h k cs t fr e h1 h2) h1 h2
theorem Typ.of {w w' : World} (g : Gr w w') : Typ w w' := fun k cs t fr h _ _ => (Below.block g k (Blk_lt h)).trans h
/-- the list of nodes that Of makes: its variable's block is B -/
def AddAt (w0 w : World) (B : Nat) (l : List Nd) : Prop := Gr w0 w ∧ w0.heap.size ≤ B ∧ ∃ u, w.heap[B]? = some (.cells #[u] 22 (0, 0)) ∧ OwnN w0.heap.size w u l
theorem AddAt.gr {w0 w w' : World} {B : Nat} {l : List Nd} (h : AddAt w0 w B l) (g : Gr w w') : AddAt w0 w' B l := by
  obtain ⟨h1, h2, u, h3, h4⟩ := h
  exact ⟨h1.trans g, h2, u, (Below.block g _ (Blk_lt h3)).trans h3, h4.gr g⟩
theorem own_ne {w : World} {base : Nat} {e : TypeId} {s : Nat} {v : Value} {n : Nat} {xs : List Value} {B : Nat} {cs : Array Value} {t : TypeId} {fr : Nat × Nat} (h : w.ownsRow base e s v n xs) (hB : w.heap[B]? = some (.cells cs t fr)) (he : e ≠ t) : v.ownBlock ≠ some B := by
  rcases h.2 with ⟨rfl, _⟩ | ⟨g, c, cur, rfl, _, hg, _⟩
  · simp [Value.ownBlock]
  · intro e
    simp [Value.ownBlock] at e
    subst e
    rw [hg] at hB
    simp at hB
    exact he hB.2.1
theorem own_far {w : World} {base : Nat} {e : TypeId} {s : Nat} {v : Value} {n : Nat} {xs : List Value} {B o : Nat} {x : Value} (h : w.ownsRow base e s v n xs) (hB : v.ownBlock ≠ some B) : (w.setCell ⟨B, o, none⟩ x).ownsRow base e s v n xs := by
  refine h.kept (row := some B) ⟨rfl, rfl, rfl, by simp, fun k _ hk => heap_setCell_other w ⟨B, o, none⟩ k x (fun e => hk (by simp [e]))⟩ ?_
  exact .inr hB

set_option maxHeartbeats 1000000 in
set_option maxRecDepth 100000 in
theorem add_any {w0 w : World} {B : Nat} {l : List Nd} (h : AddAt w0 w B l) (hl : l.length ≤ 5000) (k a b : Int) :
    Calls Try.prog 44 #[.agg #[.int .i64 k, .int .i64 a, .int .i64 b], .pointer (some ⟨B, 0, none⟩)] w fun e w' => e = .returned (.int .i64 (l.length : Int)) ∧ AddAt w0 w' B (l ++ [(k, a, b)]) ∧ Typ w w' := by
  obtain ⟨i0, hi0, hz0, hz1, hz2⟩ := info_parts node_info
  obtain ⟨h1, h2, u, h3, h4⟩ := h
  obtain ⟨ua, uc, rfl, huc⟩ := own_form h4
  have HO := Lib.hid h4
  have HB := Lib.hid h3
  have hlt := Blk_lt h3
  have HNE := Lib.hid (own_ne h4 h3 (by decide))
  have c1 : w.cell? ⟨B, 0, none⟩ = some (.slice ua l.length uc) := by rw [cell_of_row _ _ _ _ _ _ h3]; rfl
  have hl' : (l.length : Int) ≤ 5000 := by omega
  have hwl := h1.le
  have hsub : (l.length : Int) + 1 - 1 = (l.length : Int) := by omega
  have HA : Hid (flatN (l ++ [(k, a, b)]) = flatN l ++ [.int .i64 k, .int .i64 a, .int .i64 b] ∧ (l ++ [(k, a, b)]).length = l.length + 1) := ⟨by rw [flatN_app]; rfl, by simp⟩
  clear h3 h4
  go_enter Try.func44, Try.ntmps44
  go_wp2_with (at_builtin; refine wpList_append_own _ rfl (.tmp 4) (.tmp 6) 22 rfl w0.heap.size 40 i0 _ 3 24 Try.underlying22 hi0 hz0 hz1 hz2 rfl (by omega) _ _ _ rfl ((HO.out.alloc _).alloc _) ⟨w.heap.size + 1, 0, none⟩ 1 1 [.int .i64 k, .int .i64 a, .int .i64 b] rfl rfl (by have := newK (w.alloc (.cells #[.int .i64 k, .int .i64 a, .int .i64 b] 40)) [.int .i64 k, .int .i64 a, .int .i64 b] 40; simpa using this) (by simp [Value.oneCell']) (by simp only [maxLen]; omega) (by omega) (by simp; omega) ?_; intro v1 w4 hown hg1 _; obtain ⟨a1, c1, rfl, hc1⟩ := own_form hown; have hB4 : w4.heap[B]? = some (.cells #[.slice ua l.length uc] 22 (0, 0)) := (hg1.block B (by simp; omega) (fun e => HNE.out e.symm)).trans ((Below.block (((Gr.refl w).alloc _).alloc _) B hlt).trans HB.out); have d1 : w4.cell? ⟨B, 0, none⟩ = some (.slice ua l.length uc) := (by rw [cell_of_row _ _ _ _ _ _ hB4]; rfl); have d2 := frozen_of_row w4 B 0 _ _ hB4)
  go_ret
  refine ⟨rfl, ⟨((((h1.alloc _).alloc _).grown hg1 (fun k hk => (HO.out.lt k hk).1)).setCell (p := ⟨B, 0, none⟩) h2 _), h2, _, heap_setCell_same _ _ _ _ _ _ hB4, ?_⟩, ?_⟩
  · unfold OwnN
    rw [HA.out.1, HA.out.2]
    exact own_far hown (own_ne hown hB4 (by decide))
  · intro j cs t fr hj ht1 ht2
    have hjB : j ≠ B := by rintro rfl; rw [HB.out] at hj; simp at hj; exact ht1 hj.2.1.symm
    have hjl := Blk_lt hj
    rw [heap_setCell_other _ _ _ _ (by simpa using hjB), hg1.block j (by simp; omega) (fun e => own_ne HO.out hj (fun e2 => ht2 e2.symm) e.symm)]
    exact (Below.block (((Gr.refl w).alloc _).alloc _) j hjl).trans hj
end Go.Proofs.Ytbodadddcbbjeaa
/- The contracts of package formula's addCube and addSpans. -/
namespace Rm
open Go Go.RowKit
theorem or16' : ∀ a < 16, ∀ b < 16, bits .or .i64 ((a : Nat) : Int) ((b : Nat) : Int) = ((a ||| b : Nat) : Int) := by decide +kernel
theorem and_pow : ∀ a < 16, ∀ i < 4, (bits .and .i64 ((a : Nat) : Int) ((2 ^ i : Nat) : Int) == 0) = !(Nat.testBit a i) := by decide +kernel
theorem or_lt16 : ∀ a < 16, ∀ b < 16, a ||| b < 16 := by decide +kernel
theorem shl_pow {i : Nat} (h : i < 4) : wrap64 (2 ^ i) = ((2 ^ i : Nat) : Int) := by
  have h1 := pow16 i h
  have h2 : ((2 ^ i : Nat) : Int) = (2 : Int) ^ i := by simp
  rw [← h2]
  generalize 2 ^ i = x at *
  unfold wrap64
  omega
theorem neq_of {a b : Int} {c : Bool} (h : (a == b) = c) : (a != b) = !c := by simp [bne, h]
theorem addTag_no {y n i : Nat} {s : NS} (h1 : n.testBit i = true) {p q z : Nat} (hp : s.1.length = p) (hq : q = p + 1) (hz : z = p + 2) : addTag y n i s = (((s.1 ++ [(2, (i : Int), 0)]) ++ [(4, (p : Int), 0)]) ++ [(5, (s.2 : Int), (q : Int))], z) := by
  subst hp hq hz
  unfold addTag
  rw [if_pos h1]
  simp
theorem addTag_yes {y n i : Nat} {s : NS} (h1 : n.testBit i = false) (h2 : y.testBit i = true) {p z : Nat} (hp : s.1.length = p) (hz : z = p + 1) : addTag y n i s = ((s.1 ++ [(2, (i : Int), 0)]) ++ [(5, (s.2 : Int), (p : Int))], z) := by
  subst hp hz
  unfold addTag
  rw [if_neg (by simp [h1]), if_pos h2]
  simp
theorem addTag_none {y n i : Nat} {s : NS} (h1 : n.testBit i = false) (h2 : y.testBit i = false) : addTag y n i s = s := by
  unfold addTag
  rw [if_neg (by simp [h1]), if_neg (by simp [h2])]
theorem addSp_eq {s : NS} {a b p z : Nat} (hp : s.1.length = p) (hz : z = p + 1) : addSp s (a, b) = ((s.1 ++ [(3, (a : Int), (b : Int))]) ++ [(6, (s.2 : Int), (p : Int))], z) := by
  subst hp hz
  unfold addSp
  simp
end Rm
namespace Go.Proofs.Ytbodadddcbbjeaa
open Go.RowKit Rm
set_option linter.unusedVariables false

set_option maxHeartbeats 2000000 in
set_option maxRecDepth 100000 in
theorem addCube_any {w0 w : World} {B : Nat} {l : List Nd} (h : AddAt w0 w B l) (hl : l.length ≤ 4000) (y n r : Nat) (hv : Vld y n) :
    Calls Try.prog 45 #[.agg #[.int .i64 (y : Int), .int .i64 (n : Int)], .int .i64 (r : Int), .func (.func 44) #[] #[.pointer (some ⟨B, 0, none⟩)]] w fun e w' => e = .returned (.int .i64 (((addTags y n 4 (l, r)).2 : Nat) : Int)) ∧ AddAt w0 w' B (addTags y n 4 (l, r)).1 ∧ Typ w w' := by
  obtain ⟨hy, hn, -⟩ := hv
  have HA := Lib.hid h
  have HY := Lib.hid hy
  have HN := Lib.hid hn
  have hor := or16' y hy n hn
  have HOR := Lib.hid (or_lt16 y hy n hn)
  obtain ⟨c, hc⟩ : ∃ c : Nat, y ||| n = c := ⟨_, rfl⟩
  rw [hc] at hor HOR
  have HC := Lib.hid hc
  clear h hy hn hc
  go_enter Try.func45, Try.ntmps45
  go_wp2_with fail
  go_loopw [7, 12] (fun rr ii wr => ∃ i : Nat, i ≤ 4 ∧ ii = .int .i64 i ∧ rr = .int .i64 (((addTags y n i (l, r)).2 : Nat) : Int) ∧ AddAt w0 wr B (addTags y n i (l, r)).1 ∧ wr.heap[w.heap.size]? = some (.cells #[.int .i64 (y : Int), .int .i64 (n : Int)] 70 (0, 0)) ∧ Typ w wr) (fun _ ii _ => 4 - (intOf ii).toNat)
  case atStart => exact ⟨0, by omega, rfl, rfl, HA.out.gr ((Gr.refl w).alloc _), heap_alloc_new _ _, Typ.of ((Gr.refl w).alloc _)⟩
  case round =>
    clear HA
    obtain ⟨i, hi, rfl, rfl, hat, hcu, hty⟩ := hrel
    have hsl : (addTags y n i (l, r)).1.length ≤ 4012 := by rw [addTags_len]; have := tagNs_le y n i; simp only; omega
    by_cases hlt : i < 4
    · have HS : Hid (addTags y n (i + 1) (l, r) = addTag y n i (addTags y n i (l, r))) := rfl
      generalize addTags y n i (l, r) = s at *
      have hi4 : (i : Int) < 4 := by omega
      obtain ⟨g, hgi⟩ : ∃ g : Nat, 2 ^ i = g := ⟨_, rfl⟩
      have hp := shl_pow hlt
      have a1 := and_pow c HOR.out i hlt
      have a2 := and_pow n HN.out i hlt
      rw [hgi] at hp a1 a2
      have e1 : c.testBit i = (y.testBit i || n.testBit i) := by rw [← HC.out, Nat.testBit_or]
      have k1 : wr.cell? ⟨w.heap.size, 0, none⟩ = some (.int .i64 (y : Int)) := by rw [cell_of_row _ _ _ _ _ _ hcu]; rfl
      have k2 : wr.cell? ⟨w.heap.size, 1, none⟩ = some (.int .i64 (n : Int)) := by rw [cell_of_row _ _ _ _ _ _ hcu]; rfl
      have hcl := Blk_lt hcu
      rw [e1] at a1
      have HCU := Lib.hid hcu
      have HAT := Lib.hid hat
      have HTY := Lib.hid hty
      clear hcu hat hty e1
      obtain ⟨p, hpl⟩ : ∃ p, s.1.length = p := ⟨_, rfl⟩
      have HPL := Lib.hid hpl
      cases hnb : n.testBit i
      · cases hyb : y.testBit i
        · have HE := Lib.hid (addTag_none (s := s) hnb hyb)
          rw [hyb, hnb] at a1
          clear a2 hnb hyb
          simp only [Bool.or_self, Bool.not_false] at a1
          go_wp2_with fail
          go_roundw
          case rel => exact ⟨i + 1, by omega, by go_num, by rw [HS.out, HE.out], by rw [HS.out, HE.out]; exact HAT.out, HCU.out, HTY.out⟩
          case measure => simp [intOf]; omega
        · have HE := Lib.hid (addTag_yes (s := s) hnb hyb hpl (z := p + 1) rfl)
          rw [hyb, hnb] at a1
          rw [hnb] at a2
          have a2' := neq_of a2
          simp only [Bool.or_false, Bool.not_true, Bool.not_false] at a1 a2 a2'
          have L1 : Hid ((s.1 ++ [((2 : Int), (i : Int), (0 : Int))]).length = p + 1) := by unfold Hid; simp; omega
          clear hnb hyb
          go_wp2_with fail
          refine (add_any HAT.out (by omega) _ _ _).mono ?_
          rw [HPL.out]
          rintro e w1 ⟨rfl, A1, t1⟩
          have C1 := t1 _ _ _ _ HCU.out (by decide) (by decide)
          have m1 : w1.cell? ⟨w.heap.size, 0, none⟩ = some (.int .i64 (y : Int)) := by rw [cell_of_row _ _ _ _ _ _ C1]; rfl
          have m2 : w1.cell? ⟨w.heap.size, 1, none⟩ = some (.int .i64 (n : Int)) := by rw [cell_of_row _ _ _ _ _ _ C1]; rfl
          have HA1 := Lib.hid A1
          have HT1 := Lib.hid (HTY.out.trans t1)
          have HC1 := Lib.hid C1
          clear A1 t1 C1 HAT HTY HCU k1 k2
          go_wp2_with fail
          refine (add_any HA1.out (by have := L1.out; omega) _ _ _).mono ?_
          rw [L1.out]
          rintro e w2 ⟨rfl, A2, t2⟩
          have HA2 := Lib.hid A2
          have HT2 := Lib.hid (HT1.out.trans t2)
          have HC2 := Lib.hid (t2 _ _ _ _ HC1.out (by decide) (by decide))
          clear A2 t2 HA1 HT1 HC1 m1 m2
          go_wp2_with fail
          go_roundw
          case rel => exact ⟨i + 1, by omega, by go_num, by rw [HS.out, HE.out]; rfl, by rw [HS.out, HE.out]; exact HA2.out, HC2.out, HT2.out⟩
          case measure => simp [intOf]; omega
      · have HE := Lib.hid (addTag_no (y := y) (s := s) hnb hpl (q := p + 1) (z := p + 2) rfl rfl)
        rw [hnb] at a1 a2
        have a2' := neq_of a2
        simp only [Bool.or_true, Bool.not_true, Bool.not_false] at a1 a2 a2'
        have L1 : Hid ((s.1 ++ [((2 : Int), (i : Int), (0 : Int))]).length = p + 1) := by unfold Hid; simp; omega
        have L2 : Hid ((s.1 ++ [((2 : Int), (i : Int), (0 : Int))] ++ [((4 : Int), (p : Int), (0 : Int))]).length = p + 2) := by unfold Hid; simp; omega
        clear hnb
        go_wp2_with fail
        refine (add_any HAT.out (by omega) _ _ _).mono ?_
        rw [HPL.out]
        rintro e w1 ⟨rfl, A1, t1⟩
        have C1 := t1 _ _ _ _ HCU.out (by decide) (by decide)
        have m1 : w1.cell? ⟨w.heap.size, 0, none⟩ = some (.int .i64 (y : Int)) := by rw [cell_of_row _ _ _ _ _ _ C1]; rfl
        have m2 : w1.cell? ⟨w.heap.size, 1, none⟩ = some (.int .i64 (n : Int)) := by rw [cell_of_row _ _ _ _ _ _ C1]; rfl
        have HA1 := Lib.hid A1
        have HT1 := Lib.hid (HTY.out.trans t1)
        have HC1 := Lib.hid C1
        clear A1 t1 C1 HAT HTY HCU k1 k2
        go_wp2_with fail
        refine (add_any HA1.out (by have := L1.out; omega) _ _ _).mono ?_
        rw [L1.out]
        rintro e w2 ⟨rfl, A2, t2⟩
        have HA2 := Lib.hid A2
        have HT2 := Lib.hid (HT1.out.trans t2)
        have HC2 := Lib.hid (t2 _ _ _ _ HC1.out (by decide) (by decide))
        clear A2 t2 HA1 HT1 HC1 m1 m2
        go_wp2_with fail
        refine (add_any HA2.out (by have := L2.out; omega) _ _ _).mono ?_
        rw [L2.out]
        rintro e w3 ⟨rfl, A3, t3⟩
        have HA3 := Lib.hid A3
        have HT3 := Lib.hid (HT2.out.trans t3)
        have HC3 := Lib.hid (t3 _ _ _ _ HC2.out (by decide) (by decide))
        clear A3 t3 HA2 HT2 HC2
        go_wp2_with fail
        go_roundw
        case rel => exact ⟨i + 1, by omega, by go_num, by rw [HS.out, HE.out]; rfl, by rw [HS.out, HE.out]; exact HA3.out, HC3.out, HT3.out⟩
        case measure => simp [intOf]; omega
    · obtain rfl : i = 4 := by omega
      have HAT := Lib.hid hat
      have HTY := Lib.hid hty
      clear hat hty
      go_wp2_with fail
      go_ret
      exact ⟨rfl, HAT.out, HTY.out⟩

set_option maxHeartbeats 2000000 in
set_option maxRecDepth 100000 in
theorem addSpans_any {w0 w : World} {B : Nat} {l : List Nd} (h : AddAt w0 w B l) (hl : l.length ≤ 4000) (L : List (Nat × Nat)) (hL : L.length ≤ 16) (v : Value) (hv : Rd2 w0 v (pairs L)) (r : Nat) :
    Calls Try.prog 46 #[v, .int .i64 (r : Int), .func (.func 44) #[] #[.pointer (some ⟨B, 0, none⟩)]] w fun e w' => e = .returned (.int .i64 (((addSps L (l, r)).2 : Nat) : Int)) ∧ AddAt w0 w' B (addSps L (l, r)).1 ∧ Typ w w' := by
  obtain ⟨va, vc, rfl, hvc, hx⟩ := hv
  rw [pairs_len] at *
  have HA := Lib.hid h
  have HX := Lib.hid hx
  have hlen' : (L.length : Int) ≤ 16 := by omega
  clear h hx
  go_enter Try.func46, Try.ntmps46
  go_wp2_with fail
  go_loopw [7, 14] (fun rr kk wr => ∃ k : Nat, k ≤ L.length ∧ kk = .int .i64 k ∧ rr = .int .i64 (((addSps (L.take k) (l, r)).2 : Nat) : Int) ∧ AddAt w0 wr B (addSps (L.take k) (l, r)).1 ∧ Typ w wr) (fun _ kk _ => L.length - (intOf kk).toNat)
  case atStart => exact ⟨0, by omega, rfl, rfl, HA.out, Typ.refl w⟩
  case round =>
    clear HA
    obtain ⟨k, hk, rfl, rfl, hat, hty⟩ := hrel
    have hsl : (addSps (L.take k) (l, r)).1.length ≤ 4032 := by rw [addSps_len, List.length_take]; simp only; omega
    by_cases hlt : k < L.length
    · obtain ⟨⟨fa, fb⟩, hpk⟩ : ∃ p, L[k]? = some p := ⟨_, List.getElem?_eq_getElem hlt⟩
      obtain ⟨b, off, rfl, hb0, hcl⟩ := HX.out (by intro e; have := congrArg List.length e; rw [pairs_len] at this; simp at this; subst this; simp at hlt)
      obtain ⟨c1, c2⟩ := hcl k _ (pairs_at hpk)
      simp only at c1 c2
      rw [← hat.1.cells.1 b _ hb0] at c1 c2
      have hbr : b < wr.heap.size := Nat.lt_of_lt_of_le hb0 hat.1.le
      have HS : Hid (addSps (L.take (k + 1)) (l, r) = addSp (addSps (L.take k) (l, r)) (fa, fb)) := by
        obtain ⟨hk1, e1⟩ := List.getElem?_eq_some_iff.1 hpk
        unfold Hid addSps
        rw [List.take_succ_eq_append_getElem hk1, e1, List.foldl_append]
        rfl
      generalize addSps (L.take k) (l, r) = s at *
      obtain ⟨p, hpl⟩ : ∃ p, s.1.length = p := ⟨_, rfl⟩
      have HPL := Lib.hid hpl
      have HE := Lib.hid (addSp_eq (s := s) (a := fa) (b := fb) hpl (z := p + 1) rfl)
      have L1 : Hid ((s.1 ++ [((3 : Int), (fa : Int), (fb : Int))]).length = p + 1) := by unfold Hid; simp; omega
      have hk16 : (k : Int) < 16 := by omega
      have HAT := Lib.hid (hat.gr ((Gr.refl wr).alloc (.cells #[.int .i64 (fa : Int), .int .i64 (fb : Int)] 53)))
      have HTY := Lib.hid (hty.trans (Typ.of ((Gr.refl wr).alloc (.cells #[.int .i64 (fa : Int), .int .i64 (fb : Int)] 53))))
      clear hcl hpk hat hty
      go_wp2_with fail
      refine (add_any HAT.out (by omega) _ _ _).mono ?_
      rw [HPL.out]
      rintro e w1 ⟨rfl, A1, t1⟩
      have HA1 := Lib.hid A1
      have HT1 := Lib.hid (HTY.out.trans t1)
      clear A1 t1 HAT HTY c1 c2
      go_wp2_with fail
      refine (add_any HA1.out (by have := L1.out; omega) _ _ _).mono ?_
      rw [L1.out]
      rintro e w2 ⟨rfl, A2, t2⟩
      have HA2 := Lib.hid A2
      have HT2 := Lib.hid (HT1.out.trans t2)
      clear A2 t2 HA1 HT1
      go_wp2_with fail
      go_roundw
      case rel => exact ⟨k + 1, by omega, by go_num, by rw [HS.out, HE.out]; rfl, by rw [HS.out, HE.out]; exact HA2.out, HT2.out⟩
      case measure => simp [intOf]; omega
    · obtain rfl : k = L.length := by omega
      rw [List.take_length] at *
      have HAT := Lib.hid hat
      have HTY := Lib.hid hty
      clear hat hty
      go_wp2_with fail
      go_ret
      exact ⟨rfl, HAT.out, HTY.out⟩
end Go.Proofs.Ytbodadddcbbjeaa
/- The contracts of package formula's Of. -/
namespace Rm
open Go Go.RowKit
theorem addBox_eq {s : NS} {b : Bx} {p z : Nat} {M R : NS} (hM : boxMid b s.1 = M) (hR : boxNum b s.1 = R) (hp : R.1.length = p) (hz : z = p + 1) : addBox s b = ((R.1 ++ [(5, (M.2 : Int), (R.2 : Int))]) ++ [(6, (s.2 : Int), (p : Int))], z) := by
  subst hM hR hp hz
  unfold addBox
  simp
theorem boxMid_len (b : Bx) (l : List Nd) : (boxMid b l).1.length ≤ l.length + 12 := by
  unfold boxMid
  rw [addTags_len]
  have := tagNs_le b.1.1 b.1.2 4
  simp only
  omega
theorem boxNum_len (b : Bx) (l : List Nd) : (boxNum b l).1.length ≤ l.length + 44 := by
  unfold boxNum
  rw [addSps_len]
  have := boxMid_len b l
  have := canon_len16 b.2
  simp only
  omega
end Rm
namespace Go.Proofs.Ytbodadddcbbjeaa
open Go.RowKit Rm
set_option linter.unusedVariables false

set_option maxHeartbeats 400000 in
set_option maxRecDepth 100000 in
theorem lof_bad {v : Value} {l : List BoxI} {w : World} (hr : RdF w v l) (hc : (chkF l == 0) = false) :
    Calls Try.prog 17 #[v] w fun e w' => e = .returned (.tuple #[.slice none 0 0, .int .i64 (chkF l)]) ∧ Gr w w' := by
  have hc' := bne_of' hc
  have HR := Lib.hid hr
  clear hr
  go_enter Try.func17, Try.ntmps17
  go_wp2_with fail
  refine (fcheck_any _ _ _ HR.out).mono ?_
  rintro e w1 ⟨rfl, g1⟩
  go_wp2_with fail
  go_ret2
  exact ⟨rfl, g1⟩

theorem add_0 {w0 w : World} {B : Nat} (h : AddAt w0 w B []) :
    Calls Try.prog 44 #[.agg #[.int .i64 1, .int .i64 0, .int .i64 0], .pointer (some ⟨B, 0, none⟩)] w fun e w' => e = .returned (.int .i64 0) ∧ AddAt w0 w' B [(1, 0, 0)] ∧ Typ w w' := add_any h (by simp) 1 0 0
theorem add_1 {w0 w : World} {B : Nat} (h : AddAt w0 w B [(1, 0, 0)]) :
    Calls Try.prog 44 #[.agg #[.int .i64 4, .int .i64 0, .int .i64 0], .pointer (some ⟨B, 0, none⟩)] w fun e w' => e = .returned (.int .i64 1) ∧ AddAt w0 w' B [(1, 0, 0), (4, 0, 0)] ∧ Typ w w' := add_any h (by simp) 4 0 0
theorem addCube_0 {w0 w : World} {B : Nat} {l : List Nd} (h : AddAt w0 w B l) (hl : l.length ≤ 4000) (y n m : Nat) (hv : Vld y n) :
    Calls Try.prog 45 #[.agg #[.int .i64 (y : Int), .int .i64 (n : Int)], .int .i64 0, .func (.func 44) #[] #[.pointer (some ⟨B, 0, none⟩)]] w fun e w' => e = .returned (.int .i64 (((boxMid ((y, n), m) l).2 : Nat) : Int)) ∧ AddAt w0 w' B (boxMid ((y, n), m) l).1 ∧ Typ w w' := addCube_any h hl y n 0 hv
theorem addSpans_1 {w0 w : World} {B : Nat} {l : List Nd} (y n m : Nat) (h : AddAt w0 w B (boxMid ((y, n), m) l).1) (hl : l.length ≤ 3900) (v : Value) (hv : Rd2 w0 v (pairs (canon m))) :
    Calls Try.prog 46 #[v, .int .i64 1, .func (.func 44) #[] #[.pointer (some ⟨B, 0, none⟩)]] w fun e w' => e = .returned (.int .i64 (((boxNum ((y, n), m) l).2 : Nat) : Int)) ∧ AddAt w0 w' B (boxNum ((y, n), m) l).1 ∧ Typ w w' :=
  addSpans_any h (by have := boxMid_len ((y, n), m) l; omega) (canon m) (canon_len16 m) v hv 1

/-- what Of answers -/
def LofAt (F : List Bx) (w : World) (e : Ending) (w' : World) : Prop :=
  Gr w w' ∧ ((30 < (ofL F).length ∧ e = .returned (.tuple #[.slice none 0 0, .int .i64 2])) ∨ ((ofL F).length ≤ 30 ∧ ∃ u, e = .returned (.tuple #[u, .int .i64 0]) ∧ OwnN w.heap.size w' u (ofL F)))

set_option maxHeartbeats 4000000 in
set_option maxRecDepth 100000 in
theorem lof_any {v : Value} {F : List Bx} {w : World} (hr : RdF w v (F.map boxI)) (hF : OkF F) (hl : F.length ≤ 40) :
    Calls Try.prog 17 #[v] w (LofAt F w) := by
  have HK : Hid (chkF (F.map boxI) = 0) := chkF_of hF hl
  have HR := Lib.hid hr
  have HF := Lib.hid hF
  obtain ⟨a, cp, rfl, hcp, hx⟩ := hr
  rw [List.length_map] at *
  have HX := Lib.hid hx
  have hlen' : (F.length : Int) ≤ 40 := by omega
  clear hx hF
  go_enter Try.func17, Try.ntmps17
  go_wp2_with fail
  refine (fcheck_any _ _ _ HR.out).mono ?_
  rw [HK.out]
  rintro e w1 ⟨rfl, g1⟩
  clear HR HK
  have A0 : Hid (AddAt w (w1.alloc (.cells #[.slice none 0 0] 22)) w1.heap.size []) := ⟨g1.alloc _, g1.le, _, heap_alloc_new _ _, World.ownsRow_nil _ _ _ _⟩
  clear g1
  generalize hB : w1.heap.size = B at *
  go_wp2_with fail
  refine (add_0 A0.out).mono ?_
  rintro e w2 ⟨rfl, A1, -⟩
  have HA1 := Lib.hid A1
  clear A0 A1 hB
  go_wp2_with fail
  refine (add_1 HA1.out).mono ?_
  rintro e w3 ⟨rfl, A2, -⟩
  have HA2 := Lib.hid A2
  clear HA1 A2
  go_wp2_with fail
  go_loopw [9, 31] (fun un kk wr => ∃ k : Nat, k ≤ F.length ∧ kk = .int .i64 k ∧ un = .int .i64 (((ofS (F.take k)).2 : Nat) : Int) ∧ AddAt w wr B (ofS (F.take k)).1) (fun _ kk _ => F.length - (intOf kk).toNat)
  case atStart => exact ⟨0, by omega, rfl, rfl, HA2.out⟩
  case round =>
    clear HA2
    obtain ⟨k, hk, rfl, rfl, hat⟩ := hrel
    have hsl : (ofS (F.take k)).1.length ≤ 1842 := by have := ofS_len (F.take k); rw [List.length_take] at this; omega
    by_cases hlt : k < F.length
    · obtain ⟨⟨⟨y, n⟩, m⟩, hp⟩ : ∃ p, F[k]? = some p := ⟨_, List.getElem?_eq_getElem hlt⟩
      obtain ⟨b, off, rfl, hb, hcell⟩ := HX.out (by intro e; have := congrArg List.length e; rw [List.length_map] at this; simp at this; subst this; simp at hlt)
      obtain ⟨sv, c1, c2, c3, hs⟩ := hcell k (boxI ((y, n), m)) (by simp [hp])
      have hg := hat.1
      rw [← hg.cells.1 b _ hb] at c1 c2 c3
      simp only [boxI] at c1 c2 c3 hs
      obtain ⟨sa, sc, rfl⟩ := rd2_form hs
      have hok : OkB ((y, n), m) := HF.out _ (List.mem_of_getElem? hp)
      have HVL := Lib.hid hok.1
      have HSV := Lib.hid hs
      have hbr : b < wr.heap.size := Nat.lt_of_lt_of_le hb hg.le
      have hk40 : (k : Int) < 40 := by omega
      have HS := Lib.hid (ofS_take hp)
      generalize ofS (F.take k) = s at *
      obtain ⟨M, hM⟩ : ∃ M, boxMid ((y, n), m) s.1 = M := ⟨_, rfl⟩
      obtain ⟨R, hR⟩ : ∃ R, boxNum ((y, n), m) s.1 = R := ⟨_, rfl⟩
      obtain ⟨p, hpl⟩ : ∃ p, R.1.length = p := ⟨_, rfl⟩
      have HE := Lib.hid (addBox_eq hM hR hpl (z := p + 1) rfl)
      have hR2 : R.1.length ≤ 2000 := by rw [← hR]; have := boxNum_len ((y, n), m) s.1; omega
      have L1 : Hid ((R.1 ++ [((5 : Int), (M.2 : Int), (R.2 : Int))]).length = p + 1) := by unfold Hid; simp; omega
      have HM := Lib.hid hM
      have HRR := Lib.hid hR
      have HPL := Lib.hid hpl
      have HAT := Lib.hid (hat.gr ((Gr.refl wr).alloc (.cells #[.int .i64 (y : Int), .int .i64 (n : Int), .slice sa (pairs (canon m)).length sc] 72)))
      have HBX : Hid ((wr.alloc (.cells #[.int .i64 (y : Int), .int .i64 (n : Int), .slice sa (pairs (canon m)).length sc] 72)).heap[wr.heap.size]? = some (.cells #[.int .i64 (y : Int), .int .i64 (n : Int), .slice sa (pairs (canon m)).length sc] 72 (0, 0))) := heap_alloc_new _ _
      clear hcell hp hat hok hs hM hR hg
      go_wp2_with fail
      refine (addCube_0 HAT.out (by omega) y n m HVL.out).mono ?_
      rw [HM.out]
      rintro e w4 ⟨rfl, A4, t4⟩
      have C4 := t4 _ _ _ _ HBX.out (by decide) (by decide)
      have HA4 : Hid (AddAt w w4 B (boxMid ((y, n), m) s.1).1) := by rw [HM.out]; exact A4
      generalize wr.heap.size = BB at *
      have m1 : w4.cell? ⟨BB, 2, none⟩ = some (.slice sa (pairs (canon m)).length sc) := by rw [cell_of_row _ _ _ _ _ _ C4]; rfl
      have hbl := Blk_lt C4
      clear A4 t4 HAT HBX c1 c2 c3 C4
      go_wp2_with fail
      refine (addSpans_1 y n m HA4.out (by omega) _ HSV.out).mono ?_
      rw [HRR.out]
      rintro e w5 ⟨rfl, A5, -⟩
      have HA5 := Lib.hid A5
      clear A5 HA4 m1 hbl
      go_wp2_with fail
      refine (add_any HA5.out (by omega) _ _ _).mono ?_
      rw [HPL.out]
      rintro e w6 ⟨rfl, A6, -⟩
      have HA6 := Lib.hid A6
      clear A6 HA5
      go_wp2_with fail
      refine (add_any HA6.out (by have := L1.out; omega) _ _ _).mono ?_
      rw [L1.out]
      rintro e w7 ⟨rfl, A7, -⟩
      have HA7 := Lib.hid A7
      clear A7 HA6
      go_wp2_with fail
      go_roundw
      case rel => exact ⟨k + 1, by omega, by go_num, by rw [HS.out, HE.out]; rfl, by rw [HS.out, HE.out]; exact HA7.out⟩
      case measure => simp [intOf]; omega
    · obtain rfl : k = F.length := by omega
      rw [List.take_length] at *
      obtain ⟨hg, hBw, u, hu, ho⟩ := hat
      have HO : Hid (OwnN w.heap.size wr u (ofL F)) := ho
      obtain ⟨ua, uc, rfl, huc⟩ := own_form ho
      have c1 : wr.cell? ⟨B, 0, none⟩ = some (.slice ua (ofS F).1.length uc) := by rw [cell_of_row _ _ _ _ _ _ hu]; rfl
      have hbl := Blk_lt hu
      have HL : Hid ((ofL F).length = (ofS F).1.length) := rfl
      clear ho hu
      generalize (ofS F).1.length = q at *
      generalize (ofS F).2 = un at *
      by_cases h30 : 30 < q
      · have h30' : (30 : Int) < (q : Int) := by omega
        go_wp2_with fail
        go_ret2
        exact ⟨hg, .inl ⟨by rw [HL.out]; exact h30, rfl⟩⟩
      · have h30' : ¬ (30 : Int) < (q : Int) := by omega
        go_wp2_with fail
        go_ret2
        exact ⟨hg, .inr ⟨by rw [HL.out]; omega, _, rfl, HO.out⟩⟩
end Go.Proofs.Ytbodadddcbbjeaa
