/- Sets of dots: what they hold, their form, and that it is the only one. -/
import Derived.WalkKit
namespace Rm
/-- a set of dots: of each site which counts -/
abbrev DS := Nat → Nat → Bool
/-- the count of a site in a vector -/
def cv (v : List Nat) (s : Nat) : Nat := v.getD s 0
def ltD (a b : Nat × Nat) : Prop := a.1 < b.1 ∨ a.1 = b.1 ∧ a.2 < b.2
theorem ltD_irr (a : Nat × Nat) : ¬ ltD a a := by unfold ltD; omega
theorem ltD_trans {a b c : Nat × Nat} (h : ltD a b) (k : ltD b c) : ltD a c := by unfold ltD at *; omega
theorem ltD_asym {a b : Nat × Nat} (h : ltD a b) (k : ltD b a) : False := by unfold ltD at *; omega
/-- is a dot in it? -/
def memB (v : List Nat) (m : List (Nat × Nat)) : DS := fun s c => decide (1 ≤ c ∧ c ≤ cv v s) || m.contains (s, c)
theorem memB_iff (v : List Nat) (m : List (Nat × Nat)) (s c : Nat) : memB v m s c = true ↔ (1 ≤ c ∧ c ≤ cv v s) ∨ (s, c) ∈ m := by simp [memB]
/-- dots that may be -/
def inR (s c : Nat) : Prop := s < 5 ∧ 1 ≤ c ∧ c ≤ 1000
/-- a set in its form, however many dots lie behind its vector -/
structure OkV (v : List Nat) (m : List (Nat × Nat)) : Prop where
  len : v.length ≤ 5
  le : ∀ x ∈ v, x ≤ 1000
  last : v.getLast? ≠ some 0
  dots : ∀ d ∈ m, d.1 < 5 ∧ d.2 ≤ 1000 ∧ cv v d.1 + 2 ≤ d.2
  sort : m.Pairwise ltD
theorem cv_le {v : List Nat} (h : ∀ x ∈ v, x ≤ 1000) (s : Nat) : cv v s ≤ 1000 := by
  unfold cv
  rw [List.getD_eq_getElem?_getD]
  cases e : v[s]? with
  | none => simp
  | some x => simpa using h x (List.mem_of_getElem? e)
theorem cv_out {v : List Nat} {s : Nat} (h : v.length ≤ s) : cv v s = 0 := by simp [cv, h]
theorem OkV.inR {v : List Nat} {m : List (Nat × Nat)} (h : OkV v m) {s c : Nat} (hm : memB v m s c = true) : inR s c := by
  rcases (memB_iff ..).1 hm with k | k
  · have h1 := cv_le h.le s
    rcases Nat.lt_or_ge s 5 with q | q
    · exact ⟨q, k.1, by omega⟩
    · have := cv_out (v := v) (s := s) (Nat.le_trans h.len q); omega
  · have := h.dots _ k
    simp only at this
    exact ⟨this.1, by omega, this.2.1⟩
/-- two sets say the same of all dots that may be -/
def EqD (D E : DS) : Prop := ∀ s c, inR s c → D s c = E s c
theorem EqD.refl (D : DS) : EqD D D := fun _ _ _ => rfl
theorem EqD.symm {D E : DS} (h : EqD D E) : EqD E D := fun s c k => (h s c k).symm
theorem EqD.trans {D E F : DS} (h : EqD D E) (k : EqD E F) : EqD D F := fun s c q => (h s c q).trans (k s c q)
theorem sorted_ext {l l' : List (Nat × Nat)} (h : l.Pairwise ltD) (h' : l'.Pairwise ltD) (e : ∀ d, d ∈ l ↔ d ∈ l') : l = l' := by
  induction l generalizing l' with
  | nil => cases l' with
    | nil => rfl
    | cons b l' => exact absurd ((e b).2 (by simp)) (by simp)
  | cons a l ih => cases l' with
    | nil => exact absurd ((e a).1 (by simp)) (by simp)
    | cons b l' =>
      rw [List.pairwise_cons] at h h'
      have hab : a = b := by
        rcases List.mem_cons.1 ((e a).1 (by simp)) with q | q
        · exact q
        · rcases List.mem_cons.1 ((e b).2 (by simp)) with r | r
          · exact r.symm
          · exact (ltD_asym (h.1 b r) (h'.1 a q)).elim
      subst hab
      rw [ih h.2 h'.2]
      intro d
      have hd := e d
      simp only [List.mem_cons] at hd
      constructor
      · intro q
        rcases hd.1 (.inr q) with r | r
        · subst r; exact (ltD_irr _ (h.1 _ q)).elim
        · exact r
      · intro q
        rcases hd.2 (.inr q) with r | r
        · subst r; exact (ltD_irr _ (h'.1 _ q)).elim
        · exact r
theorem cv_lt_of {v v' : List Nat} {m m' : List (Nat × Nat)} (h : OkV v m) (h' : OkV v' m') (e : EqD (memB v m) (memB v' m')) (s : Nat) : cv v' s ≤ cv v s := by
  rcases Nat.lt_or_ge (cv v s) (cv v' s) with q | q
  · exfalso
    have hi : Rm.inR s (cv v s + 1) := h'.inR ((memB_iff ..).2 (.inl ⟨by omega, by omega⟩))
    have h1 := e s (cv v s + 1) hi
    rw [(memB_iff v' m' s _).2 (.inl ⟨by omega, by omega⟩)] at h1
    rcases (memB_iff ..).1 h1 with k | k
    · omega
    · have := (h.dots _ k).2.2
      simp only at this
      omega
  · exact q
theorem vec_ext {v v' : List Nat} (l : v.getLast? ≠ some 0) (l' : v'.getLast? ≠ some 0) (e : ∀ s, cv v s = cv v' s) : v = v' := by
  have hle : ∀ {v v' : List Nat}, v'.getLast? ≠ some 0 → (∀ s, cv v s = cv v' s) → v'.length ≤ v.length := by
    intro v v' l' e
    rcases Nat.lt_or_ge v.length v'.length with q | q
    · exfalso
      have h1 := e (v'.length - 1)
      rw [cv_out (by omega)] at h1
      apply l'
      rw [List.getLast?_eq_getElem?, List.getElem?_eq_getElem (by omega)]
      unfold cv at h1
      rw [List.getD_eq_getElem?_getD, List.getElem?_eq_getElem (by omega)] at h1
      simp at h1
      rw [← h1]
    · exact q
  have hlen : v.length = v'.length := Nat.le_antisymm (hle l (fun s => (e s).symm)) (hle l' e)
  apply List.ext_getElem hlen
  intro i h1 h2
  have h3 := e i
  unfold cv at h3
  simpa [List.getD_eq_getElem?_getD, h1, h2] using h3
/-- the form is the only one -/
theorem OkV.uniq {v v' : List Nat} {m m' : List (Nat × Nat)} (h : OkV v m) (h' : OkV v' m') (e : EqD (memB v m) (memB v' m')) : v = v' ∧ m = m' := by
  have hv : v = v' := vec_ext h.last h'.last fun s => Nat.le_antisymm (cv_lt_of h' h e.symm s) (cv_lt_of h h' e s)
  subst hv
  refine ⟨rfl, sorted_ext h.sort h'.sort fun d => ?_⟩
  have key : ∀ {m m' : List (Nat × Nat)}, OkV v m → OkV v m' → EqD (memB v m) (memB v m') → d ∈ m → d ∈ m' := by
    intro m m' h h' e hd
    have h1 := h.dots d hd
    have h2 := e d.1 d.2 ⟨h1.1, by omega, h1.2.1⟩
    rw [(memB_iff v m d.1 d.2).2 (.inr hd)] at h2
    rcases (memB_iff ..).1 h2.symm with k | k
    · omega
    · exact k
  exact ⟨key h h' e, key h' h e.symm⟩

/-! the form of a set -/
/-- how many dots of a site come without a gap, up to n -/
def runTo (D : DS) (s : Nat) : Nat → Nat
  | 0 => 0
  | n + 1 => if runTo D s n = n ∧ D s (n + 1) = true then n + 1 else runTo D s n
theorem runTo_le (D : DS) (s n : Nat) : runTo D s n ≤ n := by
  induction n with
  | zero => exact Nat.le_refl _
  | succ n ih => unfold runTo; split <;> omega
theorem runTo_all (D : DS) (s n c : Nat) (h1 : 1 ≤ c) (h2 : c ≤ runTo D s n) : D s c = true := by
  induction n with
  | zero => have := runTo_le D s 0; omega
  | succ n ih =>
    unfold runTo at h2
    split at h2
    · rename_i q
      by_cases e : c = n + 1
      · rw [e]; exact q.2
      · exact ih (by omega)
    · exact ih h2
theorem runTo_gap (D : DS) (s n : Nat) (h : runTo D s n < n) : D s (runTo D s n + 1) = false := by
  induction n with
  | zero => omega
  | succ n ih =>
    unfold runTo at h ⊢
    split
    · rename_i q; rw [if_pos q] at h; omega
    · rename_i q
      rw [if_neg q] at h
      have := runTo_le D s n
      by_cases e : runTo D s n = n
      · rw [e]; simpa [e] using q
      · exact ih (by omega)
def run (D : DS) (s : Nat) : Nat := runTo D s 1000
/-- the dots behind the vector, of a site -/
def restD (D : DS) (s : Nat) : List (Nat × Nat) := ((List.range 1001).filter fun c => decide (run D s + 2 ≤ c) && D s c).map fun c => (s, c)
theorem mem_restD (D : DS) (s : Nat) (d : Nat × Nat) : d ∈ restD D s ↔ d.1 = s ∧ d.2 ≤ 1000 ∧ run D s + 2 ≤ d.2 ∧ D s d.2 = true := by
  obtain ⟨a, c⟩ := d
  simp only [restD, List.mem_map, List.mem_filter, List.mem_range, Prod.mk.injEq, Bool.and_eq_true, decide_eq_true_eq]
  constructor
  · rintro ⟨x, ⟨h1, h2, h3⟩, rfl, rfl⟩; exact ⟨rfl, by omega, h2, h3⟩
  · rintro ⟨rfl, h1, h2, h3⟩; exact ⟨c, ⟨by omega, h2, h3⟩, rfl, rfl⟩
/-- a vector without the zeros at its end -/
def trimL : List Nat → List Nat
  | [] => []
  | x :: l => match trimL l with
    | [] => if x = 0 then [] else [x]
    | y :: r => x :: y :: r
theorem trimL_cv (l : List Nat) (s : Nat) : cv (trimL l) s = cv l s := by
  induction l generalizing s with
  | nil => rfl
  | cons x l ih =>
    unfold trimL
    have h := ih
    cases e : trimL l with
    | nil =>
      rw [e] at h
      have hz : ∀ s, cv l s = 0 := fun s => by rw [← h s]; simp [cv]
      cases s with
      | zero => by_cases hx : x = 0 <;> simp [hx, cv]
      | succ s =>
        have := hz s
        by_cases hx : x = 0 <;> simp [hx, cv] <;> simpa [cv] using this.symm
    | cons y r =>
      rw [e] at h
      cases s with
      | zero => simp [cv]
      | succ s => have := h s; simpa [cv] using this
theorem trimL_last (l : List Nat) : (trimL l).getLast? ≠ some 0 := by
  induction l with
  | nil => simp [trimL]
  | cons x l ih =>
    unfold trimL
    cases e : trimL l with
    | nil => by_cases hx : x = 0 <;> simp [hx]
    | cons y r => rw [e] at ih; simpa [List.getLast?_cons_cons] using ih
theorem trimL_len (l : List Nat) : (trimL l).length ≤ l.length := by
  induction l with
  | nil => simp [trimL]
  | cons x l ih =>
    unfold trimL
    cases e : trimL l with
    | nil => by_cases hx : x = 0 <;> simp [hx]
    | cons y r => rw [e] at ih; simp only [List.length_cons] at *; omega
theorem trimL_mem (l : List Nat) : ∀ x ∈ trimL l, x ∈ l := by
  induction l with
  | nil => simp [trimL]
  | cons x l ih =>
    unfold trimL
    cases e : trimL l with
    | nil => by_cases hx : x = 0 <;> simp [hx]
    | cons y r =>
      rw [e] at ih
      intro z hz
      rcases List.mem_cons.1 hz with q | q
      · simp [q]
      · exact List.mem_cons_of_mem _ (ih z q)
def formV (D : DS) : List Nat := trimL ((List.range 5).map (run D))
def formM (D : DS) : List (Nat × Nat) := (List.range 5).flatMap (restD D)
theorem run_le (D : DS) (s : Nat) : run D s ≤ 1000 := runTo_le ..
theorem formV_cv (D : DS) (s : Nat) (h : s < 5) : cv (formV D) s = run D s := by
  unfold formV
  rw [trimL_cv]
  simp [cv, h]
theorem form_ok (D : DS) : OkV (formV D) (formM D) where
  len := Nat.le_trans (trimL_len _) (by simp)
  le := fun x hx => by
    have h := trimL_mem _ x hx
    obtain ⟨s, _, rfl⟩ := List.mem_map.1 h
    exact run_le D s
  last := trimL_last _
  dots := fun d hd => by
    obtain ⟨s, hs, h⟩ := List.mem_flatMap.1 hd
    have h' := (mem_restD D s d).1 h
    have hs' := List.mem_range.1 hs
    rw [h'.1, formV_cv D s hs']
    exact ⟨hs', h'.2.1, h'.2.2.1⟩
  sort := by
    unfold formM
    rw [List.pairwise_flatMap]
    constructor
    · intro s _
      unfold restD
      rw [List.pairwise_map]
      exact (List.Pairwise.filter _ List.pairwise_lt_range).imp fun h => .inr ⟨rfl, h⟩
    · refine List.pairwise_lt_range.imp fun {a b} hab x hx y hy => .inl ?_
      rw [((mem_restD ..).1 hx).1, ((mem_restD ..).1 hy).1]
      exact hab
theorem form_mem (D : DS) : EqD (memB (formV D) (formM D)) D := by
  rintro s c ⟨hs, h1, h2⟩
  rw [Bool.eq_iff_iff, memB_iff, formV_cv D s hs]
  constructor
  · rintro (k | k)
    · exact runTo_all D s 1000 c k.1 k.2
    · obtain ⟨t, _, h⟩ := List.mem_flatMap.1 k
      have h' := (mem_restD ..).1 h
      simp only at h'
      rw [h'.1]; exact h'.2.2.2
  · intro hd
    rcases Nat.lt_or_ge (run D s) c with q | q
    · right
      refine List.mem_flatMap.2 ⟨s, List.mem_range.2 hs, (mem_restD ..).2 ⟨rfl, h2, ?_, hd⟩⟩
      rcases Nat.lt_or_ge (run D s + 1) c with r | r
      · exact r
      · have e : c = run D s + 1 := by omega
        have := runTo_gap D s 1000 (by show run D s < 1000; omega)
        rw [e] at hd
        exact absurd this (by show ¬ D s (run D s + 1) = false; rw [hd]; simp)
    · exact .inl ⟨h1, q⟩
/-- whatever is in its form and says the same is the form -/
theorem OkV.form {v : List Nat} {m : List (Nat × Nat)} {D : DS} (h : OkV v m) (e : EqD (memB v m) D) : formV D = v ∧ formM D = m :=
  (form_ok D).uniq h ((form_mem D).trans e.symm)
theorem form_congr {D E : DS} (h : EqD D E) : formV D = formV E ∧ formM D = formM E := (form_ok E).form ((form_mem E).trans h.symm)
theorem form_self {v : List Nat} {m : List (Nat × Nat)} (h : OkV v m) : formV (memB v m) = v ∧ formM (memB v m) = m := h.form (EqD.refl _)

/-! joined, met, with a dot more, within -/
def orD (D E : DS) : DS := fun s c => D s c || E s c
def andD (D E : DS) : DS := fun s c => D s c && E s c
def addD (D : DS) (a b : Nat) : DS := fun s c => D s c || decide (s = a ∧ c = b)
def subD (D E : DS) : Prop := ∀ s c, inR s c → D s c = true → E s c = true
theorem subD_iff (D E : DS) : subD D E ↔ EqD (orD D E) E := by
  constructor
  · intro h s c k
    unfold orD
    cases e : D s c
    · simp
    · simp [h s c k e]
  · intro h s c k e
    have := h s c k
    unfold orD at this
    rw [e] at this
    simpa using this.symm

/-! counted -/
def kcntTo (f : Nat → Bool) : Nat → Nat
  | 0 => 0
  | n + 1 => kcntTo f n + (if f n then 1 else 0)
def cntS (D : DS) (s : Nat) : Nat := kcntTo (D s) 1024
def cntD (D : DS) : Nat := cntS D 0 + cntS D 1 + cntS D 2 + cntS D 3 + cntS D 4
theorem cntTo_or (f g : Nat → Bool) (n : Nat) : kcntTo (fun i => f i || g i) n + kcntTo (fun i => f i && g i) n = kcntTo f n + kcntTo g n := by
  induction n with
  | zero => rfl
  | succ n ih =>
    simp only [kcntTo]
    by_cases hf : f n = true <;> by_cases hg : g n = true <;> simp [hf, hg] <;> omega
theorem cnt_or_and (D E : DS) : cntD (orD D E) + cntD (andD D E) = cntD D + cntD E := by
  have h := fun s => cntTo_or (D s) (E s) 1024
  unfold cntD cntS orD andD
  have h0 := h 0
  have h1 := h 1
  have h2 := h 2
  have h3 := h 3
  have h4 := h 4
  omega
theorem kcntTo_congr {f g : Nat → Bool} {n : Nat} (h : ∀ i, i < n → f i = g i) : kcntTo f n = kcntTo g n := by
  induction n with
  | zero => rfl
  | succ n ih => simp only [kcntTo]; rw [ih (fun i hi => h i (by omega)), h n (by omega)]
theorem kcntTo_none {f : Nat → Bool} {n : Nat} (h : ∀ i, i < n → f i = false) : kcntTo f n = 0 := by
  induction n with
  | zero => rfl
  | succ n ih => simp only [kcntTo]; rw [ih (fun i hi => h i (by omega)), h n (by omega)]; simp
theorem cntTo_disj (f g : Nat → Bool) (n : Nat) (h : ∀ i, i < n → ¬ (f i = true ∧ g i = true)) : kcntTo (fun i => f i || g i) n = kcntTo f n + kcntTo g n := by
  rw [← cntTo_or, kcntTo_none (f := fun i => f i && g i), Nat.add_zero]
  intro i hi
  have := h i hi
  cases e : f i <;> cases e' : g i <;> simp_all
theorem kcntTo_le (k n : Nat) (h : k < n) : kcntTo (fun c => decide (1 ≤ c ∧ c ≤ k)) n = k := by
  induction n with
  | zero => omega
  | succ n ih =>
    simp only [kcntTo]
    rcases Nat.lt_or_ge k n with q | q
    · rw [ih q, if_neg (by simp; omega), Nat.add_zero]
    · obtain rfl : k = n := by omega
      have : ∀ j, j ≤ k → kcntTo (fun c => decide (1 ≤ c ∧ c ≤ k)) j = j - 1 := by
        intro j hj
        induction j with
        | zero => rfl
        | succ j ihj =>
          simp only [kcntTo]
          rw [ihj (by omega)]
          by_cases h0 : j = 0
          · simp [h0]
          · rw [if_pos (by simp; omega)]; omega
      rw [this k (Nat.le_refl _)]
      by_cases h0 : k = 0
      · simp [h0]
      · rw [if_pos (by simp; omega)]; omega
theorem cntTo_one (a n : Nat) : kcntTo (fun c => decide (c = a)) n = if a < n then 1 else 0 := by
  induction n with
  | zero => simp [kcntTo]
  | succ n ih =>
    simp only [kcntTo]
    rw [ih]
    by_cases h1 : a < n
    · have h2 : ¬ n = a := by omega
      have h3 : a < n + 1 := by omega
      simp [h1, h2, h3]
    · by_cases h2 : n = a
      · subst h2; simp
      · have h3 : ¬ a < n + 1 := by omega
        simp [h1, h2, h3]
theorem cnt_list (m : List (Nat × Nat)) (h : m.Pairwise ltD) (hd : ∀ d ∈ m, d.1 < 5 ∧ d.2 ≤ 1000) : cntD (fun s c => m.contains (s, c)) = m.length := by
  induction m with
  | nil =>
    have : ∀ s, cntS (fun s c => List.contains ([] : List (Nat × Nat)) (s, c)) s = 0 := fun s => kcntTo_none fun i _ => by simp
    unfold cntD
    rw [this, this, this, this, this]
    rfl
  | cons d m ih =>
    rw [List.pairwise_cons] at h
    have hn : d ∉ m := fun q => ltD_irr _ (h.1 d q)
    have hdd := hd d (by simp)
    have hs : ∀ s, cntS (fun s c => (d :: m).contains (s, c)) s = (if s = d.1 then 1 else 0) + cntS (fun s c => m.contains (s, c)) s := by
      intro s
      unfold cntS
      rw [kcntTo_congr (g := fun c => (decide (s = d.1 ∧ c = d.2)) || m.contains (s, c)), cntTo_disj]
      · congr 1
        by_cases hs : s = d.1
        · rw [if_pos hs, kcntTo_congr (g := fun c => decide (c = d.2)) (fun i _ => by simp [hs]), cntTo_one, if_pos (by omega)]
        · rw [if_neg hs]; exact kcntTo_none fun i _ => by simp [hs]
      · rintro i _ ⟨h1, h2⟩
        simp only [decide_eq_true_eq] at h1
        obtain ⟨rfl, rfl⟩ := h1
        exact hn (by simpa using h2)
      · intro i _
        rw [Bool.eq_iff_iff]
        simp only [List.contains_cons, Bool.or_eq_true, beq_iff_eq, decide_eq_true_eq]
        constructor
        · rintro (q | q)
          · left; rw [← q]; exact ⟨rfl, rfl⟩
          · exact .inr q
        · rintro (⟨q, r⟩ | q)
          · left; rw [q, r]
          · exact .inr q
    have hi := ih h.2 (fun x hx => hd x (by simp [hx]))
    have key : ∀ x0 x1 x2 x3 x4 : Nat, (if 0 = d.1 then 1 else 0) + x0 + ((if 1 = d.1 then 1 else 0) + x1) + ((if 2 = d.1 then 1 else 0) + x2) + ((if 3 = d.1 then 1 else 0) + x3) + ((if 4 = d.1 then 1 else 0) + x4) = x0 + x1 + x2 + x3 + x4 + 1 := by
      intro x0 x1 x2 x3 x4
      have hh : d.1 = 0 ∨ d.1 = 1 ∨ d.1 = 2 ∨ d.1 = 3 ∨ d.1 = 4 := by omega
      rcases hh with q | q | q | q | q <;> rw [q] <;> simp <;> omega
    rw [List.length_cons, ← hi]
    unfold cntD
    rw [hs 0, hs 1, hs 2, hs 3, hs 4]
    exact key _ _ _ _ _
theorem sum5 (v : List Nat) (h : v.length ≤ 5) : v.sum = cv v 0 + cv v 1 + cv v 2 + cv v 3 + cv v 4 := by
  match v, h with
  | [], _ => rfl
  | [a], _ => simp [cv]
  | [a, b], _ => simp [cv]
  | [a, b, c], _ => simp [cv]; omega
  | [a, b, c, d], _ => simp [cv]; omega
  | [a, b, c, d, e], _ => simp [cv]; omega
  | _ :: _ :: _ :: _ :: _ :: _ :: _, h => simp only [List.length_cons] at h; omega
/-- the number of dots -/
theorem OkV.count {v : List Nat} {m : List (Nat × Nat)} (h : OkV v m) : cntD (memB v m) = v.sum + m.length := by
  have hs : ∀ s, cntS (memB v m) s = cv v s + cntS (fun s c => m.contains (s, c)) s := by
    intro s
    unfold cntS memB
    rw [cntTo_disj, kcntTo_le _ _ (by have := cv_le h.le s; omega)]
    rintro i _ ⟨h1, h2⟩
    have := h.dots (s, i) (by simpa using h2)
    simp at h1 this
    omega
  have hl := cnt_list m h.sort (fun d hd => ⟨(h.dots d hd).1, (h.dots d hd).2.1⟩)
  rw [sum5 v h.len, ← hl]
  unfold cntD
  rw [hs 0, hs 1, hs 2, hs 3, hs 4]
  omega
theorem cnt_congr {D E : DS} (h : ∀ s c, s < 5 → c < 1024 → D s c = E s c) : cntD D = cntD E := by
  have : ∀ s, s < 5 → cntS D s = cntS E s := fun s hs => kcntTo_congr fun i hi => h s i hs hi
  unfold cntD
  rw [this 0 (by omega), this 1 (by omega), this 2 (by omega), this 3 (by omega), this 4 (by omega)]
end Rm
