/- Sets of dots gathered row by row; counts. -/
import Derived.Test.YtgmoedjdfjloiaaKmH
import Derived.Test.YtgmoedjdfjloiaaGxT
set_option linter.unusedVariables false
set_option linter.unusedSimpArgs false
namespace Rm
open Go Go.RowKit Gx
def accD (M : List (List Int)) : DS := fun s c => (M.filterMap dotOf).contains (s, c)
theorem accD_sm (M : List (List Int)) : Sm (accD M) := fun s c h => by
  have h' : (s, c) ∈ M.filterMap dotOf := by simpa [accD] using h
  obtain ⟨r, _, hr⟩ := List.mem_filterMap.1 h'
  exact dotOf_in hr
theorem accD_step {M : List (List Int)} {r : List Int} {x y : Int} (h0 : r[0]? = some x) (h1 : r[1]? = some y) : EqD (addD (accD M) (wi x 5) (1 + wi y 12)) (accD (M ++ [r])) := fun s c _ => by
  unfold addD accD
  rw [List.filterMap_append]
  simp [dotOf_two h0 h1]
theorem accD_skip {M : List (List Int)} {r : List Int} (h : ¬ 1 < r.length) : EqD (accD M) (accD (M ++ [r])) := fun s c _ => by
  unfold accD
  rw [List.filterMap_append]
  simp [dotOf_none h]
theorem accD_take (L : List (List Int)) {n : Nat} (h : n = min L.length 40) : accD (L.take n) = setD L := by
  unfold accD setD setN
  rw [take_min L h]
/-- the rows from off on, around -/
def rot (L : List (List Int)) (off n i : Nat) : List (List Int) := (List.range i).map fun t => L.getD ((t + off) % n) []
theorem rot_succ (L : List (List Int)) (off n i : Nat) {r : List Int} (h : L[(i + off) % n]? = some r) : rot L off n (i + 1) = rot L off n i ++ [r] := by
  unfold rot
  rw [List.range_succ, List.map_append]
  simp [List.getD_eq_getElem?_getD, h]
theorem rot_eq (L : List (List Int)) {off n : Nat} (hn : n = min L.length 40) (ho : n = 0 ∨ off < n) : EqD (accD (rot L off n n)) (setD L) := fun s c _ => by
  rw [← accD_take L hn]
  unfold accD
  rw [Bool.eq_iff_iff, List.contains_iff_mem, List.contains_iff_mem, List.mem_filterMap, List.mem_filterMap]
  constructor
  · rintro ⟨r, hr, hd⟩
    obtain ⟨t, ht, rfl⟩ := List.mem_map.1 hr
    have htn := List.mem_range.1 ht
    have hl : (t + off) % n < n := Nat.mod_lt _ (by omega)
    have hl2 : (t + off) % n < L.length := by omega
    refine ⟨_, ?_, hd⟩
    rw [List.getD_eq_getElem?_getD, List.getElem?_eq_getElem hl2]
    exact List.mem_take_iff_getElem.2 ⟨(t + off) % n, by omega, rfl⟩
  · rintro ⟨r, hr, hd⟩
    obtain ⟨j, hj, rfl⟩ := List.mem_take_iff_getElem.1 hr
    have hj2 : j < L.length := by omega
    refine ⟨_, ?_, hd⟩
    by_cases hjo : off ≤ j
    · refine List.mem_map.2 ⟨j - off, List.mem_range.2 (by omega), ?_⟩
      rw [show (j - off + off) % n = j by rw [Nat.sub_add_cancel hjo]; exact Nat.mod_eq_of_lt (by omega)]
      simp [List.getD_eq_getElem?_getD, hj2]
    · refine List.mem_map.2 ⟨j + n - off, List.mem_range.2 (by omega), ?_⟩
      rw [show (j + n - off + off) % n = j by
        rw [Nat.sub_add_cancel (by omega), Nat.add_mod_right]; exact Nat.mod_eq_of_lt (by omega)]
      simp [List.getD_eq_getElem?_getD, hj2]
/-- dots that may be, small but for one -/
def Sn (D : DS) : Prop := ∃ b, ∀ s c, D s c = true → s < 5 ∧ 1 ≤ c ∧ c ≤ 1000 ∧ (c ≤ 12 ∨ c = b)
theorem Sm.sn {D : DS} (h : Sm D) : Sn D := ⟨0, fun s c q => by have := h s c q; omega⟩
theorem Sm.addI {D : DS} (h : Sm D) {a b : Nat} (i : inR a b) : Sn (addD D a b) := ⟨b, fun s c q => by
  obtain ⟨i1, i2, i3⟩ := i
  simp only [addD, Bool.or_eq_true, decide_eq_true_eq] at q
  rcases q with q | ⟨rfl, rfl⟩
  · have := h s c q; omega
  · omega⟩
theorem Sm.add {D : DS} (h : Sm D) {a b : Nat} (i : a < 5 ∧ 1 ≤ b ∧ b ≤ 12) : Sm (addD D a b) := fun s c q => by
  simp only [addD, Bool.or_eq_true, decide_eq_true_eq] at q
  rcases q with q | ⟨rfl, rfl⟩
  · exact h s c q
  · exact i
theorem cp_or (f g : Nat → Bool) (l : List Nat) : List.countP (fun c => f c || g c) l ≤ List.countP f l + List.countP g l := by
  induction l with
  | nil => simp
  | cons a l ih =>
    simp only [List.countP_cons]
    cases f a <;> cases g a <;> simp <;> omega
theorem one_small (b : Nat) : ((List.range 1001).filter fun c => decide (c = b)).length ≤ 1 := by
  have h : ((List.range 1001).filter fun c => decide (c = b)) = ((List.range 1001).filter fun c => c == b) := by
    congr 1
  rw [h]
  have := List.count_range (n := 1001) (a := b)
  rw [← List.countP_eq_length_filter]
  have e : List.countP (fun c => c == b) (List.range 1001) = List.count b (List.range 1001) := rfl
  rw [e, this]
  split <;> omega
theorem Sn.form {D : DS} (h : Sn D) : (formM D).length ≤ 60 := by
  obtain ⟨b, h⟩ := h
  have key : ∀ s, (restD D s).length ≤ 12 := by
    intro s
    unfold restD
    rw [List.length_map]
    have h1 : ((List.range 1001).filter fun c => decide (run D s + 2 ≤ c) && D s c).length ≤ ((List.range 1001).filter fun c => decide (2 ≤ c ∧ c ≤ 12) || decide (c = b)).length := by
      rw [← List.countP_eq_length_filter, ← List.countP_eq_length_filter]
      apply List.countP_mono_left
      intro c _ hc
      simp only [Bool.and_eq_true, Bool.or_eq_true, decide_eq_true_eq] at hc ⊢
      have := h s c hc.2
      omega
    have h2 : ((List.range 1001).filter fun c => decide (2 ≤ c ∧ c ≤ 12) || decide (c = b)).length ≤ ((List.range 1001).filter fun c => decide (2 ≤ c ∧ c ≤ 12)).length + ((List.range 1001).filter fun c => decide (c = b)).length := by
      rw [← List.countP_eq_length_filter, ← List.countP_eq_length_filter, ← List.countP_eq_length_filter]
      exact cp_or _ _ _
    have h3 : ((List.range 1001).filter fun c => decide (2 ≤ c ∧ c ≤ 12)).length ≤ 11 := by decide +kernel
    have h4 := one_small b
    omega
  have k0 := key 0
  have k1 := key 1
  have k2 := key 2
  have k3 := key 3
  have k4 := key 4
  show ((List.range 5).flatMap (restD D)).length ≤ 60
  have e : (List.range 5).flatMap (restD D) = restD D 0 ++ restD D 1 ++ restD D 2 ++ restD D 3 ++ restD D 4 := by
    rw [show List.range 5 = [0, 1, 2, 3, 4] from rfl]
    simp [List.flatMap_cons, List.append_assoc]
  rw [e]
  simp only [List.length_append]
  omega
/-! counts -/
theorem memB_in {v : List Nat} {m : List (Nat × Nat)} (ok : OkV v m) {s c : Nat} (h : memB v m s c = true) : inR s c := by
  rcases (memB_iff ..).1 h with ⟨h1, h2⟩ | h
  · have hl := cv_le ok.le s
    refine ⟨?_, h1, by omega⟩
    by_cases hs : s < v.length
    · have := ok.len; omega
    · have e : cv v s = 0 := by unfold cv; rw [List.getD_eq_getElem?_getD, List.getElem?_eq_none (by omega)]; rfl
      omega
  · have := ok.dots _ h
    simp only at this
    exact ⟨this.1, by omega, this.2.1⟩
theorem mem_all {D : DS} (h : ∀ s c, D s c = true → inR s c) (s c : Nat) : memB (formV D) (formM D) s c = D s c := by
  by_cases i : inR s c
  · exact form_mem D s c i
  · have e1 : D s c = false := by
      cases e : D s c
      · rfl
      · exact absurd (h s c e) i
    have e2 : memB (formV D) (formM D) s c = false := by
      cases e : memB (formV D) (formM D) s c
      · rfl
      · exact absurd (memB_in (form_ok D) e) i
    rw [e1, e2]
def cntF (D : DS) : Nat := (formV D).sum + (formM D).length
theorem cntF_eq {D : DS} (h : ∀ s c, D s c = true → inR s c) : cntF D = cntD D := by
  unfold cntF
  rw [← (form_ok D).count]
  exact cnt_congr fun s c _ _ => mem_all h s c
theorem Sm.inR {D : DS} (h : Sm D) : ∀ s c, D s c = true → inR s c := fun s c q => by
  have := h s c q
  exact ⟨this.1, this.2.1, by omega⟩
theorem Sn.inR {D : DS} (h : Sn D) : ∀ s c, D s c = true → Rm.inR s c := fun s c q => by
  obtain ⟨b, h⟩ := h
  have := h s c q
  exact ⟨this.1, this.2.1, this.2.2.1⟩
theorem cntF_or {D E : DS} (h : Sm D) (h' : Sm E) : cntF D + cntF E = cntF (orD D E) + cntF (andD D E) := by
  rw [cntF_eq h.inR, cntF_eq h'.inR, cntF_eq (h.or h').inR, cntF_eq (Sm.and (E := E) h).inR, cnt_or_and]
theorem cntF_le {D : DS} (h : Sm D) : cntF D ≤ 1000000 := by
  unfold cntF
  have h1 := small_form h
  have h2 : ∀ l : List Nat, (∀ x ∈ l, x ≤ 1000) → l.sum ≤ 1000 * l.length := by
    intro l
    induction l with
    | nil => simp
    | cons a l ih =>
      intro q
      have := ih fun x hx => q x (List.mem_cons_of_mem _ hx)
      have := q a (List.mem_cons_self ..)
      simp only [List.sum_cons, List.length_cons]
      omega
  have h3 := h2 _ (form_ok D).le
  have h4 := (form_ok D).len
  omega
/-- with a dot more, if it may be -/
def addI (D : DS) (x y : Int) : DS := if dotB (x, y) then addD D x.toNat y.toNat else fun _ _ => false
theorem dotB_in {x y : Int} (h : dotB (x, y) = true) : inR x.toNat y.toNat := by
  obtain ⟨h1, h2, h3, h4⟩ := (dotB_iff _).1 h
  simp only at h1 h2 h3 h4
  exact ⟨by omega, by omega, by omega⟩
theorem addI_sn {D : DS} (h : Sm D) (x y : Int) : Sn (addI D x y) := by
  unfold addI
  split
  · exact h.addI (dotB_in (by assumption))
  · exact ⟨0, fun s c q => by cases q⟩
theorem dotE_ok {x y : Int} (h : dotE x y = 0) : dotB (x, y) = true := by
  unfold dotE at h
  split at h
  · assumption
  · cases h
theorem dotE_no {x y : Int} (h : ¬ dotE x y = 0) : dotB (x, y) = false := by
  cases e : dotB (x, y)
  · rfl
  · exact absurd (by unfold dotE; rw [e]; rfl) h
theorem addI_no (D : DS) {x y : Int} (h : ¬ dotE x y = 0) : EqD (addI D x y) fun _ _ => false := fun s c _ => by
  unfold addI
  rw [dotE_no h]
  rfl
theorem addI_has {D : DS} {x y : Int} (h : hasD D x y = true) : EqD (addI D x y) D := fun s c _ => by
  obtain ⟨h1, h2⟩ := (Bool.and_eq_true _ _).mp h
  unfold addI
  rw [if_pos h1]
  unfold addD
  by_cases q : s = x.toNat ∧ c = y.toNat
  · obtain ⟨rfl, rfl⟩ := q
    rw [h2]; simp
  · simp [q]
theorem cntF_congr {D E : DS} (h : EqD D E) : cntF D = cntF E := by
  obtain ⟨h1, h2⟩ := form_congr h
  unfold cntF
  rw [h1, h2]
theorem cntF_has {D : DS} {x y : Int} (h : hasD D x y = true) : cntF (addI D x y) = cntF D := cntF_congr (addI_has h)
theorem cntS_one (a b s : Nat) (hb : b < 1024) : cntS (fun s c => decide (s = a ∧ c = b)) s = if s = a then 1 else 0 := by
  unfold cntS
  by_cases h : s = a
  · subst h
    rw [if_pos rfl]
    have e := cntTo_one b 1024
    rw [if_pos hb] at e
    rw [← e]
    exact cntTo_congr fun i _ => by simp
  · rw [if_neg h]
    exact cntTo_none fun i _ => by simp [h]
theorem cntD_one {a b : Nat} (ha : a < 5) (hb : b < 1024) : cntD (fun s c => decide (s = a ∧ c = b)) = 1 := by
  unfold cntD
  rw [cntS_one a b 0 hb, cntS_one a b 1 hb, cntS_one a b 2 hb, cntS_one a b 3 hb, cntS_one a b 4 hb]
  have : a = 0 ∨ a = 1 ∨ a = 2 ∨ a = 3 ∨ a = 4 := by omega
  rcases this with rfl | rfl | rfl | rfl | rfl <;> rfl
theorem cntF_more {D : DS} (sm : Sm D) {x y : Int} (hd : dotB (x, y) = true) (h : hasD D x y = false) : cntF (addI D x y) = cntF D + 1 := by
  have hi := dotB_in hd
  have hD : D x.toNat y.toNat = false := by unfold hasD at h; rw [hd] at h; simpa using h
  rw [cntF_eq (addI_sn sm x y).inR, cntF_eq sm.inR]
  have e : addI D x y = orD D (fun s c => decide (s = x.toNat ∧ c = y.toNat)) := by unfold addI; rw [if_pos hd]; rfl
  have q := cnt_or_and D (fun s c => decide (s = x.toNat ∧ c = y.toNat))
  have z : cntD (andD D fun s c => decide (s = x.toNat ∧ c = y.toNat)) = 0 := by
    have : ∀ s, cntS (andD D fun s c => decide (s = x.toNat ∧ c = y.toNat)) s = 0 := fun s => cntTo_none fun i _ => by
      unfold andD
      by_cases q : s = x.toNat ∧ i = y.toNat
      · obtain ⟨rfl, rfl⟩ := q
        rw [hD]; rfl
      · simp [q]
    unfold cntD
    rw [this, this, this, this, this]
  rw [e]
  rw [cntD_one hi.1 (by have := hi.2.2; omega)] at q
  omega
end Rm
namespace Go.Proofs.Ytgmoedjdfjloiaa
open Go.RowKit Rm Gx
theorem KnD.congr {w : World} {k : Value} {D E : DS} (h : KnD w k D) (e : EqD D E) : KnD w k E := by
  obtain ⟨h1, h2⟩ := form_congr e
  unfold KnD
  rw [← h1, ← h2]
  exact h
theorem knD_nil (w : World) : KnD w (.agg #[.slice none 0 0, .slice none 0 0]) fun _ _ => false := by
  have hok : OkV [] [] := ⟨by simp, by simp, by simp, by simp, by simp⟩
  have he : EqD (memB [] []) fun _ _ => false := fun s c i => by
    have := i.2.1
    simp [memB, cv]
    omega
  obtain ⟨h1, h2⟩ := hok.form he
  unfold KnD
  rw [h1, h2]
  exact knR_nil w
theorem knD_acc (w : World) : KnD w (.agg #[.slice none 0 0, .slice none 0 0]) (accD []) := (knD_nil w).congr fun s c _ => rfl
theorem one_of {base : Nat} {w : World} {e : Ending} {D : DS} (h : frmK base w e D) (sm : Sn D) : ∃ k, e = .returned (.tuple #[k, .int .i64 0]) ∧ KnD w k D := by
  obtain ⟨k, h1, h2⟩ := frmK.one h
  have q := sm.form
  unfold frE at h1
  unfold frV frM at h2
  rw [if_pos q] at h1
  rw [if_pos q, if_pos q] at h2
  exact ⟨k, h1, h2.rd⟩
theorem addD_eqD {A D : DS} (h : EqD A D) (s c : Nat) : EqD (addD A s c) (addD D s c) := fun a b i => by simp only [addD, h a b i]
theorem sadd (k : Value) (D : DS) (s c : Nat) (w : World) (hk : KnD w k D) (sD : Sm D) (hi : inR s c) :
    Calls Try.prog 11 #[k, .agg #[.int .i64 (s : Int), .int .i64 (c : Int)]] w fun e w' => ∃ k2, e = .returned (.tuple #[k2, .int .i64 0]) ∧ KnD w' k2 (addD D s c) ∧ Gr w w' :=
  (add_ok k _ _ s c w hk (form_ok D) (small_form sD) hi).mono fun e w' h => by
    obtain ⟨k2, h1, h2⟩ := one_of (h.1.congr (addD_eqD (form_mem D) s c)) (sD.addI hi)
    exact ⟨k2, h1, h2, h.2⟩
theorem saddI (k : Value) (D : DS) (x y : Int) (w : World) (hk : KnD w k D) (sD : Sm D) :
    Calls Try.prog 11 #[k, .agg #[.int .i64 x, .int .i64 y]] w fun e w' => ∃ k2, e = .returned (.tuple #[k2, .int .i64 (dotE x y)]) ∧ KnD w' k2 (addI D x y) ∧ Gr w w' := by
  have hE : chkK (ints (formV D)) (pairs (formM D)) = 0 := (form_ok D).chk (small_form sD)
  cases hd : dotB (x, y)
  · have h := add_bad k _ _ (x, y) w hk (by rw [chkA_1 hE hd]; decide)
    rw [chkA_1 hE hd] at h
    have e2 : dotE x y = 1 := by unfold dotE; rw [hd]; rfl
    refine h.mono fun e w' q => ⟨_, by rw [e2]; exact q.1, ?_, q.2⟩
    exact (knD_nil w').congr (addI_no D (by rw [e2]; decide)).symm
  · have hi := dotB_in hd
    obtain ⟨h1, h2, h3, h4⟩ := (dotB_iff _).1 hd
    simp only at h1 h2 h3 h4
    obtain ⟨s, rfl⟩ : ∃ n : Nat, x = n := ⟨x.toNat, by omega⟩
    obtain ⟨c, rfl⟩ : ∃ n : Nat, y = n := ⟨y.toNat, by omega⟩
    have e2 : dotE (s : Int) (c : Int) = 0 := by unfold dotE; rw [hd]; rfl
    have e3 : addI D (s : Int) (c : Int) = addD D s c := by unfold addI; rw [if_pos hd]; rfl
    rw [e2, e3]
    exact sadd k D s c w hk sD hi
theorem scount (k : Value) (D : DS) (w : World) (hk : KnD w k D) (sD : Sn D) :
    Calls Try.prog 12 #[k] w fun e w' => e = .returned (.tuple #[.int .i64 ((cntF D : Nat) : Int), .int .i64 0]) ∧ Gr w w' :=
  count_ok k _ _ w hk (form_ok D) sD.form
theorem ssameN (k k' : Value) (D E : DS) (w : World) (hk : KnD w k D) (hk' : KnD w k' E) (sD : Sn D) (h : EqD D E) :
    Calls Try.prog 17 #[k, k'] w fun e w' => e = .returned (.bool true) ∧ Gr w w' := by
  obtain ⟨h1, h2⟩ := form_congr h
  unfold KnD at hk'
  rw [← h1, ← h2] at hk'
  refine sameK_t k k' _ _ w hk hk' ?_ ?_
  · rw [ints_len]; have := (form_ok D).len; omega
  · rw [pairs_len]; have := sD.form; omega
/-! what outlives stores into two blocks -/
def Near (b1 b2 : Nat) (w w' : World) : Prop := w.heap.size ≤ w'.heap.size ∧ ∀ b : Nat, b < w.heap.size → b ≠ b1 → b ≠ b2 → w'.heap[b]? = w.heap[b]?
theorem Near.refl {b1 b2 : Nat} (w : World) : Near b1 b2 w w := ⟨Nat.le_refl _, fun _ _ _ _ => rfl⟩
theorem Near.trans {b1 b2 : Nat} {w w' w'' : World} (h : Near b1 b2 w w') (k : Near b1 b2 w' w'') : Near b1 b2 w w'' :=
  ⟨Nat.le_trans h.1 k.1, fun b hb h1 h2 => (k.2 b (Nat.lt_of_lt_of_le hb h.1) h1 h2).trans (h.2 b hb h1 h2)⟩
theorem Near.gr {b1 b2 : Nat} {w w' : World} (g : Gr w w') : Near b1 b2 w w' := ⟨g.size, fun b hb _ _ => Below.block g b hb⟩
theorem Near.upd1 {b1 b2 : Nat} {w w' : World} (u : Upd w w' b1) : Near b1 b2 w w' := ⟨Nat.le_of_eq u.size.symm, fun b _ h _ => u.oth b h⟩
theorem Near.upd2 {b1 b2 : Nat} {w w' : World} (u : Upd w w' b2) : Near b1 b2 w w' := ⟨Nat.le_of_eq u.size.symm, fun b _ _ h => u.oth b h⟩
def KnS (b1 b2 : Nat) (w : World) (k : Value) (D : DS) : Prop := ∀ w', Near b1 b2 w w' → KnD w' k D
theorem KnS.here {b1 b2 : Nat} {w : World} {k : Value} {D : DS} (h : KnS b1 b2 w k D) : KnD w k D := h w (Near.refl w)
theorem KnS.gr {b1 b2 : Nat} {w w' : World} {k : Value} {D : DS} (h : KnS b1 b2 w k D) (g : Gr w w') : KnS b1 b2 w' k D := fun w'' q => h w'' ((Near.gr g).trans q)
theorem KnS.upd1 {b1 b2 : Nat} {w w' : World} {k : Value} {D : DS} (h : KnS b1 b2 w k D) (u : Upd w w' b1) : KnS b1 b2 w' k D := fun w'' q => h w'' ((Near.upd1 u).trans q)
theorem KnS.upd2 {b1 b2 : Nat} {w w' : World} {k : Value} {D : DS} (h : KnS b1 b2 w k D) (u : Upd w w' b2) : KnS b1 b2 w' k D := fun w'' q => h w'' ((Near.upd2 u).trans q)
theorem KnS.congr {b1 b2 : Nat} {w : World} {k : Value} {D E : DS} (h : KnS b1 b2 w k D) (e : EqD D E) : KnS b1 b2 w k E := fun w' q => (h w' q).congr e
theorem knS_acc (b1 b2 : Nat) (w : World) : KnS b1 b2 w (.agg #[.slice none 0 0, .slice none 0 0]) (accD []) := fun w' _ => knD_acc w'
theorem own_near {b1 b2 : Nat} {w w' : World} {base : Nat} {e : TypeId} {s n : Nat} {v : Value} {xs : List Value} (h : w.ownsRow base e s v n xs) (g : Near b1 b2 w w') (h1 : b1 < base) (h2 : b2 < base) : w'.ownsRow base e s v n xs := by
  obtain ⟨q1, q2 | ⟨b, cap, cur, e, h3, hg, h4⟩⟩ := h
  · exact ⟨q1, .inl q2⟩
  · exact ⟨q1, .inr ⟨b, cap, cur, e, h3, (g.2 b (Array.getElem?_eq_some_iff.1 hg).1 (by omega) (by omega)).trans hg, h4⟩⟩
theorem KnS.form {b1 b2 : Nat} {w : World} {k : Value} {D : DS} (h : KnS b1 b2 w k D) : ∃ va vc ma mc, k = .agg #[.slice va (ints (formV D)).length vc, .slice ma (pairs (formM D)).length mc] := h.here.form
theorem saddS {b1 b2 : Nat} (k : Value) (D : DS) (s c : Nat) (w : World) (hk : KnS b1 b2 w k D) (sD : Sm D) (hi : inR s c) (h1 : b1 < w.heap.size) (h2 : b2 < w.heap.size) :
    Calls Try.prog 11 #[k, .agg #[.int .i64 (s : Int), .int .i64 (c : Int)]] w fun e w' => ∃ k2, e = .returned (.tuple #[k2, .int .i64 0]) ∧ KnS b1 b2 w' k2 (addD D s c) ∧ Gr w w' :=
  (add_ok k _ _ s c w hk.here (form_ok D) (small_form sD) hi).mono fun e w' h => by
    have q := (sD.addI hi).form
    obtain ⟨k2, e1, o⟩ := frmK.one (h.1.congr (addD_eqD (form_mem D) s c))
    unfold frE at e1
    unfold frV frM at o
    rw [if_pos q] at e1
    rw [if_pos q, if_pos q] at o
    refine ⟨k2, e1, fun w'' n => ?_, h.2⟩
    obtain ⟨vv, mv, rfl, o1, o2⟩ := o
    exact KnO.rd ⟨vv, mv, rfl, own_near o1 n h1 h2, own_near o2 n h1 h2⟩
end Go.Proofs.Ytgmoedjdfjloiaa
