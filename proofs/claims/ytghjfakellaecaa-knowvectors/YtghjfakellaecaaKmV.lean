/- Vectors: [5]int, the set that a vector is. -/
import Derived.Test.YtghjfakellaecaaKmF
import Derived.Test.YtghjfakellaecaaGxE
import Derived.Test.YtghjfakellaecaaGxF
set_option linter.unusedVariables false
set_option linter.unusedSimpArgs false
namespace Rm
open Go Go.RowKit Gx
def vec (v : List Nat) : List Nat := trimL (five v)
theorem vec_cv (v : List Nat) {s : Nat} (h : s < 5) : cv (vec v) s = cv v s := by
  unfold vec; rw [trimL_cv, cv_five, if_pos h]
theorem vec_ok {v : List Nat} (h : ∀ s, s < 5 → cv v s ≤ 50) : OkV (vec v) [] where
  len := Nat.le_trans (trimL_len _) (by simp [five])
  le := fun x hx => by
    have h1 := trimL_mem _ x hx
    simp only [five, List.mem_cons, List.not_mem_nil, or_false] at h1
    have h0 := h 0 (by omega); have h2 := h 1 (by omega); have h3 := h 2 (by omega); have h4 := h 3 (by omega); have h5 := h 4 (by omega)
    rcases h1 with rfl | rfl | rfl | rfl | rfl <;> omega
  last := trimL_last _
  dots := fun d hd => by cases hd
  sort := List.Pairwise.nil
theorem vec_mem (v : List Nat) {s c : Nat} (h : inR s c) : memB (vec v) [] s c = decide (c ≤ cv v s) := by
  rw [Bool.eq_iff_iff, memB_iff, vec_cv v h.1]
  have := h.2.1
  simp [this]
theorem vec_or {v v' vo : List Nat} (h : ∀ s, s < 5 → cv vo s = max (cv v s) (cv v' s)) : EqD (orD (memB (vec v) []) (memB (vec v') [])) (memB (vec vo) []) := fun s c hi => by
  simp only [orD, vec_mem _ hi, h s hi.1]
  rw [Bool.eq_iff_iff, Bool.or_eq_true, decide_eq_true_eq, decide_eq_true_eq, decide_eq_true_eq]
  omega
theorem vec_and {v v' vo : List Nat} (h : ∀ s, s < 5 → cv vo s = min (cv v s) (cv v' s)) : EqD (andD (memB (vec v) []) (memB (vec v') [])) (memB (vec vo) []) := fun s c hi => by
  simp only [andD, vec_mem _ hi, h s hi.1]
  rw [Bool.eq_iff_iff, Bool.and_eq_true, decide_eq_true_eq, decide_eq_true_eq, decide_eq_true_eq]
  omega
theorem kv_b {v : List Nat} {i n : Nat} (h : ∀ s, s < 5 → cv v s ≤ 50) (hi : i < 5) (hn : n ≤ 50) : ∀ s, s < 5 → cv (setC v i n) s ≤ 50 := fun s hs => by
  rw [cv_setC _ _ _ _ hi hs]
  split
  · exact hn
  · exact h s hs
theorem kv_s {v : List Nat} {i n : Nat} (hi : i < 5) : ∀ s, s < i → cv (setC v i n) s = cv v s := fun s hs => by
  rw [cv_setC _ _ _ _ hi (by omega), if_neg (by omega)]
theorem kv_o {f : Nat → Nat → Nat} {vx vy vx' vy' vo : List Nat} {i : Nat} (hi : i < 5) (h : ∀ s, s < i → cv vo s = f (cv vx s) (cv vy s)) (hx : ∀ s, s < i → cv vx' s = cv vx s) (hy : ∀ s, s < i → cv vy' s = cv vy s) : ∀ s, s < i + 1 → cv (setC vo i (f (cv vx' i) (cv vy' i))) s = f (cv vx' s) (cv vy' s) := fun s hs => by
  rw [cv_setC _ _ _ _ hi (by omega)]
  by_cases e : s = i
  · subst e; rw [if_pos rfl]
  · rw [if_neg e, h s (by omega), hx s (by omega), hy s (by omega)]
theorem kv_w {vx vy vx' vy' : List Nat} {i : Nat} {tt : Bool} (h : tt = true ↔ ∀ s, s < i → cv vx s ≤ cv vy s) (hx : ∀ s, s < i → cv vx' s = cv vx s) (hy : ∀ s, s < i → cv vy' s = cv vy s) (ht : tt = true) : (decide (((cv vx' i : Nat) : Int) ≤ ((cv vy' i : Nat) : Int))) = true ↔ ∀ s, s < i + 1 → cv vx' s ≤ cv vy' s := by
  rw [decide_eq_true_eq]
  constructor
  · intro q s hs
    by_cases e : s = i
    · subst e; omega
    · rw [hx s (by omega), hy s (by omega)]; exact h.1 ht s (by omega)
  · intro q; have := q i (by omega); omega
theorem kv_wf {vx vy vx' vy' : List Nat} {i : Nat} {tt : Bool} (h : tt = true ↔ ∀ s, s < i → cv vx s ≤ cv vy s) (hx : ∀ s, s < i → cv vx' s = cv vx s) (hy : ∀ s, s < i → cv vy' s = cv vy s) (ht : tt = false) : false = true ↔ ∀ s, s < i + 1 → cv vx' s ≤ cv vy' s := by
  constructor
  · intro q; cases q
  · intro q
    have : tt = true := h.2 fun s hs => by rw [← hx s hs, ← hy s hs]; exact q s (by omega)
    rw [ht] at this; exact this
end Rm
namespace Go.Proofs.Ytghjfakellaecaa
open Go.RowKit Rm Gx
theorem five_sz : (Try.prog.info? 61).map (·.size) = some 5 := by kernel_rfl
theorem five_size (v : List Nat) : (Try.prog.info? 61).map (·.size) = some (cArr v).size := five_sz
theorem five_zero : (Try.prog.info? 61).bind (·.zero) = some (.agg (cArr [])) := by kernel_rfl
theorem five_get {v : List Nat} {i : Nat} (h : i < 5) : (cArr v)[0 + i * 1]? = some (.int .i64 ((cv v i : Nat) : Int)) := by
  rw [Nat.zero_add, Nat.mul_one]; exact cArr_at v i h
theorem ow_updT {w w' : World} {base s n b : Nat} {t t' : TypeId} {v : Value} {xs : List Value} {cs : Array Value} (h : w.ownsRow base t s v n xs) (u : Upd w w' b) (hb : Bk w b cs t') (ht : Nat.beq t t' = false) : w'.ownsRow base t s v n xs := by
  obtain ⟨h1, h2 | ⟨g, cap, cur, rfl, h3, hg, h4⟩⟩ := h
  · exact ⟨h1, .inl h2⟩
  · refine ⟨h1, .inr ⟨g, cap, cur, rfl, h3, (u.oth g (fun e => ?_)).trans hg, h4⟩⟩
    subst e
    unfold Bk at hb
    rw [hb] at hg
    injection hg with hg
    injection hg with _ h5
    exact Nat.ne_of_beq_eq_false ht h5.symm
theorem KnO.updT {w w' : World} {base b : Nat} {k : Value} {v : List Nat} {m : List (Nat × Nat)} {t : TypeId} {cs : Array Value} (h : KnO base w k v m) (u : Upd w w' b) (hb : Bk w b cs t) (h1 : Nat.beq 3 t = false) (h2 : Nat.beq 26 t = false) : KnO base w' k v m := by
  obtain ⟨vv, mv, e, k1, k2⟩ := h
  exact ⟨vv, mv, e, ow_updT k1 u hb h1, ow_updT k2 u hb h2⟩
theorem KnO.v3 {base : Nat} {w : World} {k : Value} {v : List Nat} (h : KnO base w k v []) : ∃ va vc ma mc, k = .agg #[.slice va v.length vc, .slice ma 0 mc] := by
  obtain ⟨va, vc, ma, mc, e⟩ := h.form
  rw [ints_len] at e
  exact ⟨va, vc, ma, mc, e⟩
theorem kv_form {v : List Nat} (hv : ∀ s, s < 5 → cv v s ≤ 50) {base : Nat} {w : World} {e : Ending} {D : DS} (h : frmK base w e D) (hD : EqD D (memB (vec v) [])) : ∃ va vc ma mc, e = .returned (.tuple #[.agg #[.slice va (vec v).length vc, .slice ma 0 mc], .int .i64 0]) ∧ KnO base w (.agg #[.slice va (vec v).length vc, .slice ma 0 mc]) (vec v) [] := by
  obtain ⟨k, h1, h2⟩ := frmK.one (h.congr hD)
  obtain ⟨q1, q2⟩ := form_self (vec_ok hv)
  unfold frE at h1
  unfold frV frM at h2
  rw [q2] at h1 h2
  rw [q1] at h2
  simp only [List.length_nil, Nat.zero_le, if_true] at h1 h2
  obtain ⟨va, vc, ma, mc, rfl⟩ := h2.v3
  exact ⟨va, vc, ma, mc, h1, h2⟩
theorem kvjoin {v v' vo : List Nat} (hv : ∀ s, s < 5 → cv v s ≤ 50) (hv' : ∀ s, s < 5 → cv v' s ≤ 50) (ho : ∀ s, s < 5 → cv vo s = max (cv v s) (cv v' s)) (k k' : Value) (w : World) (hk : KnR w k (ints (vec v)) []) (hk' : KnR w k' (ints (vec v')) []) :
    Calls Try.prog 22 #[k, k'] w fun e w' => ∃ va vc ma mc, e = .returned (.tuple #[.agg #[.slice va (vec vo).length vc, .slice ma 0 mc], .int .i64 0]) ∧ KnO w.heap.size w' (.agg #[.slice va (vec vo).length vc, .slice ma 0 mc]) (vec vo) [] ∧ Gr w w' := by
  have hvo : ∀ s, s < 5 → cv vo s ≤ 50 := fun s hs => by rw [ho s hs]; have := hv s hs; have := hv' s hs; omega
  refine (join_ok k k' (vec v) (vec v') [] [] w hk hk' (vec_ok hv) (vec_ok hv') (by simp) (by simp)).mono ?_
  rintro e w' ⟨h, g⟩
  obtain ⟨va, vc, ma, mc, h1, h2⟩ := kv_form hvo h (vec_or ho)
  exact ⟨va, vc, ma, mc, h1, h2, g⟩
theorem kvmeet {v v' vo : List Nat} (hv : ∀ s, s < 5 → cv v s ≤ 50) (hv' : ∀ s, s < 5 → cv v' s ≤ 50) (ho : ∀ s, s < 5 → cv vo s = min (cv v s) (cv v' s)) (k k' : Value) (w : World) (hk : KnR w k (ints (vec v)) []) (hk' : KnR w k' (ints (vec v')) []) :
    Calls Try.prog 27 #[k, k'] w fun e w' => ∃ va vc ma mc, e = .returned (.tuple #[.agg #[.slice va (vec vo).length vc, .slice ma 0 mc], .int .i64 0]) ∧ KnO w.heap.size w' (.agg #[.slice va (vec vo).length vc, .slice ma 0 mc]) (vec vo) [] ∧ Gr w w' := by
  have hvo : ∀ s, s < 5 → cv vo s ≤ 50 := fun s hs => by rw [ho s hs]; have := hv s hs; omega
  refine (meet_ok k k' (vec v) (vec v') [] [] w hk hk' (vec_ok hv) (vec_ok hv') (by simp) (by simp)).mono ?_
  rintro e w' ⟨h, g⟩
  obtain ⟨va, vc, ma, mc, h1, h2⟩ := kv_form hvo h (vec_and ho)
  exact ⟨va, vc, ma, mc, h1, h2, g⟩
theorem kvwithin {v v' : List Nat} {tt : Bool} (hv : ∀ s, s < 5 → cv v s ≤ 50) (hv' : ∀ s, s < 5 → cv v' s ≤ 50) (ht : tt = true ↔ ∀ s, s < 5 → cv v s ≤ cv v' s) (k k' : Value) (w : World) (hk : KnR w k (ints (vec v)) []) (hk' : KnR w k' (ints (vec v')) []) :
    Calls Try.prog 21 #[k, k'] w fun e w' => e = .returned (.tuple #[.bool tt, .int .i64 0]) ∧ Gr w w' := by
  have h := within_ok k k' (vec v) (vec v') [] [] w hk hk' (vec_ok hv) (vec_ok hv') (by simp) (by simp)
  have e : withB (vec v) (vec v') [] [] = tt := by
    rw [Bool.eq_iff_iff, ht, withB_iff (vec_ok hv) (vec_ok hv')]
    constructor
    · intro q s hs
      rcases Nat.eq_zero_or_pos (cv v s) with h0 | h0
      · omega
      · have hi : inR s (cv v s) := ⟨hs, h0, by have := hv s hs; omega⟩
        have := q s (cv v s) hi (by rw [vec_mem _ hi]; simp)
        rw [vec_mem _ hi] at this
        simpa using this
    · intro q s c hi hm
      rw [vec_mem _ hi, decide_eq_true_eq] at hm ⊢
      exact Nat.le_trans hm (q s hi.1)
  rw [e] at h
  exact h
end Go.Proofs.Ytghjfakellaecaa
