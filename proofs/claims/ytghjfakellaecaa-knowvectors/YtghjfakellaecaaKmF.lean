/- Sets of small dots: joined, met, compared. -/
import Derived.Test.YtghjfakellaecaaKmE
import Derived.Test.YtghjfakellaecaaOpenK
set_option linter.unusedVariables false
set_option linter.unusedSimpArgs false
namespace Rm
open Go Go.RowKit Gx
def Sm (D : DS) : Prop := ∀ s c, D s c = true → s < 5 ∧ 1 ≤ c ∧ c ≤ 12
theorem Sm.or {D E : DS} (h : Sm D) (h' : Sm E) : Sm (orD D E) := fun s c q => by
  simp only [orD, Bool.or_eq_true] at q
  exact q.elim (h s c) (h' s c)
theorem Sm.and {D E : DS} (h : Sm D) : Sm (andD D E) := fun s c q => by
  simp only [andD, Bool.and_eq_true] at q
  exact h s c q.1
theorem Sm.set (L : List (List Int)) : Sm (setD L) := setD_small L
theorem zero11 {i : Nat} (h : i < 11) : (#[.int .i64 0, .int .i64 0, .int .i64 0, .int .i64 0, .int .i64 0, .int .i64 0, .int .i64 0, .int .i64 0, .int .i64 0, .int .i64 0, .int .i64 0] : Array Value)[i]? = some (.int .i64 0) := by
  match i, h with
  | 0, _ => rfl
  | 1, _ => rfl
  | 2, _ => rfl
  | 3, _ => rfl
  | 4, _ => rfl
  | 5, _ => rfl
  | 6, _ => rfl
  | 7, _ => rfl
  | 8, _ => rfl
  | 9, _ => rfl
  | 10, _ => rfl
end Rm
namespace Go.Proofs.Ytghjfakellaecaa
open Go.ChangeShapes Go.WideShapes Go.ChangeAt Go.RowKit Go.Deep Rm Gx
/-- a value that is a set of dots -/
def KnD (w : World) (k : Value) (D : DS) : Prop := KnR w k (ints (formV D)) (pairs (formM D))
theorem KnD.gr {w w' : World} {k : Value} {D : DS} (h : KnD w k D) (g : Gr w w') : KnD w' k D := KnR.gr h g
theorem KnD.form {w : World} {k : Value} {D : DS} (h : KnD w k D) : ∃ va vc ma mc, k = .agg #[.slice va (ints (formV D)).length vc, .slice ma (pairs (formM D)).length mc] := by
  obtain ⟨va, vc, ma, mc, h, -, -⟩ := knr_form h
  exact ⟨va, vc, ma, mc, h⟩
theorem bothD {D E A B : DS} (h : EqD A D) (h' : EqD B E) : EqD (orD A B) (orD D E) ∧ EqD (andD A B) (andD D E) :=
  ⟨fun s c i => by simp only [orD, h s c i, h' s c i], fun s c i => by simp only [andD, h s c i, h' s c i]⟩
theorem small_one {base : Nat} {w : World} {e : Ending} {D : DS} (h : frmK base w e D) (sm : Sm D) : ∃ k, e = .returned (.tuple #[k, .int .i64 0]) ∧ KnD w k D := by
  obtain ⟨k, h1, h2⟩ := frmK.one h
  have q := small_form sm
  unfold frE at h1
  unfold frV frM at h2
  rw [if_pos q] at h1
  rw [if_pos q, if_pos q] at h2
  exact ⟨k, h1, h2.rd⟩
theorem setK (v : Value) (L : List (List Int)) (w : World) (h : RdLL w v L) : Calls Try.prog 55 #[v] w fun e w' => ∃ k, e = .returned k ∧ KnD w' k (setD L) ∧ Gr w w' :=
  (kset_any v L w h).mono fun e w' ⟨k, h1, h2, h3⟩ => ⟨k, h1, h2.rd, h3⟩
theorem sjoin (k k' : Value) (D E : DS) (w : World) (hk : KnD w k D) (hk' : KnD w k' E) (sD : Sm D) (sE : Sm E) :
    Calls Try.prog 22 #[k, k'] w fun e w' => ∃ k2, e = .returned (.tuple #[k2, .int .i64 0]) ∧ KnD w' k2 (orD D E) ∧ Gr w w' :=
  (join_ok k k' _ _ _ _ w hk hk' (form_ok D) (form_ok E) (small_form sD) (small_form sE)).mono fun e w' h => by
    obtain ⟨k2, h1, h2⟩ := small_one (h.1.congr (bothD (form_mem D) (form_mem E)).1) (sD.or sE)
    exact ⟨k2, h1, h2, h.2⟩
theorem smeet (k k' : Value) (D E : DS) (w : World) (hk : KnD w k D) (hk' : KnD w k' E) (sD : Sm D) (sE : Sm E) :
    Calls Try.prog 27 #[k, k'] w fun e w' => ∃ k2, e = .returned (.tuple #[k2, .int .i64 0]) ∧ KnD w' k2 (andD D E) ∧ Gr w w' :=
  (meet_ok k k' _ _ _ _ w hk hk' (form_ok D) (form_ok E) (small_form sD) (small_form sE)).mono fun e w' h => by
    obtain ⟨k2, h1, h2⟩ := small_one (h.1.congr (bothD (form_mem D) (form_mem E)).2) sD.and
    exact ⟨k2, h1, h2, h.2⟩
theorem ssame (k k' : Value) (D E : DS) (w : World) (hk : KnD w k D) (hk' : KnD w k' E) (sD : Sm D) (h : EqD D E) :
    Calls Try.prog 28 #[k, k'] w fun e w' => e = .returned (.bool true) ∧ Gr w w' := by
  obtain ⟨h1, h2⟩ := form_congr h
  unfold KnD at hk'
  rw [← h1, ← h2] at hk'
  refine sameK_t k k' _ _ w hk hk' ?_ ?_
  · rw [ints_len]; have := (form_ok D).len; omega
  · rw [pairs_len]; have := small_form sD; omega
section
variable {H : Type} {enc : TypeId × Value → H} {W : World} {base : Nat} {spare : Nat → Bool} {held : Bool}
theorem RdI1.of {w : World} {v : Value} {V : List Int} (h : R1 w v V) : ∃ a c, v = .slice a V.length c ∧ V.length ≤ c ∧ RdI1 w a V := by
  obtain ⟨a, c, e, hc, h⟩ := h
  refine ⟨a, c, e, hc, fun hn => ?_⟩
  obtain ⟨b, off, e, hb, hx⟩ := h hn
  exact ⟨b, off, e, hb, fun i x h => by rw [Nat.mul_one]; exact hx i x h⟩
set_option maxRecDepth 100000 in
theorem rows_trod {fuel : Nat} {cs : List Value} {x : DataW H × List MemPlace} (h : DataW.trod enc Try.prog W base spare held fuel 98 cs = some x) : ∃ v L, cs = [v] ∧ RdLL W v L := by
  rcases open_slice Try.underlying98 h with ⟨rfl, _⟩ | ⟨a, len, cap, m, n, D, Pl, rfl, hb, hl, hm, hmm, hx, hcell⟩
  · exact ⟨_, [], rfl, none, 0, rfl, Nat.le_refl _, fun hn => absurd rfl hn⟩
  · have hlm : len ≤ m := by rw [hmm]; split <;> omega
    obtain ⟨q, hq⟩ := choose_lt (α := List Int) (n := len) (p := fun i p => ∃ ua uc, W.cell? (a.add i) = some (.slice ua p.length uc) ∧ RdI1 W ua p) (fun i hi => by
        obtain ⟨cs', h1, h2⟩ := hcell i (by omega)
        rw [kints_cells] at h1
        obtain ⟨uv, p, rfl, hs⟩ := kints_trod h2
        obtain ⟨ua, uc, rfl, -, hr⟩ := RdI1.of hs
        obtain ⟨_, _, hc⟩ := World.cells?_some h1
        have e0 := hc 0 (by omega)
        rw [add_add] at e0
        exact ⟨p, ua, uc, by simpa using e0, hr⟩)
    refine ⟨_, (List.range len).map q, rfl, some a, cap, by simp, by simpa using hl, fun hne => ?_⟩
    have h0 : 0 < len := by
      rcases Nat.eq_zero_or_pos len with h | h
      · subst h; simp at hne
      · exact h
    obtain ⟨b, off, spot⟩ := a
    obtain ⟨_, _, hc0, _⟩ := hq 0 h0
    have hspot : spot = none := by simpa [Addr.add] using World.cell?_spot hc0
    subst hspot
    have hlt : b < W.heap.size := by
      have := block_lt_of_cell hc0
      simpa [Addr.add] using this
    refine ⟨b, off, rfl, hlt, fun i p hp => ?_⟩
    have hil : i < len := by
      have := (List.getElem?_eq_some_iff.1 hp).1
      simpa using this
    have hp' : p = q i := by
      simp [List.getElem?_map, List.getElem?_range hil] at hp
      exact hp.symm
    subst hp'
    obtain ⟨ua, uc, q1, q2⟩ := hq i hil
    rw [add_none] at q1
    exact ⟨ua, uc, by rw [Nat.mul_one]; exact q1, q2⟩
set_option maxRecDepth 100000 in
theorem open_rows {r : Reach} {b0 : Nat} {v : Value} {d : DataW H} {p : List MemPlace}
    (hv : Value.okWide Try.prog W r b0 98 v) (h : DataW.Trod enc Try.prog W base spare held 98 v d p) : ∃ L, RdLL W v L := by
  obtain ⟨a0, len0, cap0, rfl⟩ := okWide_slice Try.underlying98 hv
  obtain ⟨fuel, hf⟩ := h
  obtain ⟨v, l, e, hl⟩ := rows_trod hf
  simp [Value.cells] at e
  subst e
  exact ⟨l, hl⟩
end
end Go.Proofs.Ytghjfakellaecaa
