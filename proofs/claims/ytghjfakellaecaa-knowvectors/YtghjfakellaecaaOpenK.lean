/- An argument that is a set of dots, or a dot, reads as plain data. -/
import Derived.Test.YtghjfakellaecaaOpenA
import Derived.Test.YtghjfakellaecaaKnA
set_option linter.unusedVariables false
namespace Go.Proofs.Ytghjfakellaecaa
open Go.ChangeShapes Go.WideShapes Go.ChangeAt Go.RowKit Go.Deep Rm

section
variable {H : Type} {enc : TypeId × Value → H} {W : World} {base : Nat} {spare : Nat → Bool} {held : Bool}
theorem kint_cells : Try.prog.cellsOf 3 = 1 := by kernel_rfl
theorem kints_cells : Try.prog.cellsOf 32 = 1 := by kernel_rfl
theorem kdots_cells : Try.prog.cellsOf 33 = 1 := by kernel_rfl
theorem know_cells : Try.prog.cellsOf 35 = 2 := by kernel_rfl
theorem dot_cells : Try.prog.cellsOf 26 = 2 := by kernel_rfl
theorem flat_split (l : List (Int × Int)) (j : Nat) (u : Value) (h : (flat l)[j]? = some u) : ∃ i p, l[i]? = some p ∧ ((j = i * 2 ∧ u = .int .i64 p.1) ∨ (j = i * 2 + 1 ∧ u = .int .i64 p.2)) := by
  induction l generalizing j with
  | nil => simp [flat] at h
  | cons q l ih =>
    rw [flat_cons] at h
    match j, h with
    | 0, h => simp at h; exact ⟨0, q, rfl, .inl ⟨rfl, h.symm⟩⟩
    | 1, h => simp at h; exact ⟨0, q, rfl, .inr ⟨rfl, h.symm⟩⟩
    | j + 2, h =>
      obtain ⟨i, p, hp, hc⟩ := ih j (by simpa using h)
      exact ⟨i + 1, p, by simpa using hp, hc.imp (fun ⟨a, b⟩ => ⟨by omega, b⟩) (fun ⟨a, b⟩ => ⟨by omega, b⟩)⟩
theorem rdC_of2 {W : World} {a : Addr} {n c : Nat} {l : List (Int × Int)} (h : Rd2 W (.slice (some a) n c) l) : RdC 2 W (.slice (some a) n c) l.length (flat l) := by
  obtain ⟨a', c', e, hc, hx⟩ := h
  cases e
  refine ⟨flat_len l, flat_one l, .inr ⟨a, c, rfl, hc, fun hn => ?_, fun j u hj => ?_⟩⟩
  · obtain ⟨b, off, e, hb, _⟩ := hx (by rintro rfl; exact hn rfl)
    cases e; exact hb
  · obtain ⟨i, p, hp, hc⟩ := flat_split l j u hj
    obtain ⟨b, off, e, hb, hcl⟩ := hx (by rintro rfl; simp at hp)
    cases e
    rw [add_none]
    obtain ⟨h1, h2⟩ := hcl i p hp
    rcases hc with ⟨rfl, rfl⟩ | ⟨rfl, rfl⟩
    · exact h1
    · exact h2
set_option maxRecDepth 100000 in
theorem dots_trod {fuel : Nat} {cs : List Value} {x : DataW H × List MemPlace} (h : DataW.trod enc Try.prog W base spare held fuel 33 cs = some x) : ∃ v l, cs = [v] ∧ Rd2 W v l ∧ RdC 2 W v l.length (flat l) := by
  rcases open_slice_pairs Try.underlying33 Try.underlying26 (by kernel_rfl) rfl rfl (by kernel_rfl) (by kernel_rfl) h with ⟨rfl, _⟩ | ⟨a, len, cap, m, n, V0, V1, D0, D1, P0, P1, rfl, hb, hl, hm, hmm, hx, hcell⟩
  · exact ⟨_, [], rfl, Rd2.nil W, ⟨rfl, by simp [flat], .inl ⟨rfl, rfl⟩⟩⟩
  · have hlm : len ≤ m := by rw [hmm]; split <;> omega
    obtain ⟨l, hl', _⟩ := rd2_of (W := W) (a := a) (V0 := V0) (V1 := V1) hl (fun i hi => ⟨(hcell i (by omega)).1, (hcell i (by omega)).2.1⟩) (fun i hi => by
      obtain ⟨_, _, t0, t1⟩ := hcell i (by omega)
      obtain ⟨x, ex, _, _⟩ := DataW.trod_int Try.underlying3 t0
      obtain ⟨y, ey, _, _⟩ := DataW.trod_int Try.underlying3 t1
      simp at ex ey
      exact ⟨x, y, ex, ey⟩)
    exact ⟨_, l, rfl, hl', rdC_of2 hl'⟩
set_option maxRecDepth 100000 in
theorem kints_trod {fuel : Nat} {cs : List Value} {x : DataW H × List MemPlace} (h : DataW.trod enc Try.prog W base spare held fuel 32 cs = some x) : ∃ v l, cs = [v] ∧ R1 W v l := by
  rcases open_slice1 Try.underlying32 kint_cells h with ⟨rfl, _⟩ | ⟨a, len, cap, m, n, V, D, Pl, rfl, hb, hl, hm, hmm, hx, hcell⟩
  · exact ⟨_, [], rfl, R1.nil W⟩
  · have hlm : len ≤ m := by rw [hmm]; split <;> omega
    obtain ⟨q, hq⟩ := choose_lt (α := Int) (n := len) (p := fun i p => W.cell? (a.add i) = some (.int .i64 p)) (fun i hi => by
        obtain ⟨h1, h2⟩ := hcell i (by omega)
        obtain ⟨x, ex, _, _⟩ := DataW.trod_int Try.underlying3 h2
        simp at ex
        exact ⟨x, by rw [h1, ex]⟩)
    refine ⟨_, (List.range len).map q, rfl, ⟨some a, cap, by simp, by simpa using hl, fun hne => ?_⟩⟩
    have h0 : 0 < len := by
      rcases Nat.eq_zero_or_pos len with h | h
      · subst h; simp at hne
      · exact h
    obtain ⟨b, off, spot⟩ := a
    have hc0 := hq 0 h0
    have hspot : spot = none := by simpa [Addr.add] using World.cell?_spot hc0
    subst hspot
    have hlt : b < W.heap.size := by
      have := block_lt_of_cell hc0
      simpa [Addr.add] using this
    refine ⟨b, off, rfl, hlt, fun i p hp => ?_⟩
    have hil : i < len := by
      have := (List.getElem?_eq_some_iff.1 hp).1
      simpa using this
    have hp' : p = q i := by
      simp [List.getElem?_map, List.getElem?_range hil] at hp
      exact hp.symm
    subst hp'
    have q1 := hq i hil
    rw [add_none] at q1
    exact q1
set_option maxRecDepth 100000 in
theorem know_trod {fuel : Nat} {cs : List Value} {x : DataW H × List MemPlace} (h : DataW.trod enc Try.prog W base spare held fuel 35 cs = some x) : ∃ vv mv V M, cs = [vv, mv] ∧ R1 W vv V ∧ Rd2 W mv M ∧ RdC 2 W mv M.length (flat M) := by
  obtain ⟨xs, k, _, _, hlen, hxl, hf⟩ := DataW.trod_struct Try.underlying35 h
  rw [know_cells] at hlen
  have g0 : DataW.trod enc Try.prog W base spare held k 32 ((cs.drop 0).take (Try.prog.cellsOf 32)) = xs[0]? := hf 0 _ rfl
  have g1 : DataW.trod enc Try.prog W base spare held k 33 ((cs.drop 1).take (Try.prog.cellsOf 33)) = xs[1]? := hf 1 _ rfl
  rw [kints_cells] at g0
  rw [kdots_cells] at g1
  match xs, hxl, cs, hlen with
  | [y0, y1], _, [v0, v1], _ =>
    simp at g0 g1
    obtain ⟨vv, V, e0, h0⟩ := kints_trod g0
    obtain ⟨mv, M, e1, h1, h2⟩ := dots_trod g1
    simp at e0 e1
    subst e0 e1
    exact ⟨v0, v1, V, M, rfl, h0, h1, h2⟩
set_option maxRecDepth 100000 in
theorem open_know {r : Reach} {b0 : Nat} {v : Value} {d : DataW H} {p : List MemPlace}
    (hv : Value.okWide Try.prog W r b0 35 v) (h : DataW.Trod enc Try.prog W base spare held 35 v d p) : ∃ V M, KnR W v V M := by
  obtain ⟨fuel, hf⟩ := h
  obtain ⟨vv, mv, V, M, e, h0, h1, h2⟩ := know_trod hf
  obtain ⟨cs, rfl, -⟩ := okWide_struct Try.underlying35 hv
  have e' : cs = #[vv, mv] := by
    have : cs.toList = [vv, mv] := by simpa [Value.cells] using e
    rw [← Array.toArray_toList (xs := cs), this]
  exact ⟨V, M, vv, mv, by rw [e'], h0, h1, h2⟩
end
end Go.Proofs.Ytghjfakellaecaa
