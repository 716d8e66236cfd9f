/- An argument that is a slice of boxes reads as a list. -/
import Derived.Test.YtbodadddcbbjeaaOpenA
import Derived.Test.YtbodadddcbbjeaaFilA
namespace Go.Proofs.Ytbodadddcbbjeaa
open Go.ChangeShapes Go.WideShapes Go.ChangeAt Go.RowKit Go.Deep Rm
set_option linter.unusedVariables false

section
variable {H : Type} {enc : TypeId × Value → H} {W : World} {base : Nat} {spare : Nat → Bool} {held : Bool}
set_option maxRecDepth 100000 in
theorem spans_trod {fuel : Nat} {cs : List Value} {x : DataW H × List MemPlace} (h : DataW.trod enc Try.prog W base spare held fuel 42 cs = some x) : ∃ v l, cs = [v] ∧ Rd2 W v l := by
  rcases open_slice_pairs Try.underlying42 Try.underlying53 (by kernel_rfl) rfl rfl (by kernel_rfl) (by kernel_rfl) h with ⟨rfl, _⟩ | ⟨a, len, cap, m, n, V0, V1, D0, D1, P0, P1, rfl, hb, hl, hm, hmm, hx, hcell⟩
  · exact ⟨_, [], rfl, Rd2.nil W⟩
  · have hlm : len ≤ m := by rw [hmm]; split <;> omega
    obtain ⟨l, hl', _⟩ := rd2_of (W := W) (a := a) (V0 := V0) (V1 := V1) hl (fun i hi => ⟨(hcell i (by omega)).1, (hcell i (by omega)).2.1⟩) (fun i hi => by
      obtain ⟨_, _, t0, t1⟩ := hcell i (by omega)
      obtain ⟨x, ex, _, _⟩ := DataW.trod_int Try.underlying3 t0
      obtain ⟨y, ey, _, _⟩ := DataW.trod_int Try.underlying3 t1
      simp at ex ey
      exact ⟨x, y, ex, ey⟩)
    exact ⟨_, l, rfl, hl'⟩
theorem box_cells : Try.prog.cellsOf 72 = 3 := by kernel_rfl
theorem cube_cells : Try.prog.cellsOf 70 = 2 := by kernel_rfl
theorem int_cells : Try.prog.cellsOf 3 = 1 := by kernel_rfl
theorem spans_cells : Try.prog.cellsOf 42 = 1 := by kernel_rfl
set_option maxRecDepth 100000 in
theorem box_trod {fuel : Nat} {cs : List Value} {x : DataW H × List MemPlace} (h : DataW.trod enc Try.prog W base spare held fuel 72 cs = some x) : ∃ (p : BoxI) (sv : Value), cs = [.int .i64 p.1.1, .int .i64 p.1.2, sv] ∧ Rd2 W sv p.2 := by
  obtain ⟨xs, k, _, _, hlen, hxl, hf⟩ := DataW.trod_struct Try.underlying72 h
  rw [box_cells] at hlen
  have g0 : DataW.trod enc Try.prog W base spare held k 70 ((cs.drop 0).take (Try.prog.cellsOf 70)) = xs[0]? := hf 0 _ rfl
  have g1 : DataW.trod enc Try.prog W base spare held k 42 ((cs.drop 2).take (Try.prog.cellsOf 42)) = xs[1]? := hf 1 _ rfl
  rw [cube_cells] at g0
  rw [spans_cells] at g1
  match xs, hxl, cs, hlen with
  | [y0, y1], _, [v0, v1, v2], _ =>
    simp at g0 g1
    obtain ⟨ys, k', _, _, hlen', hyl, hf'⟩ := DataW.trod_struct Try.underlying70 g0
    have q0 : DataW.trod enc Try.prog W base spare held k' 3 (([v0, v1].drop 0).take (Try.prog.cellsOf 3)) = ys[0]? := hf' 0 _ rfl
    have q1 : DataW.trod enc Try.prog W base spare held k' 3 (([v0, v1].drop 1).take (Try.prog.cellsOf 3)) = ys[1]? := hf' 1 _ rfl
    rw [int_cells] at q0 q1
    match ys, hyl with
    | [z0, z1], _ =>
      simp at q0 q1
      obtain ⟨a, ea, _, _⟩ := DataW.trod_int Try.underlying3 q0
      obtain ⟨b, eb, _, _⟩ := DataW.trod_int Try.underlying3 q1
      simp at ea eb
      obtain ⟨sv, s, es, hs⟩ := spans_trod g1
      simp at es
      subst ea eb es
      exact ⟨((a, b), s), v2, rfl, hs⟩
set_option maxRecDepth 100000 in
theorem boxes_trod {fuel : Nat} {cs : List Value} {x : DataW H × List MemPlace} (h : DataW.trod enc Try.prog W base spare held fuel 27 cs = some x) : ∃ v l, cs = [v] ∧ RdF W v l := by
  rcases open_slice Try.underlying27 h with ⟨rfl, _⟩ | ⟨a, len, cap, m, n, D, Pl, rfl, hb, hl, hm, hmm, hx, hcell⟩
  · exact ⟨_, [], rfl, RdF.nil W⟩
  · have hlm : len ≤ m := by rw [hmm]; split <;> omega
    obtain ⟨q, hq⟩ := choose_lt (α := BoxI) (n := len) (p := fun i p => ∃ sv, W.cell? (a.add (i * 3)) = some (.int .i64 p.1.1) ∧ W.cell? (a.add (i * 3 + 1)) = some (.int .i64 p.1.2) ∧ W.cell? (a.add (i * 3 + 2)) = some sv ∧ Rd2 W sv p.2) (fun i hi => by
        obtain ⟨cs', h1, h2⟩ := hcell i (by omega)
        rw [box_cells] at h1
        obtain ⟨p, sv, rfl, hs⟩ := box_trod h2
        obtain ⟨_, _, hc⟩ := World.cells?_some h1
        have e0 := hc 0 (by omega)
        have e1 := hc 1 (by omega)
        have e2 := hc 2 (by omega)
        rw [add_add] at e0 e1 e2
        exact ⟨p, sv, by simpa using e0, by simpa using e1, by simpa using e2, hs⟩)
    refine ⟨_, (List.range len).map q, rfl, ⟨some a, cap, by simp, by simpa using hl, fun hne => ?_⟩⟩
    have h0 : 0 < len := by
      rcases Nat.eq_zero_or_pos len with h | h
      · subst h; simp at hne
      · exact h
    obtain ⟨b, off, spot⟩ := a
    obtain ⟨_, hc0, _⟩ := hq 0 h0
    have hspot : spot = none := by simpa [Addr.add] using World.cell?_spot hc0
    subst hspot
    have hlt : b < W.heap.size := by
      have := block_lt_of_cell hc0
      simpa [Addr.add] using this
    refine ⟨b, off, rfl, hlt, fun i p hp => ?_⟩
    have hil : i < len := by
      have := (List.getElem?_eq_some_iff.1 hp).1
      simpa using this
    have hp' : p = q i := by
      simp [List.getElem?_map, List.getElem?_range hil] at hp
      exact hp.symm
    subst hp'
    obtain ⟨sv, q1, q2, q3, q4⟩ := hq i hil
    rw [add_none] at q1 q2 q3
    exact ⟨sv, q1, by rw [Nat.add_assoc]; exact q2, by rw [Nat.add_assoc]; exact q3, q4⟩
set_option maxRecDepth 100000 in
theorem open_boxes {r : Reach} {b0 : Nat} {v : Value} {d : DataW H} {p : List MemPlace}
    (hv : Value.okWide Try.prog W r b0 27 v) (h : DataW.Trod enc Try.prog W base spare held 27 v d p) : ∃ l, RdF W v l := by
  obtain ⟨a0, len0, cap0, rfl⟩ := okWide_slice Try.underlying27 hv
  obtain ⟨fuel, hf⟩ := h
  obtain ⟨v, l, e, hl⟩ := boxes_trod hf
  simp [Value.cells] at e
  subst e
  exact ⟨l, hl⟩
end
end Go.Proofs.Ytbodadddcbbjeaa
