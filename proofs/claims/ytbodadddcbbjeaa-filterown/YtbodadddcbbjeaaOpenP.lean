/- The arguments of FilterOwn, opened. -/
import Derived.Test.YtbodadddcbbjeaaOpenO
namespace Go.Proofs.Ytbodadddcbbjeaa
open Go.ChangeShapes Go.WideShapes Go.ChangeAt Go.RowKit Go.Deep Rm
set_option linter.unusedVariables false
section
variable {H : Type} {enc : TypeId × Value → H} {W : World} {base : Nat} {spare : Nat → Bool} {held : Bool}
set_option maxRecDepth 100000 in
theorem boxes_trodX {fuel : Nat} {cs : List Value} {x : DataW H × List MemPlace} (h : DataW.trod enc Try.prog W base spare held fuel 27 cs = some x) (hw : ∀ n ∈ x.1.weights Try.prog 27, n ≤ 2 ^ 47) : ∃ v l, cs = [v] ∧ OwnArg W v l := by
  rcases open_slice Try.underlying27 h with ⟨rfl, _⟩ | ⟨a, len, cap, m, n, D, Pl, rfl, hb, hl, hm, hmm, hx, hcell⟩
  · exact ⟨_, [], rfl, ⟨[], rfl, ⟨rfl, by simp [flatX], .inl ⟨rfl, rfl⟩⟩, fun k p q h1 => by simp at h1⟩, RdF.nil W, by simp, by simp⟩
  · have hlm : len ≤ m := by rw [hmm]; split <;> omega
    have hs := hw ((len + (m - len)) * 40) (by rw [hx]; simp [DataW.weights, Try.underlying27, by_box])
    obtain ⟨q, hq⟩ := choose_lt (α := BoxI × Value) (n := len) (p := fun i p => W.cell? (a.add (i * 3)) = some (.int .i64 p.1.1.1) ∧ W.cell? (a.add (i * 3 + 1)) = some (.int .i64 p.1.1.2) ∧ W.cell? (a.add (i * 3 + 2)) = some p.2 ∧ Rd2 W p.2 p.1.2 ∧ RdC 2 W p.2 p.1.2.length (flat p.1.2) ∧ p.1.2.length * 16 ≤ 2 ^ 47) (fun i hi => by
        obtain ⟨cs', h1, h2⟩ := hcell i (by omega)
        rw [box_cells] at h1
        obtain ⟨p, sv, rfl, hs⟩ := box_trodX h2 (fun n hn => hw n (by
          rw [hx]
          simp only [DataW.weights, Try.underlying27, List.mem_cons, List.mem_append]
          exact .inr (.inl (weights_mem_all (d := D i) (List.mem_map.2 ⟨i, List.mem_range.2 hi, rfl⟩) n hn))))
        obtain ⟨_, _, hc⟩ := World.cells?_some h1
        have e0 := hc 0 (by omega)
        have e1 := hc 1 (by omega)
        have e2 := hc 2 (by omega)
        rw [add_add] at e0 e1 e2
        exact ⟨(p, sv), by simpa using e0, by simpa using e1, by simpa using e2, hs⟩)
    have at1 : ∀ i p, ((List.range len).map fun i => (q i).1)[i]? = some p → i < len ∧ p = (q i).1 := fun i p hp => by
      have hil : i < len := by
        have := (List.getElem?_eq_some_iff.1 hp).1
        simpa using this
      refine ⟨hil, ?_⟩
      simp [List.getElem?_map, List.getElem?_range hil] at hp
      exact hp.symm
    have at2 : ∀ i p, ((List.range len).map fun i => ((q i).1.1, (q i).2))[i]? = some p → i < len ∧ p = ((q i).1.1, (q i).2) := fun i p hp => by
      have hil : i < len := by
        have := (List.getElem?_eq_some_iff.1 hp).1
        simpa using this
      refine ⟨hil, ?_⟩
      simp [List.getElem?_map, List.getElem?_range hil] at hp
      exact hp.symm
    have hlt : 0 < len → a.block < W.heap.size := fun h0 => by
      obtain ⟨hc0, _⟩ := hq 0 h0
      have := block_lt_of_cell hc0
      simpa [Addr.add] using this
    have hO := flatX_len ((List.range len).map fun i => ((q i).1.1, (q i).2))
    simp only [List.length_map, List.length_range] at hO
    refine ⟨_, (List.range len).map fun i => (q i).1, rfl, ⟨(List.range len).map fun i => ((q i).1.1, (q i).2), by simp, ⟨by rw [hO]; simp, ?_, .inr ⟨a, cap, by simp, by simpa using hl, fun hn => hlt (by simp at hn; omega), fun j u hj => ?_⟩⟩, fun k p r h1 h2 => ?_⟩, ⟨some a, cap, by simp, by simpa using hl, fun hne => ?_⟩, by simp; omega, fun p hp => ?_⟩
    · intro u hu
      obtain ⟨j, hj⟩ := List.getElem?_of_mem hu
      obtain ⟨i, p, hp, hc⟩ := flatX_split _ j u hj
      obtain ⟨hil, rfl⟩ := at2 i p hp
      rcases hc with ⟨_, rfl⟩ | ⟨_, rfl⟩ | ⟨_, rfl⟩
      · rfl
      · rfl
      · obtain ⟨_, _, _, _, r, _⟩ := hq i hil
        rcases r.2.2 with ⟨e, _⟩ | ⟨_, _, e, _⟩ <;> simp only <;> rw [e] <;> rfl
    · obtain ⟨i, p, hp, hc⟩ := flatX_split _ j u hj
      obtain ⟨hil, rfl⟩ := at2 i p hp
      obtain ⟨q1, q2, q3, _⟩ := hq i hil
      rcases hc with ⟨rfl, rfl⟩ | ⟨rfl, rfl⟩ | ⟨rfl, rfl⟩
      · exact q1
      · exact q2
      · exact q3
    · obtain ⟨hil, rfl⟩ := at1 k p h1
      obtain ⟨_, rfl⟩ := at2 k r h2
      exact ⟨rfl, (hq k hil).2.2.2.2.1⟩
    · have h0 : 0 < len := by
        rcases Nat.eq_zero_or_pos len with h | h
        · subst h; simp at hne
        · exact h
      have hb := hlt h0
      obtain ⟨b, off, spot⟩ := a
      obtain ⟨hc0, _⟩ := hq 0 h0
      have hspot : spot = none := by simpa [Addr.add] using World.cell?_spot hc0
      subst hspot
      refine ⟨b, off, rfl, hb, fun i p hp => ?_⟩
      obtain ⟨hil, rfl⟩ := at1 i p hp
      obtain ⟨q1, q2, q3, q4, _⟩ := hq i hil
      rw [add_none] at q1 q2 q3
      exact ⟨_, q1, by rw [Nat.add_assoc]; exact q2, by rw [Nat.add_assoc]; exact q3, q4⟩
    · obtain ⟨i, hi⟩ := List.getElem?_of_mem hp
      obtain ⟨hil, rfl⟩ := at1 i p hi
      exact (hq i hil).2.2.2.2.2
set_option maxRecDepth 100000 in
theorem open_boxesX {r : Reach} {b0 : Nat} {v : Value} {d : DataW H} {p : List MemPlace}
    (hv : Value.okWide Try.prog W r b0 27 v) (h : DataW.Trod enc Try.prog W base spare held 27 v d p) (hw : ∀ n ∈ d.weights Try.prog 27, n ≤ 2 ^ 47) : ∃ l, OwnArg W v l := by
  obtain ⟨a0, len0, cap0, rfl⟩ := okWide_slice Try.underlying27 hv
  obtain ⟨fuel, hf⟩ := h
  obtain ⟨v, l, e, hl⟩ := boxes_trodX hf hw
  simp [Value.cells] at e
  subst e
  exact ⟨l, hl⟩
set_option maxRecDepth 100000 in
theorem open_nodesX {r : Reach} {b0 : Nat} {v : Value} {d : DataW H} {p : List MemPlace}
    (hv : Value.okWide Try.prog W r b0 22 v) (h : DataW.Trod enc Try.prog W base spare held 22 v d p) (hw : ∀ n ∈ d.weights Try.prog 22, n ≤ 2 ^ 47) : ∃ l : List Nd, RdN W v l ∧ RdC 3 W v l.length (flatN l) ∧ l.length * 24 ≤ 2 ^ 47 := by
  obtain ⟨l, hl⟩ := open_nodes hv h
  obtain ⟨fuel, hf⟩ := h
  obtain ⟨a0, c0, e0, hc0, hx0⟩ := id hl
  rcases open_slice Try.underlying22 hf with ⟨e, _⟩ | ⟨a, len, cap, m, n, D, Pl, e, hb, hlc, hm, hmm, hx, hcell⟩
  · rw [e0] at e
    simp [Value.cells] at e
    obtain ⟨rfl, e1, rfl⟩ := e
    subst e1
    subst e0
    exact ⟨[], hl, ⟨rfl, flatN_one _, .inl ⟨rfl, rfl⟩⟩, by simp⟩
  · rw [e0] at e
    simp [Value.cells] at e
    obtain ⟨rfl, e1, rfl⟩ := e
    subst e1 e0
    have hlm : l.length ≤ m := by rw [hmm]; split <;> omega
    have ed := congrArg Prod.fst hx
    simp only at ed
    have hs := hw ((l.length + (m - l.length)) * 24) (by rw [ed]; simp [DataW.weights, Try.underlying22, by_node])
    exact ⟨l, hl, RdN.rdc hl, by omega⟩
set_option maxRecDepth 100000 in
theorem open_intsX {r : Reach} {b0 : Nat} {v : Value} {d : DataW H} {p : List MemPlace}
    (hv : Value.okWide Try.prog W r b0 34 v) (h : DataW.Trod enc Try.prog W base spare held 34 v d p) (hw : ∀ n ∈ d.weights Try.prog 34, n ≤ 2 ^ 47) : ∃ l : List Int, Rd1 W v l ∧ RdC 1 W v l.length (l.map (Value.int .i64)) ∧ l.length * 8 ≤ 2 ^ 47 := by
  obtain ⟨a0, len0, cap0, rfl⟩ := okWide_slice Try.underlying34 hv
  obtain ⟨fuel, hf⟩ := h
  rcases open_slice1 Try.underlying34 int_cells hf with ⟨e, _⟩ | ⟨a, len, cap, m, n, V, D, Pl, e, hb, hl, hm, hmm, hx, hcell⟩
  · simp [Value.cells] at e
    obtain ⟨rfl, rfl, rfl⟩ := e
    exact ⟨[], ⟨none, 0, rfl, Nat.le_refl _, fun h => absurd rfl h⟩, ⟨rfl, by simp, .inl ⟨rfl, rfl⟩⟩, by simp⟩
  · simp [Value.cells] at e
    obtain ⟨rfl, rfl, rfl⟩ := e
    have hlm : len0 ≤ m := by rw [hmm]; split <;> omega
    have ed := congrArg Prod.fst hx
    simp only at ed
    have hs := hw ((len0 + (m - len0)) * 8) (by rw [ed]; simp [DataW.weights, Try.underlying34, by_int])
    obtain ⟨q, hq⟩ := choose_lt (α := Int) (n := len0) (p := fun i p => W.cell? (a.add i) = some (.int .i64 p)) (fun i hi => by
        obtain ⟨h1, h2⟩ := hcell i (by omega)
        obtain ⟨x, ex, _, _⟩ := DataW.trod_int Try.underlying3 h2
        simp at ex
        exact ⟨x, by rw [h1, ex]⟩)
    have rd : Rd1 W (.slice (some a) ((List.range len0).map q).length cap0) ((List.range len0).map q) := by
      refine ⟨some a, cap0, rfl, by simpa using hl, fun hne => ?_⟩
      have h0 : 0 < len0 := by
        rcases Nat.eq_zero_or_pos len0 with h | h
        · subst h; simp at hne
        · exact h
      obtain ⟨b, off, spot⟩ := a
      have hc0 := hq 0 h0
      have hspot : spot = none := by simpa [Addr.add] using World.cell?_spot hc0
      subst hspot
      have hlt : b < W.heap.size := by
        have := block_lt_of_cell hc0
        simpa [Addr.add] using this
      refine ⟨b, off, rfl, hlt, fun i p hp => ?_⟩
      have hil : i < len0 := by
        have := (List.getElem?_eq_some_iff.1 hp).1
        simpa using this
      have hp' : p = q i := by
        simp [List.getElem?_map, List.getElem?_range hil] at hp
        exact hp.symm
      subst hp'
      have q1 := hq i hil
      rw [add_none] at q1
      exact q1
    have e : len0 = ((List.range len0).map q).length := by simp
    refine ⟨(List.range len0).map q, ?_, ?_, by simp; omega⟩
    · have := rd; rw [← e] at this; exact this
    · have := Rd1.rdc rd
      rw [← e] at this ⊢
      exact this
end
end Go.Proofs.Ytbodadddcbbjeaa
