/- The arguments of FilterOwn, cell by cell, with their bytes bounded. -/
import Derived.Test.YtbodadddcbbjeaaOpenB
import Derived.Test.YtbodadddcbbjeaaOpenN
import Derived.Test.YtbodadddcbbjeaaLawFilterOwn
import Derived.SizedLaws
namespace Go.Proofs.Ytbodadddcbbjeaa
open Go.ChangeShapes Go.WideShapes Go.ChangeAt Go.RowKit Go.Deep Rm
set_option linter.unusedVariables false
theorem weights_mem_all {H : Type} {P : Program} {e : TypeId} {d : DataW H} : ∀ {ds : List (DataW H)}, d ∈ ds → ∀ n ∈ d.weights P e, n ∈ DataW.weightsAll P e ds
  | d0 :: ds, h, n, hn => by
    simp only [DataW.weightsAll, List.mem_append]
    rcases List.mem_cons.1 h with rfl | h
    · exact .inl hn
    · exact .inr (weights_mem_all h n hn)
  | [], h, _, _ => by simp at h
theorem flat_split2 (l : List (Int × Int)) (j : Nat) (u : Value) (h : (flat l)[j]? = some u) : ∃ i p, l[i]? = some p ∧ ((j = i * 2 ∧ u = .int .i64 p.1) ∨ (j = i * 2 + 1 ∧ u = .int .i64 p.2)) := by
  induction l generalizing j with
  | nil => simp [flat] at h
  | cons q l ih =>
    rw [flat_cons] at h
    match j, h with
    | 0, h => simp at h; exact ⟨0, q, rfl, .inl ⟨rfl, h.symm⟩⟩
    | 1, h => simp at h; exact ⟨0, q, rfl, .inr ⟨rfl, h.symm⟩⟩
    | j + 2, h =>
      obtain ⟨i, p, hp, hc⟩ := ih j (by simpa using h)
      exact ⟨i + 1, p, by simpa using hp, hc.imp (fun ⟨a, b⟩ => ⟨by omega, b⟩) (fun ⟨a, b⟩ => ⟨by omega, b⟩)⟩
theorem flatX_split (l : List ((Int × Int) × Value)) (j : Nat) (u : Value) (h : (flatX l)[j]? = some u) : ∃ i p, l[i]? = some p ∧ ((j = i * 3 ∧ u = .int .i64 p.1.1) ∨ (j = i * 3 + 1 ∧ u = .int .i64 p.1.2) ∨ (j = i * 3 + 2 ∧ u = p.2)) := by
  induction l generalizing j with
  | nil => simp [flatX] at h
  | cons q l ih =>
    rw [flatX_cons] at h
    match j, h with
    | 0, h => simp at h; exact ⟨0, q, rfl, .inl ⟨rfl, h.symm⟩⟩
    | 1, h => simp at h; exact ⟨0, q, rfl, .inr (.inl ⟨rfl, h.symm⟩)⟩
    | 2, h => simp at h; exact ⟨0, q, rfl, .inr (.inr ⟨rfl, h.symm⟩)⟩
    | j + 3, h =>
      obtain ⟨i, p, hp, hc⟩ := ih j (by simpa using h)
      refine ⟨i + 1, p, by simpa using hp, ?_⟩
      rcases hc with ⟨a, b⟩ | ⟨a, b⟩ | ⟨a, b⟩
      · exact .inl ⟨by omega, b⟩
      · exact .inr (.inl ⟨by omega, b⟩)
      · exact .inr (.inr ⟨by omega, b⟩)
theorem Rd2.rdc {W : World} {a : Addr} {c : Nat} {l : List (Int × Int)} (h : Rd2 W (.slice (some a) l.length c) l) : RdC 2 W (.slice (some a) l.length c) l.length (flat l) := by
  obtain ⟨a', c', e, hc, hx⟩ := h
  cases e
  refine ⟨flat_len2 l, flat_one2 l, .inr ⟨a, c, rfl, hc, fun hn => ?_, fun j u hj => ?_⟩⟩
  · obtain ⟨b, off, e, hb, _⟩ := hx (by rintro rfl; exact hn rfl)
    cases e; exact hb
  · obtain ⟨i, p, hp, hc⟩ := flat_split2 l j u hj
    obtain ⟨b, off, e, hb, hcl⟩ := hx (by rintro rfl; simp at hp)
    cases e
    rw [add_none]
    obtain ⟨h1, h2⟩ := hcl i p hp
    rcases hc with ⟨rfl, rfl⟩ | ⟨rfl, rfl⟩
    · exact h1
    · exact h2
theorem RdN.rdc {W : World} {a : Addr} {c : Nat} {l : List Nd} (h : RdN W (.slice (some a) l.length c) l) : RdC 3 W (.slice (some a) l.length c) l.length (flatN l) := by
  obtain ⟨a', c', e, hc, hx⟩ := h
  cases e
  refine ⟨flatN_len l, flatN_one l, .inr ⟨a, c, rfl, hc, fun hn => ?_, fun j u hj => ?_⟩⟩
  · obtain ⟨b, off, e, hb, _⟩ := hx (by rintro rfl; exact hn rfl)
    cases e; exact hb
  · obtain ⟨b, off, e, hb, hcl⟩ := hx (by rintro rfl; simp [flatN] at hj)
    cases e
    exact rdN_cells hcl j u hj
theorem Rd1.rdc {W : World} {a : Addr} {c : Nat} {l : List Int} (h : Rd1 W (.slice (some a) l.length c) l) : RdC 1 W (.slice (some a) l.length c) l.length (l.map (Value.int .i64)) := by
  obtain ⟨a', c', e, hc, hx⟩ := h
  cases e
  refine ⟨by simp, fun u hu => ?_, .inr ⟨a, c, rfl, hc, fun hn => ?_, fun j u hj => ?_⟩⟩
  · obtain ⟨x, _, rfl⟩ := List.mem_map.1 hu; rfl
  · obtain ⟨b, off, e, hb, _⟩ := hx (by rintro rfl; exact hn rfl)
    cases e; exact hb
  · rw [List.getElem?_map] at hj
    cases hl : l[j]? with
    | none => rw [hl] at hj; simp at hj
    | some x =>
      rw [hl] at hj
      obtain ⟨b, off, e, hb, hcl⟩ := hx (by rintro rfl; simp at hl)
      cases e
      rw [add_none, hcl j x hl]
      simpa using hj
section
variable {H : Type} {enc : TypeId × Value → H} {W : World} {base : Nat} {spare : Nat → Bool} {held : Bool}
theorem by_span : Try.prog.bytesOf 53 = 16 := by kernel_rfl
theorem by_box : Try.prog.bytesOf 72 = 40 := by kernel_rfl
theorem by_node : Try.prog.bytesOf 40 = 24 := by kernel_rfl
theorem by_int : Try.prog.bytesOf 3 = 8 := by kernel_rfl
set_option maxRecDepth 100000 in
theorem spans_trodX {fuel : Nat} {cs : List Value} {x : DataW H × List MemPlace} (h : DataW.trod enc Try.prog W base spare held fuel 42 cs = some x) (hw : ∀ n ∈ x.1.weights Try.prog 42, n ≤ 2 ^ 47) : ∃ v l, cs = [v] ∧ Rd2 W v l ∧ RdC 2 W v l.length (flat l) ∧ l.length * 16 ≤ 2 ^ 47 := by
  rcases open_slice_pairs Try.underlying42 Try.underlying53 (by kernel_rfl) rfl rfl (by kernel_rfl) (by kernel_rfl) h with ⟨rfl, _⟩ | ⟨a, len, cap, m, n, V0, V1, D0, D1, P0, P1, rfl, hb, hl, hm, hmm, hx, hcell⟩
  · exact ⟨_, [], rfl, Rd2.nil W, ⟨rfl, flat_one2 _, .inl ⟨rfl, rfl⟩⟩, by simp⟩
  · have hlm : len ≤ m := by rw [hmm]; split <;> omega
    obtain ⟨l, hl', hll⟩ := rd2_of (W := W) (a := a) (V0 := V0) (V1 := V1) hl (fun i hi => ⟨(hcell i (by omega)).1, (hcell i (by omega)).2.1⟩) (fun i hi => by
      obtain ⟨_, _, t0, t1⟩ := hcell i (by omega)
      obtain ⟨x, ex, _, _⟩ := DataW.trod_int Try.underlying3 t0
      obtain ⟨y, ey, _, _⟩ := DataW.trod_int Try.underlying3 t1
      simp at ex ey
      exact ⟨x, y, ex, ey⟩)
    subst hll
    have hs := hw ((l.length + (m - l.length)) * 16) (by rw [hx]; simp [DataW.weights, Try.underlying42, by_span])
    exact ⟨_, l, rfl, hl', Rd2.rdc hl', by omega⟩
set_option maxRecDepth 100000 in
theorem box_trodX {fuel : Nat} {cs : List Value} {x : DataW H × List MemPlace} (h : DataW.trod enc Try.prog W base spare held fuel 72 cs = some x) (hw : ∀ n ∈ x.1.weights Try.prog 72, n ≤ 2 ^ 47) : ∃ (p : BoxI) (sv : Value), cs = [.int .i64 p.1.1, .int .i64 p.1.2, sv] ∧ Rd2 W sv p.2 ∧ RdC 2 W sv p.2.length (flat p.2) ∧ p.2.length * 16 ≤ 2 ^ 47 := by
  obtain ⟨xs, k, _, hx, hlen, hxl, hf⟩ := DataW.trod_struct Try.underlying72 h
  rw [box_cells] at hlen
  have g0 : DataW.trod enc Try.prog W base spare held k 70 ((cs.drop 0).take (Try.prog.cellsOf 70)) = xs[0]? := hf 0 _ rfl
  have g1 : DataW.trod enc Try.prog W base spare held k 42 ((cs.drop 2).take (Try.prog.cellsOf 42)) = xs[1]? := hf 1 _ rfl
  rw [cube_cells] at g0
  rw [spans_cells] at g1
  match xs, hxl, cs, hlen with
  | [y0, y1], _, [v0, v1, v2], _ =>
    simp at g0 g1
    obtain ⟨ys, k', _, _, hlen', hyl, hf'⟩ := DataW.trod_struct Try.underlying70 g0
    have q0 : DataW.trod enc Try.prog W base spare held k' 3 (([v0, v1].drop 0).take (Try.prog.cellsOf 3)) = ys[0]? := hf' 0 _ rfl
    have q1 : DataW.trod enc Try.prog W base spare held k' 3 (([v0, v1].drop 1).take (Try.prog.cellsOf 3)) = ys[1]? := hf' 1 _ rfl
    rw [int_cells] at q0 q1
    match ys, hyl with
    | [z0, z1], _ =>
      simp at q0 q1
      obtain ⟨a, ea, _, _⟩ := DataW.trod_int Try.underlying3 q0
      obtain ⟨b, eb, _, _⟩ := DataW.trod_int Try.underlying3 q1
      simp at ea eb
      obtain ⟨sv, s, es, hs, hs2, hs3⟩ := spans_trodX g1 (fun n hn => hw n (by
        rw [hx]
        simp only [DataW.weights, Try.underlying72]
        exact DataW.weights_mem_each (j := 1) rfl rfl n hn))
      simp at es
      subst ea eb es
      exact ⟨((a, b), s), v2, rfl, hs, hs2, hs3⟩
end
end Go.Proofs.Ytbodadddcbbjeaa
