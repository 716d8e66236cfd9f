/- The contract of span.Of by cases; what SpanOf hands over. -/
import Derived.Test.YtphcjjhfgpdhcabOfB
namespace Go.Proofs.Ytphcjjhfgpdhcab
open Go.RowKit Rm
set_option linter.unusedVariables false
theorem of_ok (v : Value) (l : List Int) (w : World) (hr : Rd1 w v l) (hlen : l.length ≤ 400) (h : l.all numB = true) :
    Calls Try.prog 4 #[v] w fun e w' => ∃ u, e = .returned (.tuple #[u, .int .i64 0]) ∧ MS w' u (maskI l) ∧ Gr w w' :=
  (of_any v l w hr hlen).mono fun e w' hh => by
    rcases hh with ⟨h1, _⟩ | ⟨_, u, he, hu, hm⟩
    · rw [h] at h1; cases h1
    · exact ⟨u, he, hu.ms hm, hu.1⟩
theorem lit4 (w : World) (a b c d : Int) (T : TypeId) : Rd1 (w.alloc (.cells #[.int .i64 a, .int .i64 b, .int .i64 c, .int .i64 d] T)) (.slice (some ⟨w.heap.size, 0, none⟩) 4 4) [a, b, c, d] := by
  refine ⟨_, 4, rfl, by simp, fun _ => ⟨w.heap.size, 0, rfl, by simp, ?_⟩⟩
  intro i p hp
  match i with
  | 0 => simp at hp; subst hp; simp [go_sem]
  | 1 => simp at hp; subst hp; simp [go_sem]
  | 2 => simp at hp; subst hp; simp [go_sem]
  | 3 => simp at hp; subst hp; simp [go_sem]
  | i + 4 => simp at hp
theorem all4 : ([3, 1, 2, 2] : List Int).all numB = true := by decide +kernel
theorem mask4 : maskI [3, 1, 2, 2] = 14 := by decide +kernel
theorem canon14o : canon 14 = [(1, 4)] := by decide +kernel
theorem eq14 : eqM 14 14 = true := by decide +kernel
theorem own_gr {w w' : World} {base : Nat} {e : TypeId} {size : Nat} {v : Value} {n : Nat} {xs : List Value} (h : w.ownsRow base e size v n xs) (g : Gr w w') : w'.ownsRow base e size v n xs := by
  refine h.kept (row := none) ⟨g.os, g.tape, g.output, g.size, fun k hk _ => Below.block g k hk⟩ ?_
  cases v.ownBlock with
  | none => exact .inl rfl
  | some k => exact .inr (by simp)
theorem flat1_len (l : List Int) : (flat1 l).length = l.length * 1 := by simp [flat1]
theorem flat1_one (l : List Int) : ∀ u ∈ flat1 l, u.oneCell' = true := by
  intro u hu
  simp only [flat1, List.mem_map] at hu
  obtain ⟨x, _, rfl⟩ := hu
  rfl
theorem own_cells1 {w : World} {base g n cap : Nat} {l : List Int} (h : w.ownsRow base 3 1 (.slice (some ⟨g, 0, none⟩) n cap) n (flat1 l)) (hn : n = l.length) : ∀ j u, (flat1 l)[j]? = some u → w.cell? ⟨g, 0 + j, none⟩ = some u := by
  intro j u hu
  have hj : j < l.length := by
    have := (List.getElem?_eq_some_iff.1 hu).1
    simpa [flat1] using this
  rw [Nat.zero_add, h.cellAt j (by omega)]
  exact hu
theorem src_two {w : World} {g1 g2 c1 c2 n1 n2 base1 base2 : Nat} {l1 l2 : List Int} (h1 : w.ownsRow base1 3 1 (.slice (some ⟨g1, 0, none⟩) n1 c1) n1 (flat1 l1)) (h2 : w.ownsRow base2 3 1 (.slice (some ⟨g2, 0, none⟩) n2 c2) n2 (flat1 l2)) (e1 : n1 = l1.length) (e2 : n2 = l2.length) (hg1 : g1 < w.heap.size) (hg2 : g2 < w.heap.size) (T : TypeId) :
    SrcAt (w.alloc (.cells #[.slice (some ⟨g1, 0, none⟩) n1 c1, .slice (some ⟨g2, 0, none⟩) n2 c2] T)) w.heap.size [(n1, flat1 l1), (n2, flat1 l2)] := by
  have g : Gr w (w.alloc (.cells #[.slice (some ⟨g1, 0, none⟩) n1 c1, .slice (some ⟨g2, 0, none⟩) n2 c2] T)) := (Gr.refl w).alloc _
  refine ⟨by simp, fun i p hp => ?_⟩
  match i with
  | 0 =>
    simp at hp
    subst hp
    refine .inr ⟨by rw [e1]; exact flat1_len l1, flat1_one l1, g1, 0, c1, by simp [go_sem], by simp; omega, fun j u hu => ?_⟩
    rw [g.cells.1 g1 _ hg1]
    exact own_cells1 h1 e1 j u hu
  | 1 =>
    simp at hp
    subst hp
    refine .inr ⟨by rw [e2]; exact flat1_len l2, flat1_one l2, g2, 0, c2, by simp [go_sem], by simp; omega, fun j u hu => ?_⟩
    rw [g.cells.1 g2 _ hg2]
    exact own_cells1 h2 e2 j u hu
  | i + 2 => simp at hp
theorem src_nil (w : World) (T : TypeId) : SrcAt (w.alloc (.cells #[.slice none 0 0, .slice none 0 0] T)) w.heap.size [(0, []), (0, [])] := by
  refine ⟨by simp, fun i p hp => ?_⟩
  match i with
  | 0 => simp at hp; subst hp; exact .inl ⟨rfl, rfl, by simp [go_sem]⟩
  | 1 => simp at hp; subst hp; exact .inl ⟨rfl, rfl, by simp [go_sem]⟩
  | i + 2 => simp at hp
theorem chk_ok {w : World} {v : Value} {a : Nat} (h : MS w v a) : Calls Try.prog 10 #[v] w fun e w' => e = .returned (.int .i64 0) ∧ Gr w w' := by
  have := scheck_any v _ w h.1
  rw [chkS_of (canon_VF a)] at this
  exact this
end Go.Proofs.Ytphcjjhfgpdhcab
