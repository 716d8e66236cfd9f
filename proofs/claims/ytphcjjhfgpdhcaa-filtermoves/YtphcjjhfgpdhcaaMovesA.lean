/- The cells of a filter's boxes, whole and in part, handed to Concat. -/
import Derived.Test.YtphcjjhfgpdhcaaFilR
import Derived.Test.YtphcjjhfgpdhcaaConcatB
import Derived.Test.YtphcjjhfgpdhcaaKeep
import Derived.Deep.Slices
namespace Rm
open Go Go.RowKit
theorem flatO_len (l : List (Bx × Value)) : (flatO l).length = l.length * 3 := by
  induction l with
  | nil => rfl
  | cons p l ih => rw [flatO_cons]; simp [ih]; omega
theorem flatO_take (l : List (Bx × Value)) (t : Nat) : (flatO l).take (t * 3) = flatO (l.take t) := by
  induction l generalizing t with
  | nil => simp [flatO]
  | cons p l ih =>
    cases t with
    | zero => simp [flatO]
    | succ t =>
      have e : (t + 1) * 3 = t * 3 + 1 + 1 + 1 := by omega
      have e2 : (p :: l).take (t + 1) = p :: l.take t := rfl
      rw [e, e2, flatO_cons, flatO_cons]
      simp [ih t]
theorem flatO_drop (l : List (Bx × Value)) (t : Nat) : (flatO l).drop (t * 3) = flatO (l.drop t) := by
  induction l generalizing t with
  | nil => simp [flatO]
  | cons p l ih =>
    cases t with
    | zero => simp
    | succ t =>
      have e : (t + 1) * 3 = t * 3 + 1 + 1 + 1 := by omega
      rw [e, flatO_cons]
      simp [ih t]
end Rm
namespace Go.Proofs.Ytphcjjhfgpdhcaa
open Go.RowKit Rm
set_option linter.unusedVariables false
attribute [local go_sem ↓] Go.wp_at_zero Go.wp_at_succ

/-- the cells of a filter, with the slices of its numbers -/
def CellsAt (w : World) (b off : Nat) (O : List (Bx × Value)) : Prop :=
  b < w.heap.size ∧ (∀ j u, (flatO O)[j]? = some u → w.cell? ⟨b, off + j, none⟩ = some u) ∧ ∀ p ∈ O, Rd2 w p.2 (pairs (canon p.1.2))
theorem CellsAt.gr {w w' : World} {b off : Nat} {O : List (Bx × Value)} (h : CellsAt w b off O) (g : Gr w w') : CellsAt w' b off O :=
  ⟨Nat.lt_of_lt_of_le h.1 g.le, fun j u hu => (g.cells.1 b _ h.1).trans (h.2.1 j u hu), fun p hp => (h.2.2 p hp).gr g⟩
theorem CellsAt.take {w : World} {b off : Nat} {O : List (Bx × Value)} (h : CellsAt w b off O) (t : Nat) : CellsAt w b off (O.take t) :=
  ⟨h.1, fun j u hu => h.2.1 j u (by
    rw [← flatO_take] at hu
    rcases Nat.lt_or_ge j (t * 3) with c | c
    · rwa [List.getElem?_take_of_lt c] at hu
    · rw [List.getElem?_eq_none (by simp; omega)] at hu; cases hu), fun p hp => h.2.2 p (List.mem_of_mem_take hp)⟩
theorem CellsAt.drop {w : World} {b off : Nat} {O : List (Bx × Value)} (h : CellsAt w b off O) (t : Nat) : CellsAt w b (off + t * 3) (O.drop t) :=
  ⟨h.1, fun j u hu => by
    rw [← flatO_drop, List.getElem?_drop] at hu
    have := h.2.1 _ u hu
    rwa [← Nat.add_assoc] at this, fun p hp => h.2.2 p (List.mem_of_mem_drop hp)⟩
theorem flatO_one {w : World} {b off : Nat} {O : List (Bx × Value)} (h : CellsAt w b off O) : ∀ u ∈ flatO O, u.oneCell' = true := by
  intro u hu
  simp only [flatO, List.mem_flatMap] at hu
  obtain ⟨p, hp, hq⟩ := hu
  obtain ⟨a, c, e, _⟩ := h.2.2 p hp
  simp at hq
  rcases hq with rfl | rfl | rfl
  · rfl
  · rfl
  · rw [e]; rfl
theorem rdF_cells {w : World} {b off cp : Nat} {F : List Bx} (h : RdF w (.slice (some ⟨b, off, none⟩) F.length cp) (F.map boxI)) (hne : F ≠ []) : ∃ O, O.map (·.1) = F ∧ CellsAt w b off O := by
  obtain ⟨a, c, e, hc, hx⟩ := h
  obtain ⟨b', off', rfl, hb, hcell⟩ := hx (by simpa using hne)
  simp at e
  obtain ⟨⟨rfl, rfl⟩, rfl⟩ := e
  have hi : ∀ i, i < F.length → ∃ sv, w.cell? ⟨b, off + i * 3, none⟩ = some (.int .i64 ((F.getD i ((0, 0), 0)).1.1 : Nat)) ∧ w.cell? ⟨b, off + i * 3 + 1, none⟩ = some (.int .i64 ((F.getD i ((0, 0), 0)).1.2 : Nat)) ∧ w.cell? ⟨b, off + i * 3 + 2, none⟩ = some sv ∧ Rd2 w sv (pairs (canon (F.getD i ((0, 0), 0)).2)) := by
    intro i hi
    have hg : F.getD i ((0, 0), 0) = F[i] := by simp [List.getD, hi]
    rw [hg]
    exact hcell i (boxI F[i]) (by simp [hi])
  obtain ⟨q, hq⟩ := Go.Deep.choose_lt (α := Value) hi
  refine ⟨(List.range F.length).map fun i => (F.getD i ((0, 0), 0), q i), ?_, hb, ?_, ?_⟩
  · apply List.ext_getElem?
    intro i
    by_cases h : i < F.length
    · simp [h, List.getD]
    · simp [h]
  · intro j u hu
    have hj : j < F.length * 3 := by
      have := (List.getElem?_eq_some_iff.1 hu).1
      rw [flatO_len] at this
      simpa using this
    have hi3 : j / 3 < F.length := by omega
    obtain ⟨h1, h2, h3, _⟩ := hq (j / 3) hi3
    have hf := flatO_at ((List.range F.length).map fun i => (F.getD i ((0, 0), 0), q i)) (j / 3) (F.getD (j / 3) ((0, 0), 0), q (j / 3)) (by simp [hi3])
    have hm : j = j / 3 * 3 ∨ j = j / 3 * 3 + 1 ∨ j = j / 3 * 3 + 2 := by omega
    rcases hm with hm | hm | hm
    · rw [hm] at hu ⊢
      rw [hf.1] at hu
      rw [← Option.some.inj hu]
      exact h1
    · rw [hm] at hu ⊢
      rw [hf.2.1] at hu
      rw [← Option.some.inj hu, ← Nat.add_assoc]
      exact h2
    · rw [hm] at hu ⊢
      rw [hf.2.2] at hu
      rw [← Option.some.inj hu, ← Nat.add_assoc]
      exact h3
  · intro p hp
    simp only [List.mem_map, List.mem_range] at hp
    obtain ⟨i, hi2, rfl⟩ := hp
    exact (hq i hi2).2.2.2
theorem own_rdF {w : World} {base : Nat} {u : Value} {O : List (Bx × Value)} (ho : w.ownsRow base 56 3 u O.length (flatO O)) (hs : ∀ p ∈ O, Rd2 w p.2 (pairs (canon p.1.2))) : RdF w u ((O.map (·.1)).map boxI) := by
  obtain ⟨hl, h⟩ := ho
  rcases h with ⟨rfl, h0⟩ | ⟨g, cap, cur, rfl, _, hg, hn, _, hz, ht⟩
  · have : O = [] := List.eq_nil_of_length_eq_zero h0
    subst this
    exact RdF.nil _
  · refine ⟨some ⟨g, 0, none⟩, cap, by simp, by simpa using hn, fun hne => ⟨g, 0, rfl, Blk_lt hg, fun i p hp => ?_⟩⟩
    simp only [List.map_map, List.getElem?_map, Option.map_eq_some_iff] at hp
    obtain ⟨q, hq, rfl⟩ := hp
    have hi : i < O.length := (List.getElem?_eq_some_iff.1 hq).1
    have hf := flatO_at O i q hq
    rw [← ht] at hf
    have key : ∀ j, j < O.length * 3 → w.cell? ⟨g, 0 + j, none⟩ = (cur.toList.take (O.length * 3))[j]? := by
      intro j hj
      rw [List.getElem?_take_of_lt hj]
      simp [World.cell?, hg]
    have k2 := key (i * 3 + 1) (by omega)
    have k3 := key (i * 3 + 2) (by omega)
    rw [← Nat.add_assoc] at k2 k3
    exact ⟨q.2, (key (i * 3) (by omega)).trans hf.1, k2.trans hf.2.1, k3.trans hf.2.2, hs q (List.mem_of_getElem? hq)⟩
/-- one slice of a filter's boxes, handed to Concat -/
theorem src_one {w : World} {b off : Nat} {O : List (Bx × Value)} (h : CellsAt w b off O) : (flatO O).length = O.length * 3 ∧ (∀ u ∈ flatO O, u.oneCell' = true) ∧ b < w.heap.size ∧ ∀ j u, (flatO O)[j]? = some u → w.cell? ⟨b, off + j, none⟩ = some u :=
  ⟨flatO_len O, flatO_one h, h.1, h.2.1⟩
theorem src3 {w : World} {b o1 o2 o3 c1 c2 c3 n1 n2 n3 : Nat} {O1 O2 O3 : List (Bx × Value)} (h1 : CellsAt w b o1 O1) (h2 : CellsAt w b o2 O2) (h3 : CellsAt w b o3 O3) (e1 : O1.length = n1) (e2 : O2.length = n2) (e3 : O3.length = n3) (T : TypeId) (B : Nat) (hB : w.heap.size = B) :
    SrcAt (w.alloc (.cells #[.slice (some ⟨b, o1, none⟩) n1 c1, .slice (some ⟨b, o2, none⟩) n2 c2, .slice (some ⟨b, o3, none⟩) n3 c3] T)) B [(n1, flatO O1), (n2, flatO O2), (n3, flatO O3)] := by
  subst e1 e2 e3 hB
  have g : Gr w (w.alloc (.cells #[.slice (some ⟨b, o1, none⟩) O1.length c1, .slice (some ⟨b, o2, none⟩) O2.length c2, .slice (some ⟨b, o3, none⟩) O3.length c3] T)) := (Gr.refl w).alloc _
  refine ⟨by simp, fun i p hp => ?_⟩
  match i with
  | 0 =>
    simp at hp
    subst hp
    obtain ⟨a1, a2, a3, a4⟩ := src_one (h1.gr g)
    exact ⟨a1, a2, b, o1, c1, by simp [go_sem], a3, a4⟩
  | 1 =>
    simp at hp
    subst hp
    obtain ⟨a1, a2, a3, a4⟩ := src_one (h2.gr g)
    exact ⟨a1, a2, b, o2, c2, by simp [go_sem], a3, a4⟩
  | 2 =>
    simp at hp
    subst hp
    obtain ⟨a1, a2, a3, a4⟩ := src_one (h3.gr g)
    exact ⟨a1, a2, b, o3, c3, by simp [go_sem], a3, a4⟩
  | i + 3 => simp at hp
theorem src2 {w : World} {b o1 o2 c1 c2 n1 n2 : Nat} {O1 O2 : List (Bx × Value)} (h1 : CellsAt w b o1 O1) (h2 : CellsAt w b o2 O2) (e1 : O1.length = n1) (e2 : O2.length = n2) (T : TypeId) (B : Nat) (hB : w.heap.size = B) :
    SrcAt (w.alloc (.cells #[.slice (some ⟨b, o1, none⟩) n1 c1, .slice (some ⟨b, o2, none⟩) n2 c2] T)) B [(n1, flatO O1), (n2, flatO O2)] := by
  subst e1 e2 hB
  have g : Gr w (w.alloc (.cells #[.slice (some ⟨b, o1, none⟩) O1.length c1, .slice (some ⟨b, o2, none⟩) O2.length c2] T)) := (Gr.refl w).alloc _
  refine ⟨by simp, fun i p hp => ?_⟩
  match i with
  | 0 =>
    simp at hp
    subst hp
    obtain ⟨a1, a2, a3, a4⟩ := src_one (h1.gr g)
    exact ⟨a1, a2, b, o1, c1, by simp [go_sem], a3, a4⟩
  | 1 =>
    simp at hp
    subst hp
    obtain ⟨a1, a2, a3, a4⟩ := src_one (h2.gr g)
    exact ⟨a1, a2, b, o2, c2, by simp [go_sem], a3, a4⟩
  | i + 2 => simp at hp
end Go.Proofs.Ytphcjjhfgpdhcaa
