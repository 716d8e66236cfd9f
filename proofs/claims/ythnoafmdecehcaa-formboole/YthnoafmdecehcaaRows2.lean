/- Slices of structs of two integers, read as lists. -/
import Derived.Test.YthnoafmdecehcaaPure
import Derived.Laws.AppendOwn
import Derived.Laws.OwnMore
import Derived.OwnWalk
namespace Rm
open Go Go.RowKit

/-- the cells of a list of pairs -/
def flat (l : List (Int × Int)) : List Value := l.flatMap fun p => [.int .i64 p.1, .int .i64 p.2]
theorem flat_nil : flat [] = [] := rfl
theorem flat_cons (p : Int × Int) (l : List (Int × Int)) : flat (p :: l) = .int .i64 p.1 :: .int .i64 p.2 :: flat l := rfl
theorem flat_app (l r : List (Int × Int)) : flat (l ++ r) = flat l ++ flat r := by simp [flat]
theorem flat_len (l : List (Int × Int)) : (flat l).length = l.length * 2 := by
  induction l with
  | nil => rfl
  | cons p l ih => rw [flat_cons]; simp [ih]; omega
theorem flat_at (l : List (Int × Int)) (i : Nat) (p : Int × Int) (h : l[i]? = some p) : (flat l)[i * 2]? = some (.int .i64 p.1) ∧ (flat l)[i * 2 + 1]? = some (.int .i64 p.2) := by
  induction l generalizing i with
  | nil => simp at h
  | cons q l ih =>
    rw [flat_cons]
    cases i with
    | zero => simp at h; subst h; simp
    | succ i =>
      have e : (i + 1) * 2 = i * 2 + 1 + 1 := by omega
      rw [e]
      simpa using ih i (by simpa using h)
theorem flat_one (l : List (Int × Int)) : ∀ u ∈ flat l, u.oneCell' = true := by
  intro u hu
  simp only [flat, List.mem_flatMap] at hu
  obtain ⟨p, _, hp⟩ := hu
  simp at hp
  rcases hp with rfl | rfl <;> rfl

/-- a list of small numbers, as integers -/
def pairs (l : List (Nat × Nat)) : List (Int × Int) := l.map fun p => ((p.1 : Int), (p.2 : Int))
theorem pairs_app (l : List (Nat × Nat)) (a b : Nat) : pairs (l ++ [(a, b)]) = pairs l ++ [((a : Int), (b : Int))] := by simp [pairs]
theorem pairs_at {l : List (Nat × Nat)} {i : Nat} {c : Nat × Nat} (h : l[i]? = some c) : (pairs l)[i]? = some ((c.1 : Int), (c.2 : Int)) := by simp [pairs, h]
theorem pairs_len (l : List (Nat × Nat)) : (pairs l).length = l.length := by simp [pairs]
theorem pairs_inj {l l' : List (Nat × Nat)} (h : pairs l = pairs l') : l = l' := by
  induction l generalizing l' with
  | nil => cases l' with
    | nil => rfl
    | cons p r => simp [pairs] at h
  | cons p l ih => cases l' with
    | nil => simp [pairs] at h
    | cons q r =>
      obtain ⟨a, b⟩ := p
      obtain ⟨c, d⟩ := q
      simp only [pairs, List.map_cons, List.cons.injEq, Prod.mk.injEq] at h
      obtain ⟨⟨h1, h2⟩, h3⟩ := h
      rw [ih h3]
      congr
      · omega
      · omega

/-- a slice that reads as a list of pairs -/
def Rd2 (w : World) (v : Value) (l : List (Int × Int)) : Prop :=
  ∃ a c, v = .slice a l.length c ∧ l.length ≤ c ∧ (l ≠ [] → ∃ b off, a = some ⟨b, off, none⟩ ∧ b < w.heap.size ∧
    ∀ i p, l[i]? = some p → w.cell? ⟨b, off + i * 2, none⟩ = some (.int .i64 p.1) ∧ w.cell? ⟨b, off + i * 2 + 1, none⟩ = some (.int .i64 p.2))
theorem Rd2.gr {w w' : World} {v : Value} {l : List (Int × Int)} (h : Rd2 w v l) (g : Gr w w') : Rd2 w' v l := by
  obtain ⟨a, c, e, hc, h⟩ := h
  refine ⟨a, c, e, hc, fun hl => ?_⟩
  obtain ⟨b, off, ea, hb, hx⟩ := h hl
  exact ⟨b, off, ea, Nat.lt_of_lt_of_le hb g.le, fun i p hp => ⟨(g.cells.1 b _ hb).trans (hx i p hp).1, (g.cells.1 b _ hb).trans (hx i p hp).2⟩⟩
theorem Rd2.alloc {w : World} {v : Value} {l : List (Int × Int)} (h : Rd2 w v l) (o : Obj) : Rd2 (w.alloc o) v l := h.gr ((Gr.refl w).alloc o)
theorem Rd2.nil (w : World) : Rd2 w (.slice none 0 0) [] := ⟨none, 0, rfl, Nat.le_refl _, fun h => absurd rfl h⟩
theorem Rd2.own {w : World} {base : Nat} {e : TypeId} {v : Value} {l : List (Int × Int)} (h : w.ownsRow base e 2 v l.length (flat l)) : Rd2 w v l := by
  obtain ⟨hl, h⟩ := h
  rcases h with ⟨rfl, h0⟩ | ⟨g, cap, cur, rfl, _, hg, hn, _, hs, ht⟩
  · have : l = [] := List.eq_nil_of_length_eq_zero h0
    subst this
    exact Rd2.nil w
  · refine ⟨_, _, rfl, hn, fun hne => ?_⟩
    have hlt : g < w.heap.size := by
      rcases Nat.lt_or_ge g w.heap.size with h | h
      · exact h
      · rw [Array.getElem?_eq_none h] at hg; cases hg
    refine ⟨g, 0, rfl, hlt, fun i p hp => ?_⟩
    have hi : i < l.length := (List.getElem?_eq_some_iff.1 hp).1
    have hf := flat_at l i p hp
    rw [← ht] at hf
    have key : ∀ j, j < l.length * 2 → w.cell? ⟨g, 0 + j, none⟩ = (cur.toList.take (l.length * 2))[j]? := by
      intro j hj
      rw [List.getElem?_take_of_lt hj]
      simp [World.cell?, hg]
    have k2 := key (i * 2 + 1) (by omega)
    rw [← Nat.add_assoc] at k2
    exact ⟨(key (i * 2) (by omega)).trans hf.1, k2.trans hf.2⟩
theorem new2 (w : World) (a b : Int) (t : TypeId) : ∀ j u, ([.int .i64 a, .int .i64 b] : List Value)[j]? = some u → (w.alloc (.cells #[.int .i64 a, .int .i64 b] t)).cell? ((⟨w.heap.size, 0, none⟩ : Addr).add j) = some u := by
  intro j u hu
  match j with
  | 0 => simp at hu; subst hu; simp [go_sem, Addr.add]
  | 1 => simp at hu; subst hu; simp [go_sem, Addr.add]
  | j + 2 => simp at hu
theorem one2 (a b : Int) : ∀ u ∈ ([.int .i64 a, .int .i64 b] : List Value), u.oneCell' = true := by
  intro u hu
  simp at hu
  rcases hu with rfl | rfl <;> rfl
theorem Gr.grown {a w w' : World} {row : Option Nat} (h : Gr a w) (hg : w.grownBy w' row) (hr : ∀ k, row = some k → a.heap.size ≤ k) : Gr a w' := Below.grown h hg h.le hr
theorem Two.grown {w w' : World} {b : Nat} {y n : Int} {row : Option Nat} (h : Two w b y n) (hg : w.grownBy w' row) (hr : ∀ k, row = some k → b < k) : Two w' b y n := by
  have hb : w'.heap[b]? = w.heap[b]? := hg.block b h.1 (fun e => by have := hr b e.symm; omega)
  exact ⟨Nat.lt_of_lt_of_le h.1 hg.size, (World.cell?_of_block (a := ⟨b, 0, none⟩) hb).trans h.2.1, (World.cell?_of_block (a := ⟨b, 1, none⟩) hb).trans h.2.2⟩
theorem frozen_grown {w w' : World} {b o : Nat} {row : Option Nat} (hlt : b < w.heap.size) (h : w.frozen? ⟨b, o, none⟩ = false) (hg : w.grownBy w' row) (hr : ∀ k, row = some k → b < k) : w'.frozen? ⟨b, o, none⟩ = false := by
  have hb : w'.heap[b]? = w.heap[b]? := hg.block b hlt (fun e => by have := hr b e.symm; omega)
  exact (World.frozen?_of_block (a := ⟨b, o, none⟩) hb).trans h
theorem Two.set0 {w : World} {b : Nat} {y n : Int} (h : Two w b y n) (y' : Int) : Two (w.setCell ⟨b, 0, none⟩ (.int .i64 y')) b y' n := by
  obtain ⟨h1, h2, h3⟩ := h
  refine ⟨by simpa using h1, ?_, ?_⟩ <;> simp [go_sem, h2, h3]
theorem Two.set1 {w : World} {b : Nat} {y n : Int} (h : Two w b y n) (n' : Int) : Two (w.setCell ⟨b, 1, none⟩ (.int .i64 n')) b y n' := by
  obtain ⟨h1, h2, h3⟩ := h
  refine ⟨by simpa using h1, ?_, ?_⟩ <;> simp [go_sem, h2, h3]
theorem Two.far {w : World} {b : Nat} {y n : Int} (h : Two w b y n) {p : Addr} (hp : b ≠ p.block) (u : Value) : Two (w.setCell p u) b y n := by
  obtain ⟨h1, h2, h3⟩ := h
  refine ⟨by simpa using h1, ?_, ?_⟩
  · rw [World.cell?_setCell_other _ _ _ _ (fun e => hp (by rw [e]))]; exact h2
  · rw [World.cell?_setCell_other _ _ _ _ (fun e => hp (by rw [e]))]; exact h3

end Rm
