/- A filter that owns what it holds, in blocks of [lo, hi): what follows, what it outlives, and that what the packages answer is one. -/
import Derived.Test.YtbodadddcbbjeaaOwnF
import Derived.Test.YtbodadddcbbjeaaFormH
namespace Go.Proofs.Ytbodadddcbbjeaa
open Go.RowKit Rm
set_option linter.unusedVariables false
/-- a row in blocks of [lo, hi) -/
def RowIn (lo hi : Nat) (w : World) (e : TypeId) (s : Nat) (v : Value) (n : Nat) (xs : List Value) : Prop := w.ownsRow lo e s v n xs ∧ ∀ g, v.ownBlock = some g → g < hi
theorem RowIn.wst {lo hi lo' hi' : Nat} {w w' : World} {e : TypeId} {s : Nat} {v : Value} {n : Nat} {xs : List Value} (h : RowIn lo hi w e s v n xs) (g : Wst lo' hi' w w') (d : hi ≤ lo' ∨ hi' ≤ lo) : RowIn lo hi w' e s v n xs := by
  refine ⟨⟨h.1.1, ?_⟩, h.2⟩
  rcases h.1.2 with a | ⟨q, cap, cur, rfl, hb, hg, rest⟩
  · exact .inl a
  · have hq := h.2 q rfl
    exact .inr ⟨q, cap, cur, rfl, hb, (g.block q (Blk_lt hg) (by omega)).trans hg, rest⟩
theorem RowIn.gr {lo hi : Nat} {w w' : World} {e : TypeId} {s : Nat} {v : Value} {n : Nat} {xs : List Value} (h : RowIn lo hi w e s v n xs) (g : Gr w w') : RowIn lo hi w' e s v n xs := ⟨own_gr h.1 g, h.2⟩
theorem RowIn.of {lo : Nat} {w : World} {e : TypeId} {s : Nat} {v : Value} {n : Nat} {xs : List Value} (h : w.ownsRow lo e s v n xs) : RowIn lo w.heap.size w e s v n xs := by
  refine ⟨h, fun g e => ?_⟩
  rcases h.2 with ⟨rfl, _⟩ | ⟨q, cap, cur, rfl, hb, hg, rest⟩
  · cases e
  · cases e; exact Blk_lt hg
theorem RowIn.rdc {lo hi : Nat} {w : World} {e : TypeId} {s : Nat} {v : Value} {n : Nat} {xs : List Value} (h : RowIn lo hi w e s v n xs) (ho : ∀ u ∈ xs, u.oneCell' = true) : RdC s w v n xs := by
  refine ⟨h.1.1, ho, ?_⟩
  rcases h.1.2 with a | ⟨q, cap, cur, rfl, hb, hg, hnc, hcm, hcs, ht⟩
  · exact .inl a
  · refine .inr ⟨_, _, rfl, hnc, fun _ => Blk_lt hg, fun j u hj => ?_⟩
    have ea : (⟨q, 0, none⟩ : Addr).add j = ⟨q, j, none⟩ := by unfold Addr.add; by_cases h : j = 0 <;> simp [h]
    rw [ea, cell_of_row _ _ _ _ _ _ hg]
    rw [← ht, List.getElem?_take] at hj
    split at hj
    · rw [← Array.getElem?_toList]; exact hj
    · cases hj
/-- a filter in blocks of [lo, hi) -/
def OwnBx (lo hi : Nat) (w : World) (v : Value) (l : List BoxI) : Prop := ∃ O : List ((Int × Int) × Value), O.length = l.length ∧ RowIn lo hi w 72 3 v l.length (flatX O) ∧
  ∀ (k : Nat) (p : BoxI) (q : (Int × Int) × Value), l[k]? = some p → O[k]? = some q → q.1 = p.1 ∧ RowIn lo hi w 53 2 q.2 p.2.length (flat p.2)
theorem OwnBx.wst {lo hi lo' hi' : Nat} {w w' : World} {v : Value} {l : List BoxI} (h : OwnBx lo hi w v l) (g : Wst lo' hi' w w') (d : hi ≤ lo' ∨ hi' ≤ lo) : OwnBx lo hi w' v l := by
  obtain ⟨O, a, b, c⟩ := h
  exact ⟨O, a, b.wst g d, fun k p q h1 h2 => ⟨(c k p q h1 h2).1, (c k p q h1 h2).2.wst g d⟩⟩
theorem OwnBx.gr {lo hi : Nat} {w w' : World} {v : Value} {l : List BoxI} (h : OwnBx lo hi w v l) (g : Gr w w') : OwnBx lo hi w' v l := by
  obtain ⟨O, a, b, c⟩ := h
  exact ⟨O, a, b.gr g, fun k p q h1 h2 => ⟨(c k p q h1 h2).1, (c k p q h1 h2).2.gr g⟩⟩
theorem flat_one2 (l : List (Int × Int)) : ∀ u ∈ flat l, u.oneCell' = true := by
  intro u hu
  simp only [flat, List.mem_flatMap] at hu
  obtain ⟨p, _, hp⟩ := hu
  simp at hp
  rcases hp with rfl | rfl <;> rfl
theorem OwnBx.one {lo hi : Nat} {w : World} {l : List BoxI} {O : List ((Int × Int) × Value)} (a : O.length = l.length) (c : ∀ (k : Nat) (p : BoxI) (q : (Int × Int) × Value), l[k]? = some p → O[k]? = some q → q.1 = p.1 ∧ RowIn lo hi w 53 2 q.2 p.2.length (flat p.2)) : ∀ u ∈ flatX O, u.oneCell' = true := by
  intro u hu
  simp only [flatX, List.mem_flatMap] at hu
  obtain ⟨q, hq, hu⟩ := hu
  simp at hu
  rcases hu with rfl | rfl | rfl
  · rfl
  · rfl
  · obtain ⟨k, hk⟩ := List.getElem?_of_mem hq
    obtain ⟨p, hp⟩ : ∃ p, l[k]? = some p := ⟨_, List.getElem?_eq_getElem (by have := (List.getElem?_eq_some_iff.1 hk).1; omega)⟩
    rcases (c k p q hp hk).2.1.2 with ⟨e, _⟩ | ⟨_, _, _, e, _⟩ <;> rw [e] <;> rfl
theorem OwnBx.rdx {lo hi : Nat} {w : World} {v : Value} {l : List BoxI} (h : OwnBx lo hi w v l) : RdX w v l := by
  obtain ⟨O, a, b, c⟩ := h
  exact ⟨O, a, b.rdc (OwnBx.one a c), fun k p q h1 h2 => ⟨(c k p q h1 h2).1, (c k p q h1 h2).2.rdc (flat_one2 _)⟩⟩
theorem OwnBx.wf {lo hi : Nat} {w : World} {v : Value} {l : List BoxI} (h : OwnBx lo hi w v l) : ∃ xs, Wf lo hi w v l.length xs := by
  obtain ⟨O, a, b, c⟩ := h
  refine ⟨flatX O, b.1, b.2, fun k hk => ?_⟩
  obtain ⟨p, hp⟩ : ∃ p, l[k]? = some p := ⟨_, List.getElem?_eq_getElem hk⟩
  obtain ⟨q, hq⟩ : ∃ q, O[k]? = some q := ⟨_, List.getElem?_eq_getElem (by omega)⟩
  obtain ⟨x0, x1, x2⟩ := flatX_at O k q hq
  exact ⟨_, _, q.2, _, x0, x1, x2, ⟨_, (c k p q hp hq).2.1⟩, (c k p q hp hq).2.2⟩
theorem OwnBx.rd {lo hi : Nat} {w : World} {v : Value} {l : List BoxI} (h : OwnBx lo hi w v l) : RdF w v l := by
  obtain ⟨O, a, b, c⟩ := h
  rcases b.1.2 with ⟨rfl, e⟩ | ⟨g, cap, cur, rfl, hb, hg, hnc, hcm, hcs, ht⟩
  · rw [List.eq_nil_of_length_eq_zero e]; exact RdF.nil w
  · refine ⟨_, _, rfl, hnc, fun _ => ⟨g, 0, rfl, Blk_lt hg, fun i p hp => ?_⟩⟩
    obtain ⟨q, hq⟩ : ∃ q, O[i]? = some q := ⟨_, List.getElem?_eq_getElem (by have := (List.getElem?_eq_some_iff.1 hp).1; omega)⟩
    have at_ : ∀ j u, (flatX O)[j]? = some u → w.cell? ⟨g, j, none⟩ = some u := fun j u hj => by
      rw [cell_of_row _ _ _ _ _ _ hg]
      rw [← ht, List.getElem?_take] at hj
      split at hj
      · rw [← Array.getElem?_toList]; exact hj
      · cases hj
    obtain ⟨x0, x1, x2⟩ := flatX_at O i q hq
    obtain ⟨e, hr⟩ := c i p q hp hq
    refine ⟨q.2, ?_, ?_, ?_, Rd2.own hr.1⟩
    · rw [Nat.zero_add, at_ _ _ x0, e]
    · rw [Nat.zero_add, at_ _ _ x1, e]
    · rw [Nat.zero_add, at_ _ _ x2]
theorem RmF.own {lo : Nat} {w : World} {v : Value} {l : List BoxI} (h : RmF lo w v l) (hl : l.length ≤ 2 ^ 47) (hb : ∀ p ∈ l, p.2.length ≤ 2 ^ 47) : OwnBx lo w.heap.size w v l := by
  obtain ⟨g, O, rfl, hlo, hO, hg, hall⟩ := h
  have hx := flatX_len O
  rw [hO] at hx
  have hz := rmL_len (xs := flatX O) (ys := [.int .i64 77, .int .i64 0, .slice none 0 0]) hx rfl
  refine ⟨O, hO, RowIn.of ⟨hx, .inr ⟨g, _, _, rfl, hlo, hg, by omega, by simp only [maxLen]; omega, by simpa using hz, ?_⟩⟩, fun k p q h1 h2 => ⟨(hall k p q h1 h2).1, RowIn.of ((hall k p q h1 h2).2.own (hb p (List.mem_of_getElem? h1)))⟩⟩
  show List.take _ (rmL _ _) = _
  unfold rmL
  rw [← hx, List.take_left]
/-- what a package answers -/
def FRes (lo hi : Nat) (w : World) (v : Value) : Prop := ∃ l : List BoxI, l.length ≤ 40 ∧ (∀ p ∈ l, p.2.length ≤ 16) ∧ OwnBx lo hi w v l
theorem FRes.nil (lo hi : Nat) (w : World) : FRes lo hi w (.slice none 0 0) := ⟨[], by simp, by simp, [], rfl, ⟨⟨rfl, .inl ⟨rfl, rfl⟩⟩, fun g e => by cases e⟩, fun k p q h1 => by simp at h1⟩
theorem FO.res {base n : Nat} {w : World} {v : Value} {T : Nat → Nat} (h : FO base n w v T) (hn : n ≤ 40) : FRes base w.heap.size w v := by
  obtain ⟨O, h1, h2, h3, h4, h5⟩ := h
  have e : flatO O = flatX (O.map fun q => ((((q.1.1.1 : Nat) : Int), ((q.1.1.2 : Nat) : Int)), q.2)) := by
    unfold flatO flatX
    rw [List.flatMap_map]
  refine ⟨O.map fun q => boxI q.1, by simp; omega, fun p hp => ?_, O.map fun q => ((((q.1.1.1 : Nat) : Int), ((q.1.1.2 : Nat) : Int)), q.2), by simp, ?_, fun k p q a b => ?_⟩
  · obtain ⟨q, _, rfl⟩ := List.mem_map.1 hp
    show (pairs (canon q.1.2)).length ≤ 16
    unfold pairs
    rw [List.length_map]
    exact canon_len16 _
  · rw [← e, List.length_map]
    exact RowIn.of h1
  · rw [List.getElem?_map] at a b
    cases hk : O[k]? with
    | none => rw [hk] at a; simp at a
    | some r =>
      rw [hk] at a b
      simp only [Option.map_some, Option.some.injEq] at a b
      subst a b
      exact ⟨rfl, RowIn.of (h2 r (List.mem_of_getElem? hk))⟩
end Go.Proofs.Ytbodadddcbbjeaa
