/- What FilterOwn's walk wants: worlds in which a range of blocks was written, rows with room as lists. -/
import Derived.Test.YtbodadddcbbjeaaOwnH
namespace Go.Proofs.Ytbodadddcbbjeaa
open Go.RowKit Rm
set_option linter.unusedVariables false
theorem _root_.Rm.Wst.le {lo hi lo' hi' : Nat} {w w' : World} (h : Wst lo hi w w') (a : lo' ≤ lo) (b : hi ≤ hi') : Wst lo' hi' w w' :=
  ⟨h.os, h.tape, h.output, h.size, fun k hk hn => h.block k hk (fun c => hn ⟨by omega, by omega⟩)⟩
theorem _root_.Rm.Wst.toGr {lo hi : Nat} {a w w' : World} (g : Gr a w) (h : Wst lo hi w w') (hl : a.heap.size ≤ lo) : Gr a w' :=
  Below.trans g ⟨h.os, h.tape, h.output, h.size, fun k hk => h.block k (Nat.lt_of_lt_of_le hk g.le) (by omega)⟩
theorem RowIn.grown {lo hi b : Nat} {w w' : World} {e E : TypeId} {s m : Nat} {v u : Value} {n : Nat} {xs ys : List Value} {t : Nat} (h : RowIn lo hi w e s v n xs) (hu : w.ownsRow b E t u m ys) (hg : w.grownBy w' u.ownBlock) (he : e ≠ E) : RowIn lo hi w' e s v n xs :=
  ⟨h.1.kept hg (rows_apart h.1 hu he), h.2⟩
theorem OwnBx.grown {lo hi b : Nat} {w w' : World} {E : TypeId} {m t : Nat} {v u : Value} {l : List BoxI} {ys : List Value} (h : OwnBx lo hi w v l) (hu : w.ownsRow b E t u m ys) (hg : w.grownBy w' u.ownBlock) (h1 : 72 ≠ E) (h2 : 53 ≠ E) : OwnBx lo hi w' v l := by
  obtain ⟨O, a, b, c⟩ := h
  exact ⟨O, a, b.grown hu hg h1, fun k p q k1 k2 => ⟨(c k p q k1 k2).1, (c k p q k1 k2).2.grown hu hg h2⟩⟩
theorem OwnBx.hi {lo hi hi' : Nat} {w : World} {v : Value} {l : List BoxI} (h : OwnBx lo hi w v l) (c : hi ≤ hi') : OwnBx lo hi' w v l := by
  obtain ⟨O, a, b, d⟩ := h
  exact ⟨O, a, ⟨b.1, fun g e => Nat.lt_of_lt_of_le (b.2 g e) c⟩, fun k p q k1 k2 => ⟨(d k p q k1 k2).1, (d k p q k1 k2).2.1, fun g e => Nat.lt_of_lt_of_le ((d k p q k1 k2).2.2 g e) c⟩⟩
theorem OwnBx.lo {lo lo' hi : Nat} {w : World} {v : Value} {l : List BoxI} (h : OwnBx lo hi w v l) (c : lo' ≤ lo) : OwnBx lo' hi w v l := by
  obtain ⟨O, a, b, d⟩ := h
  exact ⟨O, a, ⟨own_base b.1 c, b.2⟩, fun k p q k1 k2 => ⟨(d k p q k1 k2).1, own_base (d k p q k1 k2).2.1 c, (d k p q k1 k2).2.2⟩⟩
theorem OwnBx.form {lo hi : Nat} {w : World} {v : Value} {l : List BoxI} (h : OwnBx lo hi w v l) : ∃ a c, v = .slice a l.length c := by
  obtain ⟨O, _, b, _⟩ := h
  rcases b.1.2 with ⟨rfl, e⟩ | ⟨_, _, _, rfl, _⟩
  · rw [e]; exact ⟨_, _, rfl⟩
  · exact ⟨_, _, rfl⟩
/-- a block that holds a row with room behind it, as an owned row -/
theorem rm_own {w : World} {lo g n s : Nat} {e : TypeId} {xs ys : List Value} (hx : xs.length = n * s) (hy : ys.length = s) (hlo : lo ≤ g) (hn : n ≤ 2 ^ 47) (hg : w.heap[g]? = some (.cells (rmL xs ys).toArray e (0, 0))) : w.ownsRow lo e s (.slice (some ⟨g, 0, none⟩) n (n + 3)) n xs := by
  have hz := rmL_len (n := n) (s := s) hx hy
  refine ⟨hx, .inr ⟨g, _, _, rfl, hlo, hg, by omega, by simp only [maxLen]; omega, by simpa using hz, ?_⟩⟩
  show List.take _ (rmL _ _) = _
  unfold rmL
  rw [← hx, List.take_left]
theorem rd1_own {w : World} {base : Nat} {e : TypeId} {v : Value} {l : List Int} (h : w.ownsRow base e 1 v l.length (l.map (Value.int .i64))) : Rd1 w v l := by
  rcases h.2 with ⟨rfl, h0⟩ | ⟨g, cap, cur, rfl, _, hg, hnc, _, _, ht⟩
  · rw [List.eq_nil_of_length_eq_zero h0]; exact ⟨none, 0, rfl, Nat.le_refl _, fun h => absurd rfl h⟩
  · refine ⟨_, _, rfl, hnc, fun _ => ⟨g, 0, rfl, Blk_lt hg, fun i x hx => ?_⟩⟩
    rw [cell_of_row _ _ _ _ _ _ hg, Nat.zero_add]
    have hj : (l.map (Value.int .i64))[i]? = some (.int .i64 x) := by rw [List.getElem?_map, hx]; rfl
    rw [← ht, List.getElem?_take] at hj
    split at hj
    · rw [← Array.getElem?_toList]; exact hj
    · cases hj
end Go.Proofs.Ytbodadddcbbjeaa
