/- The six answers of FilterOwn, each in its own range of blocks; a world in which the first k ranges were written. -/
import Derived.Test.YtbodadddcbbjeaaOwnI
namespace Go.Proofs.Ytbodadddcbbjeaa
open Go.RowKit Rm
set_option linter.unusedVariables false
/-- the first k ranges were written -/
structure Wk (LO HI : Nat → Nat) (k : Nat) (w w' : World) : Prop where
  os : w'.os = w.os
  tape : w'.tape = w.tape
  output : w'.output = w.output
  size : w.heap.size ≤ w'.heap.size
  block : ∀ b, b < w.heap.size → (∀ i, i < k → ¬ (LO i ≤ b ∧ b < HI i)) → w'.heap[b]? = w.heap[b]?
theorem Wk.zero (LO HI : Nat → Nat) (w : World) : Wk LO HI 0 w w := ⟨rfl, rfl, rfl, Nat.le_refl _, fun _ _ _ => rfl⟩
theorem Wk.gr {LO HI : Nat → Nat} {k : Nat} {w w' w'' : World} (h : Wk LO HI k w w') (g : Gr w' w'') : Wk LO HI k w w'' :=
  ⟨g.os.trans h.os, g.tape.trans h.tape, g.output.trans h.output, Nat.le_trans h.size g.size, fun b hb hn => (Below.block g b (Nat.lt_of_lt_of_le hb h.size)).trans (h.block b hb hn)⟩
theorem Wk.wst {LO HI : Nat → Nat} {k : Nat} {w w' w'' : World} (h : Wk LO HI k w w') (g : Wst (LO k) (HI k) w' w'') : Wk LO HI (k + 1) w w'' :=
  ⟨g.os.trans h.os, g.tape.trans h.tape, g.output.trans h.output, Nat.le_trans h.size g.size, fun b hb hn => (g.block b (Nat.lt_of_lt_of_le hb h.size) (hn k (by omega))).trans (h.block b hb fun i hi => hn i (by omega))⟩
theorem Wk.toGr {LO HI : Nat → Nat} {k : Nat} {a w w' : World} (g : Gr a w) (h : Wk LO HI k w w') (hl : ∀ i, i < k → a.heap.size ≤ LO i) : Gr a w' :=
  Below.trans g ⟨h.os, h.tape, h.output, h.size, fun b hb => h.block b (Nat.lt_of_lt_of_le hb g.le) (fun i hi => by have := hl i hi; omega)⟩
theorem RowIn.wk {LO HI : Nat → Nat} {k lo hi : Nat} {w w' : World} {e : TypeId} {s : Nat} {v : Value} {n : Nat} {xs : List Value} (h : RowIn lo hi w e s v n xs) (g : Wk LO HI k w w') (d : ∀ i, i < k → hi ≤ LO i ∨ HI i ≤ lo) : RowIn lo hi w' e s v n xs := by
  refine ⟨⟨h.1.1, ?_⟩, h.2⟩
  rcases h.1.2 with a | ⟨q, cap, cur, rfl, hb, hg, rest⟩
  · exact .inl a
  · have hq := h.2 q rfl
    exact .inr ⟨q, cap, cur, rfl, hb, (g.block q (Blk_lt hg) (fun i hi => by have := d i hi; omega)).trans hg, rest⟩
theorem OwnBx.wk {LO HI : Nat → Nat} {k lo hi : Nat} {w w' : World} {v : Value} {l : List BoxI} (h : OwnBx lo hi w v l) (g : Wk LO HI k w w') (d : ∀ i, i < k → hi ≤ LO i ∨ HI i ≤ lo) : OwnBx lo hi w' v l := by
  obtain ⟨O, a, b, c⟩ := h
  exact ⟨O, a, b.wk g d, fun k p q h1 h2 => ⟨(c k p q h1 h2).1, (c k p q h1 h2).2.wk g d⟩⟩
/-- six answers, each in its own range -/
structure Six (Z : List Value) (L : Nat → List BoxI) (LO HI : Nat → Nat) (s5 s9 s10 s12 : Nat) (W : World) : Prop where
  own : ∀ i z, Z[i]? = some z → OwnBx (LO i) (HI i) W z (L i)
  lo : ∀ i, i < 6 → s5 ≤ LO i
  hi : ∀ i, i < 6 → HI i ≤ s12
  mid : ∀ i, i < 6 → s10 ≤ LO i ∨ HI i ≤ s9
  apart : ∀ i j, i < j → j < 6 → HI i ≤ LO j
  len : ∀ i, i < 6 → (L i).length ≤ 40
  box : ∀ i, i < 6 → ∀ p ∈ L i, p.2.length ≤ 16
  six : Z.length = 6
theorem Six.of {a b c d e1 e2 : Value} {la lb lc ld le1 le2 : List BoxI} {s5 s6 s7 s8 s9 s10 s11 s12 : Nat} {W : World}
    (h1 : OwnBx s5 s6 W a la) (h2 : OwnBx s6 s7 W b lb) (h3 : OwnBx s7 s8 W c lc) (h4 : OwnBx s8 s9 W d ld) (h5 : OwnBx s10 s11 W e1 le1) (h6 : OwnBx s11 s12 W e2 le2)
    (k1 : s5 ≤ s6) (k2 : s6 ≤ s7) (k3 : s7 ≤ s8) (k4 : s8 ≤ s9) (k5 : s9 ≤ s10) (k6 : s10 ≤ s11) (k7 : s11 ≤ s12)
    (n1 : la.length ≤ 40) (n2 : lb.length ≤ 40) (n3 : lc.length ≤ 40) (n4 : ld.length ≤ 40) (n5 : le1.length ≤ 40) (n6 : le2.length ≤ 40)
    (m1 : ∀ p ∈ la, p.2.length ≤ 16) (m2 : ∀ p ∈ lb, p.2.length ≤ 16) (m3 : ∀ p ∈ lc, p.2.length ≤ 16) (m4 : ∀ p ∈ ld, p.2.length ≤ 16) (m5 : ∀ p ∈ le1, p.2.length ≤ 16) (m6 : ∀ p ∈ le2, p.2.length ≤ 16) :
    ∃ L LO HI, Six [a, b, c, d, e1, e2] L LO HI s5 s9 s10 s12 W := by
  refine ⟨fun i => [la, lb, lc, ld, le1, le2].getD i [], fun i => [s5, s6, s7, s8, s10, s11].getD i 0, fun i => [s6, s7, s8, s9, s11, s12].getD i 0, ?_, ?_, ?_, ?_, ?_, ?_, ?_, rfl⟩
  · intro i z hz
    match i, hz with
    | 0, hz => simp at hz; subst hz; exact h1
    | 1, hz => simp at hz; subst hz; exact h2
    | 2, hz => simp at hz; subst hz; exact h3
    | 3, hz => simp at hz; subst hz; exact h4
    | 4, hz => simp at hz; subst hz; exact h5
    | 5, hz => simp at hz; subst hz; exact h6
    | n + 6, hz => simp at hz
  · intro i hi
    match i, hi with
    | 0, _ | 1, _ | 2, _ | 3, _ | 4, _ | 5, _ => first | (simp; done) | (simp; omega)
  · intro i hi
    match i, hi with
    | 0, _ | 1, _ | 2, _ | 3, _ | 4, _ | 5, _ => first | (simp; done) | (simp; omega)
  · intro i hi
    match i, hi with
    | 0, _ | 1, _ | 2, _ | 3, _ | 4, _ | 5, _ => first | (simp; done) | (simp; omega)
  · intro i j hij hj
    match j, hj with
    | 0, _ => omega
    | 1, _ | 2, _ | 3, _ | 4, _ | 5, _ =>
      match i, (show i < 5 by omega) with
      | 0, _ | 1, _ | 2, _ | 3, _ | 4, _ => first | (exfalso; omega) | (simp; done) | (simp; omega)
  · intro i hi
    match i, hi with
    | 0, _ | 1, _ | 2, _ | 3, _ | 4, _ | 5, _ => first | (simp; done) | (simp; omega)
  · intro i hi
    match i, hi with
    | 0, _ => exact m1
    | 1, _ => exact m2
    | 2, _ => exact m3
    | 3, _ => exact m4
    | 4, _ => exact m5
    | 5, _ => exact m6
theorem Six.gr {Z : List Value} {L : Nat → List BoxI} {LO HI : Nat → Nat} {s5 s9 s10 s12 : Nat} {W W' : World} (h : Six Z L LO HI s5 s9 s10 s12 W) (g : Gr W W') : Six Z L LO HI s5 s9 s10 s12 W' :=
  ⟨fun i z hz => (h.own i z hz).gr g, h.lo, h.hi, h.mid, h.apart, h.len, h.box, h.six⟩
theorem Six.wst {Z : List Value} {L : Nat → List BoxI} {LO HI : Nat → Nat} {s5 s9 s10 s12 lo hi : Nat} {W W' : World} (h : Six Z L LO HI s5 s9 s10 s12 W) (g : Wst lo hi W W') (hs : hi ≤ s5) : Six Z L LO HI s5 s9 s10 s12 W' :=
  ⟨fun i z hz => (h.own i z hz).wst g (.inr (by have hi6 : i < 6 := by { have := (List.getElem?_eq_some_iff.1 hz).1; have := h.six; omega }; have := h.lo i hi6; omega)), h.lo, h.hi, h.mid, h.apart, h.len, h.box, h.six⟩
end Go.Proofs.Ytbodadddcbbjeaa
