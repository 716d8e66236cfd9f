/- Joined: Pure, Pure2, Rows2, SpanM. -/
import Derived.Laws.Bits64
import Derived.WalkKit
import Derived.Deep.Quiet
import Derived.Deep.Draws
import Derived.Laws.AppendOwn
import Derived.Laws.OwnMore
import Derived.OwnWalk
/- The plain mathematics of cubes: no program in sight. -/
namespace Rm
open Go Go.RowKit

/-- is it a combination of tags? -/
def tagsB (x : Int) : Bool := decide (0 ≤ x) && decide (x ≤ 15)
/-- what Check of a cube answers -/
def chk (y n : Int) : Int := if tagsB y && tagsB n then (if bits .and .i64 y n == 0 then 0 else 3) else 1

/-- what Check of two cubes answers -/
def chk2 (y n y' n' : Int) : Int := if chk y n == 0 then chk y' n' else chk y n
/-- have two cubes nothing in common? -/
def apartB (y n y' n' : Int) : Bool := bits .and .i64 y n' != 0 || bits .and .i64 n y' != 0
/-- has the first cube every demand of the second one? -/
def inB (y n y' n' : Int) : Bool := bits .andNot .i64 y' y == 0 && bits .andNot .i64 n' n == 0
/-- is a combination in a cube? -/
def hasB (y n t : Int) : Bool := bits .andNot .i64 y t == 0 && bits .and .i64 n t == 0

/-- what cube.Within answers -/
def withinB (y n y' n' : Int) : Bool := if chk2 y n y' n' == 0 then inB y n y' n' else false
/-- what cube.Has answers: the error, and whether -/
def hasE (y n t : Int) : Int := if chk y n == 0 then (if tagsB t then 0 else 1) else chk y n
def hasR (y n t : Int) : Bool := if hasE y n t == 0 then hasB y n t else false
/-- what cube.Meet answers -/
def meetE (y n y' n' : Int) : Int := if chk2 y n y' n' == 0 then (if apartB y n y' n' then 4 else 0) else chk2 y n y' n'
def meetY (y n y' n' : Int) : Int := if meetE y n y' n' == 0 then bits .or .i64 y y' else 0
def meetN (y n y' n' : Int) : Int := if meetE y n y' n' == 0 then bits .or .i64 n n' else 0

/-- all that was there is as it was; there may be more -/
def Gr (w w' : World) : Prop := Below w.heap.size w w'
theorem Gr.refl (w : World) : Gr w w := Below.refl _ _
theorem Gr.trans {a b c : World} (h : Gr a b) (k : Gr b c) : Gr a c := Below.trans h (Below.mono k h.size)
theorem Gr.drew {a w : World} (h : Gr a w) : Gr a w.drew := Below.drew h
theorem Gr.drewN {a w : World} (h : Gr a w) (n : Nat) : Gr a (w.drewN n) := ⟨h.os, h.tape, h.output, h.size, h.block⟩
theorem Gr.alloc {a w : World} (h : Gr a w) (o : Obj) : Gr a (w.alloc o) := Below.alloc h h.size o
theorem Gr.setCell {a w : World} (h : Gr a w) {p : Addr} (hp : a.heap.size ≤ p.block) (u : Value) : Gr a (w.setCell p u) := Below.setCell h hp u
theorem Gr.le {a w : World} (h : Gr a w) : a.heap.size ≤ w.heap.size := h.size
theorem Gr.cells {W w1 : World} (hb : Gr W w1) : (∀ b o, b < W.heap.size → w1.cell? ⟨b, o, none⟩ = W.cell? ⟨b, o, none⟩) ∧ (∀ b o, b < W.heap.size → w1.frozen? ⟨b, o, none⟩ = W.frozen? ⟨b, o, none⟩) :=
  ⟨fun b o h => Below.cell (p := ⟨b, o, none⟩) hb h, fun b o h => Below.frozen (p := ⟨b, o, none⟩) hb h⟩

/-- a struct of two integers, alone in its block -/
def Two (w : World) (b : Nat) (y n : Int) : Prop := b < w.heap.size ∧ w.cell? ⟨b, 0, none⟩ = some (.int .i64 y) ∧ w.cell? ⟨b, 1, none⟩ = some (.int .i64 n)
theorem Two.gr {w w' : World} {b : Nat} {y n : Int} (h : Two w b y n) (g : Gr w w') : Two w' b y n :=
  ⟨Nat.lt_of_lt_of_le h.1 g.le, (g.cells.1 b 0 h.1).trans h.2.1, (g.cells.1 b 1 h.1).trans h.2.2⟩
theorem Two.alloc {w : World} {b : Nat} {y n : Int} (h : Two w b y n) (o : Obj) : Two (w.alloc o) b y n := h.gr ((Gr.refl w).alloc o)
theorem Two.new (w : World) (y n : Int) (t : TypeId) : Two (w.alloc (.cells #[.int .i64 y, .int .i64 n] t)) w.heap.size y n := by
  refine ⟨by simp, ?_, ?_⟩ <;> simp [go_sem]

end Rm
/- The plain mathematics of valid cubes: tag by tag, out of small tables. -/
namespace Rm
open Go Go.RowKit

theorem and16 : ∀ a < 16, ∀ b < 16, bits .and .i64 ((a : Nat) : Int) ((b : Nat) : Int) = ((Nat.land a b : Nat) : Int) := by decide +kernel
theorem or16 : ∀ a < 16, ∀ b < 16, bits .or .i64 ((a : Nat) : Int) ((b : Nat) : Int) = ((Nat.lor a b : Nat) : Int) := by decide +kernel
theorem andNot16 : ∀ a < 16, ∀ b < 16, (bits .andNot .i64 ((a : Nat) : Int) ((b : Nat) : Int) == 0) = (Nat.land a b == a) := by decide +kernel
theorem tags_of {a : Nat} (h : a < 16) : tagsB (a : Int) = true := by simp [tagsB]; omega
theorem of_tags {x : Int} (h : tagsB x = true) : ∃ a : Nat, a < 16 ∧ x = a := by
  simp [tagsB] at h
  exact ⟨x.toNat, by omega, by omega⟩

/-- a valid cube -/
def Vld (y n : Nat) : Prop := y < 16 ∧ n < 16 ∧ Nat.land y n = 0
theorem Vld.chk {y n : Nat} (h : Vld y n) : chk y n = 0 := by
  obtain ⟨h1, h2, h3⟩ := h
  simp [Rm.chk, tags_of h1, tags_of h2, and16 y h1 n h2]
  exact h3
theorem Vld.chk2 {y n y' n' : Nat} (h : Vld y n) (h' : Vld y' n') : chk2 y n y' n' = 0 := by
  simp [Rm.chk2, h.chk, h'.chk]
theorem Vld.of {y n : Int} (h : Rm.chk y n = 0) : ∃ a b : Nat, Vld a b ∧ y = a ∧ n = b := by
  unfold Rm.chk at h
  split at h
  · rename_i ht
    simp only [Bool.and_eq_true] at ht
    obtain ⟨a, ha, rfl⟩ := of_tags ht.1
    obtain ⟨b, hb, rfl⟩ := of_tags ht.2
    rw [and16 a ha b hb] at h
    refine ⟨a, b, ⟨ha, hb, ?_⟩, rfl, rfl⟩
    split at h
    · rename_i h0; simpa using h0
    · omega
  · omega

/-- is every tag of a one of b? -/
def sub (a b : Nat) : Bool := Nat.land a b == a
theorem within_eq {y n y' n' : Nat} (h : Vld y n) (h' : Vld y' n') : withinB y n y' n' = (sub y' y && sub n' n) := by
  unfold withinB inB
  rw [h.chk2 h', andNot16 y' h'.1 y h.1, andNot16 n' h'.2.1 n h.2.1]
  rfl
theorem hasE_eq {y n t : Nat} (h : Vld y n) (ht : t < 16) : hasE y n t = 0 := by simp [hasE, h.chk, tags_of ht]
theorem has_eq {y n t : Nat} (h : Vld y n) (ht : t < 16) : hasR y n t = (sub y t && Nat.land n t == 0) := by
  unfold hasR hasB
  rw [hasE_eq h ht, andNot16 y h.1 t ht, and16 n h.2.1 t ht]
  have e : (((Nat.land n t : Nat) : Int) == 0) = (Nat.land n t == 0) := by rw [Bool.eq_iff_iff]; simp
  rw [e]
  rfl

theorem sub_trans16 : ∀ a < 16, ∀ b < 16, ∀ c < 16, sub a b = true → sub b c = true → sub a c = true := by decide +kernel
theorem sub_anti16 : ∀ a < 16, ∀ b < 16, sub a b = true → sub b a = true → a = b := by decide +kernel
theorem sub_refl16 : ∀ a < 16, sub a a = true := by decide +kernel
theorem sub_off16 : ∀ a < 16, ∀ b < 16, ∀ c < 16, sub a b = true → Nat.land b c = 0 → Nat.land a c = 0 := by decide +kernel

/-- CubeOrder's last line -/
theorem order_anti {y n y' n' : Nat} (h : Vld y n) (h' : Vld y' n') :
    (withinB y n y' n' && withinB y' n' y n) = (decide (y = y') && decide (n = n')) := by
  rw [within_eq h h', within_eq h' h, Bool.eq_iff_iff]
  simp only [Bool.and_eq_true, decide_eq_true_eq]
  constructor
  · rintro ⟨⟨a, b⟩, c, d⟩
    exact ⟨(sub_anti16 _ h'.1 _ h.1 a c).symm, (sub_anti16 _ h'.2.1 _ h.2.1 b d).symm⟩
  · rintro ⟨rfl, rfl⟩
    exact ⟨⟨sub_refl16 _ h.1, sub_refl16 _ h.2.1⟩, sub_refl16 _ h.1, sub_refl16 _ h.2.1⟩
theorem order_trans {y n y' n' y'' n'' : Nat} (h : Vld y n) (h' : Vld y' n') (h'' : Vld y'' n'') (p : withinB y n y' n' = true) (q : withinB y' n' y'' n'' = true) :
    withinB y n y'' n'' = true := by
  rw [within_eq h h'] at p
  rw [within_eq h' h''] at q
  rw [within_eq h h'']
  simp only [Bool.and_eq_true] at *
  exact ⟨sub_trans16 _ h''.1 _ h'.1 _ h.1 q.1 p.1, sub_trans16 _ h''.2.1 _ h'.2.1 _ h.2.1 q.2 p.2⟩
theorem order_has {y n y' n' t : Nat} (h : Vld y n) (h' : Vld y' n') (ht : t < 16) (p : withinB y n y' n' = true) (q : hasR y n t = true) : hasR y' n' t = true := by
  rw [within_eq h h'] at p
  rw [has_eq h ht] at q
  rw [has_eq h' ht]
  simp only [Bool.and_eq_true, beq_iff_eq] at *
  exact ⟨sub_trans16 _ h'.1 _ h.1 _ ht p.1 q.1, sub_off16 _ h'.2.1 _ h.2.1 _ ht p.2 q.2⟩

end Rm
/- Slices of structs of two integers, read as lists. -/
namespace Rm
open Go Go.RowKit

/-- the cells of a list of pairs -/
def flat (l : List (Int × Int)) : List Value := l.flatMap fun p => [.int .i64 p.1, .int .i64 p.2]
theorem flat_nil : flat [] = [] := rfl
theorem flat_cons (p : Int × Int) (l : List (Int × Int)) : flat (p :: l) = .int .i64 p.1 :: .int .i64 p.2 :: flat l := rfl
theorem flat_app (l r : List (Int × Int)) : flat (l ++ r) = flat l ++ flat r := by simp [flat]
theorem flat_len (l : List (Int × Int)) : (flat l).length = l.length * 2 := by
  induction l with
  | nil => rfl
  | cons p l ih => rw [flat_cons]; simp [ih]; omega
theorem flat_at (l : List (Int × Int)) (i : Nat) (p : Int × Int) (h : l[i]? = some p) : (flat l)[i * 2]? = some (.int .i64 p.1) ∧ (flat l)[i * 2 + 1]? = some (.int .i64 p.2) := by
  induction l generalizing i with
  | nil => simp at h
  | cons q l ih =>
    rw [flat_cons]
    cases i with
    | zero => simp at h; subst h; simp
    | succ i =>
      have e : (i + 1) * 2 = i * 2 + 1 + 1 := by omega
      rw [e]
      simpa using ih i (by simpa using h)
theorem flat_one (l : List (Int × Int)) : ∀ u ∈ flat l, u.oneCell' = true := by
  intro u hu
  simp only [flat, List.mem_flatMap] at hu
  obtain ⟨p, _, hp⟩ := hu
  simp at hp
  rcases hp with rfl | rfl <;> rfl

/-- a list of small numbers, as integers -/
def pairs (l : List (Nat × Nat)) : List (Int × Int) := l.map fun p => ((p.1 : Int), (p.2 : Int))
theorem pairs_app (l : List (Nat × Nat)) (a b : Nat) : pairs (l ++ [(a, b)]) = pairs l ++ [((a : Int), (b : Int))] := by simp [pairs]
theorem pairs_at {l : List (Nat × Nat)} {i : Nat} {c : Nat × Nat} (h : l[i]? = some c) : (pairs l)[i]? = some ((c.1 : Int), (c.2 : Int)) := by simp [pairs, h]
theorem pairs_len (l : List (Nat × Nat)) : (pairs l).length = l.length := by simp [pairs]
theorem pairs_inj {l l' : List (Nat × Nat)} (h : pairs l = pairs l') : l = l' := by
  induction l generalizing l' with
  | nil => cases l' with
    | nil => rfl
    | cons p r => simp [pairs] at h
  | cons p l ih => cases l' with
    | nil => simp [pairs] at h
    | cons q r =>
      obtain ⟨a, b⟩ := p
      obtain ⟨c, d⟩ := q
      simp only [pairs, List.map_cons, List.cons.injEq, Prod.mk.injEq] at h
      obtain ⟨⟨h1, h2⟩, h3⟩ := h
      rw [ih h3]
      congr
      · omega
      · omega

/-- a slice that reads as a list of pairs -/
def Rd2 (w : World) (v : Value) (l : List (Int × Int)) : Prop :=
  ∃ a c, v = .slice a l.length c ∧ l.length ≤ c ∧ (l ≠ [] → ∃ b off, a = some ⟨b, off, none⟩ ∧ b < w.heap.size ∧
    ∀ i p, l[i]? = some p → w.cell? ⟨b, off + i * 2, none⟩ = some (.int .i64 p.1) ∧ w.cell? ⟨b, off + i * 2 + 1, none⟩ = some (.int .i64 p.2))
theorem Rd2.gr {w w' : World} {v : Value} {l : List (Int × Int)} (h : Rd2 w v l) (g : Gr w w') : Rd2 w' v l := by
  obtain ⟨a, c, e, hc, h⟩ := h
  refine ⟨a, c, e, hc, fun hl => ?_⟩
  obtain ⟨b, off, ea, hb, hx⟩ := h hl
  exact ⟨b, off, ea, Nat.lt_of_lt_of_le hb g.le, fun i p hp => ⟨(g.cells.1 b _ hb).trans (hx i p hp).1, (g.cells.1 b _ hb).trans (hx i p hp).2⟩⟩
theorem Rd2.alloc {w : World} {v : Value} {l : List (Int × Int)} (h : Rd2 w v l) (o : Obj) : Rd2 (w.alloc o) v l := h.gr ((Gr.refl w).alloc o)
theorem Rd2.nil (w : World) : Rd2 w (.slice none 0 0) [] := ⟨none, 0, rfl, Nat.le_refl _, fun h => absurd rfl h⟩
theorem Rd2.own {w : World} {base : Nat} {e : TypeId} {v : Value} {l : List (Int × Int)} (h : w.ownsRow base e 2 v l.length (flat l)) : Rd2 w v l := by
  obtain ⟨hl, h⟩ := h
  rcases h with ⟨rfl, h0⟩ | ⟨g, cap, cur, rfl, _, hg, hn, _, hs, ht⟩
  · have : l = [] := List.eq_nil_of_length_eq_zero h0
    subst this
    exact Rd2.nil w
  · refine ⟨_, _, rfl, hn, fun hne => ?_⟩
    have hlt : g < w.heap.size := by
      rcases Nat.lt_or_ge g w.heap.size with h | h
      · exact h
      · rw [Array.getElem?_eq_none h] at hg; cases hg
    refine ⟨g, 0, rfl, hlt, fun i p hp => ?_⟩
    have hi : i < l.length := (List.getElem?_eq_some_iff.1 hp).1
    have hf := flat_at l i p hp
    rw [← ht] at hf
    have key : ∀ j, j < l.length * 2 → w.cell? ⟨g, 0 + j, none⟩ = (cur.toList.take (l.length * 2))[j]? := by
      intro j hj
      rw [List.getElem?_take_of_lt hj]
      simp [World.cell?, hg]
    have k2 := key (i * 2 + 1) (by omega)
    rw [← Nat.add_assoc] at k2
    exact ⟨(key (i * 2) (by omega)).trans hf.1, k2.trans hf.2⟩
theorem new2 (w : World) (a b : Int) (t : TypeId) : ∀ j u, ([.int .i64 a, .int .i64 b] : List Value)[j]? = some u → (w.alloc (.cells #[.int .i64 a, .int .i64 b] t)).cell? ((⟨w.heap.size, 0, none⟩ : Addr).add j) = some u := by
  intro j u hu
  match j with
  | 0 => simp at hu; subst hu; simp [go_sem, Addr.add]
  | 1 => simp at hu; subst hu; simp [go_sem, Addr.add]
  | j + 2 => simp at hu
theorem one2 (a b : Int) : ∀ u ∈ ([.int .i64 a, .int .i64 b] : List Value), u.oneCell' = true := by
  intro u hu
  simp at hu
  rcases hu with rfl | rfl <;> rfl
theorem Gr.grown {a w w' : World} {row : Option Nat} (h : Gr a w) (hg : w.grownBy w' row) (hr : ∀ k, row = some k → a.heap.size ≤ k) : Gr a w' := Below.grown h hg h.le hr
theorem Two.grown {w w' : World} {b : Nat} {y n : Int} {row : Option Nat} (h : Two w b y n) (hg : w.grownBy w' row) (hr : ∀ k, row = some k → b < k) : Two w' b y n := by
  have hb : w'.heap[b]? = w.heap[b]? := hg.block b h.1 (fun e => by have := hr b e.symm; omega)
  exact ⟨Nat.lt_of_lt_of_le h.1 hg.size, (World.cell?_of_block (a := ⟨b, 0, none⟩) hb).trans h.2.1, (World.cell?_of_block (a := ⟨b, 1, none⟩) hb).trans h.2.2⟩
theorem frozen_grown {w w' : World} {b o : Nat} {row : Option Nat} (hlt : b < w.heap.size) (h : w.frozen? ⟨b, o, none⟩ = false) (hg : w.grownBy w' row) (hr : ∀ k, row = some k → b < k) : w'.frozen? ⟨b, o, none⟩ = false := by
  have hb : w'.heap[b]? = w.heap[b]? := hg.block b hlt (fun e => by have := hr b e.symm; omega)
  exact (World.frozen?_of_block (a := ⟨b, o, none⟩) hb).trans h
theorem Two.set0 {w : World} {b : Nat} {y n : Int} (h : Two w b y n) (y' : Int) : Two (w.setCell ⟨b, 0, none⟩ (.int .i64 y')) b y' n := by
  obtain ⟨h1, h2, h3⟩ := h
  refine ⟨by simpa using h1, ?_, ?_⟩ <;> simp [go_sem, h2, h3]
theorem Two.set1 {w : World} {b : Nat} {y n : Int} (h : Two w b y n) (n' : Int) : Two (w.setCell ⟨b, 1, none⟩ (.int .i64 n')) b y n' := by
  obtain ⟨h1, h2, h3⟩ := h
  refine ⟨by simpa using h1, ?_, ?_⟩ <;> simp [go_sem, h2, h3]
theorem Two.far {w : World} {b : Nat} {y n : Int} (h : Two w b y n) {p : Addr} (hp : b ≠ p.block) (u : Value) : Two (w.setCell p u) b y n := by
  obtain ⟨h1, h2, h3⟩ := h
  refine ⟨by simpa using h1, ?_, ?_⟩
  · rw [World.cell?_setCell_other _ _ _ _ (fun e => hp (by rw [e]))]; exact h2
  · rw [World.cell?_setCell_other _ _ _ _ (fun e => hp (by rw [e]))]; exact h3

end Rm
/- The plain mathematics of sets of integers as sorted lists of intervals: a valid list is told by its members. -/
namespace Rm

/-- sorted, apart, not adjacent, from lo on, below 32 -/
def VF : Nat → List (Nat × Nat) → Prop
  | _, [] => True
  | lo, p :: l => lo ≤ p.1 ∧ p.1 < p.2 ∧ p.2 ≤ 32 ∧ VF (p.2 + 1) l
/-- is a number in a list of intervals? -/
def memS (l : List (Nat × Nat)) (n : Nat) : Prop := ∃ p ∈ l, p.1 ≤ n ∧ n < p.2

theorem memS_nil (n : Nat) : ¬ memS [] n := by rintro ⟨p, hp, _⟩; cases hp
theorem memS_cons (p : Nat × Nat) (l : List (Nat × Nat)) (n : Nat) : memS (p :: l) n ↔ (p.1 ≤ n ∧ n < p.2) ∨ memS l n := by simp [memS]
theorem memS_app (l r : List (Nat × Nat)) (n : Nat) : memS (l ++ r) n ↔ memS l n ∨ memS r n := by
  induction l with
  | nil => simp [memS]
  | cons p l ih => rw [List.cons_append, memS_cons, memS_cons, ih, or_assoc]
theorem memS_one (f t n : Nat) : memS [(f, t)] n ↔ f ≤ n ∧ n < t := by simp [memS]
theorem VF.mono {lo lo' : Nat} {l : List (Nat × Nat)} (h : VF lo l) (hl : lo' ≤ lo) : VF lo' l := by
  cases l with
  | nil => trivial
  | cons p l => exact ⟨by have := h.1; omega, h.2⟩
theorem VF.ge {lo : Nat} {l : List (Nat × Nat)} (h : VF lo l) {n : Nat} (hn : memS l n) : lo ≤ n ∧ n < 32 := by
  induction l generalizing lo with
  | nil => exact absurd hn (memS_nil n)
  | cons p l ih =>
    obtain ⟨h1, h2, h3, h4⟩ := h
    rcases (memS_cons p l n).1 hn with h | h
    · omega
    · have := ih h4 h; omega
theorem VF.len {lo : Nat} {l : List (Nat × Nat)} (h : VF lo l) (hl : l ≠ []) : lo + 2 * l.length ≤ 33 := by
  induction l generalizing lo with
  | nil => exact absurd rfl hl
  | cons p l ih =>
    obtain ⟨h1, h2, h3, h4⟩ := h
    cases l with
    | nil => simp; omega
    | cons q l => have := ih h4 (by simp); simp at this ⊢; omega
theorem VF.len16 {l : List (Nat × Nat)} (h : VF 0 l) : l.length ≤ 16 := by
  cases l with
  | nil => simp
  | cons p l => have := h.len (by simp); simp at this ⊢; omega

theorem VF.uniq {a a' : Nat} {l l' : List (Nat × Nat)} (h : VF a l) (h' : VF a' l') (e : ∀ n, memS l n ↔ memS l' n) : l = l' := by
  induction l generalizing a a' l' with
  | nil =>
    cases l' with
    | nil => rfl
    | cons p r =>
      obtain ⟨_, h2, _, _⟩ := h'
      exact absurd ((e p.1).2 ((memS_cons p r p.1).2 (.inl ⟨Nat.le_refl _, h2⟩))) (memS_nil _)
  | cons p l ih =>
    cases l' with
    | nil =>
      obtain ⟨_, h2, _, _⟩ := h
      exact absurd ((e p.1).1 ((memS_cons p l p.1).2 (.inl ⟨Nat.le_refl _, h2⟩))) (memS_nil _)
    | cons q r =>
      obtain ⟨f, t⟩ := p
      obtain ⟨f', t'⟩ := q
      obtain ⟨h1, h2, h3, h4⟩ := h
      obtain ⟨g1, g2, g3, g4⟩ := h'
      simp only at h1 h2 h3 h4 g1 g2 g3 g4
      have ef : f = f' := by
        have a1 := (memS_cons _ _ _).1 ((e f).1 ((memS_cons (f, t) l f).2 (.inl ⟨Nat.le_refl _, h2⟩)))
        have a2 := (memS_cons _ _ _).1 ((e f').2 ((memS_cons (f', t') r f').2 (.inl ⟨Nat.le_refl _, g2⟩)))
        have b1 : f' ≤ f := by
          rcases a1 with a | a
          · exact a.1
          · have := g4.ge a; omega
        have b2 : f ≤ f' := by
          rcases a2 with a | a
          · exact a.1
          · have := h4.ge a; omega
        omega
      subst ef
      have et : t = t' := by
        rcases Nat.lt_trichotomy t t' with c | c | c
        · have a2 := (memS_cons _ _ _).1 ((e t).2 ((memS_cons (f, t') r t).2 (.inl ⟨by simp only; omega, c⟩)))
          rcases a2 with a | a
          · simp only at a; omega
          · have := h4.ge a; omega
        · exact c
        · have a2 := (memS_cons _ _ _).1 ((e t').1 ((memS_cons (f, t) l t').2 (.inl ⟨by simp only; omega, c⟩)))
          rcases a2 with a | a
          · simp only at a; omega
          · have := g4.ge a; omega
      subst et
      congr 1
      refine ih h4 g4 fun n => ⟨fun hn => ?_, fun hn => ?_⟩
      · have := h4.ge hn
        rcases (memS_cons _ _ _).1 ((e n).1 ((memS_cons (f, t) l n).2 (.inr hn))) with a | a
        · simp only at a; omega
        · exact a
      · have := g4.ge hn
        rcases (memS_cons _ _ _).1 ((e n).2 ((memS_cons (f, t) r n).2 (.inr hn))) with a | a
        · simp only at a; omega
        · exact a

/-- put an interval behind -/
theorem VF.snoc {lo f t : Nat} {l : List (Nat × Nat)} (h : VF lo l) (hl : ∀ p ∈ l, p.2 < f) (h0 : lo ≤ f) (h1 : f < t) (h2 : t ≤ 32) : VF lo (l ++ [(f, t)]) := by
  induction l generalizing lo with
  | nil => exact ⟨h0, h1, h2, trivial⟩
  | cons p l ih =>
    obtain ⟨a1, a2, a3, a4⟩ := h
    exact ⟨a1, a2, a3, ih a4 (fun q hq => hl q (List.mem_cons_of_mem _ hq)) (by have := hl p (List.mem_cons_self ..); omega)⟩
theorem VF.front {lo f t : Nat} {l : List (Nat × Nat)} (h : VF lo (l ++ [(f, t)])) : VF lo l ∧ (∀ p ∈ l, p.2 < f) ∧ lo ≤ f ∧ f < t ∧ t ≤ 32 := by
  induction l generalizing lo with
  | nil => exact ⟨trivial, by simp, h.1, h.2.1, h.2.2.1⟩
  | cons p l ih =>
    obtain ⟨a1, a2, a3, a4⟩ := h
    obtain ⟨b1, b2, b3, b4, b5⟩ := ih a4
    refine ⟨⟨a1, a2, a3, b1⟩, fun q hq => ?_, by omega, b4, b5⟩
    rcases List.mem_cons.1 hq with rfl | hq
    · omega
    · exact b2 q hq

/-- the set of a function, from the front: as package span makes it -/
def push (l : List (Nat × Nat)) (n : Nat) : List (Nat × Nat) :=
  match l.getLast? with
  | some p => if p.2 = n then l.dropLast ++ [(p.1, n + 1)] else l ++ [(n, n + 1)]
  | none => [(n, n + 1)]
def listTo (s : Nat → Bool) : Nat → List (Nat × Nat)
  | 0 => []
  | n + 1 => if s n then push (listTo s n) n else listTo s n

theorem push_nil (n : Nat) : push [] n = [(n, n + 1)] := rfl
theorem push_snoc (l : List (Nat × Nat)) (f t n : Nat) : push (l ++ [(f, t)]) n = if t = n then l ++ [(f, n + 1)] else l ++ [(f, t)] ++ [(n, n + 1)] := by
  simp [push]
theorem push_ok {l : List (Nat × Nat)} {n : Nat} (h : VF 0 l) (hl : ∀ p ∈ l, p.2 ≤ n) (hn : n < 32) :
    VF 0 (push l n) ∧ (∀ p ∈ push l n, p.2 ≤ n + 1) ∧ ∀ i, memS (push l n) i ↔ memS l i ∨ i = n := by
  rcases List.eq_nil_or_concat l with rfl | ⟨l, ⟨f, t⟩, rfl⟩
  · rw [push_nil]
    refine ⟨⟨by omega, by simp, by simp; omega, trivial⟩, by simp, fun i => ?_⟩
    rw [memS_one]
    simp [memS]
    omega
  · rw [List.concat_eq_append] at *
    obtain ⟨a1, a2, a3, a4, a5⟩ := h.front
    have ht : t ≤ n := hl (f, t) (by simp)
    rw [push_snoc]
    split
    · rename_i e
      subst e
      refine ⟨a1.snoc a2 a3 (by omega) (by omega), fun p hp => ?_, fun i => ?_⟩
      · rcases List.mem_append.1 hp with hp | hp
        · have := a2 p hp; omega
        · simp at hp; subst hp; simp
      · rw [memS_app, memS_app, memS_one, memS_one, or_assoc]
        have : (f ≤ i ∧ i < t + 1) ↔ ((f ≤ i ∧ i < t) ∨ i = t) := by omega
        rw [this]
    · rename_i e
      refine ⟨h.snoc (fun p hp => ?_) (by omega) (by omega) (by omega), fun p hp => ?_, fun i => ?_⟩
      · rcases List.mem_append.1 hp with hp | hp
        · have := a2 p hp; omega
        · simp at hp; subst hp; simp; omega
      · rcases List.mem_append.1 hp with hp | hp
        · have := hl p hp; omega
        · simp at hp; subst hp; simp
      · rw [memS_app (l ++ [(f, t)]), memS_one]
        have : (n ≤ i ∧ i < n + 1) ↔ i = n := by omega
        rw [this]
theorem listTo_ok (s : Nat → Bool) : ∀ n, n ≤ 32 → VF 0 (listTo s n) ∧ (∀ p ∈ listTo s n, p.2 ≤ n) ∧ ∀ i, memS (listTo s n) i ↔ i < n ∧ s i = true
  | 0, _ => ⟨trivial, by simp [listTo], fun i => by simp [listTo, memS]⟩
  | n + 1, h => by
    obtain ⟨h1, h2, h3⟩ := listTo_ok s n (by omega)
    unfold listTo
    cases hs : s n
    · simp only [Bool.false_eq_true, if_false]
      refine ⟨h1, fun p hp => by have := h2 p hp; omega, fun i => ?_⟩
      rw [h3]
      constructor
      · rintro ⟨a, b⟩; exact ⟨by omega, b⟩
      · rintro ⟨a, b⟩
        refine ⟨?_, b⟩
        rcases Nat.lt_or_ge i n with c | c
        · exact c
        · have : i = n := by omega
          subst this
          rw [hs] at b; cases b
    · simp only [if_true]
      obtain ⟨g1, g2, g3⟩ := push_ok h1 h2 (by omega)
      refine ⟨g1, g2, fun i => ?_⟩
      rw [g3, h3]
      constructor
      · rintro (⟨a, b⟩ | rfl)
        · exact ⟨by omega, b⟩
        · exact ⟨by omega, hs⟩
      · rintro ⟨a, b⟩
        rcases Nat.lt_or_ge i n with c | c
        · exact .inl ⟨c, b⟩
        · exact .inr (by omega)

/-- the same set, from behind: as the document's answer makes it -/
def pre (l : List (Nat × Nat)) (n : Nat) : List (Nat × Nat) :=
  match l with
  | [] => [(n, n + 1)]
  | p :: r => if p.1 = n + 1 then (n, p.2) :: r else (n, n + 1) :: p :: r
def toldTo (s : Nat → Bool) : Nat → List (Nat × Nat)
  | 0 => []
  | k + 1 => if s (31 - k) then pre (toldTo s k) (31 - k) else toldTo s k
theorem pre_ok {l : List (Nat × Nat)} {n : Nat} (h : VF (n + 1) l) (hn : n < 32) : VF n (pre l n) ∧ ∀ i, memS (pre l n) i ↔ memS l i ∨ i = n := by
  cases l with
  | nil =>
    refine ⟨⟨Nat.le_refl _, by simp, by simp; omega, trivial⟩, fun i => ?_⟩
    simp only [pre]
    rw [memS_one]
    simp [memS]
    omega
  | cons p r =>
    obtain ⟨f, t⟩ := p
    obtain ⟨a1, a2, a3, a4⟩ := h
    simp only at a1 a2 a3 a4
    simp only [pre]
    split
    · rename_i e
      subst e
      refine ⟨⟨Nat.le_refl _, by simp only; omega, a3, a4⟩, fun i => ?_⟩
      rw [memS_cons, memS_cons]
      simp only
      have : (n ≤ i ∧ i < t) ↔ ((n + 1 ≤ i ∧ i < t) ∨ i = n) := by omega
      rw [this]
      constructor
      · rintro ((c | c) | c)
        · exact .inl (.inl c)
        · exact .inr c
        · exact .inl (.inr c)
      · rintro ((c | c) | c)
        · exact .inl (.inl c)
        · exact .inr c
        · exact .inl (.inr c)
    · rename_i e
      refine ⟨⟨Nat.le_refl _, by simp, by simp; omega, ⟨by simp only; omega, a2, a3, a4⟩⟩, fun i => ?_⟩
      rw [memS_cons]
      simp only
      have : (n ≤ i ∧ i < n + 1) ↔ i = n := by omega
      rw [this]
      exact or_comm
theorem toldTo_ok (s : Nat → Bool) : ∀ k, k ≤ 32 → VF (32 - k) (toldTo s k) ∧ ∀ i, memS (toldTo s k) i ↔ 32 - k ≤ i ∧ i < 32 ∧ s i = true
  | 0, _ => ⟨trivial, fun i => by simp [toldTo, memS]; omega⟩
  | k + 1, h => by
    obtain ⟨h1, h2⟩ := toldTo_ok s k (by omega)
    unfold toldTo
    have e : 32 - (k + 1) = 31 - k := by omega
    have e2 : 32 - k = 31 - k + 1 := by omega
    rw [e]
    rw [e2] at h1 h2
    generalize 31 - k = n at *
    cases hs : s n
    · simp only [Bool.false_eq_true, if_false]
      refine ⟨h1.mono (by omega), fun i => ?_⟩
      rw [h2]
      constructor
      · rintro ⟨a, b, c⟩; exact ⟨by omega, b, c⟩
      · rintro ⟨a, b, c⟩
        refine ⟨?_, b, c⟩
        rcases Nat.lt_or_ge n i with d | d
        · omega
        · have : i = n := by omega
          subst this
          rw [hs] at c; cases c
    · simp only [if_true]
      have hn : n < 32 := by omega
      obtain ⟨g1, g2⟩ := pre_ok h1 hn
      refine ⟨g1, fun i => ?_⟩
      rw [g2, h2]
      constructor
      · rintro (⟨a, b, c⟩ | rfl)
        · exact ⟨by omega, b, c⟩
        · exact ⟨Nat.le_refl _, hn, hs⟩
      · rintro ⟨a, b, c⟩
        rcases Nat.lt_or_ge n i with d | d
        · exact .inl ⟨by omega, b, c⟩
        · exact .inr (by omega)
theorem told_eq (s : Nat → Bool) : toldTo s 32 = listTo s 32 := by
  obtain ⟨a1, a2⟩ := toldTo_ok s 32 (by omega)
  obtain ⟨b1, _, b2⟩ := listTo_ok s 32 (by omega)
  refine a1.uniq b1 fun n => ?_
  rw [a2, b2]
  constructor
  · rintro ⟨_, h⟩; exact h
  · rintro h; exact ⟨by omega, h⟩

/-- the list of a mask -/
def canon (m : Nat) : List (Nat × Nat) := listTo m.testBit 32
theorem canon_VF (m : Nat) : VF 0 (canon m) := (listTo_ok _ 32 (by omega)).1
theorem canon_mem (m i : Nat) : memS (canon m) i ↔ i < 32 ∧ m.testBit i = true := (listTo_ok _ 32 (by omega)).2.2 i

/-- the mask of a list, number by number -/
def orTo (m f : Nat) : Nat → Nat
  | 0 => m
  | k + 1 => orTo m f k ||| 2 ^ (f + k)
def maskL (l : List (Nat × Nat)) : Nat := l.foldl (fun m p => orTo m p.1 (p.2 - p.1)) 0
theorem maskL_snoc (l : List (Nat × Nat)) (p : Nat × Nat) : maskL (l ++ [p]) = orTo (maskL l) p.1 (p.2 - p.1) := by simp [maskL]
theorem orTo_bit (m f k i : Nat) : (orTo m f k).testBit i = (m.testBit i || decide (f ≤ i ∧ i < f + k)) := by
  induction k with
  | zero =>
    simp [orTo]
    omega
  | succ k ih =>
    simp only [orTo, Nat.testBit_or, ih, Nat.testBit_two_pow, Bool.or_assoc]
    congr 1
    rw [Bool.eq_iff_iff]
    simp
    omega
theorem orTo_lt {m f k : Nat} (hm : m < 2 ^ 32) (h : f + k ≤ 32) : orTo m f k < 2 ^ 32 := by
  induction k with
  | zero => exact hm
  | succ k ih => exact Nat.or_lt_two_pow (ih (by omega)) (Nat.pow_lt_pow_right (by omega) (by omega))
theorem foldl_bit (l : List (Nat × Nat)) (m i : Nat) (hl : ∀ p ∈ l, p.1 ≤ p.2) : (l.foldl (fun m p => orTo m p.1 (p.2 - p.1)) m).testBit i = true ↔ m.testBit i = true ∨ memS l i := by
  induction l generalizing m with
  | nil => simp [memS]
  | cons p l ih =>
    rw [List.foldl_cons, ih _ (fun q hq => hl q (List.mem_cons_of_mem _ hq)), orTo_bit, memS_cons]
    have := hl p (List.mem_cons_self ..)
    simp only [Bool.or_eq_true, decide_eq_true_eq, or_assoc]
    have e : p.1 + (p.2 - p.1) = p.2 := by omega
    rw [e]
theorem VF.le {lo : Nat} {l : List (Nat × Nat)} (h : VF lo l) : ∀ p ∈ l, p.1 < p.2 ∧ p.2 ≤ 32 := by
  induction l generalizing lo with
  | nil => simp
  | cons q l ih =>
    obtain ⟨_, h2, h3, h4⟩ := h
    intro p hp
    rcases List.mem_cons.1 hp with rfl | hp
    · exact ⟨h2, h3⟩
    · exact ih h4 p hp
theorem maskL_bit {l : List (Nat × Nat)} (h : VF 0 l) (i : Nat) : (maskL l).testBit i = true ↔ memS l i := by
  unfold maskL
  rw [foldl_bit l 0 i (fun p hp => Nat.le_of_lt (h.le p hp).1)]
  simp
theorem foldl_lt (l : List (Nat × Nat)) (m : Nat) (hm : m < 2 ^ 32) (hl : ∀ p ∈ l, p.1 < p.2 ∧ p.2 ≤ 32) : l.foldl (fun m p => orTo m p.1 (p.2 - p.1)) m < 2 ^ 32 := by
  induction l generalizing m with
  | nil => exact hm
  | cons p l ih =>
    have := hl p (List.mem_cons_self ..)
    exact ih _ (orTo_lt hm (by omega)) (fun q hq => hl q (List.mem_cons_of_mem _ hq))
theorem maskL_lt {l : List (Nat × Nat)} (hl : ∀ p ∈ l, p.1 < p.2 ∧ p.2 ≤ 32) : maskL l < 2 ^ 32 := foldl_lt l 0 (by decide) hl
theorem canon_maskL {l : List (Nat × Nat)} (h : VF 0 l) : canon (maskL l) = l := by
  refine (canon_VF _).uniq h fun n => ?_
  rw [canon_mem, maskL_bit h]
  exact ⟨fun a => a.2, fun a => ⟨(h.ge a).2, a⟩⟩
theorem maskL_canon {m : Nat} (hm : m < 2 ^ 32) : maskL (canon m) = m := by
  apply Nat.eq_of_testBit_eq
  intro i
  rw [Bool.eq_iff_iff, maskL_bit (canon_VF m), canon_mem]
  refine ⟨fun a => a.2, fun a => ⟨?_, a⟩⟩
  rcases Nat.lt_or_ge i 32 with c | c
  · exact c
  · have := Nat.testBit_lt_two_pow (Nat.lt_of_lt_of_le hm (Nat.pow_le_pow_right (by omega) c))
    rw [this] at a; cases a

end Rm
