/- Joined: Pure, Gx, GxO, GxT, GxE, GxD, KnP, PtA, SpanA, KnQ, KnSort, RdC, KnA, KnG, KnH, KnI, KnB, KnC, ConcatD. -/
import Derived.Laws.Bits64
import Derived.WalkKit
import Derived.Deep.Quiet
import Derived.Deep.Draws
import Derived.Laws.AppendOwn
import Derived.Laws.OwnMore
import Derived.OwnWalk
import Derived.Orders
import Derived.OrdersHeld
import Derived.Deep.RegionHeld
import Derived.Laws.Rows
import Derived.Laws.Tables
import Derived.Laws.CopyOwn
import Derived.Deep.LoopGhost
import Derived.IntWalk
import Derived.Below
import Derived.Test.YtglbnggkkjhokaaGreatProg
import Derived.Great.BuildSlice
import Derived.Lib.SliceRun
import Derived.Laws.BitsAllLaws
import Derived.WalkSpells
import Derived.WalkLawsBesides
import Derived.Deep.QuietTactic
import Derived.BigQuiet
import Derived.Lib.Hide
import Derived.LoopTactic
import Derived.RegionTactic
import Derived.Great.Walk
import Derived.StillTailTactics
import Derived.Shelf.SlSortCmp.WholeK
import Derived.Shelf.SlSortCmp.NoneTotal
import Derived.Deep.RegionHeld3
import Derived.Lib.AppendZerosOnto
import Derived.Lib.AppendZeros
import Derived.Laws.AppendOwnNone
set_option linter.unusedVariables false
set_option linter.unusedSimpArgs false
set_option maxHeartbeats 8000000
set_option maxRecDepth 100000
/- Joined: Pure, Pure2, Rows2, SpanM. -/
/- The plain mathematics of cubes: no program in sight. -/
namespace Rm
open Go Go.RowKit
def tagsB (x : Int) : Bool := decide (0 ≤ x) && decide (x ≤ 15)
def chk (y n : Int) : Int := if tagsB y && tagsB n then (if bits .and .i64 y n == 0 then 0 else 3) else 1
def hasB (y n t : Int) : Bool := bits .andNot .i64 y t == 0 && bits .and .i64 n t == 0
def hasE (y n t : Int) : Int := if chk y n == 0 then (if tagsB t then 0 else 1) else chk y n
def hasR (y n t : Int) : Bool := if hasE y n t == 0 then hasB y n t else false
def Gr (w w' : World) : Prop := Below w.heap.size w w'
theorem Gr.refl (w : World) : Gr w w := Below.refl _ _
theorem Gr.trans {a b c : World} (h : Gr a b) (k : Gr b c) : Gr a c := Below.trans h (Below.mono k h.size)
theorem Gr.drew {a w : World} (h : Gr a w) : Gr a w.drew := Below.drew h
theorem Gr.drewN {a w : World} (h : Gr a w) (n : Nat) : Gr a (w.drewN n) := ⟨h.os, h.tape, h.output, h.size, h.block⟩
theorem Gr.alloc {a w : World} (h : Gr a w) (o : Obj) : Gr a (w.alloc o) := Below.alloc h h.size o
theorem Gr.setCell {a w : World} (h : Gr a w) {p : Addr} (hp : a.heap.size ≤ p.block) (u : Value) : Gr a (w.setCell p u) := Below.setCell h hp u
theorem Gr.le {a w : World} (h : Gr a w) : a.heap.size ≤ w.heap.size := h.size
theorem Gr.cells {W w1 : World} (hb : Gr W w1) : (∀ b o, b < W.heap.size → w1.cell? ⟨b, o, none⟩ = W.cell? ⟨b, o, none⟩) ∧ (∀ b o, b < W.heap.size → w1.frozen? ⟨b, o, none⟩ = W.frozen? ⟨b, o, none⟩) :=
 ⟨fun b o h => Below.cell (p := ⟨b, o, none⟩) hb h, fun b o h => Below.frozen (p := ⟨b, o, none⟩) hb h⟩
def Two (w : World) (b : Nat) (y n : Int) : Prop := b < w.heap.size ∧ w.cell? ⟨b, 0, none⟩ = some (.int .i64 y) ∧ w.cell? ⟨b, 1, none⟩ = some (.int .i64 n)
theorem Two.gr {w w' : World} {b : Nat} {y n : Int} (h : Two w b y n) (g : Gr w w') : Two w' b y n :=
 ⟨Nat.lt_of_lt_of_le h.1 g.le, (g.cells.1 b 0 h.1).trans h.2.1, (g.cells.1 b 1 h.1).trans h.2.2⟩
theorem Two.alloc {w : World} {b : Nat} {y n : Int} (h : Two w b y n) (o : Obj) : Two (w.alloc o) b y n := h.gr ((Gr.refl w).alloc o)
theorem Two.new (w : World) (y n : Int) (t : TypeId) : Two (w.alloc (.cells #[.int .i64 y, .int .i64 n] t)) w.heap.size y n := by
 refine ⟨by simp, ?_, ?_⟩ <;> simp [go_sem]
end Rm
/- The plain mathematics of valid cubes: tag by tag, out of small tables. -/
namespace Rm
open Go Go.RowKit
theorem and16 : ∀ a < 16, ∀ b < 16, bits .and .i64 ((a : Nat) : Int) ((b : Nat) : Int) = ((Nat.land a b : Nat) : Int) := by decide +kernel
theorem tags_of {a : Nat} (h : a < 16) : tagsB (a : Int) = true := by simp [tagsB]; omega
def Vld (y n : Nat) : Prop := y < 16 ∧ n < 16 ∧ Nat.land y n = 0
theorem Vld.chk {y n : Nat} (h : Vld y n) : chk y n = 0 := by
 obtain ⟨h1, h2, h3⟩ := h
 simp [Rm.chk, tags_of h1, tags_of h2, and16 y h1 n h2]
 exact h3
def sub (a b : Nat) : Bool := Nat.land a b == a
end Rm
/- Slices of structs of two integers, read as lists. -/
namespace Rm
open Go Go.RowKit
def flat (l : List (Int × Int)) : List Value := l.flatMap fun p => [.int .i64 p.1, .int .i64 p.2]
theorem flat_cons (p : Int × Int) (l : List (Int × Int)) : flat (p :: l) = .int .i64 p.1 :: .int .i64 p.2 :: flat l := rfl
theorem flat_app (l r : List (Int × Int)) : flat (l ++ r) = flat l ++ flat r := by simp [flat]
theorem flat_len (l : List (Int × Int)) : (flat l).length = l.length * 2 := by
 induction l with
 | nil => rfl
 | cons p l ih => rw [flat_cons]; simp [ih]; omega
theorem flat_at (l : List (Int × Int)) (i : Nat) (p : Int × Int) (h : l[i]? = some p) : (flat l)[i * 2]? = some (.int .i64 p.1) ∧ (flat l)[i * 2 + 1]? = some (.int .i64 p.2) := by
 induction l generalizing i with
 | nil => simp at h
 | cons q l ih =>
  rw [flat_cons]
  cases i with
  | zero => simp at h; subst h; simp
  | succ i =>
   have e : (i + 1) * 2 = i * 2 + 1 + 1 := by omega
   rw [e]
   simpa using ih i (by simpa using h)
theorem flat_one (l : List (Int × Int)) : ∀ u ∈ flat l, u.oneCell' = true := by
 intro u hu
 simp only [flat, List.mem_flatMap] at hu
 obtain ⟨p, _, hp⟩ := hu
 simp at hp
 rcases hp with rfl | rfl <;> rfl
def pairs (l : List (Nat × Nat)) : List (Int × Int) := l.map fun p => ((p.1 : Int), (p.2 : Int))
theorem pairs_app (l : List (Nat × Nat)) (a b : Nat) : pairs (l ++ [(a, b)]) = pairs l ++ [((a : Int), (b : Int))] := by simp [pairs]
theorem pairs_at {l : List (Nat × Nat)} {i : Nat} {c : Nat × Nat} (h : l[i]? = some c) : (pairs l)[i]? = some ((c.1 : Int), (c.2 : Int)) := by simp [pairs, h]
theorem pairs_len (l : List (Nat × Nat)) : (pairs l).length = l.length := by simp [pairs]
def Rd2 (w : World) (v : Value) (l : List (Int × Int)) : Prop :=
  ∃ a c, v = .slice a l.length c ∧ l.length ≤ c ∧ (l ≠ [] → ∃ b off, a = some ⟨b, off, none⟩ ∧ b < w.heap.size ∧
    ∀ i p, l[i]? = some p → w.cell? ⟨b, off + i * 2, none⟩ = some (.int .i64 p.1) ∧ w.cell? ⟨b, off + i * 2 + 1, none⟩ = some (.int .i64 p.2))
theorem Rd2.gr {w w' : World} {v : Value} {l : List (Int × Int)} (h : Rd2 w v l) (g : Gr w w') : Rd2 w' v l := by
 obtain ⟨a, c, e, hc, h⟩ := h
 refine ⟨a, c, e, hc, fun hl => ?_⟩
 obtain ⟨b, off, ea, hb, hx⟩ := h hl
 exact ⟨b, off, ea, Nat.lt_of_lt_of_le hb g.le, fun i p hp => ⟨(g.cells.1 b _ hb).trans (hx i p hp).1, (g.cells.1 b _ hb).trans (hx i p hp).2⟩⟩
theorem Rd2.alloc {w : World} {v : Value} {l : List (Int × Int)} (h : Rd2 w v l) (o : Obj) : Rd2 (w.alloc o) v l := h.gr ((Gr.refl w).alloc o)
theorem Rd2.nil (w : World) : Rd2 w (.slice none 0 0) [] := ⟨none, 0, rfl, Nat.le_refl _, fun h => absurd rfl h⟩
theorem Rd2.own {w : World} {base : Nat} {e : TypeId} {v : Value} {l : List (Int × Int)} (h : w.ownsRow base e 2 v l.length (flat l)) : Rd2 w v l := by
 obtain ⟨hl, h⟩ := h
 rcases h with ⟨rfl, h0⟩ | ⟨g, cap, cur, rfl, _, hg, hn, _, hs, ht⟩
 ·have : l = [] := List.eq_nil_of_length_eq_zero h0
  subst this
  exact Rd2.nil w
 ·refine ⟨_, _, rfl, hn, fun hne => ?_⟩
  have hlt : g < w.heap.size := by
   rcases Nat.lt_or_ge g w.heap.size with h | h
   ·exact h
   ·rw [Array.getElem?_eq_none h] at hg; cases hg
  refine ⟨g, 0, rfl, hlt, fun i p hp => ?_⟩
  have hi : i < l.length := (List.getElem?_eq_some_iff.1 hp).1
  have hf := flat_at l i p hp
  rw [← ht] at hf
  have key : ∀ j, j < l.length * 2 → w.cell? ⟨g, 0 + j, none⟩ = (cur.toList.take (l.length * 2))[j]? := by
   intro j hj
   rw [List.getElem?_take_of_lt hj]
   simp [World.cell?, hg]
  have k2 := key (i * 2 + 1) (by omega)
  rw [← Nat.add_assoc] at k2
  exact ⟨(key (i * 2) (by omega)).trans hf.1, k2.trans hf.2⟩
theorem new2 (w : World) (a b : Int) (t : TypeId) : ∀ j u, ([.int .i64 a, .int .i64 b] : List Value)[j]? = some u → (w.alloc (.cells #[.int .i64 a, .int .i64 b] t)).cell? ((⟨w.heap.size, 0, none⟩ : Addr).add j) = some u := by
 intro j u hu
 match j with
 | 0 => simp at hu; subst hu; simp [go_sem, Addr.add]
 | 1 => simp at hu; subst hu; simp [go_sem, Addr.add]
 | j + 2 => simp at hu
theorem one2 (a b : Int) : ∀ u ∈ ([.int .i64 a, .int .i64 b] : List Value), u.oneCell' = true := by
 intro u hu
 simp at hu
 rcases hu with rfl | rfl <;> rfl
theorem Gr.grown {a w w' : World} {row : Option Nat} (h : Gr a w) (hg : w.grownBy w' row) (hr : ∀ k, row = some k → a.heap.size ≤ k) : Gr a w' := Below.grown h hg h.le hr
end Rm
/- The plain mathematics of sets of integers as sorted lists of intervals: a valid list is told by its members. -/
namespace Rm
def VF : Nat → List (Nat × Nat) → Prop
  | _, [] => True
  | lo, p :: l => lo ≤ p.1 ∧ p.1 < p.2 ∧ p.2 ≤ 32 ∧ VF (p.2 + 1) l
def memS (l : List (Nat × Nat)) (n : Nat) : Prop := ∃ p ∈ l, p.1 ≤ n ∧ n < p.2
theorem memS_nil (n : Nat) : ¬ memS [] n := by rintro ⟨p, hp, _⟩; cases hp
theorem memS_cons (p : Nat × Nat) (l : List (Nat × Nat)) (n : Nat) : memS (p :: l) n ↔ (p.1 ≤ n ∧ n < p.2) ∨ memS l n := by simp [memS]
theorem memS_app (l r : List (Nat × Nat)) (n : Nat) : memS (l ++ r) n ↔ memS l n ∨ memS r n := by
 induction l with
 | nil => simp [memS]
 | cons p l ih => rw [List.cons_append, memS_cons, memS_cons, ih, or_assoc]
theorem memS_one (f t n : Nat) : memS [(f, t)] n ↔ f ≤ n ∧ n < t := by simp [memS]
theorem VF.mono {lo lo' : Nat} {l : List (Nat × Nat)} (h : VF lo l) (hl : lo' ≤ lo) : VF lo' l := by
 cases l with
 | nil => trivial
 | cons p l => exact ⟨by have := h.1; omega, h.2⟩
theorem VF.ge {lo : Nat} {l : List (Nat × Nat)} (h : VF lo l) {n : Nat} (hn : memS l n) : lo ≤ n ∧ n < 32 := by
 induction l generalizing lo with
 | nil => exact absurd hn (memS_nil n)
 | cons p l ih =>
  obtain ⟨h1, h2, h3, h4⟩ := h
  rcases (memS_cons p l n).1 hn with h | h
  ·omega
  ·have := ih h4 h; omega
theorem VF.len {lo : Nat} {l : List (Nat × Nat)} (h : VF lo l) (hl : l ≠ []) : lo + 2 * l.length ≤ 33 := by
 induction l generalizing lo with
 | nil => exact absurd rfl hl
 | cons p l ih =>
  obtain ⟨h1, h2, h3, h4⟩ := h
  cases l with
  | nil => simp; omega
  | cons q l => have := ih h4 (by simp); simp at this ⊢; omega
theorem VF.len16 {l : List (Nat × Nat)} (h : VF 0 l) : l.length ≤ 16 := by
 cases l with
 | nil => simp
 | cons p l => have := h.len (by simp); simp at this ⊢; omega
theorem VF.uniq {a a' : Nat} {l l' : List (Nat × Nat)} (h : VF a l) (h' : VF a' l') (e : ∀ n, memS l n ↔ memS l' n) : l = l' := by
 induction l generalizing a a' l' with
 | nil =>
  cases l' with
  | nil => rfl
  | cons p r =>
   obtain ⟨_, h2, _, _⟩ := h'
   exact absurd ((e p.1).2 ((memS_cons p r p.1).2 (.inl ⟨Nat.le_refl _, h2⟩))) (memS_nil _)
 | cons p l ih =>
  cases l' with
  | nil =>
   obtain ⟨_, h2, _, _⟩ := h
   exact absurd ((e p.1).1 ((memS_cons p l p.1).2 (.inl ⟨Nat.le_refl _, h2⟩))) (memS_nil _)
  | cons q r =>
   obtain ⟨f, t⟩ := p
   obtain ⟨f', t'⟩ := q
   obtain ⟨h1, h2, h3, h4⟩ := h
   obtain ⟨g1, g2, g3, g4⟩ := h'
   simp only at h1 h2 h3 h4 g1 g2 g3 g4
   have ef : f = f' := by
    have a1 := (memS_cons _ _ _).1 ((e f).1 ((memS_cons (f, t) l f).2 (.inl ⟨Nat.le_refl _, h2⟩)))
    have a2 := (memS_cons _ _ _).1 ((e f').2 ((memS_cons (f', t') r f').2 (.inl ⟨Nat.le_refl _, g2⟩)))
    have b1 : f' ≤ f := by
     rcases a1 with a | a
     ·exact a.1
     ·have := g4.ge a; omega
    have b2 : f ≤ f' := by
     rcases a2 with a | a
     ·exact a.1
     ·have := h4.ge a; omega
    omega
   subst ef
   have et : t = t' := by
    rcases Nat.lt_trichotomy t t' with c | c | c
    ·have a2 := (memS_cons _ _ _).1 ((e t).2 ((memS_cons (f, t') r t).2 (.inl ⟨by simp only; omega, c⟩)))
     rcases a2 with a | a
     ·simp only at a; omega
     ·have := h4.ge a; omega
    ·exact c
    ·have a2 := (memS_cons _ _ _).1 ((e t').1 ((memS_cons (f, t) l t').2 (.inl ⟨by simp only; omega, c⟩)))
     rcases a2 with a | a
     ·simp only at a; omega
     ·have := g4.ge a; omega
   subst et
   congr 1
   refine ih h4 g4 fun n => ⟨fun hn => ?_, fun hn => ?_⟩
   ·have := h4.ge hn
    rcases (memS_cons _ _ _).1 ((e n).1 ((memS_cons (f, t) l n).2 (.inr hn))) with a | a
    ·simp only at a; omega
    ·exact a
   ·have := g4.ge hn
    rcases (memS_cons _ _ _).1 ((e n).2 ((memS_cons (f, t) r n).2 (.inr hn))) with a | a
    ·simp only at a; omega
    ·exact a
theorem VF.snoc {lo f t : Nat} {l : List (Nat × Nat)} (h : VF lo l) (hl : ∀ p ∈ l, p.2 < f) (h0 : lo ≤ f) (h1 : f < t) (h2 : t ≤ 32) : VF lo (l ++ [(f, t)]) := by
  induction l generalizing lo with
  | nil => exact ⟨h0, h1, h2, trivial⟩
  | cons p l ih =>
    obtain ⟨a1, a2, a3, a4⟩ := h
    exact ⟨a1, a2, a3, ih a4 (fun q hq => hl q (List.mem_cons_of_mem _ hq)) (by have := hl p (List.mem_cons_self ..); omega)⟩
theorem VF.front {lo f t : Nat} {l : List (Nat × Nat)} (h : VF lo (l ++ [(f, t)])) : VF lo l ∧ (∀ p ∈ l, p.2 < f) ∧ lo ≤ f ∧ f < t ∧ t ≤ 32 := by
 induction l generalizing lo with
 | nil => exact ⟨trivial, by simp, h.1, h.2.1, h.2.2.1⟩
 | cons p l ih =>
  obtain ⟨a1, a2, a3, a4⟩ := h
  obtain ⟨b1, b2, b3, b4, b5⟩ := ih a4
  refine ⟨⟨a1, a2, a3, b1⟩, fun q hq => ?_, by omega, b4, b5⟩
  rcases List.mem_cons.1 hq with rfl | hq
  ·omega
  ·exact b2 q hq
def push (l : List (Nat × Nat)) (n : Nat) : List (Nat × Nat) :=
  match l.getLast? with
  | some p => if p.2 = n then l.dropLast ++ [(p.1, n + 1)] else l ++ [(n, n + 1)]
  | none => [(n, n + 1)]
def listTo (s : Nat → Bool) : Nat → List (Nat × Nat)
 | 0 => []
 | n + 1 => if s n then push (listTo s n) n else listTo s n
theorem push_nil (n : Nat) : push [] n = [(n, n + 1)] := rfl
theorem push_snoc (l : List (Nat × Nat)) (f t n : Nat) : push (l ++ [(f, t)]) n = if t = n then l ++ [(f, n + 1)] else l ++ [(f, t)] ++ [(n, n + 1)] := by
 simp [push]
theorem push_ok {l : List (Nat × Nat)} {n : Nat} (h : VF 0 l) (hl : ∀ p ∈ l, p.2 ≤ n) (hn : n < 32) :
  VF 0 (push l n) ∧ (∀ p ∈ push l n, p.2 ≤ n + 1) ∧ ∀ i, memS (push l n) i ↔ memS l i ∨ i = n := by
 rcases List.eq_nil_or_concat l with rfl | ⟨l, ⟨f, t⟩, rfl⟩
 ·rw [push_nil]
  refine ⟨⟨by omega, by simp, by simp; omega, trivial⟩, by simp, fun i => ?_⟩
  rw [memS_one]
  simp [memS]
  omega
 ·rw [List.concat_eq_append] at *
  obtain ⟨a1, a2, a3, a4, a5⟩ := h.front
  have ht : t ≤ n := hl (f, t) (by simp)
  rw [push_snoc]
  split
  ·rename_i e
   subst e
   refine ⟨a1.snoc a2 a3 (by omega) (by omega), fun p hp => ?_, fun i => ?_⟩
   ·rcases List.mem_append.1 hp with hp | hp
    ·have := a2 p hp; omega
    ·simp at hp; subst hp; simp
   ·rw [memS_app, memS_app, memS_one, memS_one, or_assoc]
    have : (f ≤ i ∧ i < t + 1) ↔ ((f ≤ i ∧ i < t) ∨ i = t) := by omega
    rw [this]
  ·rename_i e
   refine ⟨h.snoc (fun p hp => ?_) (by omega) (by omega) (by omega), fun p hp => ?_, fun i => ?_⟩
   ·rcases List.mem_append.1 hp with hp | hp
    ·have := a2 p hp; omega
    ·simp at hp; subst hp; simp; omega
   ·rcases List.mem_append.1 hp with hp | hp
    ·have := hl p hp; omega
    ·simp at hp; subst hp; simp
   ·rw [memS_app (l ++ [(f, t)]), memS_one]
    have : (n ≤ i ∧ i < n + 1) ↔ i = n := by omega
    rw [this]
theorem listTo_ok (s : Nat → Bool) : ∀ n, n ≤ 32 → VF 0 (listTo s n) ∧ (∀ p ∈ listTo s n, p.2 ≤ n) ∧ ∀ i, memS (listTo s n) i ↔ i < n ∧ s i = true
 | 0, _ => ⟨trivial, by simp [listTo], fun i => by simp [listTo, memS]⟩
 | n + 1, h => by
  obtain ⟨h1, h2, h3⟩ := listTo_ok s n (by omega)
  unfold listTo
  cases hs : s n
  ·simp only [Bool.false_eq_true, if_false]
   refine ⟨h1, fun p hp => by have := h2 p hp; omega, fun i => ?_⟩
   rw [h3]
   constructor
   ·rintro ⟨a, b⟩; exact ⟨by omega, b⟩
   ·rintro ⟨a, b⟩
    refine ⟨?_, b⟩
    rcases Nat.lt_or_ge i n with c | c
    ·exact c
    ·have : i = n := by omega
     subst this
     rw [hs] at b; cases b
  ·simp only [if_true]
   obtain ⟨g1, g2, g3⟩ := push_ok h1 h2 (by omega)
   refine ⟨g1, g2, fun i => ?_⟩
   rw [g3, h3]
   constructor
   ·rintro (⟨a, b⟩ | rfl)
    ·exact ⟨by omega, b⟩
    ·exact ⟨by omega, hs⟩
   ·rintro ⟨a, b⟩
    rcases Nat.lt_or_ge i n with c | c
    ·exact .inl ⟨c, b⟩
    ·exact .inr (by omega)
def pre (l : List (Nat × Nat)) (n : Nat) : List (Nat × Nat) :=
  match l with
  | [] => [(n, n + 1)]
  | p :: r => if p.1 = n + 1 then (n, p.2) :: r else (n, n + 1) :: p :: r
def toldTo (s : Nat → Bool) : Nat → List (Nat × Nat)
 | 0 => []
 | k + 1 => if s (31 - k) then pre (toldTo s k) (31 - k) else toldTo s k
theorem pre_ok {l : List (Nat × Nat)} {n : Nat} (h : VF (n + 1) l) (hn : n < 32) : VF n (pre l n) ∧ ∀ i, memS (pre l n) i ↔ memS l i ∨ i = n := by
 cases l with
 | nil =>
  refine ⟨⟨Nat.le_refl _, by simp, by simp; omega, trivial⟩, fun i => ?_⟩
  simp only [pre]
  rw [memS_one]
  simp [memS]
  omega
 | cons p r =>
  obtain ⟨f, t⟩ := p
  obtain ⟨a1, a2, a3, a4⟩ := h
  simp only at a1 a2 a3 a4
  simp only [pre]
  split
  ·rename_i e
   subst e
   refine ⟨⟨Nat.le_refl _, by simp only; omega, a3, a4⟩, fun i => ?_⟩
   rw [memS_cons, memS_cons]
   simp only
   have : (n ≤ i ∧ i < t) ↔ ((n + 1 ≤ i ∧ i < t) ∨ i = n) := by omega
   rw [this]
   constructor
   ·rintro ((c | c) | c)
    ·exact .inl (.inl c)
    ·exact .inr c
    ·exact .inl (.inr c)
   ·rintro ((c | c) | c)
    ·exact .inl (.inl c)
    ·exact .inr c
    ·exact .inl (.inr c)
  ·rename_i e
   refine ⟨⟨Nat.le_refl _, by simp, by simp; omega, ⟨by simp only; omega, a2, a3, a4⟩⟩, fun i => ?_⟩
   rw [memS_cons]
   simp only
   have : (n ≤ i ∧ i < n + 1) ↔ i = n := by omega
   rw [this]
   exact or_comm
theorem toldTo_ok (s : Nat → Bool) : ∀ k, k ≤ 32 → VF (32 - k) (toldTo s k) ∧ ∀ i, memS (toldTo s k) i ↔ 32 - k ≤ i ∧ i < 32 ∧ s i = true
 | 0, _ => ⟨trivial, fun i => by simp [toldTo, memS]; omega⟩
 | k + 1, h => by
  obtain ⟨h1, h2⟩ := toldTo_ok s k (by omega)
  unfold toldTo
  have e : 32 - (k + 1) = 31 - k := by omega
  have e2 : 32 - k = 31 - k + 1 := by omega
  rw [e]
  rw [e2] at h1 h2
  generalize 31 - k = n at *
  cases hs : s n
  ·simp only [Bool.false_eq_true, if_false]
   refine ⟨h1.mono (by omega), fun i => ?_⟩
   rw [h2]
   constructor
   ·rintro ⟨a, b, c⟩; exact ⟨by omega, b, c⟩
   ·rintro ⟨a, b, c⟩
    refine ⟨?_, b, c⟩
    rcases Nat.lt_or_ge n i with d | d
    ·omega
    ·have : i = n := by omega
     subst this
     rw [hs] at c; cases c
  ·simp only [if_true]
   have hn : n < 32 := by omega
   obtain ⟨g1, g2⟩ := pre_ok h1 hn
   refine ⟨g1, fun i => ?_⟩
   rw [g2, h2]
   constructor
   ·rintro (⟨a, b, c⟩ | rfl)
    ·exact ⟨by omega, b, c⟩
    ·exact ⟨Nat.le_refl _, hn, hs⟩
   ·rintro ⟨a, b, c⟩
    rcases Nat.lt_or_ge n i with d | d
    ·exact .inl ⟨by omega, b, c⟩
    ·exact .inr (by omega)
theorem told_eq (s : Nat → Bool) : toldTo s 32 = listTo s 32 := by
 obtain ⟨a1, a2⟩ := toldTo_ok s 32 (by omega)
 obtain ⟨b1, _, b2⟩ := listTo_ok s 32 (by omega)
 refine a1.uniq b1 fun n => ?_
 rw [a2, b2]
 constructor
 ·rintro ⟨_, h⟩; exact h
 ·rintro h; exact ⟨by omega, h⟩
def canon (m : Nat) : List (Nat × Nat) := listTo m.testBit 32
theorem canon_VF (m : Nat) : VF 0 (canon m) := (listTo_ok _ 32 (by omega)).1
theorem canon_mem (m i : Nat) : memS (canon m) i ↔ i < 32 ∧ m.testBit i = true := (listTo_ok _ 32 (by omega)).2.2 i
def orTo (m f : Nat) : Nat → Nat
  | 0 => m
  | k + 1 => orTo m f k ||| 2 ^ (f + k)
def maskL (l : List (Nat × Nat)) : Nat := l.foldl (fun m p => orTo m p.1 (p.2 - p.1)) 0
theorem maskL_snoc (l : List (Nat × Nat)) (p : Nat × Nat) : maskL (l ++ [p]) = orTo (maskL l) p.1 (p.2 - p.1) := by simp [maskL]
theorem orTo_bit (m f k i : Nat) : (orTo m f k).testBit i = (m.testBit i || decide (f ≤ i ∧ i < f + k)) := by
 induction k with
 | zero =>
  simp [orTo]
  omega
 | succ k ih =>
  simp only [orTo, Nat.testBit_or, ih, Nat.testBit_two_pow, Bool.or_assoc]
  congr 1
  rw [Bool.eq_iff_iff]
  simp
  omega
theorem orTo_lt {m f k : Nat} (hm : m < 2 ^ 32) (h : f + k ≤ 32) : orTo m f k < 2 ^ 32 := by
 induction k with
 | zero => exact hm
 | succ k ih => exact Nat.or_lt_two_pow (ih (by omega)) (Nat.pow_lt_pow_right (by omega) (by omega))
theorem foldl_bit (l : List (Nat × Nat)) (m i : Nat) (hl : ∀ p ∈ l, p.1 ≤ p.2) : (l.foldl (fun m p => orTo m p.1 (p.2 - p.1)) m).testBit i = true ↔ m.testBit i = true ∨ memS l i := by
 induction l generalizing m with
 | nil => simp [memS]
 | cons p l ih =>
  rw [List.foldl_cons, ih _ (fun q hq => hl q (List.mem_cons_of_mem _ hq)), orTo_bit, memS_cons]
  have := hl p (List.mem_cons_self ..)
  simp only [Bool.or_eq_true, decide_eq_true_eq, or_assoc]
  have e : p.1 + (p.2 - p.1) = p.2 := by omega
  rw [e]
theorem VF.le {lo : Nat} {l : List (Nat × Nat)} (h : VF lo l) : ∀ p ∈ l, p.1 < p.2 ∧ p.2 ≤ 32 := by
 induction l generalizing lo with
 | nil => simp
 | cons q l ih =>
  obtain ⟨_, h2, h3, h4⟩ := h
  intro p hp
  rcases List.mem_cons.1 hp with rfl | hp
  ·exact ⟨h2, h3⟩
  ·exact ih h4 p hp
theorem maskL_bit {l : List (Nat × Nat)} (h : VF 0 l) (i : Nat) : (maskL l).testBit i = true ↔ memS l i := by
 unfold maskL
 rw [foldl_bit l 0 i (fun p hp => Nat.le_of_lt (h.le p hp).1)]
 simp
theorem foldl_lt (l : List (Nat × Nat)) (m : Nat) (hm : m < 2 ^ 32) (hl : ∀ p ∈ l, p.1 < p.2 ∧ p.2 ≤ 32) : l.foldl (fun m p => orTo m p.1 (p.2 - p.1)) m < 2 ^ 32 := by
 induction l generalizing m with
 | nil => exact hm
 | cons p l ih =>
  have := hl p (List.mem_cons_self ..)
  exact ih _ (orTo_lt hm (by omega)) (fun q hq => hl q (List.mem_cons_of_mem _ hq))
theorem maskL_lt {l : List (Nat × Nat)} (hl : ∀ p ∈ l, p.1 < p.2 ∧ p.2 ≤ 32) : maskL l < 2 ^ 32 := foldl_lt l 0 (by decide) hl
theorem maskL_canon {m : Nat} (hm : m < 2 ^ 32) : maskL (canon m) = m := by
 apply Nat.eq_of_testBit_eq
 intro i
 rw [Bool.eq_iff_iff, maskL_bit (canon_VF m), canon_mem]
 refine ⟨fun a => a.2, fun a => ⟨?_, a⟩⟩
 rcases Nat.lt_or_ge i 32 with c | c
 ·exact c
 ·have := Nat.testBit_lt_two_pow (Nat.lt_of_lt_of_le hm (Nat.pow_le_pow_right (by omega) c))
  rw [this] at a; cases a
end Rm
/- A walk by single laws over any frame: slots as equations, worlds as letters. -/
namespace Gx
open Go Go.RowKit Rm
/-! frames -/
structure Ok (N : Nat) (a : Act) : Prop where
 size : a.tmps.size = N
 dfr : a.defers = []
structure Nx (N : Nat) (a a' : Act) (d : Nat) (v : Value) : Prop where
  ok : Ok N a'
  at_ : a'.eval (.tmp d) = v
  oth : ∀ t, Nat.beq t d = false → a'.eval (.tmp t) = a.eval (.tmp t)
theorem Nx.ne {N d t : Nat} {a a' : Act} {v u : Value} (n : Nx N a a' d v) (h : Nat.beq t d = false) (e : a.eval (.tmp t) = u) : a'.eval (.tmp t) = u := (n.oth t h).trans e
theorem put_ne (a : Act) (d : Nat) (v : Value) (t : Nat) (h : t ≠ d) : (a.put (some d) v).eval (.tmp t) = a.eval (.tmp t) := by
 simp only [Act.put, Act.eval, Array.getD_eq_getD_getElem?]
 rw [Array.getElem?_setIfInBounds_ne (Ne.symm h)]
theorem put_eq (a : Act) (d : Nat) (v : Value) (h : d < a.tmps.size) : (a.put (some d) v).eval (.tmp d) = v := by
 simp only [Act.put, Act.eval, Array.getD_eq_getD_getElem?]
 rw [Array.getElem?_setIfInBounds_self_of_lt h]
 rfl
theorem Nx.put {N d : Nat} {a : Act} (ok : Ok N a) (hd : Nat.blt d N = true) (v : Value) : Nx N a (a.put (some d) v) d v where
 ok := ⟨by rw [← ok.size]; simp [Act.put], by rw [← ok.dfr]; rfl⟩
 at_ := put_eq a d v (by rw [ok.size]; simpa using hd)
 oth t h := put_ne a d v t (Nat.ne_of_beq_eq_false h)
/-! a list of operations -/
section
variable {P : Program} {ops : Array Oper} {Q : Exit → Act → World → Prop} {rest : List Oper} {o : Oper} {a : Act} {w w' : World} {d N : Nat} {v : Value}
theorem wn (f : Nat → Option Bool) (h : o.guard = none) : Region.wanted o f = true := by unfold Region.wanted; rw [h]
theorem s_step (hw : Region.wanted o (yielded ops a.tmps) = true) (h : o.wp P a w (wpList P ops Q rest) Q) : wpList P ops Q (o :: rest) a w := by
 unfold wpList
 rw [if_pos hw]
 exact .inl h
theorem sv (ok : Ok N a) (hd : o.dst = some d) (hw : Region.wanted o (yielded ops a.tmps) = true) (hN : Nat.blt d N = true) (hrun : (execOp a.eval o).run P w = .ok (.value v) w')
    (h : ∀ a', Nx N a a' d v → wpList P ops Q rest a' w') : wpList P ops Q (o :: rest) a w := by
  refine s_step hw ?_
  unfold Oper.wp
  rw [hrun]
  show wpList P ops Q rest (a.put o.dst v) w'
  rw [hd]
  exact h _ (Nx.put ok hN v)
theorem Nx.n {N d t : Nat} {a a' : Act} {v u : Value} (n : Nx N a a' d v) (e : a.eval (.tmp t) = u) (h : Nat.beq t d = false := by rfl) : a'.eval (.tmp t) = u := (n.oth t h).trans e
theorem sw (ok : Ok N a) (hrun : (execOp a.eval o).run P w = .ok (.value v) w') (h : ∀ a', Nx N a a' d v → wpList P ops Q rest a' w') (hd : o.dst = some d := by rfl) (hg : o.guard = none := by rfl) (hN : Nat.blt d N = true := by rfl) : wpList P ops Q (o :: rest) a w := sv ok hd (wn _ hg) hN hrun h
theorem sc {f : FuncId} {args : Array Value} {R : Ending → World → Prop} (ok : Ok N a) (hd : o.dst = some d) (hw : Region.wanted o (yielded ops a.tmps) = true) (hN : Nat.blt d N = true) (hrun : (execOp a.eval o).run P w = .ok (.enter f args) w)
    (hc : Calls P f args w R) (h : ∀ e w', R e w' → ∃ v, e = .returned v ∧ ∀ a', Nx N a a' d v → wpList P ops Q rest a' w') : wpList P ops Q (o :: rest) a w := by
  refine s_step hw ?_
  unfold Oper.wp
  rw [hrun, Oper.upon_enter]
  refine hc.mono ?_
  intro e w' hR
  obtain ⟨v, rfl, hk⟩ := h e w' hR
  show wpList P ops Q rest (a.put o.dst v) w'
  rw [hd]
  exact hk _ (Nx.put ok hN v)
theorem sn (ok : Ok N a) (hd : o.dst = some d) (hw : Region.wanted o (yielded ops a.tmps) = false) (hN : Nat.blt d N = true) (h : ∀ a', Nx N a a' d undef → wpList P ops Q rest a' w) : wpList P ops Q (o :: rest) a w := by
  unfold wpList
  rw [if_neg (by rw [hw]; simp), hd]
  exact h _ (Nx.put ok hN _)
theorem ss (hd : o.dst = none) (hw : Region.wanted o (yielded ops a.tmps) = true) (hrun : (execOp a.eval o).run P w = .ok .skip w') (h : wpList P ops Q rest a w') : wpList P ops Q (o :: rest) a w := by
  refine s_step hw ?_
  unfold Oper.wp
  rw [hrun]
  show wpList P ops Q rest (a.put o.dst undef) w'
  rw [hd]
  exact h
theorem yl (f : Nat) (b : Bool) (h : (ops[f]?).bind (·.dst) = some d) (hv : a.eval (.tmp d) = .bool b) : yielded ops a.tmps f = some b := by
 unfold yielded
 rw [h]
 simp only [Act.eval, Array.getD_eq_getD_getElem?] at hv
 simp only [Option.bind_some]
 cases hc : a.tmps[d]? with
 | none => rw [hc] at hv; cases hv
 | some u => rw [hc] at hv; simp only [Option.getD_some] at hv; subst hv; rfl
theorem wgT {f : Nat → Option Bool} {j : Nat} {b b' : Bool} (h : o.guard = some (j, b')) (hf : f j = some b) (hb : (b == b') = true) : Region.wanted o f = true := by
 unfold Region.wanted; rw [h]; simp only [hf]; cases b <;> cases b' <;> first | rfl | cases hb
theorem wgF {f : Nat → Option Bool} {j : Nat} {b b' : Bool} (h : o.guard = some (j, b')) (hf : f j = some b) (hb : (b == b') = false) : Region.wanted o f = false := by
 unfold Region.wanted; rw [h]; simp only [hf]; cases b <;> cases b' <;> first | rfl | cases hb
end
/-! worlds -/
def Bk (w : World) (b : Nat) (cs : Array Value) (t : TypeId) : Prop := w.heap[b]? = some (.cells cs t (0, 0))
theorem Bk.lt {w : World} {b : Nat} {cs : Array Value} {t : TypeId} (h : Bk w b cs t) : b < w.heap.size := (Array.getElem?_eq_some_iff.1 h).1
theorem Bk.gr {w w' : World} {b : Nat} {cs : Array Value} {t : TypeId} (h : Bk w b cs t) (g : Gr w w') : Bk w' b cs t := (Below.block g b h.lt).trans h
theorem Bk.cell {w : World} {b : Nat} {cs : Array Value} {t : TypeId} (h : Bk w b cs t) (k : Nat) {v : Value} (hv : cs[k]? = some v) : w.cell? ⟨b, k, none⟩ = some v := by
 unfold World.cell?
 rw [show w.heap[(⟨b, k, none⟩ : Addr).block]? = some (.cells cs t (0, 0)) from h]
 simpa using hv
theorem Bk.frozen {w : World} {b : Nat} {cs : Array Value} {t : TypeId} (h : Bk w b cs t) (k : Nat) : w.frozen? ⟨b, k, none⟩ = false := by
 unfold World.frozen?
 rw [show w.heap[(⟨b, k, none⟩ : Addr).block]? = some (.cells cs t (0, 0)) from h]
 simp
structure New (w w' : World) (b : Nat) (cs : Array Value) (t : TypeId) : Prop where
  gr : Gr w w'
  eq : b = w.heap.size
  bk : Bk w' b cs t
  sz : w'.heap.size = b + 1
theorem New.mk' (w : World) (cs : Array Value) (t : TypeId) : New w (w.alloc (.cells cs t)) w.heap.size cs t where
 gr := Below.alloc (Below.refl _ _) (Nat.le_refl _) _
 eq := rfl
 bk := by show (w.heap.push _)[w.heap.size]? = _; simp
 sz := World.size_alloc _ _
structure Upd (w w' : World) (b : Nat) : Prop where
  os : w'.os = w.os
  tape : w'.tape = w.tape
  output : w'.output = w.output
  size : w'.heap.size = w.heap.size
  oth : ∀ k, k ≠ b → w'.heap[k]? = w.heap[k]?
theorem Below.upd {B b : Nat} {a w w' : World} (h : Below B a w) (hb : B ≤ b) (u : Upd w w' b) : Below B a w' :=
 ⟨u.os.trans h.os, u.tape.trans h.tape, u.output.trans h.output, by rw [u.size]; exact h.size, fun k hk => (u.oth k (by omega)).trans (h.block k hk)⟩
theorem Bk.upd {w w' : World} {b c : Nat} {cs : Array Value} {t : TypeId} (h : Bk w b cs t) (u : Upd w w' c) (hn : b ≠ c) : Bk w' b cs t := (u.oth b hn).trans h
theorem upd_row (w : World) (b : Nat) (cs : Array Value) : Upd w (w.setRow b cs) b where
 os := rfl
 tape := rfl
 output := rfl
 size := by simp [World.setRow]
 oth k hk := by simp [World.setRow, Array.getElem?_modify, Ne.symm hk]
theorem upd_cell (w : World) (b k : Nat) (v : Value) : Upd w (w.setCell ⟨b, k, none⟩ v) b where
 os := rfl
 tape := rfl
 output := rfl
 size := by simp
 oth j hj := Below.heap_setCell _ _ _ _ hj
theorem Bk.row {w : World} {b : Nat} {cs : Array Value} {t : TypeId} (h : Bk w b cs t) (cs' : Array Value) : Bk (w.setRow b cs') b cs' t := setRow_heap _ _ _ _ _ _ h
theorem Bk.set {w : World} {b : Nat} {cs : Array Value} {t : TypeId} (h : Bk w b cs t) (k : Nat) (v : Value) : Bk (w.setCell ⟨b, k, none⟩ v) b (cs.setIfInBounds k v) t := by
 unfold Bk at *
 simp [World.setCell, Array.getElem?_modify, h]
/-! a region that draws its order: every operation says what it leaves, whatever came ahead of it besides what it waits for -/
abbrev Js := List (Nat × (Value → World → Prop))
def jAt : Js → Nat → Value → World → Prop
 | [], _ => fun _ _ => True
 | (k, J) :: r, i => bif Nat.beq k i then J else jAt r i
def waits (o : Oper) (j : Nat) : Bool := o.after.toList.any fun e => Region.binds .any e && Nat.beq e.on j
def fd (ops : Array Oper) (m : Nat) : List Nat := (ops.toList.take m).filterMap (·.dst)
theorem fd_mem {ops : Array Oper} {m i d : Nat} {o : Oper} (ho : ops[i]? = some o) (hi : i < m) (hd : o.dst = some d) : d ∈ fd ops m := by
 unfold fd
 rw [List.mem_filterMap]
 refine ⟨o, ?_, hd⟩
 have h1 : ops.toList[i]? = some o := by simpa using ho
 refine List.mem_of_getElem? (i := i) ?_
 rw [List.getElem?_take_of_lt hi]
 exact h1
def backs (ops : Array Oper) : Bool := (List.range ops.size).all fun i => match ops[i]? with | some o => o.after.toList.all fun e => !(Region.binds .any e) || Nat.blt e.on i | none => true
theorem backs_spec {ops : Array Oper} (h : backs ops = true) (i : Nat) (o : Oper) (ho : ops[i]? = some o) : ∀ e ∈ o.after, Region.binds .any e = true → e.on < i := by
 intro e he hbd
 have hlt : i < ops.size := (Array.getElem?_eq_some_iff.1 ho).1
 have := List.all_eq_true.1 h i (List.mem_range.2 hlt)
 rw [ho] at this
 have := List.all_eq_true.1 this e (by simpa using he)
 rw [hbd] at this
 simpa using this
def dstAt (ops : Array Oper) (i : Nat) : Nat := ((ops[i]?).bind (·.dst)).getD 0
structure Pre (ops : Array Oper) (m : Nat) (js : Js) (N : Nat) (a₀ : Act) (w₀ : World) (o : Oper) (a : Act) (w : World) : Prop where
  ok : Ok N a
  gr : Gr w₀ w
  old : ∀ t, (fd ops m).all (fun d => !Nat.beq t d) = true → a.eval (.tmp t) = a₀.eval (.tmp t)
  pre : ∀ j, waits o j = true → jAt js j (a.eval (.tmp (dstAt ops j))) w
def isAl (o : Oper) : Bool := match o.op with | .alloc _ => true | .box _ _ => true | _ => false
def Does (P : Program) (ops : Array Oper) (Q : Exit → Act → World → Prop) (J : Value → World → Prop) (o : Oper) (a : Act) (w : World) : Prop :=
  if Region.wanted o (yielded ops a.tmps) = true then o.wp P a w (fun a' w' => ∃ v, a' = a.put o.dst v ∧ Gr w w' ∧ J v w' ∧ (isAl o = true → v = .pointer (some ⟨w.heap.size, 0, none⟩) ∧ w.heap.size < w'.heap.size)) Q else J undef w ∧ isAl o = false
theorem Does.val {P : Program} {ops : Array Oper} {Q : Exit → Act → World → Prop} {J : Value → World → Prop} {o : Oper} {a : Act} {w w' : World} {v : Value} (hw : Region.wanted o (yielded ops a.tmps) = true)
  (hrun : (execOp a.eval o).run P w = .ok (.value v) w') (g : Gr w w') (h : J v w') (hal : isAl o = false) : Does P ops Q J o a w := by
 unfold Does
 rw [if_pos hw]
 unfold Oper.wp
 rw [hrun]
 exact ⟨v, rfl, g, h, fun e => by rw [hal] at e; cases e⟩
theorem Does.alloc {P : Program} {ops : Array Oper} {Q : Exit → Act → World → Prop} {J : Value → World → Prop} {o : Oper} {a : Act} {w : World} {x : Obj} (hw : Region.wanted o (yielded ops a.tmps) = true)
  (hrun : (execOp a.eval o).run P w = .ok (.value (.pointer (some ⟨w.heap.size, 0, none⟩))) (w.alloc x)) (h : J (.pointer (some ⟨w.heap.size, 0, none⟩)) (w.alloc x)) : Does P ops Q J o a w := by
 unfold Does
 rw [if_pos hw]
 unfold Oper.wp
 rw [hrun]
 exact ⟨_, rfl, (Gr.refl w).alloc x, h, fun _ => ⟨rfl, by rw [World.size_alloc]; omega⟩⟩
theorem Does.call {P : Program} {ops : Array Oper} {Q : Exit → Act → World → Prop} {J : Value → World → Prop} {o : Oper} {a : Act} {w : World} {f : FuncId} {args : Array Value} {R : Ending → World → Prop} (hw : Region.wanted o (yielded ops a.tmps) = true)
  (hrun : (execOp a.eval o).run P w = .ok (.enter f args) w) (hc : Calls P f args w R) (h : ∀ e w', R e w' → ∃ v, e = .returned v ∧ Gr w w' ∧ J v w') (hal : isAl o = false) : Does P ops Q J o a w := by
 unfold Does
 rw [if_pos hw]
 unfold Oper.wp
 rw [hrun, Oper.upon_enter]
 refine hc.mono ?_
 intro e w' hR
 obtain ⟨v, rfl, g, hj⟩ := h e w' hR
 exact ⟨v, rfl, g, hj, fun e => by rw [hal] at e; cases e⟩
theorem Does.not {P : Program} {ops : Array Oper} {Q : Exit → Act → World → Prop} {J : Value → World → Prop} {o : Oper} {a : Act} {w : World} (hw : Region.wanted o (yielded ops a.tmps) = false) (h : J undef w) (hal : isAl o = false) : Does P ops Q J o a w := by
 unfold Does
 rw [if_neg (by rw [hw]; simp)]
 exact ⟨h, hal⟩
structure Reg (P : Program) (ops : Array Oper) (Q : Exit → Act → World → Prop) (N : Nat) (a₀ : Act) (w₀ : World) (m n : Nat) (js : Js) : Prop where
  back : backs ops = true
  top : ∀ i, n ≤ i → jAt js i = fun _ _ => True
  mono : ∀ i v w w', Gr w w' → jAt js i v w → jAt js i v w'
  does : ∀ i o, i < n → ops[i]? = some o → ∀ a w, Pre ops m js N a₀ w₀ o a w → Does P ops Q (jAt js i) o a w
section
variable {P : Program} {ops : Array Oper} {Q : Exit → Act → World → Prop} {N : Nat} {a₀ : Act} {w₀ : World}
theorem jAt_ne {js : Js} {J : Value → World → Prop} {n i : Nat} (h : n ≠ i) : jAt ((n, J) :: js) i = jAt js i := by
 have : Nat.beq n i = false := by
  cases e : Nat.beq n i
  ·rfl
  ·exact absurd (Nat.eq_of_beq_eq_true e) h
 simp [jAt, this]
theorem jAt_eq {js : Js} {J : Value → World → Prop} {n : Nat} : jAt ((n, J) :: js) n = J := by simp [jAt]
theorem Reg.nil {m : Nat} (hb : backs ops = true) : Reg P ops Q N a₀ w₀ m 0 [] := ⟨hb, fun _ _ => rfl, fun i v w w' _ _ => trivial, fun i o h => by cases h⟩
theorem Reg.snoc {m n n' : Nat} {js : Js} (R : Reg P ops Q N a₀ w₀ m n js) (hn : n + 1 = n') (J : Value → World → Prop) {o : Oper} (ho : ops[n]? = some o) (hm : ∀ v w w', Gr w w' → J v w → J v w')
    (h : ∀ a w, Pre ops m js N a₀ w₀ o a w → Does P ops Q J o a w) : Reg P ops Q N a₀ w₀ m n' ((n, J) :: js) where
  back := R.back
  top i hi := by rw [jAt_ne (by omega)]; exact R.top i (by omega)
  mono i v w w' g hj := by
    by_cases q : n = i
    · subst q; rw [jAt_eq] at *; exact hm v w w' g hj
    · rw [jAt_ne q] at *; exact R.mono i v w w' g hj
  does i o' hi ho' a w p := by
    have p' : Pre ops m js N a₀ w₀ o' a w := by
      refine ⟨p.ok, p.gr, p.old, fun j hj => ?_⟩
      have h1 := p.pre j hj
      have hlt : j < n := by
        unfold waits at hj
        obtain ⟨e, he, hh⟩ := List.any_eq_true.1 hj
        have h2 := backs_spec R.back i o' ho' e (by simpa using he) (Bool.and_eq_true_iff.1 hh).1
        simp only [Bool.and_eq_true] at hh
        have h3 := Nat.eq_of_beq_eq_true hh.2
        omega
      rwa [jAt_ne (by omega)] at h1
    by_cases q : n = i
    · subst q
      rw [jAt_eq]
      obtain rfl : o = o' := Option.some.inj (ho.symm.trans ho')
      exact h a w p'
    · rw [jAt_ne q]
      exact R.does i o' (by omega) ho' a w p'
def reach (ops : Array Oper) : Nat → Nat → Nat → Bool
  | 0, _, _ => false
  | n + 1, i, j => match ops[i]? with
    | none => false
    | some o => o.after.toList.any fun e => Region.binds .any e && (Nat.beq e.on j || reach ops n e.on j)
def shape (ops : Array Oper) (m : Nat) : Bool :=
  Nat.ble m ops.size &&
  ((List.range m).all fun i => ((ops[i]?).bind (·.dst)).isSome && ((List.range i).all fun j => !Nat.beq (dstAt ops j) (dstAt ops i))) &&
  ((List.range ops.size).all fun i => Nat.blt i m || ((List.range m).all fun j => reach ops ops.size i j))
def alAt (ops : Array Oper) (i : Nat) : Bool := match ops[i]? with | some o => isAl o | none => false
def firsts (n m : Nat) : Array Bool := ((List.range n).map fun i => Nat.blt i m).toArray
structure Post (ops : Array Oper) (m : Nat) (js : Js) (N : Nat) (a₀ : Act) (w₀ : World) (a : Act) (w : World) : Prop where
  ok : Ok N a
  gr : Gr w₀ w
  old : ∀ t, (fd ops m).all (fun d => !Nat.beq t d) = true → a.eval (.tmp t) = a₀.eval (.tmp t)
  js : ∀ j, Nat.blt j m = true → jAt js j (a.eval (.tmp (dstAt ops j))) w
  dis : ∀ i j b b', Nat.blt i m = true → Nat.blt j m = true → Nat.beq i j = false → alAt ops i = true → alAt ops j = true → a.eval (.tmp (dstAt ops i)) = .pointer (some ⟨b, 0, none⟩) → a.eval (.tmp (dstAt ops j)) = .pointer (some ⟨b', 0, none⟩) → b ≠ b'
def Closed (ops : Array Oper) (L : Array Bool) : Prop := ∀ i o, L.getD i false = true → ops[i]? = some o → ∀ e ∈ o.after, Region.binds .any e = true → L.getD e.on false = true
theorem reach_listed {L : Array Bool} (hc : Closed ops L) : ∀ n i j, (∀ o, ops[i]? = some o → ∀ e ∈ o.after, Region.binds .any e = true → L.getD e.on false = true) → reach ops n i j = true → L.getD j false = true := by
 intro n
 induction n with
 | zero => intro i j _ h; cases h
 | succ n ih =>
  intro i j hi h
  unfold reach at h
  cases ho : ops[i]? with
  | none => rw [ho] at h; cases h
  | some o =>
   rw [ho] at h
   obtain ⟨e, he, hh⟩ := List.any_eq_true.1 h
   have he : e ∈ o.after := by simpa using he
   simp only [Bool.and_eq_true, Bool.or_eq_true] at hh
   have h1 := hi o ho e he hh.1
   rcases hh.2 with q | q
   ·have q' := Nat.eq_of_beq_eq_true q; rw [← q']; exact h1
   ·exact ih e.on j (fun o' ho' e' he' hb' => hc e.on o' h1 ho' e' he' hb') q
theorem getD_lt {L : Array Bool} {i : Nat} (h : i < L.size) (b c : Bool) : L.getD i b = L.getD i c := by
 simp [Array.getD, h]
structure Way (ops : Array Oper) (m : Nat) (js : Js) (N : Nat) (a₀ : Act) (w₀ : World) (U : List Nat) (L : Array Bool) (a : Act) (w : World) : Prop where
  ok : Ok N a
  gr : Gr w₀ w
  old : ∀ t, (fd ops m).all (fun d => !Nat.beq t d) = true → a.eval (.tmp t) = a₀.eval (.tmp t)
  size : L.size = ops.size
  closed : Closed ops L
  nodup : U.Nodup
  un : ∀ j, j < m → (L.getD j false = false ↔ j ∈ U)
  lt : ∀ j ∈ U, j < m
  tail : ∀ j, m ≤ j → L.getD j false = false
  js : ∀ j, j < m → L.getD j false = true → jAt js j (a.eval (.tmp (dstAt ops j))) w
  dis : ∀ i j, i < m → j < m → i ≠ j → L.getD i false = true → L.getD j false = true → alAt ops i = true → alAt ops j = true → ∃ b b', a.eval (.tmp (dstAt ops i)) = .pointer (some ⟨b, 0, none⟩) ∧ a.eval (.tmp (dstAt ops j)) = .pointer (some ⟨b', 0, none⟩) ∧ b ≠ b'
  low : ∀ i, i < m → L.getD i false = true → alAt ops i = true → ∃ b, a.eval (.tmp (dstAt ops i)) = .pointer (some ⟨b, 0, none⟩) ∧ b < w.heap.size
theorem shape_spec {m : Nat} (h : shape ops m = true) : m ≤ ops.size ∧ (∀ i, i < m → ∃ o, ops[i]? = some o ∧ o.dst = some (dstAt ops i)) ∧
  (∀ i j, i < m → j < m → i ≠ j → dstAt ops j ≠ dstAt ops i) ∧ (∀ i, i < ops.size → m ≤ i → ∀ j, j < m → reach ops ops.size i j = true) := by
 unfold shape at h
 simp only [Bool.and_eq_true] at h
 obtain ⟨⟨h1, h3⟩, h4⟩ := h
 have h1 : m ≤ ops.size := Nat.le_of_ble_eq_true h1
 have key : ∀ i, i < m → ((ops[i]?).bind (·.dst)).isSome = true ∧ ∀ j, j < i → dstAt ops j ≠ dstAt ops i := by
  intro i hi
  have := List.all_eq_true.1 h3 i (List.mem_range.2 hi)
  simp only [Bool.and_eq_true] at this
  refine ⟨this.1, fun j hj => ?_⟩
  have := List.all_eq_true.1 this.2 j (List.mem_range.2 hj)
  rw [Bool.not_eq_true'] at this
  exact Nat.ne_of_beq_eq_false this
 refine ⟨h1, ?_, ?_, ?_⟩
 ·intro i hi
  have h := (key i hi).1
  cases ho : ops[i]? with
  | none => rw [ho] at h; cases h
  | some o =>
   refine ⟨o, rfl, ?_⟩
   rw [ho] at h
   simp only [Option.bind_some] at h
   obtain ⟨d, hd⟩ := Option.isSome_iff_exists.1 h
   unfold dstAt
   rw [ho]
   simp [hd]
 ·intro i j hi hj hne
  rcases Nat.lt_trichotomy i j with q | q | q
  ·exact fun e => (key j hj).2 i q e.symm
  ·exact absurd q hne
  ·exact (key i hi).2 j q
 ·intro i hi hm j hj
  have := List.all_eq_true.1 h4 i (List.mem_range.2 hi)
  rw [Bool.or_eq_true] at this
  rcases this with q | q
  ·have : i < m := by simpa using q
   omega
  ·exact List.all_eq_true.1 q j (List.mem_range.2 hj)
theorem getD_set {L : Array Bool} {i j : Nat} (hi : i < L.size) : (L.setIfInBounds i true).getD j false = if i = j then true else L.getD j false := by
 by_cases e : i = j
 ·subst e; simp [Array.getD, hi]
 ·rw [if_neg e]
  unfold Array.getD
  by_cases hj : j < L.size
  ·simp [hj, Array.getElem_setIfInBounds, e]
  ·simp [hj]
theorem replicate_getD (n j : Nat) : (Array.replicate n false).getD j false = false := by
 unfold Array.getD
 split <;> simp
theorem Reg.way {m : Nat} {js : Js} (R : Reg P ops Q N a₀ w₀ m m js) (hs : shape ops m = true) (hN : ((List.range m).all fun i => Nat.blt (dstAt ops i) N) = true)
  (hend : ∀ a w, Post ops m js N a₀ w₀ a w → wpAny P .any ops Q (ops.size - m) (firsts ops.size m) a w) :
  ∀ (U : List Nat) (L : Array Bool) (a : Act) (w : World), Way ops m js N a₀ w₀ U L a w → wpAny P .any ops Q (U.length + (ops.size - m)) L a w := by
 obtain ⟨hm, hd, hdd, ht⟩ := shape_spec hs
 have hb := backs_spec R.back
 intro U
 generalize hn : U.length = n
 induction n generalizing U with
 | zero =>
  intro L a w W
  have hU : U = [] := List.eq_nil_of_length_eq_zero hn
  subst hU
  have hall : ∀ j, j < m → L.getD j false = true := fun j hj => by
   have := (W.un j hj)
   cases e : L.getD j false
   ·rw [e] at this; exact absurd (this.1 rfl) (by simp)
   ·rfl
  have hL : L = firsts ops.size m := by
   apply Array.ext
   ·simp [firsts, W.size]
   ·intro i h1 h2
    have e1 : L[i] = L.getD i false := by simp [Array.getD, h1]
    rw [e1]
    simp only [firsts, List.getElem_toArray, List.getElem_map, List.getElem_range]
    by_cases q : i < m
    ·rw [hall i q]; simp [q]
    ·rw [W.tail i (by omega)]
     cases e : Nat.blt i m
     ·rfl
     ·exact absurd (by simpa using e) q
  subst hL
  rw [Nat.zero_add]
  exact hend a w ⟨W.ok, W.gr, W.old, fun j hj => by
   have hj : j < m := by simpa using hj
   exact W.js j hj (hall j hj), fun i j b b' hi hj hij h1 h2 e1 e2 => by
   have hi : i < m := by simpa using hi
   have hj : j < m := by simpa using hj
   obtain ⟨c, c', q1, q2, q3⟩ := W.dis i j hi hj (Nat.ne_of_beq_eq_false hij) (hall i hi) (hall j hj) h1 h2
   rw [e1] at q1
   rw [e2] at q2
   cases q1
   cases q2
   exact q3⟩
 | succ n ih =>
  intro L a w W
  rw [Nat.succ_add]
  -- the least one that is not listed may come up
  have hne : Region.ready .any ops L ≠ [] := by
   obtain ⟨u, hu⟩ : ∃ u, u ∈ U := List.exists_mem_of_length_pos (by omega)
   have hlu := W.lt u hu
   have hex : ∃ k, k < m ∧ L.getD k false = false := ⟨u, hlu, (W.un u hlu).2 hu⟩
   obtain ⟨k, ⟨hk1, hk2⟩, hk3⟩ := exists_least hex
   have hki : k < L.size := by rw [W.size]; omega
   obtain ⟨o, ho, -⟩ := hd k hk1
   have : k ∈ Region.ready .any ops L := by
    rw [mem_ready]
    refine ⟨by rw [getD_lt hki true false]; exact hk2, o, ho, fun e he hbd => ?_⟩
    have hlt := hb k o ho e he hbd
    cases q : L.getD e.on false
    ·have := hk3 e.on ⟨by omega, q⟩; omega
    ·rfl
   intro e
   rw [e] at this
   cases this
  refine ⟨fun h => absurd h hne, fun i hi => ?_⟩
  obtain ⟨hil, o, ho, hall⟩ := mem_ready.1 hi
  have his : i < ops.size := (Array.getElem?_eq_some_iff.1 ho).1
  have hiL : i < L.size := by rw [W.size]; exact his
  have hil' : L.getD i false = false := by rw [getD_lt hiL false true]; exact hil
  have him : i < m := by
   rcases Nat.lt_or_ge i m with q | q
   ·exact q
   ·exfalso
    obtain ⟨u, hu⟩ : ∃ u, u ∈ U := List.exists_mem_of_length_pos (by omega)
    have hlu := W.lt u hu
    have h1 := reach_listed W.closed ops.size i u (fun o' ho' e he hbd => by
     obtain rfl : o = o' := Option.some.inj (ho.symm.trans ho')
     exact hall e he hbd) (ht i his q u hlu)
    rw [(W.un u hlu).2 hu] at h1
    cases h1
  have hiU : i ∈ U := (W.un i him).1 hil'
  obtain ⟨o', ho', hdst⟩ := hd i him
  obtain rfl : o = o' := Option.some.inj (ho.symm.trans ho')
  have hdoes := R.does i o him ho a w ⟨W.ok, W.gr, W.old, fun j hj => by
    unfold waits at hj
    obtain ⟨e, he, hh⟩ := List.any_eq_true.1 hj
    have he : e ∈ o.after := by simpa using he
    simp only [Bool.and_eq_true] at hh
    have h2 := Nat.eq_of_beq_eq_true hh.2
    have h3 := hall e he hh.1
    rw [h2] at h3
    have hji : j < i := by have := hb i o ho e he hh.1; omega
    exact W.js j (by omega) h3⟩
  have hdN : Nat.blt (dstAt ops i) N = true := List.all_eq_true.1 hN i (List.mem_range.2 him)
  have next : ∀ v w', Gr w w' → jAt js i v w' → (isAl o = true → v = .pointer (some ⟨w.heap.size, 0, none⟩) ∧ w.heap.size < w'.heap.size) → wpAny P .any ops Q (n + (ops.size - m)) (L.setIfInBounds i true) (a.put o.dst v) w' := by
   intro v w' g hJ hA
   rw [hdst]
   have nx := Nx.put W.ok hdN v
   refine ih (U.erase i) (by rw [List.length_erase_of_mem hiU, hn]; rfl) (L.setIfInBounds i true) _ w' ?_
   refine ⟨nx.ok, W.gr.trans g, fun t ht => ?_, by simp [W.size], ?_, W.nodup.erase _, ?_, fun j hj => W.lt j (List.mem_of_mem_erase hj), ?_, ?_, ?_, ?_⟩
   ·have := List.all_eq_true.1 ht _ (fd_mem ho him hdst)
    rw [Bool.not_eq_true'] at this
    exact (nx.oth t this).trans (W.old t ht)
   ·intro k ok hk hok e he hbd
    rw [getD_set hiL] at hk ⊢
    split
    ·rfl
    ·by_cases q : i = k
     ·subst q
      obtain rfl : o = ok := Option.some.inj (ho.symm.trans hok)
      exact hall e he hbd
     ·rw [if_neg q] at hk
      exact W.closed k ok hk hok e he hbd
   ·intro j hj
    rw [getD_set hiL, W.nodup.mem_erase_iff]
    by_cases q : i = j
    ·subst q; simp
    ·rw [if_neg q, W.un j hj]
     exact ⟨fun h => ⟨fun e => q e.symm, h⟩, fun h => h.2⟩
   ·intro j hj
    rw [getD_set hiL, if_neg (by omega)]
    exact W.tail j hj
   ·intro j hj hl
    by_cases q : i = j
    ·subst q
     rw [nx.at_]
     exact hJ
    ·rw [getD_set hiL, if_neg q] at hl
     have h1 := W.js j hj hl
     rw [nx.oth _ (by
      have := hdd i j him hj q
      cases e : Nat.beq (dstAt ops j) (dstAt ops i)
      ·rfl
      ·exact absurd (Nat.eq_of_beq_eq_true e) this)]
     exact R.mono j _ _ _ g h1
   ·intro j k hj hk hjk hlj hlk haj hak
    have other : ∀ j, j < m → i ≠ j → (L.setIfInBounds i true).getD j false = true → L.getD j false = true ∧ (a.put (some (dstAt ops i)) v).eval (.tmp (dstAt ops j)) = a.eval (.tmp (dstAt ops j)) := by
     intro j hj q hl
     rw [getD_set hiL, if_neg q] at hl
     refine ⟨hl, nx.oth _ ?_⟩
     have := hdd i j him hj q
     cases e : Nat.beq (dstAt ops j) (dstAt ops i)
     ·rfl
     ·exact absurd (Nat.eq_of_beq_eq_true e) this
    have hio : ∀ q : alAt ops i = true, isAl o = true := fun q => by unfold alAt at q; rw [ho] at q; exact q
    by_cases q1 : i = j
    ·subst q1
     obtain ⟨hl, he⟩ := other k hk hjk hlk
     obtain ⟨b, h1, h2⟩ := W.low k hk hl hak
     obtain ⟨h3, h4⟩ := hA (hio haj)
     exact ⟨_, b, by rw [nx.at_, h3], by rw [he]; exact h1, by omega⟩
    ·by_cases q2 : i = k
     ·subst q2
      obtain ⟨hl, he⟩ := other j hj q1 hlj
      obtain ⟨b, h1, h2⟩ := W.low j hj hl haj
      obtain ⟨h3, h4⟩ := hA (hio hak)
      exact ⟨b, _, by rw [he]; exact h1, by rw [nx.at_, h3], by omega⟩
     ·obtain ⟨hl, he⟩ := other j hj q1 hlj
      obtain ⟨hl', he'⟩ := other k hk q2 hlk
      obtain ⟨b, b', h1, h2, h3⟩ := W.dis j k hj hk hjk hl hl' haj hak
      exact ⟨b, b', by rw [he]; exact h1, by rw [he']; exact h2, h3⟩
   ·intro j hj hl haj
    by_cases q : i = j
    ·subst q
     have hio : isAl o = true := by unfold alAt at haj; rw [ho] at haj; exact haj
     obtain ⟨h3, h4⟩ := hA hio
     exact ⟨_, by rw [nx.at_, h3], h4⟩
    ·rw [getD_set hiL, if_neg q] at hl
     obtain ⟨b, h1, h2⟩ := W.low j hj hl haj
     refine ⟨b, ?_, Nat.lt_of_lt_of_le h2 g.le⟩
     rw [nx.oth _ (by
      have := hdd i j him hj q
      cases e : Nat.beq (dstAt ops j) (dstAt ops i)
      ·rfl
      ·exact absurd (Nat.eq_of_beq_eq_true e) this)]
     exact h1
  unfold wpOp
  rw [ho]
  unfold Does at hdoes
  by_cases hw : Region.wanted o (yielded ops a.tmps) = true
  ·rw [if_pos hw] at hdoes
   simp only [hw, if_true]
   left
   refine Oper.wp_mono ?_ hdoes
   rintro a' w' ⟨v, rfl, g, hj, hA⟩
   exact next v w' g hj hA
  ·rw [if_neg hw] at hdoes
   simp only [hw, if_false, Bool.false_eq_true]
   exact next undef w (Gr.refl w) hdoes.1 (fun e => by rw [hdoes.2] at e; cases e)
theorem Reg.run {id m : Nat} {js : Js} {a : Act} {w : World} (R : Reg P ops Q N a w.drew m m js) {k : Nat} {L : Array Bool} (hk : ops.size - m = k) (hL : firsts ops.size m = L) (hf : P.follows .mixedOrders = true) (ok : Ok N a) (hs : shape ops m = true) (hN : ((List.range m).all fun i => Nat.blt (dstAt ops i) N) = true)
    (hend : ∀ a' w', Post ops m js N a w.drew a' w' → wpAny P .any ops Q k L a' w') : (Code.region id ops true).wp P Q a w := by
  subst hk hL
  refine wp_region_any hf ?_
  have hm := (shape_spec hs).1
  have h := R.way hs hN hend (List.range m) (Array.replicate ops.size false) a w.drew
    { ok := ok, gr := Gr.refl _, old := fun _ _ => rfl, size := by simp
      closed := fun i o h => by rw [replicate_getD] at h; cases h
      nodup := List.nodup_range
      un := fun j hj => by rw [replicate_getD]; simp [hj]
      lt := fun j hj => List.mem_range.1 hj
      tail := fun j _ => replicate_getD _ _
      js := fun j _ h => by rw [replicate_getD] at h; cases h
      dis := fun i j _ _ _ h => by rw [replicate_getD] at h; cases h
      low := fun i _ h => by rw [replicate_getD] at h; cases h }
  rw [List.length_range, Nat.add_sub_cancel' hm] at h
  exact h
theorem reg_start {id m : Nat} {a : Act} {w : World} (hb : backs ops = true) (h : Reg P ops Q N a w.drew m 0 [] → (Code.region id ops true).wp P Q a w) : (Code.region id ops true).wp P Q a w := h (Reg.nil hb)
theorem gr_drew {w w' : World} (h : Gr w.drew w') : Gr w w' := ⟨h.os, h.tape, h.output, h.size, h.block⟩
theorem t_one {i : Nat} {o : Oper} {fuel : Nat} {L : Array Bool} {a : Act} {w : World} (hr : Region.ready .any ops L = [i]) (ho : ops[i]? = some o) (hw : Region.wanted o (yielded ops a.tmps) = true)
    (h : o.wp P a w (wpAny P .any ops Q fuel (L.setIfInBounds i true)) Q) : wpAny P .any ops Q (fuel + 1) L a w := by
  refine wpAny_all hr (by simp) fun j hj => ?_
  obtain rfl : j = i := by simpa using hj
  unfold wpOp
  rw [ho]
  simp only [hw, if_true]
  exact .inl h
theorem t_val {i : Nat} {o : Oper} {fuel : Nat} {L : Array Bool} {a : Act} {w w' : World} {d : Nat} {v : Value} (hr : Region.ready .any ops L = [i]) (ho : ops[i]? = some o) (ok : Ok N a) (hd : o.dst = some d) (hw : Region.wanted o (yielded ops a.tmps) = true) (hN : Nat.blt d N = true)
  (hrun : (execOp a.eval o).run P w = .ok (.value v) w') (h : ∀ a', Nx N a a' d v → wpAny P .any ops Q fuel (L.setIfInBounds i true) a' w') : wpAny P .any ops Q (fuel + 1) L a w := by
 refine t_one hr ho hw ?_
 unfold Oper.wp
 rw [hrun]
 show wpAny P .any ops Q fuel (L.setIfInBounds i true) (a.put o.dst v) w'
 rw [hd]
 exact h _ (Nx.put ok hN v)
theorem t_st {i : Nat} {o : Oper} {fuel : Nat} {L : Array Bool} {a : Act} {w w' : World} (hr : Region.ready .any ops L = [i]) (ho : ops[i]? = some o) (hd : o.dst = none) (hw : Region.wanted o (yielded ops a.tmps) = true)
  (hrun : (execOp a.eval o).run P w = .ok .skip w') (h : wpAny P .any ops Q fuel (L.setIfInBounds i true) a w') : wpAny P .any ops Q (fuel + 1) L a w := by
 refine t_one hr ho hw ?_
 unfold Oper.wp
 rw [hrun]
 show wpAny P .any ops Q fuel (L.setIfInBounds i true) (a.put o.dst undef) w'
 rw [hd]
 exact h
theorem t_stC {i : Nat} {o : Oper} {fuel : Nat} {L : Array Bool} {a : Act} {w : World} {b k : Nat} {v : Value} {cs : Array Value} {t : TypeId} (hr : Region.ready .any ops L = [i]) (ho : ops[i]? = some o) (hd : o.dst = none) (hw : Region.wanted o (yielded ops a.tmps) = true)
  (hrun : (execOp a.eval o).run P w = .ok .skip (w.setCell ⟨b, k, none⟩ v)) (hb : Bk w b cs t) (h : ∀ w', Upd w w' b → Bk w' b (cs.setIfInBounds k v) t → wpAny P .any ops Q fuel (L.setIfInBounds i true) a w') : wpAny P .any ops Q (fuel + 1) L a w :=
 t_st hr ho hd hw hrun (h _ (upd_cell _ _ _ _) (hb.set _ _))
theorem t_stR {i : Nat} {o : Oper} {fuel : Nat} {L : Array Bool} {a : Act} {w : World} {b : Nat} {cs cs' : Array Value} {t : TypeId} (hr : Region.ready .any ops L = [i]) (ho : ops[i]? = some o) (hd : o.dst = none) (hw : Region.wanted o (yielded ops a.tmps) = true)
  (hrun : (execOp a.eval o).run P w = .ok .skip (w.setRow b cs')) (hb : Bk w b cs t) (h : ∀ w', Upd w w' b → Bk w' b cs' t → wpAny P .any ops Q fuel (L.setIfInBounds i true) a w') : wpAny P .any ops Q (fuel + 1) L a w :=
 t_st hr ho hd hw hrun (h _ (upd_row _ _ _) (hb.row _))
end
section
variable {P : Program} {ops : Array Oper} {Q : Exit → Act → World → Prop} {rest : List Oper} {o : Oper} {a : Act} {w : World} {d N : Nat}
theorem sal {cs : Array Value} {t : TypeId} (ok : Ok N a) (hd : o.dst = some d) (hw : Region.wanted o (yielded ops a.tmps) = true) (hN : Nat.blt d N = true) (hrun : (execOp a.eval o).run P w = .ok (.value (.pointer (some ⟨w.heap.size, 0, none⟩))) (w.alloc (.cells cs t)))
    (h : ∀ a' w' b, New w w' b cs t → Nx N a a' d (.pointer (some ⟨b, 0, none⟩)) → wpList P ops Q rest a' w') : wpList P ops Q (o :: rest) a w :=
  sv ok hd hw hN hrun fun a' n => h a' _ _ (New.mk' w cs t) n
theorem sals {cs : Array Value} {t : TypeId} {n c : Nat} (ok : Ok N a) (hd : o.dst = some d) (hw : Region.wanted o (yielded ops a.tmps) = true) (hN : Nat.blt d N = true) (hrun : (execOp a.eval o).run P w = .ok (.value (.slice (some ⟨w.heap.size, 0, none⟩) n c)) (w.alloc (.cells cs t)))
  (h : ∀ a' w' b, New w w' b cs t → Nx N a a' d (.slice (some ⟨b, 0, none⟩) n c) → wpList P ops Q rest a' w') : wpList P ops Q (o :: rest) a w :=
 sv ok hd hw hN hrun fun a' n => h a' _ _ (New.mk' w cs t) n
theorem info3_of {P : Program} {e : TypeId} {z : Value} {size : Nat} (h : (P.info? e).map (fun i => (i.zero, i.size)) = some (some z, size)) : ∃ i, P.info? e = some i ∧ i.zero = some z ∧ i.size = size := by
 cases hq : P.info? e with
 | none => simp [hq] at h
 | some i => simp [hq] at h; exact ⟨i, rfl, h.1, h.2⟩
theorem ssR {b : Nat} {cs cs' : Array Value} {t : TypeId} (hd : o.dst = none) (hw : Region.wanted o (yielded ops a.tmps) = true) (hrun : (execOp a.eval o).run P w = .ok .skip (w.setRow b cs')) (hb : Bk w b cs t)
  (h : ∀ w', Upd w w' b → Bk w' b cs' t → wpList P ops Q rest a w') : wpList P ops Q (o :: rest) a w := ss hd hw hrun (h _ (upd_row _ _ _) (hb.row _))
end
/-! a region that draws its order, of copies, loads and stores alone -/
def Sx (bs : List Nat) (w x : World) : Prop := ∀ k, k ∉ bs → x.heap[k]? = w.heap[k]?
theorem Sx.drew (bs : List Nat) (w : World) : Sx bs w w.drew := fun _ _ => rfl
theorem Sx.bk {bs : List Nat} {w x : World} {b : Nat} {cs : Array Value} {t : TypeId} (h : Sx bs w x) (hb : Bk w b cs t) (hn : b ∉ bs) : Bk x b cs t := (h b hn).trans hb
theorem Sx.upd {bs : List Nat} {w x x' : World} {b : Nat} (h : Sx bs w x) (u : Upd x x' b) (hb : b ∈ bs) : Sx bs w x' := fun k hk => (u.oth k (fun e => hk (e ▸ hb))).trans (h k hk)
section
variable {P : Program} {ops : Array Oper} {Q : Exit → Act → World → Prop} {N : Nat} {S : World → Prop}
theorem h_start {id : Nat} {a : Act} {w : World} (bs : List Nat) (n : Nat) (L : Array Bool) (hf : P.follows .mixedOrders = true) (hn : ops.size = n) (hL : Array.replicate ops.size false = L)
  (h : wpAnyH P .any ops Q (Sx bs w) n L a w.drew) : (Code.region id ops true).wp P Q a w := by
 subst hn hL
 exact wp_region_held hf h
theorem h_take {i d : Nat} {oi : Oper} {v : Value} {fuel : Nat} {L : Array Bool} {a : Act} {w : World} (ok : Ok N a) (hi : ops[i]? = some oi) (hd : oi.dst = some d) (hN : Nat.blt d N = true) (hs : Region.noSelect ops = true) (hf : Region.free .any ops L i = true) (hr : (Region.ready .any ops L).contains i = true)
  (hQ : ∀ c a d v w, Q (.panic c) (Act.put a (some d) v) w → Q (.panic c) a w) (hw : Region.wanted oi (yielded ops a.tmps) = true) (hrun : ∀ x, S x → (execOp a.eval oi).run P x = .ok (.value v) x) (hS : S w)
  (h : ∀ a', Nx N a a' d v → wpAnyH P .any ops Q S fuel (L.setIfInBounds i true) a' w) : wpAnyH P .any ops Q S (fuel + 1) L a w :=
 wpAnyH_take hi hs hf hr (fun c a w h => hQ c a d v w (hd ▸ h)) (.inl ⟨hw, hrun⟩) hS (hd ▸ h _ (Nx.put ok hN v))
theorem h_st {i : Nat} {o : Oper} {fuel : Nat} {L : Array Bool} {a : Act} {w w' : World} (hr : Region.ready .any ops L = [i]) (ho : ops[i]? = some o) (hd : o.dst = none) (hw : Region.wanted o (yielded ops a.tmps) = true)
  (hrun : (execOp a.eval o).run P w = .ok .skip w') (hS : S w') (h : wpAnyH P .any ops Q S fuel (L.setIfInBounds i true) a w') : wpAnyH P .any ops Q S (fuel + 1) L a w := by
 refine wpAnyH_all hr (by simp) fun j hj => ?_
 obtain rfl : j = i := by simpa using hj
 unfold wpOp
 rw [ho]
 simp only [hw, if_true]
 left
 unfold Oper.wp
 rw [hrun]
 show S w' ∧ wpAnyH P .any ops Q S fuel (L.setIfInBounds j true) (a.put o.dst undef) w'
 rw [hd]
 exact ⟨hS, h⟩
theorem h_stC {bs : List Nat} {w₀ : World} {i : Nat} {o : Oper} {fuel : Nat} {L : Array Bool} {a : Act} {w : World} {b k : Nat} {v : Value} {cs : Array Value} {t : TypeId} (hr : Region.ready .any ops L = [i]) (ho : ops[i]? = some o) (hd : o.dst = none) (hw : Region.wanted o (yielded ops a.tmps) = true)
  (hrun : (execOp a.eval o).run P w = .ok .skip (w.setCell ⟨b, k, none⟩ v)) (hb : Bk w b cs t) (hS : Sx bs w₀ w) (hm : b ∈ bs) (h : ∀ w', Upd w w' b → Bk w' b (cs.setIfInBounds k v) t → Sx bs w₀ w' → wpAnyH P .any ops Q (Sx bs w₀) fuel (L.setIfInBounds i true) a w') : wpAnyH P .any ops Q (Sx bs w₀) (fuel + 1) L a w :=
 h_st hr ho hd hw hrun (hS.upd (upd_cell _ _ _ _) hm) (h _ (upd_cell _ _ _ _) (hb.set _ _) (hS.upd (upd_cell _ _ _ _) hm))
end
theorem lp {P : Program} {Q : Exit → Act → World → Prop} {a : Act} {w : World} {c : Code} (I : Nat → Act → World → Prop) (n₀ : Nat) (h₀ : I n₀ a w)
  (round : ∀ n a w, I n a w → ∀ K : Act → World → Prop, (∀ n' a' w', n' < n → I n' a' w' → K a' w') → c.wp P (Exit.then K Q) a w) : (Code.loop c).wp P Q a w :=
 wp_loop_ghost I n₀ h₀ fun n a w h => round n a w h _ fun n' a' w' h1 h2 => ⟨n', h1, h2⟩
end Gx
/- What single operations do, over any frame. -/
namespace Gx
open Go Go.RowKit Rm
def isRow (d : TypeDesc) : Bool := match d with | .struct _ | .array _ _ => true | _ => false
theorem size_of {P : Program} {t : TypeId} {s : Nat} (h : (P.info? t).map (·.size) = some s) (w : World) : (Go.sizeOf t).run P w = .ok s w := by
 cases hq : P.info? t with
 | none => simp [hq] at h
 | some i =>
  have hs : i.size = s := by simpa [hq] using h
  simp [Go.sizeOf, typeInfo, hq, hs, go_sem]
theorem add_n {b off k : Nat} : (⟨b, off, none⟩ : Addr).add k = ⟨b, off + k, none⟩ := by unfold Addr.add; split <;> simp_all
section
variable {P : Program} {ev : Operand → Value} {d : Option Tmp} {ty : TypeId} {p : String} {af : Array Edge} {g : Option (Nat × Bool)} {w : World}
theorem o_mv {x : Operand} {v : Value} (h : ev x = v) : (execOp ev (Oper.mk d (.move x) ty p af g)).run P w = .ok (.value v) w := by subst h; rfl
theorem o_as {x : Operand} {v : Value} (h : ev x = v) : (execOp ev (Oper.mk d (.assign x) ty p af g)).run P w = .ok (.value v) w := by subst h; rfl
theorem o_pkT {c x y : Operand} {v : Value} (hc : ev c = .bool true) (h : ev x = v) : (execOp ev (Oper.mk d (.pick c x y) ty p af g)).run P w = .ok (.value v) w := by
 subst h; simp [execOp, hc, asBool, go_sem]
theorem o_pkF {c x y : Operand} {v : Value} (hc : ev c = .bool false) (h : ev y = v) : (execOp ev (Oper.mk d (.pick c x y) ty p af g)).run P w = .ok (.value v) w := by
 subst h; simp [execOp, hc, asBool, go_sem]
theorem o_ex {x : Operand} {vs : Array Value} {i : Nat} {v : Value} (h : ev x = .tuple vs) (hv : vs[i]? = some v) : (execOp ev (Oper.mk d (.extract x i) ty p af g)).run P w = .ok (.value v) w := by
 simp [execOp, Instr.extract, h, hv, go_sem]
theorem o_int {op : BinOp} {t t' : TypeId} {x y : Operand} {k : IntKind} {i j r : Int} (hx : ev x = .int k i) (hy : ev y = .int k j) (ho : (match op with | .add => some (k.wrap (i + j)) | .sub => some (k.wrap (i - j)) | .mul => some (k.wrap (i * j)) | _ => none) = some r) :
  (execOp ev (Oper.mk d (.binOp op t x y t') ty p af g)).run P w = .ok (.value (.int k r)) w := by
 cases op <;> simp at ho <;> subst ho <;> simp [execOp, hx, hy, eqGuard, binOp, Op.intArith, go_sem]
theorem o_add {t t' : TypeId} {x y : Operand} {i j r : Int} (hx : ev x = .int .i64 i) (hy : ev y = .int .i64 j) (hr : i + j = r) (h : -9223372036854775808 ≤ r ∧ r ≤ 9223372036854775807) : (execOp ev (Oper.mk d (.binOp .add t x y t') ty p af g)).run P w = .ok (.value (.int .i64 r)) w :=
 o_int hx hy (by rw [← hr] at h ⊢; exact congrArg some (IntWalk.i64_in _ h))
theorem o_sub {t t' : TypeId} {x y : Operand} {i j r : Int} (hx : ev x = .int .i64 i) (hy : ev y = .int .i64 j) (hr : i - j = r) (h : -9223372036854775808 ≤ r ∧ r ≤ 9223372036854775807) : (execOp ev (Oper.mk d (.binOp .sub t x y t') ty p af g)).run P w = .ok (.value (.int .i64 r)) w :=
 o_int hx hy (by rw [← hr] at h ⊢; exact congrArg some (IntWalk.i64_in _ h))
theorem o_cmp {op : BinOp} {t t' : TypeId} {x y : Operand} {k : IntKind} {i j : Int} {b : Bool} (hx : ev x = .int k i) (hy : ev y = .int k j) (ho : (match op with | .eql => some (i == j) | .neq => some (i != j) | .lss => some (decide (i < j)) | .leq => some (decide (i ≤ j)) | .gtr => some (decide (j < i)) | .geq => some (decide (j ≤ i)) | _ => none) = some b) :
  (execOp ev (Oper.mk d (.binOp op t x y t') ty p af g)).run P w = .ok (.value (.bool b)) w := by
 cases op <;> simp at ho <;> subst ho <;> simp [execOp, hx, hy, eqGuard, binOp, Op.intCmp, go_sem]
theorem o_eq {t t' : TypeId} {x y : Operand} {k : IntKind} {i j : Int} {b : Bool} (hx : ev x = .int k i) (hy : ev y = .int k j) (h : (i == j) = b) : (execOp ev (Oper.mk d (.binOp .eql t x y t') ty p af g)).run P w = .ok (.value (.bool b)) w := o_cmp hx hy (congrArg some h)
theorem o_neq {t t' : TypeId} {x y : Operand} {k : IntKind} {i j : Int} {b : Bool} (hx : ev x = .int k i) (hy : ev y = .int k j) (h : (i != j) = b) : (execOp ev (Oper.mk d (.binOp .neq t x y t') ty p af g)).run P w = .ok (.value (.bool b)) w := o_cmp hx hy (congrArg some h)
theorem o_lss {t t' : TypeId} {x y : Operand} {k : IntKind} {i j : Int} {b : Bool} (hx : ev x = .int k i) (hy : ev y = .int k j) (h : decide (i < j) = b) : (execOp ev (Oper.mk d (.binOp .lss t x y t') ty p af g)).run P w = .ok (.value (.bool b)) w := o_cmp hx hy (congrArg some h)
theorem o_leq {t t' : TypeId} {x y : Operand} {k : IntKind} {i j : Int} {b : Bool} (hx : ev x = .int k i) (hy : ev y = .int k j) (h : decide (i ≤ j) = b) : (execOp ev (Oper.mk d (.binOp .leq t x y t') ty p af g)).run P w = .ok (.value (.bool b)) w := o_cmp hx hy (congrArg some h)
theorem o_gtr {t t' : TypeId} {x y : Operand} {k : IntKind} {i j : Int} {b : Bool} (hx : ev x = .int k i) (hy : ev y = .int k j) (h : decide (j < i) = b) : (execOp ev (Oper.mk d (.binOp .gtr t x y t') ty p af g)).run P w = .ok (.value (.bool b)) w := o_cmp hx hy (congrArg some h)
theorem o_geq {t t' : TypeId} {x y : Operand} {k : IntKind} {i j : Int} {b : Bool} (hx : ev x = .int k i) (hy : ev y = .int k j) (h : decide (j ≤ i) = b) : (execOp ev (Oper.mk d (.binOp .geq t x y t') ty p af g)).run P w = .ok (.value (.bool b)) w := o_cmp hx hy (congrArg some h)
theorem o_not {t : TypeId} {x : Operand} {b b' : Bool} (hx : ev x = .bool b) (h : (!b) = b') : (execOp ev (Oper.mk d (.unOp .not t x) ty p af g)).run P w = .ok (.value (.bool b')) w := by
 subst h; simp [execOp, hx, Op.unary, go_sem]
theorem equal_bool {t : TypeId} (i j : Bool) (hu : P.underlying t = some .bool) : (Op.equal t (.bool i) (.bool j)).run P w = .ok (i == j) w := by
 unfold Op.equal
 show (Op.equalIn (Op.maxDepth - 1 + 1) t (.bool i) (.bool j)).run P w = _
 generalize Op.maxDepth - 1 = n
 simp only [Op.equalIn, Sem.run_bind, run_underlying hu w, Result.andThen_ok]
 rfl
theorem o_eqB {t t' : TypeId} {x y : Operand} {i j b : Bool} (hx : ev x = .bool i) (hy : ev y = .bool j) (h : (i == j) = b) (hu : P.underlying t = some .bool) : (execOp ev (Oper.mk d (.binOp .eql t x y t') ty p af g)).run P w = .ok (.value (.bool b)) w := by
 subst h
 unfold execOp
 simp only [hx, hy, eqGuard, binOp, Sem.run_bind, equal_bool i j hu, Sem.run_pure, Result.andThen_ok]
 rfl
theorem o_neqB {t t' : TypeId} {x y : Operand} {i j b : Bool} (hx : ev x = .bool i) (hy : ev y = .bool j) (h : (i != j) = b) (hu : P.underlying t = some .bool) : (execOp ev (Oper.mk d (.binOp .neq t x y t') ty p af g)).run P w = .ok (.value (.bool b)) w := by
 subst h
 unfold execOp
 simp only [hx, hy, eqGuard, binOp, Sem.run_bind, equal_bool i j hu, Sem.run_pure, Result.andThen_ok]
 rfl
theorem o_al {t : TypeId} {z : Value} (hz : (P.info? t).bind (·.zero) = some z) : (execOp ev (Oper.mk d (.alloc t) ty p af g)).run P w = .ok (.value (.pointer (some ⟨w.heap.size, 0, none⟩))) (w.alloc (.cells z.cells t)) := by
  cases hq : P.info? t with
  | none => simp [hq] at hz
  | some i =>
    have hz' : i.zero = some z := by simpa [hq] using hz
    simp [execOp, Instr.alloc, zeroValue, typeInfo, hq, hz', newVar, newRow, go_sem]
theorem o_box {t : TypeId} {x : Operand} {v : Value} (hx : ev x = v) : (execOp ev (Oper.mk d (.box t x) ty p af g)).run P w = .ok (.value (.pointer (some ⟨w.heap.size, 0, none⟩))) (w.alloc (.cells v.cells t)) := by
 subst hx
 simp [execOp, Instr.box, newVar, newRow, go_sem]
theorem o_ld {t : TypeId} {x : Operand} {b k : Nat} {v : Value} (hx : ev x = .pointer (some ⟨b, k, none⟩)) (hA : (isAgg t).run P w = .ok false w) (hc : w.cell? ⟨b, k, none⟩ = some v) : (execOp ev (Oper.mk d (.load t x) ty p af g)).run P w = .ok (.value v) w := by
  simp [execOp, Instr.loadAt, Instr.sureAddr, hx, loadVar, hA, hc, go_sem]
theorem ld_row {t t' : TypeId} {b : Nat} {cs : Array Value} {ds : TypeDesc} (hb : Bk w b cs t') (hu : P.underlying t = some ds) (hd : isRow ds = true) (hi : (P.info? t).map (·.size) = some cs.size) : (loadVar t ⟨b, 0, none⟩).run P w = .ok (.agg cs) w := by
 cases ds <;> first | (cases hd; done) | exact run_loadVar_row w b t' t cs (0, 0) _ hb hu rfl hi
theorem o_ldR {t t' : TypeId} {x : Operand} {b : Nat} {cs : Array Value} {ds : TypeDesc} (hx : ev x = .pointer (some ⟨b, 0, none⟩)) (hb : Bk w b cs t') (hu : P.underlying t = some ds) (hd : isRow ds = true) (hi : (P.info? t).map (·.size) = some cs.size) : (execOp ev (Oper.mk d (.load t x) ty p af g)).run P w = .ok (.value (.agg cs)) w := by
 unfold execOp
 simp only [hx, Instr.loadAt, Instr.sureAddr, Sem.run_bind, Sem.run_pure, Result.andThen_ok, ld_row hb hu hd hi]
theorem o_ldA {t : TypeId} {x : Operand} {b k : Nat} {cs : List Value} {ds : TypeDesc} (hx : ev x = .pointer (some ⟨b, k, none⟩)) (hc : ∀ j v, cs[j]? = some v → w.cell? ⟨b, k + j, none⟩ = some v) (hu : P.underlying t = some ds) (hd : isRow ds = true) (hi : (P.info? t).map (·.size) = some cs.length) : (execOp ev (Oper.mk d (.load t x) ty p af g)).run P w = .ok (.value (.agg cs.toArray)) w := by
  have hl : (loadCells ⟨b, k, none⟩ cs.length).run P w = .ok cs.toArray w := run_loadCells_list (P := P) w ⟨b, k, none⟩ cs (fun j v hv => by
    rw [add_n]; exact hc j v hv)
  have hagg : (isAgg t).run P w = .ok true w := by
    unfold isAgg
    rw [Sem.run_bind, run_underlying hu w]
    cases ds <;> simp_all [go_sem, isRow]
  unfold execOp
  simp only [hx, Instr.loadAt, Instr.sureAddr, Sem.run_bind, Sem.run_pure, Result.andThen_ok, loadVar, hagg, if_true, size_of hi, hl]
theorem o_stR {t t' : TypeId} {x y : Operand} {b : Nat} {cs old : Array Value} (hx : ev x = .pointer (some ⟨b, 0, none⟩)) (hy : ev y = .agg cs) (hb : Bk w b old t') (hi : (P.info? t).map (·.size) = some cs.size) (ho : old.size = cs.size) (h1 : cs.all (·.oneCell') = true) : (execOp ev (Oper.mk d (.store t x y) ty p af g)).run P w = .ok .skip (w.setRow b cs) := by
  have h := run_storeVar_row w b t' t old cs hb hi ho h1
  unfold execOp
  simp only [hx, hy, Instr.storeAt, Instr.sureAddr, Sem.run_bind, Sem.run_pure, Result.andThen_ok]
  rw [h]
  rfl
theorem o_st {t t' : TypeId} {x y : Operand} {b k : Nat} {v u : Value} {cs : Array Value} (hx : ev x = .pointer (some ⟨b, k, none⟩)) (hy : ev y = v) (hb : Bk w b cs t') (hk : cs[k]? = some u) (hi : (P.info? t).map (·.size) = some 1) (h1 : v.oneCell' = true) : (execOp ev (Oper.mk d (.store t x y) ty p af g)).run P w = .ok .skip (w.setCell ⟨b, k, none⟩ v) := by
 have hc := hb.cell k hk
 have hf := hb.frozen k
 have hv : v.cells = #[v] := by cases v <;> simp_all [Value.cells, Value.oneCell']
 have h := run_store P w ⟨b, k, none⟩ v .plain h1
 unfold execOp
 simp only [hx, hy, Instr.storeAt, Instr.sureAddr, Sem.run_bind, Sem.run_pure, Result.andThen_ok, storeVar, size_of hi, hv]
 simp [storeCells, add_n, h, hc, hf, go_sem]
theorem o_fa {T : TypeId} {x : Operand} {f : Nat} {b k : Nat} {fs : Array Field} {fd : Field} {z : Nat} (hx : ev x = .pointer (some ⟨b, k, none⟩)) (hu : P.underlying T = some (.struct fs)) (hf : fs[f]? = some fd) (hi : (P.info? fd.type).map (·.size) = some z) (hs : Nat.beq z 0 = false) {k' : Nat} (hk : k + fd.offset = k') : (execOp ev (Oper.mk d (.fieldAddr T x f) ty p af g)).run P w = .ok (.value (.pointer (some ⟨b, k', none⟩))) w := by
  have hs' : ¬ z = 0 := Nat.ne_of_beq_eq_false hs
  subst hk
  have h1 : (Go.sizeOf fd.type).run P w = .ok z w := size_of hi w
  unfold execOp
  simp only [hx, Instr.fieldAt, Sem.run_bind, run_underlying hu w, Sem.run_pure, Result.andThen_ok, hf, Instr.sureAddr, fieldPlace, h1, if_neg hs', add_n]
theorem o_ia {T E : TypeId} {x y : Operand} {b off n c s : Nat} {i : Nat} (hx : ev x = .slice (some ⟨b, off, none⟩) n c) (hy : ev y = .int .i64 (i : Int)) (hu : P.underlying T = some (.slice E)) (hs : (P.info? E).map (·.size) = some s) (hi : i < n) : (execOp ev (Oper.mk d (.indexAddr T x y) ty p af g)).run P w = .ok (.value (.pointer (some ⟨b, off + i * s, none⟩))) w := by
 have h1 := size_of hs w
 have hi' : (0 : Int) ≤ (i : Int) ∧ (i : Int) < (n : Int) := by omega
 unfold execOp
 simp only [hx, hy, Instr.indexAt, asIntOf, Sem.run_bind, run_underlying hu w, Sem.run_pure, Result.andThen_ok, if_pos hi', h1, Int.toNat_natCast, add_n]
theorem o_iaV {T E : TypeId} {x y : Operand} {ad : Option Addr} {b off n c s : Nat} {i : Nat} (ha : ad = some ⟨b, off, none⟩) (hx : ev x = .slice ad n c) (hy : ev y = .int .i64 (i : Int)) (hu : P.underlying T = some (.slice E)) (hs : (P.info? E).map (·.size) = some s) (hi : i < n) : (execOp ev (Oper.mk d (.indexAddr T x y) ty p af g)).run P w = .ok (.value (.pointer (some ⟨b, off + i * s, none⟩))) w := by
 subst ha; exact o_ia hx hy hu hs hi
theorem o_len {x : Operand} {T : TypeId} {E : TypeId} {a : Option Addr} {n c : Nat} (hx : ev x = .slice a n c) (hu : P.underlying T = some (.slice E)) : (execOp ev (Oper.mk d (.call (Call.mk (.builtin .len) #[x] #[T])) ty p af g)).run P w = .ok (.value (.int .i64 (n : Int))) w := by
  simp [execOp, resolve, invoke, builtin, Builtin.len_, hx, run_underlying hu, goInt, go_sem]
theorem o_fn {f : FuncId} {xs : Array Operand} {vs : Array Value} {ts : Array TypeId} {fn : Func} (hf : P.funcs[f]? = some fn) (hn : (fn.name == "runtime.NumGoroutine") = false) (hb : fn.body.isNone = false) (hev : ev (.func f) = .func (.func f) #[] #[]) (hx : xs.map ev = vs) : (execOp ev (Oper.mk d (.call (Call.mk (.value (.func f)) xs ts)) ty p af g)).run P w = .ok (.enter f vs) w := by
 subst hx
 have h1 : ¬ fn.name = "runtime.NumGoroutine" := by simpa using hn
 have h2 : ¬ fn.body = none := by intro e; rw [e] at hb; cases hb
 simp [execOp, resolve, invoke, Deferred.ofValue, callFunc, hev, Sem.run_bind, hf, h1, h2, go_sem]
theorem ev_const {a : Act} {v : Value} : a.eval (.const v) = v := rfl
theorem o_bd {t : TypeId} {parts : Array (Nat × Operand)} {vs : List (Nat × Value)} {cells : Array Value} (hx : (parts.map fun (i, x) => (i, ev x)).toList = vs) (hc : P.built t vs = some cells) : (execOp ev (Oper.mk d (.build t parts) ty p af g)).run P w = .ok (.value (.agg cells)) w := by
 subst hx
 have h := run_build (P := P) w t _ cells hc
 unfold execOp
 simp only [Sem.run_bind, h, Result.andThen_ok]
 rfl
theorem o_bs {t e : TypeId} {len : Nat} {parts : Array (Nat × Operand)} {vs : List (Nat × Value)} {cells : Array Value} {ie : TypeInfo} {z : Value} (hx : (parts.map fun (i, x) => (i, ev x)).toList = vs) (hu : P.underlying t = some (.slice e)) (hie : P.info? e = some ie) (hz : ie.zero = some z) (hs : Nat.ble (len * ie.size) 16777216 = true) (hp : Nat.blt 0 (len * ie.size) = true)
    (hf : Instr.fill (fun i => some (i * ie.size, ie.size)) ((Array.range (len * ie.size)).map (z.cells[· % z.cells.size]!)) vs = some cells) : (execOp ev (Oper.mk d (.buildSlice t len parts) ty p af g)).run P w = .ok (.value (.slice (some ⟨w.heap.size, 0, none⟩) len len)) (w.alloc (.cells cells e)) := by
  subst hx
  have h := run_buildSlice (P := P) w t e len (parts.map fun (i, x) => (i, ev x)) cells ie z hu hie hz (by have := Nat.le_of_ble_eq_true hs; simpa using this) (Nat.ne_of_gt (by simpa using hp)) (by simpa using hf)
  unfold execOp
  simp only [Sem.run_bind, h, Result.andThen_ok]
  rfl
theorem mapM_sizes {fs : Array Field} (h : ∀ f ∈ fs, ((P.info? f.type).map (·.size)).isSome = true) : ∃ l, (fs.mapM fun f => (Prod.mk f.offset <$> Go.sizeOf f.type : Sem (Nat × Nat))).run P w = .ok l w := by
 rw [Array.mapM_eq_mapM_toList]
 have key : ∀ l : List Field, (∀ f ∈ l, ((P.info? f.type).map (·.size)).isSome = true) → ∃ r, (l.mapM fun f => (Prod.mk f.offset <$> Go.sizeOf f.type : Sem (Nat × Nat))).run P w = .ok r w := by
  intro l
  induction l with
  | nil => exact fun _ => ⟨[], by simp [go_sem]⟩
  | cons f l ih =>
   intro h
   obtain ⟨r, hr⟩ := ih fun x hx => h x (List.mem_cons_of_mem _ hx)
   obtain ⟨z, hz⟩ := Option.isSome_iff_exists.1 (h f (by simp))
   exact ⟨(f.offset, z) :: r, by simp [List.mapM_cons, size_of hz, hr, go_sem]⟩
 obtain ⟨r, hr⟩ := key fs.toList fun f hf => h f (by simpa using hf)
 exact ⟨r.toArray, by simp [hr, go_sem]⟩
theorem o_b0 {t : TypeId} {cs : Array Value} {fs : Array Field} (hu : P.underlying t = some (.struct fs)) (hz : (P.info? t).bind (·.zero) = some (.agg cs)) (hs : fs.all (fun f => ((P.info? f.type).map (·.size)).isSome) = true) : (execOp ev (Oper.mk d (.build t #[]) ty p af g)).run P w = .ok (.value (.agg cs)) w := by
 obtain ⟨l, hl⟩ := mapM_sizes (P := P) (w := w) (fs := fs) (fun f hf => Array.all_eq_true'.1 hs f hf)
 cases hq : P.info? t with
 | none => simp [hq] at hz
 | some i =>
  have hz' : i.zero = some (.agg cs) := by simpa [hq] using hz
  simp [execOp, Instr.build, zeroValue, typeInfo, hq, hz', run_underlying hu, hl, go_sem]
theorem o_f0 {f : FuncId}   {ts : Array TypeId} {fn : Func} (hf : P.funcs[f]? = some fn) (hn : (fn.name == "runtime.NumGoroutine") = false) (hb : fn.body.isNone = false) (hev : ev (.func f) = .func (.func f) #[] #[])  : (execOp ev (Oper.mk d (.call (Call.mk (.value (.func f)) #[] ts)) ty p af g)).run P w = .ok (.enter f #[]) w := o_fn hf hn hb hev (by simp [])
theorem o_f1 {f : FuncId} {x0 : Operand} {v0 : Value} {ts : Array TypeId} {fn : Func} (hf : P.funcs[f]? = some fn) (hn : (fn.name == "runtime.NumGoroutine") = false) (hb : fn.body.isNone = false) (hev : ev (.func f) = .func (.func f) #[] #[]) (h0 : ev x0 = v0) : (execOp ev (Oper.mk d (.call (Call.mk (.value (.func f)) #[x0] ts)) ty p af g)).run P w = .ok (.enter f #[v0]) w := o_fn hf hn hb hev (by simp [h0])
theorem o_f2 {f : FuncId} {x0 x1 : Operand} {v0 v1 : Value} {ts : Array TypeId} {fn : Func} (hf : P.funcs[f]? = some fn) (hn : (fn.name == "runtime.NumGoroutine") = false) (hb : fn.body.isNone = false) (hev : ev (.func f) = .func (.func f) #[] #[]) (h0 : ev x0 = v0) (h1 : ev x1 = v1) : (execOp ev (Oper.mk d (.call (Call.mk (.value (.func f)) #[x0, x1] ts)) ty p af g)).run P w = .ok (.enter f #[v0, v1]) w := o_fn hf hn hb hev (by simp [h0, h1])
theorem o_f3 {f : FuncId} {x0 x1 x2 : Operand} {v0 v1 v2 : Value} {ts : Array TypeId} {fn : Func} (hf : P.funcs[f]? = some fn) (hn : (fn.name == "runtime.NumGoroutine") = false) (hb : fn.body.isNone = false) (hev : ev (.func f) = .func (.func f) #[] #[]) (h0 : ev x0 = v0) (h1 : ev x1 = v1) (h2 : ev x2 = v2) : (execOp ev (Oper.mk d (.call (Call.mk (.value (.func f)) #[x0, x1, x2] ts)) ty p af g)).run P w = .ok (.enter f #[v0, v1, v2]) w := o_fn hf hn hb hev (by simp [h0, h1, h2])
theorem o_f4 {f : FuncId} {x0 x1 x2 x3 : Operand} {v0 v1 v2 v3 : Value} {ts : Array TypeId} {fn : Func} (hf : P.funcs[f]? = some fn) (hn : (fn.name == "runtime.NumGoroutine") = false) (hb : fn.body.isNone = false) (hev : ev (.func f) = .func (.func f) #[] #[]) (h0 : ev x0 = v0) (h1 : ev x1 = v1) (h2 : ev x2 = v2) (h3 : ev x3 = v3) : (execOp ev (Oper.mk d (.call (Call.mk (.value (.func f)) #[x0, x1, x2, x3] ts)) ty p af g)).run P w = .ok (.enter f #[v0, v1, v2, v3]) w := o_fn hf hn hb hev (by simp [h0, h1, h2, h3])
theorem o_eqI {t t' : TypeId} {x y : Operand} {k : IntKind} {i j : Int} (hx : ev x = .int k i) (hy : ev y = .int k j) : (execOp ev (Oper.mk d (.binOp .eql t x y t') ty p af g)).run P w = .ok (.value (.bool (decide (i = j)))) w := o_eq hx hy rfl
theorem o_neI {t t' : TypeId} {x y : Operand} {k : IntKind} {i j : Int} (hx : ev x = .int k i) (hy : ev y = .int k j) : (execOp ev (Oper.mk d (.binOp .neq t x y t') ty p af g)).run P w = .ok (.value (.bool (decide (¬ i = j)))) w := o_neq hx hy (by by_cases h : i = j <;> simp [h])
theorem o_ltI {t t' : TypeId} {x y : Operand} {k : IntKind} {i j : Int} (hx : ev x = .int k i) (hy : ev y = .int k j) : (execOp ev (Oper.mk d (.binOp .lss t x y t') ty p af g)).run P w = .ok (.value (.bool (decide (i < j)))) w := o_lss hx hy rfl
theorem o_leI {t t' : TypeId} {x y : Operand} {k : IntKind} {i j : Int} (hx : ev x = .int k i) (hy : ev y = .int k j) : (execOp ev (Oper.mk d (.binOp .leq t x y t') ty p af g)).run P w = .ok (.value (.bool (decide (i ≤ j)))) w := o_leq hx hy rfl
theorem o_gtI {t t' : TypeId} {x y : Operand} {k : IntKind} {i j : Int} (hx : ev x = .int k i) (hy : ev y = .int k j) : (execOp ev (Oper.mk d (.binOp .gtr t x y t') ty p af g)).run P w = .ok (.value (.bool (decide (j < i)))) w := o_gtr hx hy rfl
theorem o_geI {t t' : TypeId} {x y : Operand} {k : IntKind} {i j : Int} (hx : ev x = .int k i) (hy : ev y = .int k j) : (execOp ev (Oper.mk d (.binOp .geq t x y t') ty p af g)).run P w = .ok (.value (.bool (decide (j ≤ i)))) w := o_geq hx hy rfl
theorem o_notI {t : TypeId} {x : Operand} {b : Bool} (hx : ev x = .bool b) : (execOp ev (Oper.mk d (.unOp .not t x) ty p af g)).run P w = .ok (.value (.bool (!b))) w := o_not hx rfl
theorem o_min {x y : Operand} {ts : Array TypeId} {k : IntKind} {i j r : Int} (hx : ev x = .int k i) (hy : ev y = .int k j) (hr : (if j < i then j else i) = r) : (execOp ev (Oper.mk d (.call (Call.mk (.builtin .min) #[x, y] ts)) ty p af g)).run P w = .ok (.value (.int k r)) w := by
 subst hr
 simp [execOp, resolve, invoke, builtin, Builtin.min_, Builtin.min2, hx, hy, go_sem]
theorem o_cut {T E : TypeId} {x y : Operand} {a : Option Addr} {n c k s : Nat} (hx : ev x = .slice a n c) (hy : ev y = .int .i64 (k : Int)) (hu : P.underlying T = some (.slice E)) (hs : (P.info? E).map (·.size) = some s) (hk : k ≤ c) : (execOp ev (Oper.mk d (.slice T x none (some y) none) ty p af g)).run P w = .ok (.value (.slice a k c)) w := by
  have h1 := size_of hs w
  have hi' : (0 : Int) ≤ (k : Int) ∧ (k : Int) ≤ (c : Int) := by omega
  have h0 : (0 : Nat) ≤ k := by omega
  unfold execOp
  simp only [hx, hy, Option.map_none, Option.map_some, Instr.sliceAt, Instr.slice, Instr.sliceBounds, Instr.sliceBound, asIntOf, Sem.run_bind, run_underlying hu w, Sem.run_pure, Result.andThen_ok, h1, if_pos hi', Int.toNat_natCast]
  cases c with
  | zero => cases a <;> simp [add_n, go_sem] <;> rfl
  | succ c => cases a <;> simp [go_sem]
end
theorem nmin_int (a b : Nat) : (if (b : Int) < (a : Int) then (b : Int) else (a : Int)) = ((min a b : Nat) : Int) := by split <;> omega
theorem s_app {P : Program} {ops : Array Oper} {Q : Exit → Act → World → Prop} {rest : List Oper} {a : Act} {w : World} {dd N : Nat} {s x : Operand} {t ty : TypeId} {p : String} {af : Array Edge} {g : Option (Nat × Bool)} {base : Nat} {e : TypeId} {i : TypeInfo} {z : Value} {size bytes : Nat}
    (ok : Ok N a) (hw : Region.wanted (Oper.mk (some dd) (.call { callee := .builtin .append, args := #[s, x], argTypes := #[t, t] }) ty p af g) (yielded ops a.tmps) = true) (hN : Nat.blt dd N = true)
    (ht : P.underlying t = some (.slice e)) (hi : P.info? e = some i) (hz : i.zero = some z) (hsize : i.size = size) (hby : i.bytes = bytes) (hzs : z.cells.size = size) (hsz : 0 < size)
    {v : Value} {n : Nat} {xs : List Value} (hs : a.eval s = v) (hown : w.ownsRow base e size v n xs)
    {ad : Addr} {m c : Nat} {news : List Value} (hx : a.eval x = .slice (some ad) m c) (hl : news.length = m * size) (hnews : ∀ j u, news[j]? = some u → w.cell? (ad.add j) = some u) (h1 : ∀ u ∈ news, u.oneCell' = true)
    (h63 : n + m ≤ maxLen) (hbytes : (n + m) * bytes ≤ 140737488355328) (hbase : base ≤ w.heap.size)
    (h : ∀ a' w' v', w'.ownsRow base e size v' (n + m) (xs ++ news) → w.grownBy w' v.ownBlock → Nx N a a' dd v' → wpList P ops Q rest a' w') :
    wpList P ops Q (Oper.mk (some dd) (.call { callee := .builtin .append, args := #[s, x], argTypes := #[t, t] }) ty p af g :: rest) a w := by
  refine s_step hw ?_
  exact wp_append_own w s x t rfl base e i z size bytes ht hi hz hsize hby hzs hsz v n xs hs hown ad m c news hx hl hnews h1 h63 hbytes hbase fun v' w' h2 h3 _ => h _ w' v' h2 h3 (Nx.put ok hN v')
theorem info_of {P : Program} {e : TypeId} {z : Value} {size bytes : Nat} (h : (P.info? e).map (fun i => (i.zero, i.size, i.bytes)) = some (some z, size, bytes)) : ∃ i, P.info? e = some i ∧ i.zero = some z ∧ i.size = size ∧ i.bytes = bytes := by
 cases hq : P.info? e with
 | none => simp [hq] at h
 | some i => simp [hq] at h; exact ⟨i, rfl, h.1, h.2.1, h.2.2⟩
theorem ow_lt {w : World} {base : Nat} {e : TypeId} {s n : Nat} {v : Value} {xs : List Value} (h : w.ownsRow base e s v n xs) : ∀ k, v.ownBlock = some k → base ≤ k := by
 intro k hk
 obtain ⟨-, ⟨rfl, -⟩ | ⟨g, cap, cur, rfl, hb, -⟩⟩ := h
 ·cases hk
 ·cases hk; exact hb
theorem ow_form {w : World} {base : Nat} {e : TypeId} {s n : Nat} {v : Value} {xs : List Value} (h : w.ownsRow base e s v n xs) : ∃ a c, v = .slice a n c ∧ n ≤ c := by
 obtain ⟨-, ⟨rfl, rfl⟩ | ⟨g, cap, cur, rfl, hb, -, hn, -⟩⟩ := h
 ·exact ⟨none, 0, rfl, Nat.le_refl _⟩
 ·exact ⟨_, cap, rfl, hn⟩
theorem Bk.grown {w w' : World} {b base : Nat} {cs : Array Value} {t : TypeId} {r : Option Nat} (h : Bk w b cs t) (g : w.grownBy w' r) (hr : ∀ k, r = some k → base ≤ k) (hb : b < base) : Bk w' b cs t :=
 (g.block b h.lt (fun e => by have := hr b e.symm; omega)).trans h
theorem ow_gr {w w' : World} {base : Nat} {e : TypeId} {s n : Nat} {v : Value} {xs : List Value} (h : w.ownsRow base e s v n xs) (g : Gr w w') : w'.ownsRow base e s v n xs := by
 obtain ⟨h1, h2 | ⟨b, cap, cur, e, h3, hg, h4⟩⟩ := h
 ·exact ⟨h1, .inl h2⟩
 ·exact ⟨h1, .inr ⟨b, cap, cur, e, h3, (Below.block g b (Array.getElem?_eq_some_iff.1 hg).1).trans hg, h4⟩⟩
theorem ow_upd {w w' : World} {base b : Nat} {e : TypeId} {s n : Nat} {v : Value} {xs : List Value} (h : w.ownsRow base e s v n xs) (u : Upd w w' b) (hb : b < base) : w'.ownsRow base e s v n xs := by
 obtain ⟨h1, h2 | ⟨g, cap, cur, e, h3, hg, h4⟩⟩ := h
 ·exact ⟨h1, .inl h2⟩
 ·exact ⟨h1, .inr ⟨g, cap, cur, e, h3, (u.oth g (by omega)).trans hg, h4⟩⟩
theorem ow_upd_ne {w w' : World} {base b : Nat} {e : TypeId} {s n : Nat} {v : Value} {xs : List Value} (h : w.ownsRow base e s v n xs) (u : Upd w w' b) (hb : ∀ k, v.ownBlock = some k → k < b) : w'.ownsRow base e s v n xs := by
 obtain ⟨h1, h2 | ⟨g, cap, cur, rfl, h3, hg, h4⟩⟩ := h
 ·exact ⟨h1, .inl h2⟩
 ·exact ⟨h1, .inr ⟨g, cap, cur, rfl, h3, (u.oth g (Nat.ne_of_lt (hb g rfl))).trans hg, h4⟩⟩
theorem ow_in {w : World} {base : Nat} {e : TypeId} {s n : Nat} {v : Value} {xs : List Value} (h : w.ownsRow base e s v n xs) : ∀ k, v.ownBlock = some k → k < w.heap.size := by
 intro k hk
 obtain ⟨-, ⟨rfl, -⟩ | ⟨g, cap, cur, rfl, -, hg, -⟩⟩ := h
 ·cases hk
 ·cases hk; exact (Array.getElem?_eq_some_iff.1 hg).1
theorem Bk.grown_ne {w w' : World} {b : Nat} {cs : Array Value} {t : TypeId} {r : Option Nat} (h : Bk w b cs t) (g : w.grownBy w' r) (hr : ∀ k, r = some k → k < b) : Bk w' b cs t :=
 (g.block b h.lt (fun e => Nat.lt_irrefl _ (hr b e.symm))).trans h
theorem ow_cut {w : World} {base : Nat} {e : TypeId} {s n c k : Nat} {a : Option Addr} {xs : List Value} (h : w.ownsRow base e s (.slice a n c) n xs) (hk : k ≤ n) : w.ownsRow base e s (.slice a k c) k (xs.take (k * s)) := by
  have hks : k * s ≤ n * s := Nat.mul_le_mul_right _ hk
  obtain ⟨h1, ⟨hv, h0⟩ | ⟨g, cap, cur, hv, h3, hg, h4, h5, h6, h7⟩⟩ := h
  · injection hv with e1 e2 e3
    subst e1 e3
    have : k = 0 := by omega
    subst this
    exact ⟨by simp, .inl ⟨rfl, rfl⟩⟩
  · injection hv with e1 e2 e3
    subst e1 e3
    refine ⟨by rw [List.length_take, h1]; omega, .inr ⟨g, c, cur, rfl, h3, hg, by omega, h5, h6, ?_⟩⟩
    rw [← h7, List.take_take, Nat.min_eq_left hks]
theorem ow_grown {w w' : World} {base base' : Nat} {e e' : TypeId} {s s' n n' : Nat} {v v' : Value} {xs xs' : List Value} (h : w.ownsRow base e s v n xs) (h' : w.ownsRow base' e' s' v' n' xs') (g : w.grownBy w' v'.ownBlock) (he : Nat.beq e e' = false) : w'.ownsRow base e s v n xs := by
  obtain ⟨h1, h2 | ⟨b, cap, cur, rfl, h3, hg, h4⟩⟩ := h
  · exact ⟨h1, .inl h2⟩
  · refine ⟨h1, .inr ⟨b, cap, cur, rfl, h3, (g.block b (Array.getElem?_eq_some_iff.1 hg).1 ?_).trans hg, h4⟩⟩
    intro q
    obtain ⟨-, ⟨rfl, -⟩ | ⟨b', cap', cur', rfl, -, hg', -⟩⟩ := h'
    · cases q
    · cases q
      rw [hg] at hg'
      injection hg' with q1
      injection q1 with _ q3
      exact Nat.ne_of_beq_eq_false he q3
/-! control -/
section
variable {P : Program} {Q : Exit → Act → World → Prop} {K : Act → World → Prop} {a : Act} {w : World} {i j : Nat}
theorem th_n (h : K a w) : Exit.then K Q .normal a w := h
theorem th_x (h : Q (.exit i) a w) : Exit.then K Q (.exit i) a w := h
theorem th_r (h : Q .ret a w) : Exit.then K Q .ret a w := h
theorem ib_n (h : Q .normal a w) : Exit.inBlock i Q .normal a w := h
theorem ib_x (h : Q .normal a w) : Exit.inBlock i Q (.exit i) a w := by unfold Exit.inBlock; simpa using h
theorem ib_r (h : Q .ret a w) : Exit.inBlock i Q .ret a w := h
theorem enter {f : FuncId} {fn : Func} {c : Code} {args : Array Value} {R : Ending → World → Prop} {N : Nat} (hf : P.funcs[f]? = some fn) (hb : fn.body = some c) (hN : fn.ntmps = N) (hA : Nat.ble args.size N = true)
  (h : ∀ a, Ok N a → (∀ t v, args[t]? = some v → a.eval (.tmp t) = v) → c.wp P (bodyPost P fn R) a w) : Calls P f args w R := by
 refine calls_of_wp hf hb (h _ ⟨?_, rfl⟩ ?_)
 ·have := Nat.le_of_ble_eq_true hA
  simp only [Array.size_append, Array.size_replicate]
  omega
 ·intro t v ht
  have hlt : t < args.size := (Array.getElem?_eq_some_iff.1 ht).1
  simp only [Act.eval, Array.getD_eq_getD_getElem?]
  rw [Array.getElem?_append_left hlt, ht]
  rfl
def RV (P : Program) (a : Act) (w : World) (r : ResultVar) (v : Value) : Prop := match r with
  | .tmp t => a.eval (.tmp t) = v
  | .cell p t => ∃ b k, a.eval (.tmp p) = .pointer (some ⟨b, k, none⟩) ∧ (loadVar t ⟨b, k, none⟩).run P w = .ok v w
theorem ret1 {fn : Func} {R : Ending → World → Prop} {N : Nat} {r : ResultVar} {v : Value} (ok : Ok N a) (hr : fn.results = #[r]) (hv : RV P a w r v) (h : R (.returned v) w) : bodyPost P fn R .ret a w := by
 refine ⟨ok.dfr, v, ?_, h⟩
 cases r with
 | tmp t =>
  have h1 : a.tmps[t]?.getD undef = v := by simpa [RV, Act.eval] using hv
  simp [results, hr, h1]
 | cell p t =>
  obtain ⟨b, k, h1, h2⟩ := hv
  have h1' : a.tmps[p]?.getD undef = .pointer (some ⟨b, k, none⟩) := by simpa [Act.eval] using h1
  simp [results, hr, h1', asAddr, h2]
theorem ret2 {fn : Func} {R : Ending → World → Prop} {N : Nat} {r r' : ResultVar} {v v' : Value} (ok : Ok N a) (hr : fn.results = #[r, r']) (hv : RV P a w r v) (hv' : RV P a w r' v') (h : R (.returned (.tuple #[v, v'])) w) : bodyPost P fn R .ret a w := by
 refine ⟨ok.dfr, .tuple #[v, v'], ?_, h⟩
 cases r with
 | tmp t =>
  have h1 : a.tmps[t]?.getD undef = v := by simpa [RV, Act.eval] using hv
  cases r' with
  | tmp t' =>
   have h2 : a.tmps[t']?.getD undef = v' := by simpa [RV, Act.eval] using hv'
   simp [results, hr, h1, h2]
  | cell p t' =>
   obtain ⟨b, k, h2, h3⟩ := hv'
   have h2' : a.tmps[p]?.getD undef = .pointer (some ⟨b, k, none⟩) := by simpa [Act.eval] using h2
   simp [results, hr, h1, h2', asAddr, h3]
 | cell p t =>
  obtain ⟨b, k, h0, h1⟩ := hv
  have h0' : a.tmps[p]?.getD undef = .pointer (some ⟨b, k, none⟩) := by simpa [Act.eval] using h0
  cases r' with
  | tmp t' =>
   have h2 : a.tmps[t']?.getD undef = v' := by simpa [RV, Act.eval] using hv'
   simp [results, hr, h0', asAddr, h1, h2]
  | cell p' t' =>
   obtain ⟨b, k, h2, h3⟩ := hv'
   have h2' : a.tmps[p']?.getD undef = .pointer (some ⟨b, k, none⟩) := by simpa [Act.eval] using h2
   simp [results, hr, h0', asAddr, h1, h2', h3]
end
end Gx
/- Two parts of a tuple are taken and the first is stored: the second may come when it likes. -/
namespace Gx
open Go Go.RowKit Rm
section
variable {P : Program} {ops : Array Oper} {Q : Exit → Act → World → Prop} {N : Nat}
theorem w_val {i : Nat} {o : Oper} {R : Act → World → Prop} {a : Act} {w : World} {d : Nat} {v : Value} (ho : ops[i]? = some o) (hw : Region.wanted o (yielded ops a.tmps) = true) (hd : o.dst = some d)
  (hrun : (execOp a.eval o).run P w = .ok (.value v) w) (h : R (a.put (some d) v) w) : wpOp P ops Q i R a w := by
 unfold wpOp
 rw [ho]
 simp only [hw, if_true]
 refine .inl ?_
 unfold Oper.wp
 rw [hrun]
 show R (a.put o.dst v) w
 rw [hd]
 exact h
theorem w_st {i : Nat} {o : Oper} {R : Act → World → Prop} {a : Act} {w w' : World} (ho : ops[i]? = some o) (hw : Region.wanted o (yielded ops a.tmps) = true) (hd : o.dst = none)
  (hrun : (execOp a.eval o).run P w = .ok .skip w') (h : R a w') : wpOp P ops Q i R a w := by
 unfold wpOp
 rw [ho]
 simp only [hw, if_true]
 refine .inl ?_
 unfold Oper.wp
 rw [hrun]
 show R (a.put o.dst undef) w'
 rw [hd]
 exact h
end
end Gx
/- Rows of structs, read, owned and stored to; func values; clear. -/
namespace Gx
open Go Go.RowKit Rm
def FnOk (P : Program) (f : FuncId) : Prop := ∃ fn, P.funcs[f]? = some fn ∧ (fn.name == "runtime.NumGoroutine") = false ∧ fn.body.isNone = false
section
variable {P : Program} {ev : Operand → Value} {d : Option Tmp} {ty : TypeId} {p : String} {af : Array Edge} {g : Option (Nat × Bool)} {w : World}
theorem ev_func {a : Act} {f : FuncId} : a.eval (.func f) = .func (.func f) #[] #[] := rfl
theorem o_fv1 {x x0 : Operand} {f : FuncId} {caps : List Value} {v0 : Value} {ts : Array TypeId} (hf : FnOk P f) (hx : ev x = .func (.func f) #[] caps.toArray) (h0 : ev x0 = v0) :
  (execOp ev (Oper.mk d (.call (Call.mk (.value x) #[x0] ts)) ty p af g)).run P w = .ok (.enter f (v0 :: caps).toArray) w := by
 obtain ⟨fn, hf, hn, hb⟩ := hf
 have h1 : ¬ fn.name = "runtime.NumGoroutine" := by simpa using hn
 have h2 : ¬ fn.body = none := by intro e; rw [e] at hb; cases hb
 have h3 : (#[v0] ++ caps.toArray : Array Value) = (v0 :: caps).toArray := by simp
 simp [execOp, resolve, invoke, Deferred.ofValue, callFunc, hx, h0, Sem.run_bind, hf, h1, h2, go_sem]
theorem o_fv2 {x x0 x1 : Operand} {f : FuncId} {caps : List Value} {v0 v1 : Value} {ts : Array TypeId} (hf : FnOk P f) (hx : ev x = .func (.func f) #[] caps.toArray) (h0 : ev x0 = v0) (h1' : ev x1 = v1) :
  (execOp ev (Oper.mk d (.call (Call.mk (.value x) #[x0, x1] ts)) ty p af g)).run P w = .ok (.enter f (v0 :: v1 :: caps).toArray) w := by
 obtain ⟨fn, hf, hn, hb⟩ := hf
 have h1 : ¬ fn.name = "runtime.NumGoroutine" := by simpa using hn
 have h2 : ¬ fn.body = none := by intro e; rw [e] at hb; cases hb
 simp [execOp, resolve, invoke, Deferred.ofValue, callFunc, hx, h0, h1', Sem.run_bind, hf, h1, h2, go_sem]
theorem o_mf {fn : Fn} {first cap : Array Operand} {fs cs : List Value} (h0 : first.map ev = fs.toArray) (h : cap.map ev = cs.toArray) : (execOp ev (Oper.mk d (.makeFunc fn first cap) ty p af g)).run P w = .ok (.value (.func fn fs.toArray cs.toArray)) w := by
 rw [← h0, ← h]
 rfl
theorem o_cutL {T E : TypeId} {x y : Operand} {b off n c k s : Nat} (hx : ev x = .slice (some ⟨b, off, none⟩) n c) (hy : ev y = .int .i64 (k : Int)) (hu : P.underlying T = some (.slice E)) (hs : (P.info? E).map (·.size) = some s) (hk : k ≤ n) (hc : n ≤ c) : (execOp ev (Oper.mk d (.slice T x (some y) none none) ty p af g)).run P w = .ok (.value (.slice (some ⟨b, if c = k then off else off + k * s, none⟩) (n - k) (c - k))) w := by
  have h1 := size_of hs w
  have hi' : (0 : Int) ≤ (k : Int) ∧ (k : Int) ≤ (n : Int) := by omega
  unfold execOp
  simp only [hx, hy, Option.map_none, Option.map_some, Instr.sliceAt, Instr.slice, Instr.sliceBounds, Instr.sliceBound, asIntOf, Sem.run_bind, run_underlying hu w, Sem.run_pure, Result.andThen_ok, h1, if_pos hi', Int.toNat_natCast, add_n]
  split <;> simp [go_sem, add_n]
end
theorem bk_part {w : World} {b : Nat} {cs : Array Value} {t : TypeId} (h : Bk w b cs t) {k : Nat} {l : List Value} (hl : (cs.toList.drop k).take l.length = l) : ∀ j v, l[j]? = some v → w.cell? ⟨b, k + j, none⟩ = some v := by
 intro j v hv
 refine h.cell _ ?_
 have hj := (List.getElem?_eq_some_iff.1 hv).1
 rw [← hl, List.getElem?_take_of_lt hj, List.getElem?_drop] at hv
 simpa using hv
/-! words of 32 bits -/
section
variable {P : Program} {ev : Operand → Value} {d : Option Tmp} {ty : TypeId} {p : String} {af : Array Edge} {g : Option (Nat × Bool)} {w : World}
end
/-! rows -/
def flatE {E : Type} (enc : E → List Value) (K : List E) : List Value := K.flatMap enc
structure EncOk {E : Type} (enc : E → List Value) (s : Nat) : Prop where
 len : ∀ x, (enc x).length = s
 one : ∀ x, ∀ u ∈ enc x, u.oneCell' = true
section
variable {E : Type} {enc : E → List Value} {s : Nat}
theorem flatE_app (K L : List E) : flatE enc (K ++ L) = flatE enc K ++ flatE enc L := by simp [flatE]
theorem flatE_one (x : E) : flatE enc [x] = enc x := by simp [flatE]
theorem flatE_len (h : EncOk enc s) (K : List E) : (flatE enc K).length = K.length * s := by
 induction K with
 | nil => simp [flatE]
 | cons a K ih =>
  have : flatE enc (a :: K) = enc a ++ flatE enc K := by simp [flatE]
  rw [this, List.length_append, h.len, ih, List.length_cons, Nat.add_mul]
  omega
theorem flatE_ones (h : EncOk enc s) (K : List E) : ∀ u ∈ flatE enc K, u.oneCell' = true := by
 intro u hu
 obtain ⟨x, _, hx⟩ := List.mem_flatMap.1 hu
 exact h.one x u hx
theorem flatE_split (h : EncOk enc s) {K : List E} {i : Nat} {x : E} (hx : K[i]? = some x) : flatE enc K = flatE enc (K.take i) ++ enc x ++ flatE enc (K.drop (i + 1)) := by
 obtain ⟨hi, e⟩ := List.getElem?_eq_some_iff.1 hx
 have : K = K.take i ++ [x] ++ K.drop (i + 1) := by
  rw [← e, List.append_assoc, List.singleton_append, ← List.drop_eq_getElem_cons hi, List.take_append_drop]
 have e2 := congrArg (flatE enc) this
 rw [flatE_app, flatE_app, flatE_one] at e2
 exact e2
theorem flatE_take (h : EncOk enc s) (K : List E) (k : Nat) (hk : k ≤ K.length) : (flatE enc K).take (k * s) = flatE enc (K.take k) := by
 have e : flatE enc K = flatE enc (K.take k) ++ flatE enc (K.drop k) := by rw [← flatE_app, List.take_append_drop]
 have hl : (flatE enc (K.take k)).length = k * s := by rw [flatE_len h, List.length_take, Nat.min_eq_left hk]
 rw [e, ← hl, List.take_left]
theorem flatE_at (h : EncOk enc s) {K : List E} {i : Nat} {x : E} (hx : K[i]? = some x) {j : Nat} {u : Value} (hu : (enc x)[j]? = some u) : (flatE enc K)[i * s + j]? = some u := by
 obtain ⟨hi, e⟩ := List.getElem?_eq_some_iff.1 hx
 have hl : (flatE enc (K.take i)).length = i * s := by rw [flatE_len h, List.length_take, Nat.min_eq_left (Nat.le_of_lt hi)]
 have hj : j < (enc x).length := (List.getElem?_eq_some_iff.1 hu).1
 rw [flatE_split h hx, List.append_assoc, List.getElem?_append_right (by omega), hl, Nat.add_sub_cancel_left, List.getElem?_append_left hj]
 exact hu
def RdE (enc : E → List Value) (s : Nat) (w : World) (v : Value) (K : List E) : Prop :=
  ∃ a c, v = .slice a K.length c ∧ K.length ≤ c ∧ (K ≠ [] → ∃ b off, a = some ⟨b, off, none⟩ ∧ b < w.heap.size ∧ ∀ i x, K[i]? = some x → ∀ j u, (enc x)[j]? = some u → w.cell? ⟨b, off + i * s + j, none⟩ = some u)
def RdA (enc : E → List Value) (s : Nat) (w : World) (a : Option Addr) (K : List E) : Prop :=
  K ≠ [] → ∃ b off, a = some ⟨b, off, none⟩ ∧ b < w.heap.size ∧ ∀ i x, K[i]? = some x → ∀ j u, (enc x)[j]? = some u → w.cell? ⟨b, off + i * s + j, none⟩ = some u
theorem RdA.gr {w w' : World} {a : Option Addr} {K : List E} (h : RdA enc s w a K) (g : Gr w w') : RdA enc s w' a K := fun hn => by
 obtain ⟨b, off, e, hb, hx⟩ := h hn
 exact ⟨b, off, e, Nat.lt_of_lt_of_le hb g.le, fun i x hi j u hu => (g.cells.1 b _ hb).trans (hx i x hi j u hu)⟩
theorem RdE.nil (w : World) : RdE enc s w (.slice none 0 0) [] := ⟨none, 0, rfl, Nat.le_refl _, fun h => absurd rfl h⟩
theorem RdE.own {w : World} {base : Nat} {e : TypeId} {v : Value} {K : List E} (he : EncOk enc s) (h : w.ownsRow base e s v K.length (flatE enc K)) : RdE enc s w v K := by
 obtain ⟨hl, ⟨rfl, hn⟩ | ⟨g, cap, cur, rfl, hb, hg, hnc, hm, hcs, ht⟩⟩ := h
 ·obtain rfl : K = [] := List.eq_nil_of_length_eq_zero hn
  exact RdE.nil w
 ·refine ⟨_, cap, rfl, hnc, fun _ => ⟨g, 0, rfl, (Array.getElem?_eq_some_iff.1 hg).1, fun i x hi j u hu => ?_⟩⟩
  have hk := flatE_at he hi hu
  have hlt : i * s + j < K.length * s := by rw [← hl]; exact (List.getElem?_eq_some_iff.1 hk).1
  rw [← ht, List.getElem?_take_of_lt hlt] at hk
  simp only [World.cell?, hg, Nat.zero_add]
  simpa using hk
def splL : List Value → Nat → List Value → List Value
  | xs, _, [] => xs
  | xs, o, v :: r => splL (xs.set o v) (o + 1) r
theorem splL_len (vs : List Value) : ∀ (xs : List Value) (o : Nat), (splL xs o vs).length = xs.length := by
 induction vs with
 | nil => intro xs o; rfl
 | cons v r ih => intro xs o; rw [splL, ih, List.length_set]
theorem splL_eq (vs : List Value) : ∀ (xs : List Value) (o : Nat), o + vs.length ≤ xs.length → splL xs o vs = xs.take o ++ vs ++ xs.drop (o + vs.length) := by
 induction vs with
 | nil => intro xs o h; simp [splL]
 | cons v r ih =>
  intro xs o h
  simp only [List.length_cons] at h
  rw [splL, ih _ _ (by rw [List.length_set]; omega)]
  rw [List.take_set, List.drop_set_of_lt (by omega)]
  have e1 : (xs.take (o + 1)).set o v = xs.take o ++ [v] := by
   rw [List.take_add_one, List.getElem?_eq_getElem (show o < xs.length by omega)]
   have hl : (xs.take o).length = o := by rw [List.length_take]; omega
   simp only [Option.toList_some]
   rw [List.set_append_right _ _ (by omega), hl, Nat.sub_self]
   rfl
  rw [e1, List.length_cons, show o + 1 + r.length = o + (r.length + 1) by omega]
  simp
theorem splL_take (vs : List Value) : ∀ (xs : List Value) (o m : Nat), (splL xs o vs).take m = splL (xs.take m) o vs := by
 induction vs with
 | nil => intro xs o m; rfl
 | cons v r ih => intro xs o m; rw [splL, ih, splL, List.take_set]
theorem splL_before (vs : List Value) : ∀ (xs : List Value) (o m : Nat), m ≤ o → (splL xs o vs).take m = xs.take m := by
 induction vs with
 | nil => intro xs o m _; rfl
 | cons v r ih => intro xs o m h; rw [splL, ih _ _ _ (by omega), List.take_set_of_le h]
theorem splL_flat (h : EncOk enc s) {K : List E} {i : Nat} (hi : i < K.length) (x : E) : splL (flatE enc K) (i * s) (enc x) = flatE enc (K.set i x) := by
 have hl := flatE_len h K
 have hlt : i * s + s ≤ K.length * s := by
  have := Nat.mul_le_mul_right s (show i + 1 ≤ K.length by omega)
  rw [Nat.add_mul] at this; omega
 rw [splL_eq _ _ _ (by rw [h.len, hl]; exact hlt), h.len, flatE_take h K i (by omega)]
 have hx : (K.set i x)[i]? = some x := by rw [List.getElem?_set_self hi]
 rw [flatE_split h hx, List.take_set_of_le (Nat.le_refl _), List.drop_set_of_lt (by omega)]
 congr 1
 have e : flatE enc K = flatE enc (K.take (i + 1)) ++ flatE enc (K.drop (i + 1)) := by rw [← flatE_app, List.take_append_drop]
 have hl2 : (flatE enc (K.take (i + 1))).length = i * s + s := by rw [flatE_len h, List.length_take, Nat.min_eq_left (by omega), Nat.add_mul]; omega
 rw [e, ← hl2, List.drop_left]
theorem setCells_blk {b : Nat} {t : TypeId} {fr : Nat × Nat} (vs : List Value) : ∀ (o : Nat) (w : World) (cs : Array Value), w.heap[b]? = some (.cells cs t fr) → ∃ cs', (w.setCells b o vs).heap[b]? = some (.cells cs' t fr) ∧ cs'.toList = splL cs.toList o vs := by
  induction vs with
  | nil => intro o w cs h; exact ⟨cs, h, rfl⟩
  | cons v r ih =>
    intro o w cs h
    obtain ⟨cs', h1, h2⟩ := ih (o + 1) (w.setCell ⟨b, o, none⟩ v) (cs.setIfInBounds o v) (by simp [World.setCell, Array.getElem?_modify, h])
    exact ⟨cs', h1, by rw [h2, splL, Array.toList_setIfInBounds]⟩
theorem setCells_upd (b : Nat) (vs : List Value) : ∀ (o : Nat) (w : World), Upd w (w.setCells b o vs) b := by
 induction vs with
 | nil => intro o w; exact ⟨rfl, rfl, rfl, rfl, fun _ _ => rfl⟩
 | cons v r ih =>
  intro o w
  have u := upd_cell w b o v
  have h := ih (o + 1) (w.setCell ⟨b, o, none⟩ v)
  exact ⟨h.os.trans u.os, h.tape.trans u.tape, h.output.trans u.output, h.size.trans u.size, fun k hk => (h.oth k hk).trans (u.oth k hk)⟩
theorem Upd.grown {w w' : World} {b : Nat} (u : Upd w w' b) : w.grownBy w' (some b) :=
 ⟨u.os, u.tape, u.output, by rw [u.size]; exact Nat.le_refl _, fun k _ hk => u.oth k (fun e => hk (by rw [e]))⟩
theorem gb_gr {w w' w'' : World} {r : Option Nat} (h : w.grownBy w' r) (g : Gr w' w'') : w.grownBy w'' r :=
 ⟨g.os.trans h.os, g.tape.trans h.tape, g.output.trans h.output, Nat.le_trans h.size g.size, fun k hk hr => (Below.block g k (Nat.lt_of_lt_of_le hk h.size)).trans (h.block k hk hr)⟩
theorem gb_of {w w' : World} {r : Option Nat} (g : Gr w w') : w.grownBy w' r := ⟨g.os, g.tape, g.output, g.size, fun k hk _ => Below.block g k hk⟩
theorem gb_gb {w w' w'' : World} {r : Option Nat} (h : w.grownBy w' r) (g : w'.grownBy w'' r) : w.grownBy w'' r :=
 ⟨g.os.trans h.os, g.tape.trans h.tape, g.output.trans h.output, Nat.le_trans h.size g.size, fun k hk hr => (g.block k (Nat.lt_of_lt_of_le hk h.size) hr).trans (h.block k hk hr)⟩
theorem gb_upd {w w' w'' : World} {r : Option Nat} {b : Nat} (h : w.grownBy w' r) (u : Upd w' w'' b) (hb : w.heap.size ≤ b) : w.grownBy w'' r :=
 ⟨u.os.trans h.os, u.tape.trans h.tape, u.output.trans h.output, by rw [u.size]; exact h.size, fun k hk hr => (u.oth k (by omega)).trans (h.block k hk hr)⟩
theorem gb_self {w : World} {r : Option Nat} : w.grownBy w r := gb_of (Gr.refl w)
theorem ow_put {w : World} {base g off n c : Nat} {e : TypeId} {xs vs : List Value} (h : w.ownsRow base e s (.slice (some ⟨g, 0, none⟩) n c) n xs) (ho : off + vs.length ≤ n * s) :
    (w.setCells g off vs).ownsRow base e s (.slice (some ⟨g, 0, none⟩) n c) n (splL xs off vs) ∧ (∀ j, j < vs.length → (w.cell? ⟨g, off + j, none⟩).isSome = true) ∧ (∀ j, j < vs.length → w.frozen? ⟨g, off + j, none⟩ = false) := by
  obtain ⟨h1, ⟨hv, -⟩ | ⟨g', cap, cur, hv, h3, hg, h4, h5, h6, h7⟩⟩ := h
  · cases hv
  · injection hv with e1 e2 e3
    injection e1 with e1
    injection e1 with e1
    subst e1 e3
    obtain ⟨cs', k1, k2⟩ := setCells_blk vs off w cur hg
    have hnc : n * s ≤ c * s := Nat.mul_le_mul_right _ h4
    refine ⟨⟨by rw [splL_len]; exact h1, .inr ⟨g, c, cs', rfl, h3, k1, h4, h5, ?_, ?_⟩⟩, fun j hj => ?_, fun j hj => ?_⟩
    · have := congrArg List.length k2
      rw [splL_len] at this
      simpa [h6] using this
    · rw [k2, splL_take, h7]
    · simp only [World.cell?, hg]
      simp; omega
    · simp [World.frozen?, hg]
theorem run_clear_row (P : Program) (w : World) (ty : TypeId) (t e : TypeId) (z : Value) (b o n c : Nat) (hn : 0 < n) (ht : P.underlying t = some (.slice e)) (hz : (P.info? e).bind (·.zero) = some z) (h1 : ∀ u ∈ (Builtin.zeroCells z.cells n).toList, u.oneCell' = true)
  (hc : ∀ j, j < n * z.cells.size → (w.cell? ⟨b, o + j, none⟩).isSome = true) (hf : ∀ j, j < n * z.cells.size → w.frozen? ⟨b, o + j, none⟩ = false) :
  (Builtin.clear_ #[t] ty #[.slice (some ⟨b, o, none⟩) n c]).run P w = .ok (.tuple #[]) (w.setCells b o (Builtin.zeroCells z.cells n).toList) := by
 have hl : (Builtin.zeroCells z.cells n).toList.length = n * z.cells.size := by simp [Builtin.zeroCells]
 have hst := run_storeCells_cells (P := P) b o (Builtin.zeroCells z.cells n).toList 0 w (by rw [hl]; simpa using hc) (by rw [hl]; simpa using hf) h1
 simp only [Nat.add_zero] at hst
 have hv : (zeroValue e).run P w = .ok z w := by
  cases hq : P.info? e with
  | none => simp [hq] at hz
  | some i =>
   have hz' : i.zero = some z := by simpa [hq] using hz
   simp [zeroValue, typeInfo, hq, hz', go_sem]
 obtain ⟨m, rfl⟩ : ∃ m, n = m + 1 := ⟨n - 1, by omega⟩
 simp [Builtin.clear_, run_underlying ht, hv, hst]
theorem ow_clear {w : World} {base g n c k : Nat} {e : TypeId} {xs vs : List Value} (h : w.ownsRow base e s (.slice (some ⟨g, 0, none⟩) n c) n xs) (hk : k ≤ n) (hl : k * s + vs.length ≤ n * s) :
    (w.setCells g (k * s) vs).ownsRow base e s (.slice (some ⟨g, 0, none⟩) k c) k (xs.take (k * s)) := by
  have h2 := (ow_put (off := k * s) (vs := vs) h hl).1
  have h3 := ow_cut h2 hk
  rwa [splL_before _ _ _ _ (Nat.le_refl _)] at h3
theorem RdA.own {w : World} {base n c : Nat} {e : TypeId} {a : Option Addr} {K : List E} (he : EncOk enc s) (h : w.ownsRow base e s (.slice a n c) n (flatE enc K)) (hn : n = K.length) : RdA enc s w a K := by
 subst hn
 obtain ⟨a', c', q, -, h'⟩ := RdE.own he h
 injection q with q1 q2 q3
 subst q1
 exact h'
theorem ow_at {w : World} {base g n c : Nat} {e : TypeId} {K : List E} (he : EncOk enc s) (h : w.ownsRow base e s (.slice (some ⟨g, 0, none⟩) n c) n (flatE enc K)) (hn : n = K.length) {i : Nat} {x : E} (hx : K[i]? = some x) :
  ∀ j u, (enc x)[j]? = some u → w.cell? ⟨g, 0 + i * s + j, none⟩ = some u := by
 obtain ⟨b, off, e1, -, h2⟩ := RdA.own he h hn (fun q => by rw [q] at hx; simp at hx)
 injection e1 with e1
 injection e1 with e1 e2
 subst e1 e2
 exact h2 i x hx
theorem o_cutLt {P : Program} {ev : Operand → Value} {d : Option Tmp} {ty : TypeId} {p : String} {af : Array Edge} {g : Option (Nat × Bool)} {w : World} {T E : TypeId} {x y : Operand} {b off n c k s : Nat} (hx : ev x = .slice (some ⟨b, off, none⟩) n c) (hy : ev y = .int .i64 (k : Int)) (hu : P.underlying T = some (.slice E)) (hs : (P.info? E).map (·.size) = some s) (hk : k < n) (hc : n ≤ c) : (execOp ev (Oper.mk d (.slice T x (some y) none none) ty p af g)).run P w = .ok (.value (.slice (some ⟨b, off + k * s, none⟩) (n - k) (c - k))) w := by
 have h := o_cutL (d := d) (ty := ty) (p := p) (af := af) (g := g) (w := w) hx hy hu hs (Nat.le_of_lt hk) hc
 rw [if_neg (by omega)] at h
 exact h
theorem s_putE {P : Program} {ops : Array Oper} {Q : Exit → Act → World → Prop} {rest : List Oper} {a : Act} {w : World} {x y : Operand} {ty : TypeId} {p : String} {af : Array Edge} {gd : Option (Nat × Bool)} {base g n c i : Nat} {e t : TypeId} {K : List E} {u : E}
    (he : EncOk enc s) (hw : Region.wanted (Oper.mk none (.store t x y) ty p af gd) (yielded ops a.tmps) = true) (hx : a.eval x = .pointer (some ⟨g, 0 + i * s, none⟩)) (hy : a.eval y = .agg (enc u).toArray) (hi : (P.info? t).map (·.size) = some s)
    (hown : w.ownsRow base e s (.slice (some ⟨g, 0, none⟩) n c) n (flatE enc K)) (hn : n = K.length) (hlt : i < n)
    (h : ∀ w', w'.ownsRow base e s (.slice (some ⟨g, 0, none⟩) n c) n (flatE enc (K.set i u)) → w.grownBy w' (some g) → wpList P ops Q rest a w') : wpList P ops Q (Oper.mk none (.store t x y) ty p af gd :: rest) a w := by
  have hle : i * s + s ≤ n * s := by
    have := Nat.mul_le_mul_right s (show i + 1 ≤ n by omega)
    rw [Nat.add_mul] at this; omega
  obtain ⟨h1, h2, h3⟩ := ow_put (off := i * s) (vs := enc u) hown (by rw [he.len]; exact hle)
  rw [splL_flat he (by omega) u] at h1
  have hst := run_storeCells_cells (P := P) g (i * s) (enc u) 0 w (by simpa using h2) (by simpa using h3) (he.one u)
  simp only [Nat.add_zero] at hst
  refine ss (w' := w.setCells g (i * s) (enc u)) rfl hw ?_ (h _ h1 (setCells_upd _ _ _ _).grown)
  rw [Nat.zero_add] at hx
  have hsz := size_of hi w
  unfold execOp
  simp only [hx, hy, Instr.storeAt, Instr.sureAddr, storeVar, Value.cells, Sem.run_bind, Sem.run_pure, Result.andThen_ok, hsz]
  simp [he.len, hst, go_sem]
theorem s_clear {P : Program} {ops : Array Oper} {Q : Exit → Act → World → Prop} {rest : List Oper} {a : Act} {w : World} {x : Operand} {ty : TypeId} {p : String} {af : Array Edge} {gd : Option (Nat × Bool)} {base g n c k cc : Nat} {e t : TypeId} {K : List E} {z : Value}
    (he : EncOk enc s) (hw : Region.wanted (Oper.mk none (.call (Call.mk (.builtin .clear) #[x] #[t])) ty p af gd) (yielded ops a.tmps) = true) (hx : a.eval x = .slice (some ⟨g, 0 + k * s, none⟩) (n - k) cc)
    (ht : P.underlying t = some (.slice e)) (hz : (P.info? e).bind (·.zero) = some z) (hzs : z.cells.size = s) (hz1 : ∀ m, ∀ u ∈ (Builtin.zeroCells z.cells m).toList, u.oneCell' = true)
    (hown : w.ownsRow base e s (.slice (some ⟨g, 0, none⟩) n c) n (flatE enc K)) (hn : n = K.length) (hlt : k < n)
    (h : ∀ w', w'.ownsRow base e s (.slice (some ⟨g, 0, none⟩) k c) k (flatE enc (K.take k)) → w.grownBy w' (some g) → wpList P ops Q rest a w') : wpList P ops Q (Oper.mk none (.call (Call.mk (.builtin .clear) #[x] #[t])) ty p af gd :: rest) a w := by
  have hl : (Builtin.zeroCells z.cells (n - k)).toList.length = (n - k) * s := by simp [Builtin.zeroCells, hzs]
  have hle : k * s + (n - k) * s ≤ n * s := by rw [← Nat.add_mul]; exact Nat.mul_le_mul_right _ (by omega)
  obtain ⟨h1, h2, h3⟩ := ow_put (off := k * s) (vs := (Builtin.zeroCells z.cells (n - k)).toList) hown (by rw [hl]; exact hle)
  have h4 := ow_clear (k := k) (vs := (Builtin.zeroCells z.cells (n - k)).toList) hown (Nat.le_of_lt hlt) (by rw [hl]; exact hle)
  rw [flatE_take he K k (by omega)] at h4
  have hr := run_clear_row P w ty t e z g (k * s) (n - k) cc (by omega) ht hz (hz1 _) (by rw [hzs]; intro j hj; exact h2 j (by rw [hl]; exact hj)) (by rw [hzs]; intro j hj; exact h3 j (by rw [hl]; exact hj))
  refine s_step hw ?_
  rw [Nat.zero_add] at hx
  unfold Oper.wp execOp
  simp only [resolve, invoke, builtin, hx, Sem.run_bind, Sem.run_pure, Result.andThen_ok, List.map_toArray, List.map_cons, List.map_nil, hr]
  exact h _ h4 (setCells_upd _ _ _ _).grown
theorem ssP {P : Program} {ops : Array Oper} {Q : Exit → Act → World → Prop} {rest : List Oper} {a : Act} {w : World} {x y : Operand} {ty : TypeId} {p : String} {af : Array Edge} {gd : Option (Nat × Bool)} {b k : Nat} {t t' : TypeId} {cs cs' : Array Value} {vs : List Value}
    (hw : Region.wanted (Oper.mk none (.store t x y) ty p af gd) (yielded ops a.tmps) = true) (hx : a.eval x = .pointer (some ⟨b, k, none⟩)) (hy : a.eval y = .agg vs.toArray) (hi : (P.info? t).map (·.size) = some vs.length)
    (hb : Bk w b cs t') (hk : Nat.ble (k + vs.length) cs.size = true) (h1 : vs.all (·.oneCell') = true) (hcs : cs'.toList = splL cs.toList k vs)
    (h : ∀ w', Upd w w' b → Bk w' b cs' t' → wpList P ops Q rest a w') : wpList P ops Q (Oper.mk none (.store t x y) ty p af gd :: rest) a w := by
  have hk := Nat.le_of_ble_eq_true hk
  obtain ⟨c2, h2, h3⟩ := setCells_blk (b := b) vs k w cs hb
  have hc2 : c2 = cs' := by
    apply Array.toList_inj.1
    rw [h3, hcs]
  subst hc2
  have hst := run_storeCells_cells (P := P) b k vs 0 w (by
    intro j hj
    simp only [Nat.add_zero]
    have hlt : k + j < cs.size := by omega
    rw [hb.cell (k + j) (Array.getElem?_eq_getElem hlt)]
    rfl) (fun j hj => hb.frozen _) (fun v hv => List.all_eq_true.1 h1 v hv)
  simp only [Nat.add_zero] at hst
  refine ss (w' := w.setCells b k vs) rfl hw ?_ (h _ (setCells_upd _ _ _ _) h2)
  have hsz := size_of hi w
  unfold execOp
  simp only [hx, hy, Instr.storeAt, Instr.sureAddr, storeVar, Value.cells, Sem.run_bind, Sem.run_pure, Result.andThen_ok, hsz]
  simp [hst, go_sem]
end
end Gx
/- A region that draws its order, where one call changes a row of one's own. -/
namespace Gx
open Go Go.RowKit Rm
theorem gb_drew {w w' : World} {r : Option Nat} (h : w.drew.grownBy w' r) : w.grownBy w' r := ⟨h.os, h.tape, h.output, h.size, h.block⟩
structure PreD (ops : Array Oper) (m : Nat) (js : Js) (N : Nat) (a₀ : Act) (w₀ : World) (r : Option Nat) (c i : Nat) (o : Oper) (a : Act) (w : World) : Prop where
  ok : Ok N a
  gr : w₀.grownBy w r
  gr0 : i = c → Gr w₀ w
  old : ∀ t, (fd ops m).all (fun d => !Nat.beq t d) = true → a.eval (.tmp t) = a₀.eval (.tmp t)
  pre : ∀ j, waits o j = true → jAt js j (a.eval (.tmp (dstAt ops j))) w
def DoesC (P : Program) (ops : Array Oper) (Q : Exit → Act → World → Prop) (r : Option Nat) (J : Value → World → Prop) (o : Oper) (a : Act) (w : World) : Prop :=
  isAl o = false ∧ if Region.wanted o (yielded ops a.tmps) = true then o.wp P a w (fun a' w' => ∃ v, a' = a.put o.dst v ∧ w.grownBy w' r ∧ J v w') Q else J undef w
theorem DoesC.call {P : Program} {ops : Array Oper} {Q : Exit → Act → World → Prop} {r : Option Nat} {J : Value → World → Prop} {o : Oper} {a : Act} {w : World} {f : FuncId} {args : Array Value} {R : Ending → World → Prop} (hw : Region.wanted o (yielded ops a.tmps) = true)
  (hrun : (execOp a.eval o).run P w = .ok (.enter f args) w) (hc : Calls P f args w R) (h : ∀ e w', R e w' → ∃ v, e = .returned v ∧ w.grownBy w' r ∧ J v w') (hal : isAl o = false) : DoesC P ops Q r J o a w := by
 unfold DoesC
 rw [if_pos hw]
 refine ⟨hal, ?_⟩
 unfold Oper.wp
 rw [hrun, Oper.upon_enter]
 refine hc.mono ?_
 intro e w' hR
 obtain ⟨v, rfl, g, hj⟩ := h e w' hR
 exact ⟨v, rfl, g, hj⟩
structure RegD (P : Program) (ops : Array Oper) (Q : Exit → Act → World → Prop) (N : Nat) (a₀ : Act) (w₀ : World) (r : Option Nat) (c m n : Nat) (js : Js) : Prop where
 back : backs ops = true
 top : ∀ i, n ≤ i → jAt js i = fun _ _ => True
 mono : ∀ i v w w', i ≠ c → w.grownBy w' r → jAt js i v w → jAt js i v w'
 monoC : ∀ v w w', Gr w w' → jAt js c v w → jAt js c v w'
 does : ∀ i o, i < n → i ≠ c → ops[i]? = some o → ∀ a w, PreD ops m js N a₀ w₀ r c i o a w → Does P ops Q (jAt js i) o a w
 doesC : ∀ o, c < n → ops[c]? = some o → ∀ a w, PreD ops m js N a₀ w₀ r c c o a w → DoesC P ops Q r (jAt js c) o a w
section
variable {P : Program} {ops : Array Oper} {Q : Exit → Act → World → Prop} {N : Nat} {a₀ : Act} {w₀ : World} {r : Option Nat} {c : Nat}
theorem RegD.nil {m : Nat} (hb : backs ops = true) : RegD P ops Q N a₀ w₀ r c m 0 [] := ⟨hb, fun _ _ => rfl, fun i v w w' _ _ _ => trivial, fun v w w' _ _ => trivial, fun i o h => absurd h (Nat.not_lt_zero _), fun o h => absurd h (Nat.not_lt_zero _)⟩
theorem pre_drop {m n i : Nat} {js : Js} {J : Value → World → Prop} {o' : Oper} {a : Act} {w : World} (hb : backs ops = true) (hi : i < n + 1) (ho' : ops[i]? = some o') (p : PreD ops m ((n, J) :: js) N a₀ w₀ r c i o' a w) : PreD ops m js N a₀ w₀ r c i o' a w := by
 refine ⟨p.ok, p.gr, p.gr0, p.old, fun j hj => ?_⟩
 have h1 := p.pre j hj
 have hlt : j < n := by
  unfold waits at hj
  obtain ⟨e, he, hh⟩ := List.any_eq_true.1 hj
  have h2 := backs_spec hb i o' ho' e (by simpa using he) (Bool.and_eq_true_iff.1 hh).1
  simp only [Bool.and_eq_true] at hh
  have h3 := Nat.eq_of_beq_eq_true hh.2
  omega
 rwa [jAt_ne (by omega)] at h1
theorem RegD.snoc {m n n' : Nat} {js : Js} (R : RegD P ops Q N a₀ w₀ r c m n js) (hn : n + 1 = n') (hc : Nat.beq n c = false) (J : Value → World → Prop) {o : Oper} (ho : ops[n]? = some o) (hm : ∀ v w w', w.grownBy w' r → J v w → J v w')
    (h : ∀ a w, PreD ops m js N a₀ w₀ r c n o a w → Does P ops Q J o a w) : RegD P ops Q N a₀ w₀ r c m n' ((n, J) :: js) where
  back := R.back
  top i hi := by rw [jAt_ne (by omega)]; exact R.top i (by omega)
  mono i v w w' hic g hj := by
    by_cases q : n = i
    · subst q; rw [jAt_eq] at *; exact hm v w w' g hj
    · rw [jAt_ne q] at *; exact R.mono i v w w' hic g hj
  monoC v w w' g hj := by
    rw [jAt_ne (Nat.ne_of_beq_eq_false hc)] at *; exact R.monoC v w w' g hj
  does i o' hi hic ho' a w p := by
    have p' := pre_drop R.back (by omega) ho' p
    by_cases q : n = i
    · subst q
      rw [jAt_eq]
      obtain rfl : o = o' := Option.some.inj (ho.symm.trans ho')
      exact h a w p'
    · rw [jAt_ne q]
      exact R.does i o' (by omega) hic ho' a w p'
  doesC o' hi ho' a w p := by
    have p' := pre_drop R.back (by omega) ho' p
    have q := Nat.ne_of_beq_eq_false hc
    rw [jAt_ne q]
    exact R.doesC o' (by omega) ho' a w p'
theorem RegD.snocC {m n n' : Nat} {js : Js} (R : RegD P ops Q N a₀ w₀ r c m n js) (hn : n + 1 = n') (hc : n = c) (J : Value → World → Prop) {o : Oper} (ho : ops[n]? = some o) (hm : ∀ v w w', Gr w w' → J v w → J v w')
    (h : ∀ a w, PreD ops m js N a₀ w₀ r c n o a w → DoesC P ops Q r J o a w) : RegD P ops Q N a₀ w₀ r c m n' ((n, J) :: js) where
  back := R.back
  top i hi := by rw [jAt_ne (by omega)]; exact R.top i (by omega)
  mono i v w w' hic g hj := by
    rw [jAt_ne (by omega)] at *; exact R.mono i v w w' hic g hj
  monoC v w w' g hj := by
    subst hc; rw [jAt_eq] at *; exact hm v w w' g hj
  does i o' hi hic ho' a w p := by
    have p' := pre_drop R.back (by omega) ho' p
    rw [jAt_ne (by omega)]
    exact R.does i o' (by omega) hic ho' a w p'
  doesC o' hi ho' a w p := by
    have p' := pre_drop R.back (by omega) ho' p
    subst hc
    rw [jAt_eq]
    obtain rfl : o = o' := Option.some.inj (ho.symm.trans ho')
    exact h a w p'
structure PostD (ops : Array Oper) (m : Nat) (js : Js) (N : Nat) (a₀ : Act) (w₀ : World) (r : Option Nat) (a : Act) (w : World) : Prop where
  ok : Ok N a
  gr : w₀.grownBy w r
  old : ∀ t, (fd ops m).all (fun d => !Nat.beq t d) = true → a.eval (.tmp t) = a₀.eval (.tmp t)
  js : ∀ j, Nat.blt j m = true → jAt js j (a.eval (.tmp (dstAt ops j))) w
  dis : ∀ i j b b', Nat.blt i m = true → Nat.blt j m = true → Nat.beq i j = false → alAt ops i = true → alAt ops j = true → a.eval (.tmp (dstAt ops i)) = .pointer (some ⟨b, 0, none⟩) → a.eval (.tmp (dstAt ops j)) = .pointer (some ⟨b', 0, none⟩) → b ≠ b'
structure WayD (ops : Array Oper) (m : Nat) (js : Js) (N : Nat) (a₀ : Act) (w₀ : World) (r : Option Nat) (c : Nat) (U : List Nat) (L : Array Bool) (a : Act) (w : World) : Prop where
  ok : Ok N a
  gr : w₀.grownBy w r
  gr0 : L.getD c false = false → Gr w₀ w
  old : ∀ t, (fd ops m).all (fun d => !Nat.beq t d) = true → a.eval (.tmp t) = a₀.eval (.tmp t)
  size : L.size = ops.size
  closed : Closed ops L
  nodup : U.Nodup
  un : ∀ j, j < m → (L.getD j false = false ↔ j ∈ U)
  lt : ∀ j ∈ U, j < m
  tail : ∀ j, m ≤ j → L.getD j false = false
  js : ∀ j, j < m → L.getD j false = true → jAt js j (a.eval (.tmp (dstAt ops j))) w
  dis : ∀ i j, i < m → j < m → i ≠ j → L.getD i false = true → L.getD j false = true → alAt ops i = true → alAt ops j = true → ∃ b b', a.eval (.tmp (dstAt ops i)) = .pointer (some ⟨b, 0, none⟩) ∧ a.eval (.tmp (dstAt ops j)) = .pointer (some ⟨b', 0, none⟩) ∧ b ≠ b'
  low : ∀ i, i < m → L.getD i false = true → alAt ops i = true → ∃ b, a.eval (.tmp (dstAt ops i)) = .pointer (some ⟨b, 0, none⟩) ∧ b < w.heap.size
theorem RegD.way {m : Nat} {js : Js} (R : RegD P ops Q N a₀ w₀ r c m m js) (hs : shape ops m = true) (hN : ((List.range m).all fun i => Nat.blt (dstAt ops i) N) = true)
  (hend : ∀ a w, PostD ops m js N a₀ w₀ r a w → wpAny P .any ops Q (ops.size - m) (firsts ops.size m) a w) :
  ∀ (U : List Nat) (L : Array Bool) (a : Act) (w : World), WayD ops m js N a₀ w₀ r c U L a w → wpAny P .any ops Q (U.length + (ops.size - m)) L a w := by
 obtain ⟨hm, hd, hdd, ht⟩ := shape_spec hs
 have hb := backs_spec R.back
 intro U
 generalize hn : U.length = n
 induction n generalizing U with
 | zero =>
  intro L a w W
  have hU : U = [] := List.eq_nil_of_length_eq_zero hn
  subst hU
  have hall : ∀ j, j < m → L.getD j false = true := fun j hj => by
   have := (W.un j hj)
   cases e : L.getD j false
   ·rw [e] at this; exact absurd (this.1 rfl) (by simp)
   ·rfl
  have hL : L = firsts ops.size m := by
   apply Array.ext
   ·simp [firsts, W.size]
   ·intro i h1 h2
    have e1 : L[i] = L.getD i false := by simp [Array.getD, h1]
    rw [e1]
    simp only [firsts, List.getElem_toArray, List.getElem_map, List.getElem_range]
    by_cases q : i < m
    ·rw [hall i q]; simp [q]
    ·rw [W.tail i (by omega)]
     cases e : Nat.blt i m
     ·rfl
     ·exact absurd (by simpa using e) q
  subst hL
  rw [Nat.zero_add]
  exact hend a w ⟨W.ok, W.gr, W.old, fun j hj => by
   have hj : j < m := by simpa using hj
   exact W.js j hj (hall j hj), fun i j b b' hi hj hij h1 h2 e1 e2 => by
   have hi : i < m := by simpa using hi
   have hj : j < m := by simpa using hj
   obtain ⟨c, c', q1, q2, q3⟩ := W.dis i j hi hj (Nat.ne_of_beq_eq_false hij) (hall i hi) (hall j hj) h1 h2
   rw [e1] at q1
   rw [e2] at q2
   cases q1
   cases q2
   exact q3⟩
 | succ n ih =>
  intro L a w W
  rw [Nat.succ_add]
  -- the least one that is not listed may come up
  have hne : Region.ready .any ops L ≠ [] := by
   obtain ⟨u, hu⟩ : ∃ u, u ∈ U := List.exists_mem_of_length_pos (by omega)
   have hlu := W.lt u hu
   have hex : ∃ k, k < m ∧ L.getD k false = false := ⟨u, hlu, (W.un u hlu).2 hu⟩
   obtain ⟨k, ⟨hk1, hk2⟩, hk3⟩ := exists_least hex
   have hki : k < L.size := by rw [W.size]; omega
   obtain ⟨o, ho, -⟩ := hd k hk1
   have : k ∈ Region.ready .any ops L := by
    rw [mem_ready]
    refine ⟨by rw [getD_lt hki true false]; exact hk2, o, ho, fun e he hbd => ?_⟩
    have hlt := hb k o ho e he hbd
    cases q : L.getD e.on false
    ·have := hk3 e.on ⟨by omega, q⟩; omega
    ·rfl
   intro e
   rw [e] at this
   cases this
  refine ⟨fun h => absurd h hne, fun i hi => ?_⟩
  obtain ⟨hil, o, ho, hall⟩ := mem_ready.1 hi
  have his : i < ops.size := (Array.getElem?_eq_some_iff.1 ho).1
  have hiL : i < L.size := by rw [W.size]; exact his
  have hil' : L.getD i false = false := by rw [getD_lt hiL false true]; exact hil
  have him : i < m := by
   rcases Nat.lt_or_ge i m with q | q
   ·exact q
   ·exfalso
    obtain ⟨u, hu⟩ : ∃ u, u ∈ U := List.exists_mem_of_length_pos (by omega)
    have hlu := W.lt u hu
    have h1 := reach_listed W.closed ops.size i u (fun o' ho' e he hbd => by
     obtain rfl : o = o' := Option.some.inj (ho.symm.trans ho')
     exact hall e he hbd) (ht i his q u hlu)
    rw [(W.un u hlu).2 hu] at h1
    cases h1
  have hiU : i ∈ U := (W.un i him).1 hil'
  obtain ⟨o', ho', hdst⟩ := hd i him
  obtain rfl : o = o' := Option.some.inj (ho.symm.trans ho')
  have hpre : PreD ops m js N a₀ w₀ r c i o a w := ⟨W.ok, W.gr, fun e => W.gr0 (by rw [← e]; exact hil'), W.old, fun j hj => by
    unfold waits at hj
    obtain ⟨e, he, hh⟩ := List.any_eq_true.1 hj
    have he : e ∈ o.after := by simpa using he
    simp only [Bool.and_eq_true] at hh
    have h2 := Nat.eq_of_beq_eq_true hh.2
    have h3 := hall e he hh.1
    rw [h2] at h3
    have hji : j < i := by have := hb i o ho e he hh.1; omega
    exact W.js j (by omega) h3⟩
  have hdN : Nat.blt (dstAt ops i) N = true := List.all_eq_true.1 hN i (List.mem_range.2 him)
  have next : ∀ v w', w.grownBy w' r → (i ≠ c → Gr w w') → jAt js i v w' → (isAl o = true → v = .pointer (some ⟨w.heap.size, 0, none⟩) ∧ w.heap.size < w'.heap.size) → wpAny P .any ops Q (n + (ops.size - m)) (L.setIfInBounds i true) (a.put o.dst v) w' := by
   intro v w' g gN hJ hA
   rw [hdst]
   have nx := Nx.put W.ok hdN v
   refine ih (U.erase i) (by rw [List.length_erase_of_mem hiU, hn]; rfl) (L.setIfInBounds i true) _ w' ?_
   refine ⟨nx.ok, gb_gb W.gr g, fun hcl => ?_, fun t ht => ?_, by simp [W.size], ?_, W.nodup.erase _, ?_, fun j hj => W.lt j (List.mem_of_mem_erase hj), ?_, ?_, ?_, ?_⟩
   ·rw [getD_set hiL] at hcl
    by_cases q : i = c
    ·rw [if_pos q] at hcl; cases hcl
    ·rw [if_neg q] at hcl
     exact (W.gr0 hcl).trans (gN q)
   ·have := List.all_eq_true.1 ht _ (fd_mem ho him hdst)
    rw [Bool.not_eq_true'] at this
    exact (nx.oth t this).trans (W.old t ht)
   ·intro k ok hk hok e he hbd
    rw [getD_set hiL] at hk ⊢
    split
    ·rfl
    ·by_cases q : i = k
     ·subst q
      obtain rfl : o = ok := Option.some.inj (ho.symm.trans hok)
      exact hall e he hbd
     ·rw [if_neg q] at hk
      exact W.closed k ok hk hok e he hbd
   ·intro j hj
    rw [getD_set hiL, W.nodup.mem_erase_iff]
    by_cases q : i = j
    ·subst q; simp
    ·rw [if_neg q, W.un j hj]
     exact ⟨fun h => ⟨fun e => q e.symm, h⟩, fun h => h.2⟩
   ·intro j hj
    rw [getD_set hiL, if_neg (by omega)]
    exact W.tail j hj
   ·intro j hj hl
    by_cases q : i = j
    ·subst q
     rw [nx.at_]
     exact hJ
    ·rw [getD_set hiL, if_neg q] at hl
     have h1 := W.js j hj hl
     rw [nx.oth _ (by
      have := hdd i j him hj q
      cases e : Nat.beq (dstAt ops j) (dstAt ops i)
      ·rfl
      ·exact absurd (Nat.eq_of_beq_eq_true e) this)]
     by_cases qc : j = c
     ·subst qc
      exact R.monoC _ _ _ (gN q) h1
     ·exact R.mono j _ _ _ qc g h1
   ·intro j k hj hk hjk hlj hlk haj hak
    have other : ∀ j, j < m → i ≠ j → (L.setIfInBounds i true).getD j false = true → L.getD j false = true ∧ (a.put (some (dstAt ops i)) v).eval (.tmp (dstAt ops j)) = a.eval (.tmp (dstAt ops j)) := by
     intro j hj q hl
     rw [getD_set hiL, if_neg q] at hl
     refine ⟨hl, nx.oth _ ?_⟩
     have := hdd i j him hj q
     cases e : Nat.beq (dstAt ops j) (dstAt ops i)
     ·rfl
     ·exact absurd (Nat.eq_of_beq_eq_true e) this
    have hio : ∀ q : alAt ops i = true, isAl o = true := fun q => by unfold alAt at q; rw [ho] at q; exact q
    by_cases q1 : i = j
    ·subst q1
     obtain ⟨hl, he⟩ := other k hk hjk hlk
     obtain ⟨b, h1, h2⟩ := W.low k hk hl hak
     obtain ⟨h3, h4⟩ := hA (hio haj)
     exact ⟨_, b, by rw [nx.at_, h3], by rw [he]; exact h1, by omega⟩
    ·by_cases q2 : i = k
     ·subst q2
      obtain ⟨hl, he⟩ := other j hj q1 hlj
      obtain ⟨b, h1, h2⟩ := W.low j hj hl haj
      obtain ⟨h3, h4⟩ := hA (hio hak)
      exact ⟨b, _, by rw [he]; exact h1, by rw [nx.at_, h3], by omega⟩
     ·obtain ⟨hl, he⟩ := other j hj q1 hlj
      obtain ⟨hl', he'⟩ := other k hk q2 hlk
      obtain ⟨b, b', h1, h2, h3⟩ := W.dis j k hj hk hjk hl hl' haj hak
      exact ⟨b, b', by rw [he]; exact h1, by rw [he']; exact h2, h3⟩
   ·intro j hj hl haj
    by_cases q : i = j
    ·subst q
     have hio : isAl o = true := by unfold alAt at haj; rw [ho] at haj; exact haj
     obtain ⟨h3, h4⟩ := hA hio
     exact ⟨_, by rw [nx.at_, h3], h4⟩
    ·rw [getD_set hiL, if_neg q] at hl
     obtain ⟨b, h1, h2⟩ := W.low j hj hl haj
     refine ⟨b, ?_, Nat.lt_of_lt_of_le h2 g.size⟩
     rw [nx.oth _ (by
      have := hdd i j him hj q
      cases e : Nat.beq (dstAt ops j) (dstAt ops i)
      ·rfl
      ·exact absurd (Nat.eq_of_beq_eq_true e) this)]
     exact h1
  unfold wpOp
  rw [ho]
  by_cases qc : i = c
  ·have hdoes : DoesC P ops Q r (jAt js i) o a w := by
    subst qc
    exact R.doesC o him ho a w hpre
   unfold DoesC at hdoes
   obtain ⟨hnal, hdoes⟩ := hdoes
   by_cases hw : Region.wanted o (yielded ops a.tmps) = true
   ·rw [if_pos hw] at hdoes
    simp only [hw, if_true]
    left
    refine Oper.wp_mono ?_ hdoes
    rintro a' w' ⟨v, rfl, g, hj⟩
    exact next v w' g (fun e => absurd qc e) hj (fun e => by rw [hnal] at e; cases e)
   ·rw [if_neg hw] at hdoes
    simp only [hw, if_false, Bool.false_eq_true]
    exact next undef w gb_self (fun _ => Gr.refl w) hdoes (fun e => by rw [hnal] at e; cases e)
  ·have hdoes := R.does i o him qc ho a w hpre
   unfold Does at hdoes
   by_cases hw : Region.wanted o (yielded ops a.tmps) = true
   ·rw [if_pos hw] at hdoes
    simp only [hw, if_true]
    left
    refine Oper.wp_mono ?_ hdoes
    rintro a' w' ⟨v, rfl, g, hj, hA⟩
    exact next v w' (gb_of g) (fun _ => g) hj hA
   ·rw [if_neg hw] at hdoes
    simp only [hw, if_false, Bool.false_eq_true]
    exact next undef w gb_self (fun _ => Gr.refl w) hdoes.1 (fun e => by rw [hdoes.2] at e; cases e)
theorem RegD.run {id m : Nat} {js : Js} {a : Act} {w : World} (R : RegD P ops Q N a w.drew r c m m js) {k : Nat} {L : Array Bool} (hk : ops.size - m = k) (hL : firsts ops.size m = L) (hf : P.follows .mixedOrders = true) (ok : Ok N a) (hs : shape ops m = true) (hN : ((List.range m).all fun i => Nat.blt (dstAt ops i) N) = true)
    (hend : ∀ a' w', PostD ops m js N a w.drew r a' w' → wpAny P .any ops Q k L a' w') : (Code.region id ops true).wp P Q a w := by
  subst hk hL
  refine wp_region_any hf ?_
  have hm := (shape_spec hs).1
  have h := R.way hs hN hend (List.range m) (Array.replicate ops.size false) a w.drew
    { ok := ok, gr := gb_self, gr0 := fun _ => Gr.refl _, old := fun _ _ => rfl, size := by simp
      closed := fun i o h => by rw [replicate_getD] at h; cases h
      nodup := List.nodup_range
      un := fun j hj => by rw [replicate_getD]; simp [hj]
      lt := fun j hj => List.mem_range.1 hj
      tail := fun j _ => replicate_getD _ _
      js := fun j _ h => by rw [replicate_getD] at h; cases h
      dis := fun i j _ _ _ h => by rw [replicate_getD] at h; cases h
      low := fun i _ h => by rw [replicate_getD] at h; cases h }
  rw [List.length_range, Nat.add_sub_cancel' hm] at h
  exact h
theorem regd_start {id m : Nat} {a : Act} {w : World} (r : Option Nat) (c : Nat) (hb : backs ops = true) (h : RegD P ops Q N a w.drew r c m 0 [] → (Code.region id ops true).wp P Q a w) : (Code.region id ops true).wp P Q a w := h (RegD.nil hb)
theorem t_app {i fuel : Nat} {L : Array Bool} {a : Act} {w : World} {dd : Nat} {s x : Operand} {t ty : TypeId} {p : String} {af : Array Edge} {g : Option (Nat × Bool)} {base : Nat} {e : TypeId} {ti : TypeInfo} {z : Value} {size bytes : Nat}
  (hr : Region.ready .any ops L = [i]) (ho : ops[i]? = some (Oper.mk (some dd) (.call { callee := .builtin .append, args := #[s, x], argTypes := #[t, t] }) ty p af g)) (ok : Ok N a)
  (hw : Region.wanted (Oper.mk (some dd) (.call { callee := .builtin .append, args := #[s, x], argTypes := #[t, t] }) ty p af g) (yielded ops a.tmps) = true) (hN : Nat.blt dd N = true)
  (ht : P.underlying t = some (.slice e)) (hi : P.info? e = some ti) (hz : ti.zero = some z) (hsize : ti.size = size) (hby : ti.bytes = bytes) (hzs : z.cells.size = size) (hsz : 0 < size)
  {v : Value} {n : Nat} {xs : List Value} (hs : a.eval s = v) (hown : w.ownsRow base e size v n xs)
  {ad : Addr} {m c : Nat} {news : List Value} (hx : a.eval x = .slice (some ad) m c) (hl : news.length = m * size) (hnews : ∀ j u, news[j]? = some u → w.cell? (ad.add j) = some u) (h1 : ∀ u ∈ news, u.oneCell' = true)
  (h63 : n + m ≤ maxLen) (hbytes : (n + m) * bytes ≤ 140737488355328) (hbase : base ≤ w.heap.size)
  (h : ∀ a' w' v', w'.ownsRow base e size v' (n + m) (xs ++ news) → w.grownBy w' v.ownBlock → Nx N a a' dd v' → wpAny P .any ops Q fuel (L.setIfInBounds i true) a' w') : wpAny P .any ops Q (fuel + 1) L a w := by
 refine t_one hr ho hw ?_
 exact wp_append_own w s x t rfl base e ti z size bytes ht hi hz hsize hby hzs hsz v n xs hs hown ad m c news hx hl hnews h1 h63 hbytes hbase fun v' w' h2 h3 _ => h _ w' v' h2 h3 (Nx.put ok hN v')
end
end Gx
/- Sets of dots: what they hold, their form, and that it is the only one. -/
namespace Rm
abbrev DS := Nat → Nat → Bool
def cv (v : List Nat) (s : Nat) : Nat := v.getD s 0
def ltD (a b : Nat × Nat) : Prop := a.1 < b.1 ∨ a.1 = b.1 ∧ a.2 < b.2
theorem ltD_irr (a : Nat × Nat) : ¬ ltD a a := by unfold ltD; omega
theorem ltD_trans {a b c : Nat × Nat} (h : ltD a b) (k : ltD b c) : ltD a c := by unfold ltD at *; omega
theorem ltD_asym {a b : Nat × Nat} (h : ltD a b) (k : ltD b a) : False := by unfold ltD at *; omega
def memB (v : List Nat) (m : List (Nat × Nat)) : DS := fun s c => decide (1 ≤ c ∧ c ≤ cv v s) || m.contains (s, c)
theorem memB_iff (v : List Nat) (m : List (Nat × Nat)) (s c : Nat) : memB v m s c = true ↔ (1 ≤ c ∧ c ≤ cv v s) ∨ (s, c) ∈ m := by simp [memB]
def inR (s c : Nat) : Prop := s < 5 ∧ 1 ≤ c ∧ c ≤ 1000
structure OkV (v : List Nat) (m : List (Nat × Nat)) : Prop where
  len : v.length ≤ 5
  le : ∀ x ∈ v, x ≤ 1000
  last : v.getLast? ≠ some 0
  dots : ∀ d ∈ m, d.1 < 5 ∧ d.2 ≤ 1000 ∧ cv v d.1 + 2 ≤ d.2
  sort : m.Pairwise ltD
theorem cv_le {v : List Nat} (h : ∀ x ∈ v, x ≤ 1000) (s : Nat) : cv v s ≤ 1000 := by
 unfold cv
 rw [List.getD_eq_getElem?_getD]
 cases e : v[s]? with
 | none => simp
 | some x => simpa using h x (List.mem_of_getElem? e)
theorem cv_out {v : List Nat} {s : Nat} (h : v.length ≤ s) : cv v s = 0 := by simp [cv, h]
theorem OkV.inR {v : List Nat} {m : List (Nat × Nat)} (h : OkV v m) {s c : Nat} (hm : memB v m s c = true) : inR s c := by
 rcases (memB_iff ..).1 hm with k | k
 ·have h1 := cv_le h.le s
  rcases Nat.lt_or_ge s 5 with q | q
  ·exact ⟨q, k.1, by omega⟩
  ·have := cv_out (v := v) (s := s) (Nat.le_trans h.len q); omega
 ·have := h.dots _ k
  simp only at this
  exact ⟨this.1, by omega, this.2.1⟩
def EqD (D E : DS) : Prop := ∀ s c, inR s c → D s c = E s c
theorem EqD.refl (D : DS) : EqD D D := fun _ _ _ => rfl
theorem EqD.symm {D E : DS} (h : EqD D E) : EqD E D := fun s c k => (h s c k).symm
theorem EqD.trans {D E F : DS} (h : EqD D E) (k : EqD E F) : EqD D F := fun s c q => (h s c q).trans (k s c q)
theorem sorted_ext {l l' : List (Nat × Nat)} (h : l.Pairwise ltD) (h' : l'.Pairwise ltD) (e : ∀ d, d ∈ l ↔ d ∈ l') : l = l' := by
 induction l generalizing l' with
 | nil => cases l' with
  | nil => rfl
  | cons b l' => exact absurd ((e b).2 (by simp)) (by simp)
 | cons a l ih => cases l' with
  | nil => exact absurd ((e a).1 (by simp)) (by simp)
  | cons b l' =>
   rw [List.pairwise_cons] at h h'
   have hab : a = b := by
    rcases List.mem_cons.1 ((e a).1 (by simp)) with q | q
    ·exact q
    ·rcases List.mem_cons.1 ((e b).2 (by simp)) with r | r
     ·exact r.symm
     ·exact (ltD_asym (h.1 b r) (h'.1 a q)).elim
   subst hab
   rw [ih h.2 h'.2]
   intro d
   have hd := e d
   simp only [List.mem_cons] at hd
   constructor
   ·intro q
    rcases hd.1 (.inr q) with r | r
    ·subst r; exact (ltD_irr _ (h.1 _ q)).elim
    ·exact r
   ·intro q
    rcases hd.2 (.inr q) with r | r
    ·subst r; exact (ltD_irr _ (h'.1 _ q)).elim
    ·exact r
theorem cv_lt_of {v v' : List Nat} {m m' : List (Nat × Nat)} (h : OkV v m) (h' : OkV v' m') (e : EqD (memB v m) (memB v' m')) (s : Nat) : cv v' s ≤ cv v s := by
 rcases Nat.lt_or_ge (cv v s) (cv v' s) with q | q
 ·exfalso
  have hi : Rm.inR s (cv v s + 1) := h'.inR ((memB_iff ..).2 (.inl ⟨by omega, by omega⟩))
  have h1 := e s (cv v s + 1) hi
  rw [(memB_iff v' m' s _).2 (.inl ⟨by omega, by omega⟩)] at h1
  rcases (memB_iff ..).1 h1 with k | k
  ·omega
  ·have := (h.dots _ k).2.2
   simp only at this
   omega
 ·exact q
theorem vec_ext {v v' : List Nat} (l : v.getLast? ≠ some 0) (l' : v'.getLast? ≠ some 0) (e : ∀ s, cv v s = cv v' s) : v = v' := by
 have hle : ∀ {v v' : List Nat}, v'.getLast? ≠ some 0 → (∀ s, cv v s = cv v' s) → v'.length ≤ v.length := by
  intro v v' l' e
  rcases Nat.lt_or_ge v.length v'.length with q | q
  ·exfalso
   have h1 := e (v'.length - 1)
   rw [cv_out (by omega)] at h1
   apply l'
   rw [List.getLast?_eq_getElem?, List.getElem?_eq_getElem (by omega)]
   unfold cv at h1
   rw [List.getD_eq_getElem?_getD, List.getElem?_eq_getElem (by omega)] at h1
   simp at h1
   rw [← h1]
  ·exact q
 have hlen : v.length = v'.length := Nat.le_antisymm (hle l (fun s => (e s).symm)) (hle l' e)
 apply List.ext_getElem hlen
 intro i h1 h2
 have h3 := e i
 unfold cv at h3
 simpa [List.getD_eq_getElem?_getD, h1, h2] using h3
theorem OkV.uniq {v v' : List Nat} {m m' : List (Nat × Nat)} (h : OkV v m) (h' : OkV v' m') (e : EqD (memB v m) (memB v' m')) : v = v' ∧ m = m' := by
  have hv : v = v' := vec_ext h.last h'.last fun s => Nat.le_antisymm (cv_lt_of h' h e.symm s) (cv_lt_of h h' e s)
  subst hv
  refine ⟨rfl, sorted_ext h.sort h'.sort fun d => ?_⟩
  have key : ∀ {m m' : List (Nat × Nat)}, OkV v m → OkV v m' → EqD (memB v m) (memB v m') → d ∈ m → d ∈ m' := by
    intro m m' h h' e hd
    have h1 := h.dots d hd
    have h2 := e d.1 d.2 ⟨h1.1, by omega, h1.2.1⟩
    rw [(memB_iff v m d.1 d.2).2 (.inr hd)] at h2
    rcases (memB_iff ..).1 h2.symm with k | k
    · omega
    · exact k
  exact ⟨key h h' e, key h' h e.symm⟩
/-! the form of a set -/
def runTo (D : DS) (s : Nat) : Nat → Nat
  | 0 => 0
  | n + 1 => if runTo D s n = n ∧ D s (n + 1) = true then n + 1 else runTo D s n
theorem runTo_le (D : DS) (s n : Nat) : runTo D s n ≤ n := by
 induction n with
 | zero => exact Nat.le_refl _
 | succ n ih => unfold runTo; split <;> omega
theorem runTo_all (D : DS) (s n c : Nat) (h1 : 1 ≤ c) (h2 : c ≤ runTo D s n) : D s c = true := by
 induction n with
 | zero => have := runTo_le D s 0; omega
 | succ n ih =>
  unfold runTo at h2
  split at h2
  ·rename_i q
   by_cases e : c = n + 1
   ·rw [e]; exact q.2
   ·exact ih (by omega)
  ·exact ih h2
theorem runTo_gap (D : DS) (s n : Nat) (h : runTo D s n < n) : D s (runTo D s n + 1) = false := by
 induction n with
 | zero => omega
 | succ n ih =>
  unfold runTo at h ⊢
  split
  ·rename_i q; rw [if_pos q] at h; omega
  ·rename_i q
   rw [if_neg q] at h
   have := runTo_le D s n
   by_cases e : runTo D s n = n
   ·rw [e]; simpa [e] using q
   ·exact ih (by omega)
def run (D : DS) (s : Nat) : Nat := runTo D s 1000
def restD (D : DS) (s : Nat) : List (Nat × Nat) := ((List.range 1001).filter fun c => decide (run D s + 2 ≤ c) && D s c).map fun c => (s, c)
theorem mem_restD (D : DS) (s : Nat) (d : Nat × Nat) : d ∈ restD D s ↔ d.1 = s ∧ d.2 ≤ 1000 ∧ run D s + 2 ≤ d.2 ∧ D s d.2 = true := by
 obtain ⟨a, c⟩ := d
 simp only [restD, List.mem_map, List.mem_filter, List.mem_range, Prod.mk.injEq, Bool.and_eq_true, decide_eq_true_eq]
 constructor
 ·rintro ⟨x, ⟨h1, h2, h3⟩, rfl, rfl⟩; exact ⟨rfl, by omega, h2, h3⟩
 ·rintro ⟨rfl, h1, h2, h3⟩; exact ⟨c, ⟨by omega, h2, h3⟩, rfl, rfl⟩
def trimL : List Nat → List Nat
  | [] => []
  | x :: l => match trimL l with
    | [] => if x = 0 then [] else [x]
    | y :: r => x :: y :: r
theorem trimL_cv (l : List Nat) (s : Nat) : cv (trimL l) s = cv l s := by
 induction l generalizing s with
 | nil => rfl
 | cons x l ih =>
  unfold trimL
  have h := ih
  cases e : trimL l with
  | nil =>
   rw [e] at h
   have hz : ∀ s, cv l s = 0 := fun s => by rw [← h s]; simp [cv]
   cases s with
   | zero => by_cases hx : x = 0 <;> simp [hx, cv]
   | succ s =>
    have := hz s
    by_cases hx : x = 0 <;> simp [hx, cv] <;> simpa [cv] using this.symm
  | cons y r =>
   rw [e] at h
   cases s with
   | zero => simp [cv]
   | succ s => have := h s; simpa [cv] using this
theorem trimL_last (l : List Nat) : (trimL l).getLast? ≠ some 0 := by
 induction l with
 | nil => simp [trimL]
 | cons x l ih =>
  unfold trimL
  cases e : trimL l with
  | nil => by_cases hx : x = 0 <;> simp [hx]
  | cons y r => rw [e] at ih; simpa [List.getLast?_cons_cons] using ih
theorem trimL_len (l : List Nat) : (trimL l).length ≤ l.length := by
 induction l with
 | nil => simp [trimL]
 | cons x l ih =>
  unfold trimL
  cases e : trimL l with
  | nil => by_cases hx : x = 0 <;> simp [hx]
  | cons y r => rw [e] at ih; simp only [List.length_cons] at *; omega
theorem trimL_mem (l : List Nat) : ∀ x ∈ trimL l, x ∈ l := by
 induction l with
 | nil => simp [trimL]
 | cons x l ih =>
  unfold trimL
  cases e : trimL l with
  | nil => by_cases hx : x = 0 <;> simp [hx]
  | cons y r =>
   rw [e] at ih
   intro z hz
   rcases List.mem_cons.1 hz with q | q
   ·simp [q]
   ·exact List.mem_cons_of_mem _ (ih z q)
def formV (D : DS) : List Nat := trimL ((List.range 5).map (run D))
def formM (D : DS) : List (Nat × Nat) := (List.range 5).flatMap (restD D)
theorem run_le (D : DS) (s : Nat) : run D s ≤ 1000 := runTo_le ..
theorem formV_cv (D : DS) (s : Nat) (h : s < 5) : cv (formV D) s = run D s := by
 unfold formV
 rw [trimL_cv]
 simp [cv, h]
theorem form_ok (D : DS) : OkV (formV D) (formM D) where
 len := Nat.le_trans (trimL_len _) (by simp)
 le := fun x hx => by
  have h := trimL_mem _ x hx
  obtain ⟨s, _, rfl⟩ := List.mem_map.1 h
  exact run_le D s
 last := trimL_last _
 dots := fun d hd => by
  obtain ⟨s, hs, h⟩ := List.mem_flatMap.1 hd
  have h' := (mem_restD D s d).1 h
  have hs' := List.mem_range.1 hs
  rw [h'.1, formV_cv D s hs']
  exact ⟨hs', h'.2.1, h'.2.2.1⟩
 sort := by
  unfold formM
  rw [List.pairwise_flatMap]
  constructor
  ·intro s _
   unfold restD
   rw [List.pairwise_map]
   exact (List.Pairwise.filter _ List.pairwise_lt_range).imp fun h => .inr ⟨rfl, h⟩
  ·refine List.pairwise_lt_range.imp fun {a b} hab x hx y hy => .inl ?_
   rw [((mem_restD ..).1 hx).1, ((mem_restD ..).1 hy).1]
   exact hab
theorem form_mem (D : DS) : EqD (memB (formV D) (formM D)) D := by
 rintro s c ⟨hs, h1, h2⟩
 rw [Bool.eq_iff_iff, memB_iff, formV_cv D s hs]
 constructor
 ·rintro (k | k)
  ·exact runTo_all D s 1000 c k.1 k.2
  ·obtain ⟨t, _, h⟩ := List.mem_flatMap.1 k
   have h' := (mem_restD ..).1 h
   simp only at h'
   rw [h'.1]; exact h'.2.2.2
 ·intro hd
  rcases Nat.lt_or_ge (run D s) c with q | q
  ·right
   refine List.mem_flatMap.2 ⟨s, List.mem_range.2 hs, (mem_restD ..).2 ⟨rfl, h2, ?_, hd⟩⟩
   rcases Nat.lt_or_ge (run D s + 1) c with r | r
   ·exact r
   ·have e : c = run D s + 1 := by omega
    have := runTo_gap D s 1000 (by show run D s < 1000; omega)
    rw [e] at hd
    exact absurd this (by show ¬ D s (run D s + 1) = false; rw [hd]; simp)
  ·exact .inl ⟨h1, q⟩
theorem OkV.form {v : List Nat} {m : List (Nat × Nat)} {D : DS} (h : OkV v m) (e : EqD (memB v m) D) : formV D = v ∧ formM D = m :=
  (form_ok D).uniq h ((form_mem D).trans e.symm)
theorem form_congr {D E : DS} (h : EqD D E) : formV D = formV E ∧ formM D = formM E := (form_ok E).form ((form_mem E).trans h.symm)
theorem form_self {v : List Nat} {m : List (Nat × Nat)} (h : OkV v m) : formV (memB v m) = v ∧ formM (memB v m) = m := h.form (EqD.refl _)
/-! joined, met, with a dot more, within -/
def orD (D E : DS) : DS := fun s c => D s c || E s c
def addD (D : DS) (a b : Nat) : DS := fun s c => D s c || decide (s = a ∧ c = b)
def subD (D E : DS) : Prop := ∀ s c, inR s c → D s c = true → E s c = true
/-! counted -/
def kcntTo (f : Nat → Bool) : Nat → Nat
 | 0 => 0
 | n + 1 => kcntTo f n + (if f n then 1 else 0)
def cntS (D : DS) (s : Nat) : Nat := kcntTo (D s) 1024
def cntD (D : DS) : Nat := cntS D 0 + cntS D 1 + cntS D 2 + cntS D 3 + cntS D 4
theorem cntTo_or (f g : Nat → Bool) (n : Nat) : kcntTo (fun i => f i || g i) n + kcntTo (fun i => f i && g i) n = kcntTo f n + kcntTo g n := by
 induction n with
 | zero => rfl
 | succ n ih =>
  simp only [kcntTo]
  by_cases hf : f n = true <;> by_cases hg : g n = true <;> simp [hf, hg] <;> omega
theorem kcntTo_congr {f g : Nat → Bool} {n : Nat} (h : ∀ i, i < n → f i = g i) : kcntTo f n = kcntTo g n := by
 induction n with
 | zero => rfl
 | succ n ih => simp only [kcntTo]; rw [ih (fun i hi => h i (by omega)), h n (by omega)]
theorem kcntTo_none {f : Nat → Bool} {n : Nat} (h : ∀ i, i < n → f i = false) : kcntTo f n = 0 := by
 induction n with
 | zero => rfl
 | succ n ih => simp only [kcntTo]; rw [ih (fun i hi => h i (by omega)), h n (by omega)]; simp
theorem cntTo_disj (f g : Nat → Bool) (n : Nat) (h : ∀ i, i < n → ¬ (f i = true ∧ g i = true)) : kcntTo (fun i => f i || g i) n = kcntTo f n + kcntTo g n := by
 rw [← cntTo_or, kcntTo_none (f := fun i => f i && g i), Nat.add_zero]
 intro i hi
 have := h i hi
 cases e : f i <;> cases e' : g i <;> simp_all
theorem kcntTo_le (k n : Nat) (h : k < n) : kcntTo (fun c => decide (1 ≤ c ∧ c ≤ k)) n = k := by
 induction n with
 | zero => omega
 | succ n ih =>
  simp only [kcntTo]
  rcases Nat.lt_or_ge k n with q | q
  ·rw [ih q, if_neg (by simp; omega), Nat.add_zero]
  ·obtain rfl : k = n := by omega
   have : ∀ j, j ≤ k → kcntTo (fun c => decide (1 ≤ c ∧ c ≤ k)) j = j - 1 := by
    intro j hj
    induction j with
    | zero => rfl
    | succ j ihj =>
     simp only [kcntTo]
     rw [ihj (by omega)]
     by_cases h0 : j = 0
     ·simp [h0]
     ·rw [if_pos (by simp; omega)]; omega
   rw [this k (Nat.le_refl _)]
   by_cases h0 : k = 0
   ·simp [h0]
   ·rw [if_pos (by simp; omega)]; omega
theorem cntTo_one (a n : Nat) : kcntTo (fun c => decide (c = a)) n = if a < n then 1 else 0 := by
 induction n with
 | zero => simp [kcntTo]
 | succ n ih =>
  simp only [kcntTo]
  rw [ih]
  by_cases h1 : a < n
  ·have h2 : ¬ n = a := by omega
   have h3 : a < n + 1 := by omega
   simp [h1, h2, h3]
  ·by_cases h2 : n = a
   ·subst h2; simp
   ·have h3 : ¬ a < n + 1 := by omega
    simp [h1, h2, h3]
theorem cnt_list (m : List (Nat × Nat)) (h : m.Pairwise ltD) (hd : ∀ d ∈ m, d.1 < 5 ∧ d.2 ≤ 1000) : cntD (fun s c => m.contains (s, c)) = m.length := by
 induction m with
 | nil =>
  have : ∀ s, cntS (fun s c => List.contains ([] : List (Nat × Nat)) (s, c)) s = 0 := fun s => kcntTo_none fun i _ => by simp
  unfold cntD
  rw [this, this, this, this, this]
  rfl
 | cons d m ih =>
  rw [List.pairwise_cons] at h
  have hn : d ∉ m := fun q => ltD_irr _ (h.1 d q)
  have hdd := hd d (by simp)
  have hs : ∀ s, cntS (fun s c => (d :: m).contains (s, c)) s = (if s = d.1 then 1 else 0) + cntS (fun s c => m.contains (s, c)) s := by
   intro s
   unfold cntS
   rw [kcntTo_congr (g := fun c => (decide (s = d.1 ∧ c = d.2)) || m.contains (s, c)), cntTo_disj]
   ·congr 1
    by_cases hs : s = d.1
    ·rw [if_pos hs, kcntTo_congr (g := fun c => decide (c = d.2)) (fun i _ => by simp [hs]), cntTo_one, if_pos (by omega)]
    ·rw [if_neg hs]; exact kcntTo_none fun i _ => by simp [hs]
   ·rintro i _ ⟨h1, h2⟩
    simp only [decide_eq_true_eq] at h1
    obtain ⟨rfl, rfl⟩ := h1
    exact hn (by simpa using h2)
   ·intro i _
    rw [Bool.eq_iff_iff]
    simp only [List.contains_cons, Bool.or_eq_true, beq_iff_eq, decide_eq_true_eq]
    constructor
    ·rintro (q | q)
     ·left; rw [← q]; exact ⟨rfl, rfl⟩
     ·exact .inr q
    ·rintro (⟨q, r⟩ | q)
     ·left; rw [q, r]
     ·exact .inr q
  have hi := ih h.2 (fun x hx => hd x (by simp [hx]))
  have key : ∀ x0 x1 x2 x3 x4 : Nat, (if 0 = d.1 then 1 else 0) + x0 + ((if 1 = d.1 then 1 else 0) + x1) + ((if 2 = d.1 then 1 else 0) + x2) + ((if 3 = d.1 then 1 else 0) + x3) + ((if 4 = d.1 then 1 else 0) + x4) = x0 + x1 + x2 + x3 + x4 + 1 := by
   intro x0 x1 x2 x3 x4
   have hh : d.1 = 0 ∨ d.1 = 1 ∨ d.1 = 2 ∨ d.1 = 3 ∨ d.1 = 4 := by omega
   rcases hh with q | q | q | q | q <;> rw [q] <;> simp <;> omega
  rw [List.length_cons, ← hi]
  unfold cntD
  rw [hs 0, hs 1, hs 2, hs 3, hs 4]
  exact key _ _ _ _ _
theorem sum5 (v : List Nat) (h : v.length ≤ 5) : v.sum = cv v 0 + cv v 1 + cv v 2 + cv v 3 + cv v 4 := by
 match v, h with
 | [], _ => rfl
 | [a], _ => simp [cv]
 | [a, b], _ => simp [cv]
 | [a, b, c], _ => simp [cv]; omega
 | [a, b, c, d], _ => simp [cv]; omega
 | [a, b, c, d, e], _ => simp [cv]; omega
 | _ :: _ :: _ :: _ :: _ :: _ :: _, h => simp only [List.length_cons] at h; omega
theorem OkV.count {v : List Nat} {m : List (Nat × Nat)} (h : OkV v m) : cntD (memB v m) = v.sum + m.length := by
  have hs : ∀ s, cntS (memB v m) s = cv v s + cntS (fun s c => m.contains (s, c)) s := by
    intro s
    unfold cntS memB
    rw [cntTo_disj, kcntTo_le _ _ (by have := cv_le h.le s; omega)]
    rintro i _ ⟨h1, h2⟩
    have := h.dots (s, i) (by simpa using h2)
    simp at h1 this
    omega
  have hl := cnt_list m h.sort (fun d hd => ⟨(h.dots d hd).1, (h.dots d hd).2.1⟩)
  rw [sum5 v h.len, ← hl]
  unfold cntD
  rw [hs 0, hs 1, hs 2, hs 3, hs 4]
  omega
end Rm
/- Parts: as they lie in memory, and what they say. -/
namespace Rm
open Go Go.RowKit Gx
def ixF {E : Type} (p : E → Bool) : List E → Nat → Int
  | [], _ => -1
  | x :: r, i => if p x then (i : Int) else ixF p r (i + 1)
theorem ixF_none {E : Type} {p : E → Bool} : ∀ (K : List E) (i : Nat), (∀ x ∈ K, p x = false) → ixF p K i = -1 := by
 intro K
 induction K with
 | nil => intro i _; rfl
 | cons a K ih =>
  intro i h
  unfold ixF
  rw [h a (List.mem_cons_self ..)]
  exact ih (i + 1) fun x hx => h x (List.mem_cons_of_mem _ hx)
theorem ixF_some {E : Type} {p : E → Bool} : ∀ (K : List E) (i j : Nat) (x : E), K[j]? = some x → p x = true → (∀ k y, k < j → K[k]? = some y → p y = false) → ixF p K i = ((i + j : Nat) : Int) := by
 intro K
 induction K with
 | nil => intro i j x h; simp at h
 | cons a K ih =>
  intro i j x h hp hb
  unfold ixF
  cases j with
  | zero => simp at h; subst h; rw [if_pos hp]; rfl
  | succ j =>
   rw [hb 0 a (by omega) (by simp)]
   simp only [Bool.false_eq_true, if_false]
   rw [ih (i + 1) j x (by simpa using h) hp (fun k y hk hy => hb (k + 1) y (by omega) (by simpa using hy)), show i + 1 + j = i + (j + 1) by omega]
theorem ixF_any {E : Type} (p : E → Bool) : ∀ (K : List E) (i : Nat), decide ((0 : Int) ≤ ixF p K i) = K.any p := by
 intro K
 induction K with
 | nil => intro i; rfl
 | cons a K ih =>
  intro i
  unfold ixF
  cases h : p a
  ·simp only [Bool.false_eq_true, if_false, List.any_cons, h, Bool.false_or]; exact ih (i + 1)
  ·simp only [if_true, List.any_cons, h, Bool.true_or]; simp
theorem ixF_ge {E : Type} (p : E → Bool) : ∀ (K : List E) (i : Nat), ixF p K i = -1 ∨ ∃ j x, ixF p K i = ((i + j : Nat) : Int) ∧ K[j]? = some x ∧ p x = true ∧ ∀ k y, k < j → K[k]? = some y → p y = false := by
 intro K
 induction K with
 | nil => intro i; exact .inl rfl
 | cons a K ih =>
  intro i
  unfold ixF
  cases h : p a
  ·simp only [Bool.false_eq_true, if_false]
   rcases ih (i + 1) with q | ⟨j, x, q1, q2, q3, q4⟩
   ·exact .inl q
   ·refine .inr ⟨j + 1, x, by rw [q1]; omega, by simpa using q2, q3, fun k y hk hy => ?_⟩
    cases k with
    | zero => simp at hy; subst hy; exact h
    | succ k => exact q4 k y (by omega) (by simpa using hy)
  ·simp only [if_true]
   exact .inr ⟨0, a, by simp, by simp, h, fun k y hk => by omega⟩
theorem ixF_neg {E : Type} {p : E → Bool} {K : List E} {i : Nat} (h : ixF p K i = -1) : K.filter (fun x => !p x) = K := by
 rw [List.filter_eq_self]
 intro x hx
 induction K generalizing i with
 | nil => cases hx
 | cons a K ih =>
  unfold ixF at h
  cases hp : p a
  ·rw [hp] at h
   simp only [Bool.false_eq_true, if_false] at h
   rcases List.mem_cons.1 hx with rfl | hx
   ·rw [hp]; rfl
   ·exact ih h hx
  ·rw [hp] at h
   simp only [if_true] at h
   omega
structure PtX where
  fa : Option Addr
  fn : Nat
  fc : Nat
  va : Option Addr
  vn : Nat
  vc : Nat
  ma : Option Addr
  mn : Nat
  mc : Nat
  T : Nat → Nat
  D : DS
def encP (x : PtX) : List Value := [.slice x.fa x.fn x.fc, .slice x.va x.vn x.vc, .slice x.ma x.mn x.mc]
theorem encP_ok : EncOk encP 3 := ⟨fun x => rfl, fun x u hu => by
 simp [encP] at hu
 rcases hu with rfl | rfl | rfl <;> rfl⟩
structure DelAt {E : Type} (p : E → Bool) (K M : List E) (i j : Nat) : Prop where
  len : M.length = K.length
  lt : i < j
  jle : j ≤ K.length
  pre : M.take i = (K.take j).filter (fun x => !p x)
  rest : ∀ q, j ≤ q → M[q]? = K[q]?
theorem DelAt.start {E : Type} {p : E → Bool} {K : List E} {j : Nat} {x : E} (h : K[j]? = some x) (hp : p x = true) (hb : ∀ k y, k < j → K[k]? = some y → p y = false) : DelAt p K K j (j + 1) where
 len := rfl
 lt := by omega
 jle := by have := (List.getElem?_eq_some_iff.1 h).1; omega
 pre := by
  have e : (K.take j).filter (fun x => !p x) = K.take j := by
   rw [List.filter_eq_self]
   intro y hy
   obtain ⟨k, hk⟩ := List.getElem?_of_mem hy
   have hlt : k < j := by
    have := (List.getElem?_eq_some_iff.1 hk).1
    rw [List.length_take] at this; omega
   rw [List.getElem?_take_of_lt hlt] at hk
   simp [hb k y hlt hk]
  rw [List.take_add_one, h, List.filter_append, e]
  simp [hp]
 rest q _ := rfl
theorem DelAt.skip {E : Type} {p : E → Bool} {K M : List E} {i j : Nat} {x : E} (h : DelAt p K M i j) (hx : K[j]? = some x) (hp : p x = true) : DelAt p K M i (j + 1) where
 len := h.len
 lt := by have := h.lt; omega
 jle := by have := (List.getElem?_eq_some_iff.1 hx).1; omega
 pre := by rw [h.pre, List.take_add_one, hx, List.filter_append]; simp [hp]
 rest q hq := h.rest q (by omega)
theorem DelAt.keep {E : Type} {p : E → Bool} {K M : List E} {i j : Nat} {x : E} (h : DelAt p K M i j) (hx : K[j]? = some x) (hp : p x = false) : DelAt p K (M.set i x) (i + 1) (j + 1) where
 len := by rw [List.length_set]; exact h.len
 lt := by have := h.lt; omega
 jle := by have := (List.getElem?_eq_some_iff.1 hx).1; omega
 pre := by
  have hj := (List.getElem?_eq_some_iff.1 hx).1
  have hi : i < M.length := by have := h.lt; have := h.len; omega
  rw [List.take_add_one, List.take_set_of_le (Nat.le_refl _), h.pre, List.getElem?_set_self hi, List.take_add_one, hx, List.filter_append]
  simp [hp]
 rest q hq := by
  have := h.lt
  rw [List.getElem?_set_ne (by omega)]
  exact h.rest q (by omega)
theorem DelAt.end_ {E : Type} {p : E → Bool} {K M : List E} {i : Nat} (h : DelAt p K M i K.length) : M.take i = K.filter (fun x => !p x) := by
 rw [h.pre, List.take_length]
theorem DelAt.count {E : Type} {p : E → Bool} {K M : List E} {i : Nat} (h : DelAt p K M i K.length) : i = (K.filter (fun x => !p x)).length := by
 have := h.lt
 have := h.len
 rw [← h.end_, List.length_take]; omega
end Rm
/- Joined: SpanA, SpanB, SpanC. -/
/- The contracts of package span's small functions: isNum, has, Check, checkBoth. -/
namespace Rm
open Go Go.RowKit
def numB (x : Int) : Bool := decide (0 ≤ x) && decide (x < 32)
theorem u32_pow (n : Nat) (h : n < 32) : IntKind.u32.wrap (2 ^ n) = ((2 ^ n : Nat) : Int) := by
 rw [IntKind.wrap_u32']
 have h1 : (2 : Nat) ^ n < 2 ^ 32 := Nat.pow_lt_pow_right (by omega) h
 have h2 : ((2 ^ n : Nat) : Int) = (2 : Int) ^ n := by simp
 rw [← h2]
 generalize 2 ^ n = x at *
 omega
theorem and_pow_bne (m n : Nat) : (m &&& 2 ^ n != 0) = m.testBit n := by
 cases h : m.testBit n
 ·have : m &&& 2 ^ n = 0 := by
   apply Nat.eq_of_testBit_eq
   intro i
   rw [Nat.testBit_and, Nat.testBit_two_pow, Nat.zero_testBit]
   by_cases e : n = i
   ·subst e; simp [h]
   ·simp [e]
  simp [this]
 ·have : m &&& 2 ^ n ≠ 0 := by
   intro e
   have h2 : (m &&& 2 ^ n).testBit n = true := by rw [Nat.testBit_and, h, Nat.testBit_two_pow]; simp
   rw [e] at h2
   simp at h2
  simpa using this
theorem bit_eq (m n : Nat) (hm : m < 2 ^ 32) (hn : n < 32) : (bits .and .u32 (m : Int) (IntKind.u32.wrap (2 ^ n)) != 0) = m.testBit n := by
 rw [u32_pow n hn, u32_and_nat m (2 ^ n) hm (Nat.pow_lt_pow_right (by omega) hn), ← and_pow_bne]
 rw [Bool.eq_iff_iff]
 simp only [bne_iff_ne, ne_eq]
 omega
def chkGo : Int → List (Int × Int) → Int
  | _, [] => 0
  | last, p :: r => if p.1 < 0 ∨ 32 < p.2 ∨ p.2 ≤ p.1 then 1 else if p.1 ≤ last then 3 else chkGo p.2 r
def chkS (l : List (Int × Int)) : Int := if 16 < l.length then 2 else chkGo (-1) l
def lastAt (l : List (Int × Int)) (k : Nat) : Int := match k with | 0 => -1 | k + 1 => (l.getD k (0, 0)).2
theorem drop_at {l : List (Int × Int)} {k : Nat} {p : Int × Int} (h : l[k]? = some p) : l.drop k = p :: l.drop (k + 1) := by
 obtain ⟨hk, e⟩ := List.getElem?_eq_some_iff.1 h
 rw [List.drop_eq_getElem_cons hk, e]
theorem last_at {l : List (Int × Int)} {k : Nat} {p : Int × Int} (h : l[k]? = some p) : lastAt l (k + 1) = p.2 := by simp [lastAt, List.getD, h]
end Rm
namespace Go.Proofs.YtglbnggkkjhokaaGreat
open Go.RowKit Rm
theorem isNum_any (x : Int) (w : World) :
  Calls Tryz.prog 238 #[.int .i64 x] w fun e w' => e = .returned (.bool (numB x)) ∧ w = w' := by
 by_cases h0 : 0 ≤ x
 ·by_cases h1 : x < 32
  ·have ht : numB x = true := by simp [numB, h0, h1]
   rw [ht]
   go_enter Tryz.func238, Tryz.ntmps238
   go_wp2
   go_ret
   exact ⟨rfl, rfl⟩
  ·have ht : numB x = false := by simp [numB, h1]
   rw [ht]
   go_enter Tryz.func238, Tryz.ntmps238
   go_wp2
   go_ret
   exact ⟨rfl, rfl⟩
 ·have ht : numB x = false := by simp [numB, h0]
  rw [ht]
  go_enter Tryz.func238, Tryz.ntmps238
  go_wp2
  go_ret
  exact ⟨rfl, rfl⟩
theorem shas_any (m n : Nat) (w : World) (hm : m < 2 ^ 32) (hn : n < 32) :
  Calls Tryz.prog 261 #[.int .u32 m, .int .i64 n] w fun e w' => e = .returned (.bool (m.testBit n)) ∧ w = w' := by
 have h1 : ((n : Nat) : Int) < 32 := by omega
 have HB := Lib.hid (bit_eq m n hm hn)
 clear hm
 go_enter Tryz.func261, Tryz.ntmps261
 go_wp2
 go_ret
 exact ⟨by rw [← HB.out]; rfl, rfl⟩
theorem scheck_any (v : Value) (l : List (Int × Int)) (w : World) (hr : Rd2 w v l) :
  Calls Tryz.prog 111 #[v] w fun e w' => e = .returned (.int .i64 (chkS l)) ∧ Gr w w' := by
 obtain ⟨a, cp, rfl, hcp, hx⟩ := hr
 by_cases h16 : 16 < l.length
 ·have e : chkS l = 2 := by simp [chkS, h16]
  rw [e]
  have hz : (16 : Int) < (l.length : Int) := by omega
  go_enter Tryz.func111, Tryz.ntmps111
  go_wp2
  go_ret
  exact ⟨rfl, Gr.refl _⟩
 ·have e : chkS l = chkGo (-1) l := by simp [chkS, h16]
  rw [e]
  clear e
  have hz : ¬ (16 : Int) < (l.length : Int) := by omega
  have HX := Lib.hid hx
  clear hx
  go_enter Tryz.func111, Tryz.ntmps111
  go_wp2
  go_loopw [10] (fun i wr => ∃ k : Nat, k ≤ l.length ∧ i = .int .i64 k ∧ Hid (chkGo (-1) l = chkGo (lastAt l k) (l.drop k)) ∧ Gr w wr) (fun i _ => l.length - (intOf i).toNat)
  case atStart => exact ⟨0, by omega, rfl, rfl, Gr.refl _⟩
  case round =>
   obtain ⟨k, hk, rfl, hh, hg⟩ := hrel
   by_cases hlt : k < l.length
   ·obtain ⟨⟨f, t⟩, hp⟩ : ∃ p, l[k]? = some p := ⟨_, List.getElem?_eq_getElem hlt⟩
    obtain ⟨b, off, rfl, hb, hcell⟩ := HX.out (by intro e; rw [e] at hlt; simp at hlt)
    obtain ⟨c1, c2⟩ := hcell k _ hp
    rw [← hg.cells.1 b _ hb] at c1 c2
    simp only at c1 c2
    have hbr : b < wr.heap.size := Nat.lt_of_lt_of_le hb hg.le
    have HH : Hid (chkGo (-1) l = if f < 0 ∨ 32 < t ∨ t ≤ f then 1 else if f ≤ lastAt l k then 3 else chkGo t (l.drop (k + 1))) := by
     rw [hh.out, drop_at hp]; rfl
    clear hh
    have hk16 : (k : Int) ≤ 16 := by omega
    by_cases hbad : f < 0 ∨ 32 < t ∨ t ≤ f
    ·have E1 : Hid (chkGo (-1) l = 1) := by rw [HH.out, if_pos hbad]; rfl
     clear hcell HH
     by_cases q1 : f < 0
     ·go_wp2
      go_ret
      exact ⟨by rw [E1.out]; rfl, hg.alloc _⟩
     ·by_cases q2 : 32 < t
      ·go_wp2
       go_ret
       exact ⟨by rw [E1.out]; rfl, hg.alloc _⟩
      ·have q3 : t ≤ f := by omega
       go_wp2
       go_ret
       exact ⟨by rw [E1.out]; rfl, hg.alloc _⟩
    ·have q1 : ¬ f < 0 := by omega
     have q2 : ¬ 32 < t := by omega
     have q3 : ¬ t ≤ f := by omega
     have e1 : Hid (chkGo (-1) l = if f ≤ lastAt l k then 3 else chkGo t (l.drop (k + 1))) := by rw [HH.out, if_neg hbad]; rfl
     have HC := Lib.hid hcell
     clear HH hbad hcell
     cases k with
     | zero =>
      have e2 : Hid (chkGo (-1) l = chkGo (lastAt l (0 + 1)) (l.drop (0 + 1))) := by
       have := e1.out
       rw [if_neg (by simp [lastAt]; omega)] at this
       rw [last_at hp]
       exact this
      simp only [Nat.zero_mul, Nat.add_zero] at c1 c2
      clear e1 hk16
      go_wp2
      go_quiet (fail)
      go_wp2
      go_roundw
      case rel => exact ⟨0 + 1, by omega, by go_num, e2, (hg.alloc _).drewN _⟩
      case measure => simp [intOf]; omega
     | succ k =>
      obtain ⟨⟨f0, t0⟩, hp0⟩ : ∃ p, l[k]? = some p := ⟨_, List.getElem?_eq_getElem (by omega)⟩
      have d2 : w.cell? ⟨b, off + k * 2 + 1, none⟩ = some (.int .i64 t0) := (HC.out k _ hp0).2
      rw [← hg.cells.1 b _ hb] at d2
      have hl0 := last_at hp0
      simp only at hl0
      have e2 : Hid (chkGo (-1) l = if f ≤ t0 then 3 else chkGo (lastAt l (k + 1 + 1)) (l.drop (k + 1 + 1))) := by
       rw [last_at hp, ← hl0]; exact e1
      clear e1 hl0
      by_cases q4 : f ≤ t0
      ·have E1 : Hid (chkGo (-1) l = 3) := by rw [e2.out, if_pos q4]; rfl
       clear e2
       go_wp2
       go_quiet (fail)
       go_wp2
       go_ret
       exact ⟨by rw [E1.out]; rfl, (hg.alloc _).drewN _⟩
      ·have E1 : Hid (chkGo (-1) l = chkGo (lastAt l (k + 1 + 1)) (l.drop (k + 1 + 1))) := by rw [e2.out, if_neg q4]; rfl
       clear e2
       go_wp2
       go_quiet (fail)
       go_wp2
       go_roundw
       case rel => exact ⟨k + 1 + 1, by omega, by go_num, E1, (hg.alloc _).drewN _⟩
       case measure => simp [intOf]; omega
   ·obtain rfl : k = l.length := by omega
    have E1 : Hid (chkGo (-1) l = 0) := by rw [hh.out, List.drop_length]; rfl
    clear hh
    go_wp2
    go_ret
    exact ⟨by rw [E1.out]; rfl, hg⟩
end Go.Proofs.YtglbnggkkjhokaaGreat
/- The contracts of package span's maskOf and list. -/
namespace Rm
open Go Go.RowKit
theorem or_eq (m n : Nat) (hm : m < 2 ^ 32) (hn : n < 32) : bits .or .u32 (m : Int) (IntKind.u32.wrap (2 ^ n)) = ((m ||| 2 ^ n : Nat) : Int) := by
 rw [u32_pow n hn, u32_or_nat m (2 ^ n) hm (Nat.pow_lt_pow_right (by omega) hn)]
theorem maskL_take {l : List (Nat × Nat)} {k : Nat} {p : Nat × Nat} (h : l[k]? = some p) : maskL (l.take (k + 1)) = orTo (maskL (l.take k)) p.1 (p.2 - p.1) := by
 obtain ⟨hk, e⟩ := List.getElem?_eq_some_iff.1 h
 rw [List.take_succ_eq_append_getElem hk, e, maskL_snoc]
end Rm
namespace Go.Proofs.YtglbnggkkjhokaaGreat
open Go.RowKit Rm
end Go.Proofs.YtglbnggkkjhokaaGreat
/- The contract of package span's list. -/
namespace Rm
open Go Go.RowKit
theorem own_form {w : World} {base : Nat} {e : TypeId} {size : Nat} {v : Value} {n : Nat} {xs : List Value} (h : w.ownsRow base e size v n xs) : ∃ a c, v = .slice a n c ∧ n ≤ c := by
 rcases h.2 with ⟨rfl, rfl⟩ | ⟨g, cap, _, rfl, _, _, h, _⟩
 ·exact ⟨_, _, rfl, Nat.le_refl _⟩
 ·exact ⟨_, _, rfl, h⟩
theorem own_pos {w : World} {base : Nat} {e : TypeId} {size : Nat} {v : Value} {n : Nat} {xs : List Value} (h : w.ownsRow base e size v n xs) (hn : 0 < n) : ∃ g cap, v = .slice (some ⟨g, 0, none⟩) n cap ∧ base ≤ g ∧ g < w.heap.size ∧ n ≤ cap := by
 rcases h.2 with ⟨rfl, rfl⟩ | ⟨g, cap, cur, rfl, hb, hg, hc, _⟩
 ·omega
 ·refine ⟨g, cap, rfl, hb, ?_, hc⟩
  rcases Nat.lt_or_ge g w.heap.size with h | h
  ·exact h
  ·rw [Array.getElem?_eq_none h] at hg; cases hg
theorem flat_set (l : List (Int × Int)) (a b b' : Int) : (flat (l ++ [(a, b)])).set (l.length * 2 + 1) (.int .i64 b') = flat (l ++ [(a, b')]) := by
 rw [flat_app, flat_app, ← flat_len]
 rw [List.set_append_right _ _ (by omega)]
 congr 1
 simp [flat]
theorem listTo_len (s : Nat → Bool) (n : Nat) (h : n ≤ 32) : (listTo s n).length ≤ 16 := (listTo_ok s n h).1.len16
theorem listTo_yes {s : Nat → Bool} {n : Nat} (h : s n = true) : listTo s (n + 1) = push (listTo s n) n := by simp [listTo, h]
theorem listTo_no {s : Nat → Bool} {n : Nat} (h : s n = false) : listTo s (n + 1) = listTo s n := by simp [listTo, h]
end Rm
namespace Go.Proofs.YtglbnggkkjhokaaGreat
open Go.RowKit Rm
theorem span_info : (Tryz.prog.info? 177).map (fun i => (i.zero, i.size, i.bytes)) = some (some (.agg #[.int .i64 0, .int .i64 0]), 2, 16) := by kernel_rfl
def ListAt (w wr : World) (l : List (Nat × Nat)) (v : Value) : Prop := Gr w wr ∧ wr.ownsRow w.heap.size 177 2 v (pairs l).length (flat (pairs l))
theorem list_any (m : Nat) (w : World) (hm : m < 2 ^ 32) :
  Calls Tryz.prog 239 #[.int .u32 m] w fun e w' => ∃ v, e = .returned v ∧ ListAt w w' (canon m) v := by
 obtain ⟨i0, hi0, hz0, hz1, hz2⟩ := info_parts span_info
 unfold canon
 have HM := Lib.hid hm
 clear hm
 go_enter Tryz.func239, Tryz.ntmps239
 go_wp2
 go_loopw [3, 6] (fun v i wr => ∃ n : Nat, n ≤ 32 ∧ i = .int .i64 n ∧ ListAt w wr (listTo m.testBit n) v) (fun _ i _ => 32 - (intOf i).toNat)
 case atStart => exact ⟨0, by omega, rfl, Gr.refl _, World.ownsRow_nil _ _ _ _⟩
 case round =>
  obtain ⟨n, hn, rfl, hg, hown⟩ := hrel
  have hlen := listTo_len m.testBit n hn
  by_cases hlt : n < 32
  ·cases hbit : m.testBit n
   ·have HL := Lib.hid (listTo_no hbit)
    have HO := Lib.hid hown
    clear hown
    go_wp2_with fail
    refine (shas_any m n _ HM.out hlt).mono ?_
    rintro e w1 ⟨rfl, rfl⟩
    go_wp2_with fail
    go_roundw
    case rel => exact ⟨n + 1, by omega, by go_num, hg, by rw [HL.out]; exact HO.out⟩
    case measure => simp [intOf]; omega
   ·have HL := Lib.hid (listTo_yes hbit)
    generalize listTo m.testBit n = l at *
    have hlen2 : (pairs l).length ≤ 16 := by rw [pairs_len]; exact hlen
    rcases List.eq_nil_or_concat l with rfl | ⟨l, ⟨f, t⟩, rfl⟩
    ·obtain ⟨a, c, rfl, hc⟩ := own_form hown
     have HO := Lib.hid hown
     clear hown hc
     have HP : Hid (flat (pairs (listTo m.testBit (n + 1))) = flat (pairs []) ++ [.int .i64 (n : Int), .int .i64 ((n : Int) + 1)] ∧ (pairs (listTo m.testBit (n + 1))).length = (pairs []).length + 1) := by
      rw [HL.out, push_nil]
      exact ⟨by simp [pairs, flat], by simp [pairs]⟩
     clear HL
     go_wp2_with fail
     refine (shas_any m n _ HM.out hlt).mono ?_
     rintro e w1 ⟨rfl, rfl⟩
     go_wp2_with (at_builtin; refine wpList_append_own _ rfl (.tmp 36) (.tmp 41) 132 rfl w.heap.size 177 i0 _ 2 16 Tryz.underlying132 hi0 hz0 hz1 hz2 rfl (by omega) _ _ _ rfl (HO.out.alloc _) ⟨wr.heap.size, 0, none⟩ 1 1 [.int .i64 (n : Int), .int .i64 ((n : Int) + 1)] rfl rfl (new2 _ _ _ _) (one2 _ _) (by simp only [maxLen]; omega) (by omega) (by have := hg.le; simp; omega) ?_; intro v1 w1 hown hg1 _)
     go_roundw
     case rel => exact ⟨n + 1, by omega, by go_num, (hg.alloc _).grown hg1 (fun k hk => (HO.out.lt k hk).1), by rw [HP.out.1, HP.out.2]; exact hown⟩
     case measure => simp [intOf]; omega
    ·rw [List.concat_eq_append] at *
     obtain ⟨g, cap, rfl, hbg, hgl, hcc⟩ := own_pos hown (by simp [pairs])
     have hlen3 : (pairs (l ++ [(f, t)])).length = l.length + 1 := by simp [pairs]
     have HO : Hid (wr.ownsRow w.heap.size 177 2 (.slice (some ⟨g, 0, none⟩) (l.length + 1) cap) (l.length + 1) (flat (pairs (l ++ [(f, t)])))) := by rw [← hlen3]; exact hown
     have hcell : wr.cell? ⟨g, l.length * 2 + 1, none⟩ = some (.int .i64 t) := by
      rw [HO.out.cellAt _ (by omega), pairs_app, flat_app, List.getElem?_append_right (by rw [flat_len, pairs_len]; omega), flat_len, pairs_len]
      simp [flat]
     have hfro := HO.out.frozenAt (l.length * 2 + 1)
     have hl16 : (l.length : Int) ≤ 15 := by simp at hlen; omega
     have hpf := HL.out
     rw [push_snoc] at hpf
     rw [hlen3]
     rw [hlen3] at hlen2 hcc
     clear hown hlen hlen3 HL
     by_cases htn : t = n
     ·subst htn
      rw [if_pos rfl] at hpf
      have HP : Hid (flat (pairs (listTo m.testBit (t + 1))) = (flat (pairs (l ++ [(f, t)]))).set (l.length * 2 + 1) (.int .i64 ((t : Int) + 1)) ∧ (pairs (listTo m.testBit (t + 1))).length = l.length + 1) := by
       rw [hpf, pairs_app, pairs_app, ← pairs_len l, flat_set]
       exact ⟨rfl, by simp⟩
      clear hpf
      go_wp2_with fail
      refine (shas_any m t _ HM.out hlt).mono ?_
      rintro e w1 ⟨rfl, rfl⟩
      go_wp2_with fail
      go_roundw
      case rel => exact ⟨t + 1, by omega, by go_num, hg.setCell hbg _, by rw [HP.out.1, HP.out.2]; exact (HO.out.stored _ _).1⟩
      case measure => simp [intOf]; omega
     ·rw [if_neg htn] at hpf
      have HP : Hid (flat (pairs (listTo m.testBit (n + 1))) = flat (pairs (l ++ [(f, t)])) ++ [.int .i64 (n : Int), .int .i64 ((n : Int) + 1)] ∧ (pairs (listTo m.testBit (n + 1))).length = l.length + 1 + 1) := by
       rw [hpf, pairs_app (l ++ [(f, t)]), flat_app]
       exact ⟨by simp [flat], by simp [pairs]⟩
      have htn' : ((t : Int) == (n : Int)) = false := by simp; omega
      clear hpf htn
      go_wp2_with fail
      refine (shas_any m n _ HM.out hlt).mono ?_
      rintro e w1 ⟨rfl, rfl⟩
      go_wp2_with (at_builtin; refine wpList_append_own _ rfl (.tmp 36) (.tmp 41) 132 rfl w.heap.size 177 i0 _ 2 16 Tryz.underlying132 hi0 hz0 hz1 hz2 rfl (by omega) _ _ _ rfl (HO.out.alloc _) ⟨wr.heap.size, 0, none⟩ 1 1 [.int .i64 (n : Int), .int .i64 ((n : Int) + 1)] rfl rfl (new2 _ _ _ _) (one2 _ _) (by simp only [maxLen]; omega) (by omega) (by have := hg.le; simp; omega) ?_; intro v1 w1 hown hg1 _)
      go_roundw
      case rel => exact ⟨n + 1, by omega, by go_num, (hg.alloc _).grown hg1 (fun k hk => (HO.out.lt k hk).1), by rw [HP.out.1, HP.out.2]; exact hown⟩
      case measure => simp [intOf]; omega
  ·obtain rfl : n = 32 := by omega
   go_wp2_with fail
   go_ret
   exact ⟨_, rfl, hg, hown⟩
end Go.Proofs.YtglbnggkkjhokaaGreat
/- What a check of a set of dots says, as read: the first fault. -/
namespace Rm
open Go Go.RowKit
def first (f : Nat → Int) : Nat → Int
  | 0 => 0
  | n + 1 => if first f n = 0 then f n else first f n
theorem first_none {f : Nat → Int} {n : Nat} (h : ∀ j, j < n → f j = 0) : first f n = 0 := by
 induction n with
 | zero => rfl
 | succ n ih => unfold first; rw [if_pos (ih fun j hj => h j (by omega))]; exact h n (by omega)
theorem first_some {f : Nat → Int} {n k : Nat} (h : ∀ j, j < k → f j = 0) (hk : k < n) (hf : f k ≠ 0) : first f n = f k := by
 induction n with
 | zero => omega
 | succ n ih =>
  unfold first
  by_cases e : k = n
  ·subst e; rw [if_pos (first_none h)]
  ·have := ih (by omega)
   rw [this, if_neg hf]
theorem first_zero {f : Nat → Int} {n : Nat} (h : first f n = 0) : ∀ j, j < n → f j = 0 := by
 induction n with
 | zero => intro j hj; omega
 | succ n ih =>
  unfold first at h
  by_cases e : first f n = 0
  ·rw [if_pos e] at h
   intro j hj
   by_cases q : j = n
   ·rw [q]; exact h
   ·exact ih e j (by omega)
  ·rw [if_neg e] at h; exact absurd h e
def ints (l : List Nat) : List Int := l.map fun (x : Nat) => (x : Int)
theorem ints_len (l : List Nat) : (ints l).length = l.length := by simp [ints]
theorem ints_at {l : List Nat} {i x : Nat} (h : l[i]? = some x) : (ints l)[i]? = some (x : Int) := by simp [ints, h]
def badV (V : List Int) (i : Nat) : Int := match V[i]? with
  | some x => if x < 0 ∨ 1000 < x then 1 else 0
  | none => 0
def dotB (d : Int × Int) : Bool := decide (0 ≤ d.1) && decide (d.1 < 5) && decide (1 ≤ d.2) && decide (d.2 ≤ 1000)
theorem dotB_iff (d : Int × Int) : dotB d = true ↔ 0 ≤ d.1 ∧ d.1 < 5 ∧ 1 ≤ d.2 ∧ d.2 ≤ 1000 := by simp [dotB, and_assoc]
def ltI (a b : Int × Int) : Prop := a.1 < b.1 ∨ a.1 = b.1 ∧ a.2 < b.2
instance (a b : Int × Int) : Decidable (ltI a b) := by unfold ltI; infer_instance
def badM (v : List Nat) (M : List (Int × Int)) (i : Nat) : Int := match M[i]? with
  | some d => if dotB d = false then 1 else if d.2 < (cv v d.1.toNat : Int) + 2 ∨ (0 < i ∧ ¬ ltI (M.getD (i - 1) (0, 0)) d) then 3 else 0
  | none => 0
def chkV (V : List Int) : Int := if first (badV V) V.length ≠ 0 then first (badV V) V.length else if V.getLast? = some 0 then 3 else 0
def chkM (v : List Nat) (M : List (Int × Int)) : Int := first (badM v M) M.length
def natsI (V : List Int) : List Nat := V.map Int.toNat
def chkK (V : List Int) (M : List (Int × Int)) : Int := if 5 < V.length ∨ 60 < M.length then 2 else if chkV V ≠ 0 then chkV V else chkM (natsI V) M
theorem badV_zero {V : List Int} (h : ∀ i, i < V.length → badV V i = 0) : ∀ x ∈ V, 0 ≤ x ∧ x ≤ 1000 := by
 intro x hx
 obtain ⟨i, hi⟩ := List.getElem?_of_mem hx
 have := h i (List.getElem?_eq_some_iff.1 hi).1
 unfold badV at this
 rw [hi] at this
 simp only at this
 split at this <;> omega
theorem chkV_zero {V : List Int} (h : chkV V = 0) : (∀ x ∈ V, 0 ≤ x ∧ x ≤ 1000) ∧ V.getLast? ≠ some 0 := by
 unfold chkV at h
 split at h
 ·omega
 ·rename_i e
  split at h
  ·cases h
  ·rename_i q
   exact ⟨badV_zero (first_zero (by simpa using e)), q⟩
theorem natsI_ints (v : List Nat) : natsI (ints v) = v := by simp [natsI, ints, Function.comp_def]
theorem ints_natsI {V : List Int} (h : ∀ x ∈ V, 0 ≤ x ∧ x ≤ 1000) : ints (natsI V) = V := by
 unfold ints natsI
 rw [List.map_map]
 conv => rhs; rw [← List.map_id V]
 apply List.map_congr_left
 intro x hx
 have := h x hx
 simp; omega
theorem getLast_ints (v : List Nat) : (ints v).getLast? = (v.getLast?).map fun (x : Nat) => (x : Int) := by simp [ints, List.getLast?_map]
theorem badM_zero {v : List Nat} {M : List (Int × Int)} {n : Nat} (h : ∀ i, i < n → badM v M i = 0) : ∀ i d, i < n → M[i]? = some d → dotB d = true ∧ (cv v d.1.toNat : Int) + 2 ≤ d.2 ∧ (0 < i → ltI (M.getD (i - 1) (0, 0)) d) := by
 intro i d hi hd
 have := h i hi
 unfold badM at this
 rw [hd] at this
 simp only at this
 split at this
 ·cases this
 ·rename_i e
  split at this
  ·cases this
  ·rename_i q
   refine ⟨by simpa using e, by omega, fun h0 => ?_⟩
   exact Classical.byContradiction fun hn => q (.inr ⟨h0, hn⟩)
def natD (d : Int × Int) : Nat × Nat := (d.1.toNat, d.2.toNat)
theorem pairs_natD {M : List (Int × Int)} (h : ∀ d ∈ M, 0 ≤ d.1 ∧ 0 ≤ d.2) : pairs (M.map natD) = M := by
 unfold pairs
 rw [List.map_map]
 conv => rhs; rw [← List.map_id M]
 apply List.map_congr_left
 intro d hd
 have := h d hd
 obtain ⟨a, b⟩ := d
 simp only [natD, Function.comp, id] at *
 congr <;> omega
theorem pairwise_of_next {α : Type} {R : α → α → Prop} (tr : ∀ a b c, R a b → R b c → R a c) : ∀ {l : List α}, (∀ i a b, l[i]? = some a → l[i + 1]? = some b → R a b) → l.Pairwise R
 | [], _ => List.Pairwise.nil
 | a :: l, h => by
  have ih : l.Pairwise R := pairwise_of_next tr fun i x y hx hy => h (i + 1) x y (by simpa using hx) (by simpa using hy)
  rw [List.pairwise_cons]
  refine ⟨?_, ih⟩
  cases l with
  | nil => intro x hx; cases hx
  | cons b l =>
   have hab := h 0 a b rfl rfl
   intro x hx
   rcases List.mem_cons.1 hx with rfl | q
   ·exact hab
   ·exact tr _ _ _ hab ((List.pairwise_cons.1 ih).1 x q)
theorem chkK_zero {V : List Int} {M : List (Int × Int)} (h : chkK V M = 0) : ∃ v m, V = ints v ∧ M = pairs m ∧ OkV v m ∧ m.length ≤ 60 := by
  unfold chkK at h
  split at h
  · cases h
  · rename_i hl
    split at h
    · rename_i e; exact absurd h e
    · rename_i e
      obtain ⟨hv, hlast⟩ := chkV_zero (Classical.not_not.1 e)
      have hb := badM_zero (first_zero h)
      have hin : ∀ d ∈ M, dotB d = true := fun d hd => by
        obtain ⟨i, hi⟩ := List.getElem?_of_mem hd
        exact (hb i d (List.getElem?_eq_some_iff.1 hi).1 hi).1
      have hM : pairs (M.map natD) = M := pairs_natD fun d hd => by have := (dotB_iff d).1 (hin d hd); omega
      refine ⟨natsI V, M.map natD, (ints_natsI hv).symm, hM.symm, ⟨?_, ?_, ?_, ?_, ?_⟩, ?_⟩
      · simp [natsI]; omega
      · intro x hx
        obtain ⟨y, hy, rfl⟩ := List.mem_map.1 hx
        have := hv y hy; omega
      · intro q
        apply hlast
        rw [← ints_natsI hv, getLast_ints, q]; rfl
      · intro d hd
        obtain ⟨e, he, rfl⟩ := List.mem_map.1 hd
        obtain ⟨i, hi⟩ := List.getElem?_of_mem he
        have h1 := hb i e (List.getElem?_eq_some_iff.1 hi).1 hi
        have h2 := (dotB_iff e).1 h1.1
        simp only [natD]
        omega
      · refine pairwise_of_next (R := ltD) (fun _ _ _ h k => ltD_trans h k) ?_
        intro i a b ha hb'
        rw [List.getElem?_map] at ha hb'
        cases ea : M[i]? with
        | none => rw [ea] at ha; cases ha
        | some x => cases eb : M[i + 1]? with
          | none => rw [eb] at hb'; cases hb'
          | some y =>
            rw [ea] at ha; rw [eb] at hb'
            simp only [Option.map_some, Option.some.injEq] at ha hb'
            subst ha hb'
            have h1 := hb (i + 1) y (List.getElem?_eq_some_iff.1 eb).1 eb
            have h2 := h1.2.2 (by omega)
            have hx := (dotB_iff x).1 (hin x (List.mem_of_getElem? ea))
            have hy := (dotB_iff y).1 (hin y (List.mem_of_getElem? eb))
            rw [show i + 1 - 1 = i from rfl, List.getD_eq_getElem?_getD, ea] at h2
            simp only [Option.getD_some] at h2
            unfold ltI at h2
            unfold ltD natD
            simp only
            omega
      · simp; omega
theorem OkV.chk {v : List Nat} {m : List (Nat × Nat)} (h : OkV v m) (hl : m.length ≤ 60) : chkK (ints v) (pairs m) = 0 := by
  have hV : first (badV (ints v)) (ints v).length = 0 := first_none fun i hi => by
    unfold badV
    rw [ints_len] at hi
    rw [ints_at (List.getElem?_eq_getElem hi)]
    have := h.le _ (List.getElem_mem hi)
    simp only
    rw [if_neg (by omega)]
  have hC : chkV (ints v) = 0 := by
    unfold chkV
    rw [hV, if_neg (by simp), if_neg]
    rw [getLast_ints]
    intro q
    apply h.last
    cases e : v.getLast? with
    | none => rw [e] at q; cases q
    | some x => rw [e] at q; simp at q; rw [q]
  unfold chkK
  rw [ints_len, pairs_len, if_neg (by have := h.len; omega), hC, if_neg (by simp), natsI_ints]
  refine first_none fun i hi => ?_
  rw [pairs_len] at hi
  have hd := h.dots _ (List.getElem_mem hi)
  unfold badM
  rw [pairs_at (List.getElem?_eq_getElem hi)]
  simp only
  rw [if_neg, if_neg]
  · simp only [Int.toNat_natCast, not_or, not_and, Classical.not_not]
    refine ⟨by omega, fun h0 => ?_⟩
    have h1 : i - 1 < m.length := by omega
    have h2 := List.pairwise_iff_getElem.1 h.sort (i - 1) i h1 hi (by omega)
    rw [List.getD_eq_getElem?_getD, pairs_at (List.getElem?_eq_getElem h1)]
    unfold ltD at h2
    unfold ltI
    simp only [Option.getD_some]
    omega
  · rw [Bool.eq_false_iff, ne_eq, dotB_iff, Classical.not_not]
    simp only
    omega
end Rm
/- slices.SortFunc at dots by know.compare: the same dots, in order. -/
namespace Go.Proofs
open Go.Shelf
def Tryz.sortDots_ren : Go.Shelf.Ren := ⟨fun | 6 => 183 | 15 => 217 | 14 => 216 | 28 => 253 | 29 => 254 | 20 => 245 | 21 => 246 | 22 => 247 | 23 => 248 | 24 => 249 | 25 => 250 | 26 => 251 | 27 => 252 | 46 => 262 | 47 => 263 | 48 => 264 | 49 => 265 | 50 => 266 | 57 => 276 | n => n, fun | 22 => 73 | 24 => 51 | 25 => 248 | 3 => 3 | 39 => 141 | 0 => 0 | 53 => 223 | 55 => 152 | 4 => 4 | 46 => 302 | 45 => 301 | 50 => 200 | 5 => 5 | 9 => 9 | 66 => 313 | 70 => 317 | 76 => 324 | 77 => 86 | n => n, fun | n => n⟩
theorem Tryz.sortDots : Go.Proofs.SlLaysF0.n6 Tryz.prog Tryz.sortDots_ren := {
 mixed := by kernel_rfl
 f6 := ⟨Tryz.f183.name, by decide, Tryz.func183.trans (congrArg some (by kernel_rfl))⟩
 f14 := ⟨Tryz.f216.name, by decide, Tryz.func216.trans (congrArg some (by kernel_rfl))⟩
 f15 := Tryz.func217.trans (congrArg some (by kernel_rfl))
 f20 := ⟨Tryz.f245.name, by decide, Tryz.func245.trans (congrArg some (by kernel_rfl))⟩
 f21 := ⟨Tryz.f246.name, by decide, Tryz.func246.trans (congrArg some (by kernel_rfl))⟩
 f22 := ⟨Tryz.f247.name, by decide, Tryz.func247.trans (congrArg some (by kernel_rfl))⟩
 f23 := ⟨Tryz.f248.name, by decide, Tryz.func248.trans (congrArg some (by kernel_rfl))⟩
 f24 := ⟨Tryz.f249.name, by decide, Tryz.func249.trans (congrArg some (by kernel_rfl))⟩
 f25 := ⟨Tryz.f250.name, by decide, Tryz.func250.trans (congrArg some (by kernel_rfl))⟩
 f26 := ⟨Tryz.f251.name, by decide, Tryz.func251.trans (congrArg some (by kernel_rfl))⟩
 f27 := ⟨Tryz.f252.name, by decide, Tryz.func252.trans (congrArg some (by kernel_rfl))⟩
 f28 := Tryz.func253.trans (congrArg some (by kernel_rfl))
 f29 := Tryz.func254.trans (congrArg some (by kernel_rfl))
 f46 := ⟨Tryz.f262.name, by decide, Tryz.func262.trans (congrArg some (by kernel_rfl))⟩
 f47 := Tryz.func263.trans (congrArg some (by kernel_rfl))
 f48 := Tryz.func264.trans (congrArg some (by kernel_rfl))
 f49 := ⟨Tryz.f265.name, by decide, Tryz.func265.trans (congrArg some (by kernel_rfl))⟩
 f50 := ⟨Tryz.f266.name, by decide, Tryz.func266.trans (congrArg some (by kernel_rfl))⟩
 f57 := ⟨Tryz.f276.name, by decide, Tryz.func276.trans (congrArg some (by kernel_rfl))⟩
 t0 := Tryz.underlying0
 a0 := Tryz.isAgg0
 z0 := Tryz.sizeOf0
 v0 := Tryz.zeroValue0
 t3 := Tryz.underlying3
 a3 := Tryz.isAgg3
 z3 := Tryz.sizeOf3
 v3 := Tryz.zeroValue3
 t4 := Tryz.underlying4
 a4 := Tryz.isAgg4
 z4 := Tryz.sizeOf4
 v4 := Tryz.zeroValue4
 t5 := Tryz.underlying5
 a5 := Tryz.isAgg5
 z5 := Tryz.sizeOf5
 v5 := Tryz.zeroValue5
 t9 := Tryz.underlying9
 a9 := Tryz.isAgg9
 z9 := Tryz.sizeOf9
 v9 := Tryz.zeroValue9
 t22 := Tryz.underlying73
 a22 := Tryz.isAgg73
 z22 := Tryz.sizeOf73
 v22 := Tryz.zeroValue73
 t25 := Tryz.underlying248
 a25 := Tryz.isAgg248
 z25 := Tryz.sizeOf248
 v25 := Tryz.zeroValue248
 t39 := Tryz.underlying141
 a39 := Tryz.isAgg141
 z39 := Tryz.sizeOf141
 v39 := Tryz.zeroValue141
 t45 := Tryz.underlying301
 a45 := Tryz.isAgg301
 z45 := Tryz.sizeOf301
 v45 := Tryz.zeroValue301
 t46 := Tryz.underlying302
 a46 := Tryz.isAgg302
 z46 := Tryz.sizeOf302
 v46 := Tryz.zeroValue302
 t50 := Tryz.underlying200
 a50 := Tryz.isAgg200
 z50 := Tryz.sizeOf200
 v50 := Tryz.zeroValue200
 t53 := Tryz.underlying223
 a53 := Tryz.isAgg223
 z53 := Tryz.sizeOf223
 v53 := Tryz.zeroValue223
 t55 := Tryz.underlying152
 a55 := Tryz.isAgg152
 z55 := Tryz.sizeOf152
 v55 := Tryz.zeroValue152
 t66 := Tryz.underlying313
 a66 := Tryz.isAgg313
 z66 := Tryz.sizeOf313
 v66 := Tryz.zeroValue313
 t70 := Tryz.underlying317
 a70 := Tryz.isAgg317
 z70 := Tryz.sizeOf317
 v70 := Tryz.zeroValue317
 t76 := Tryz.underlying324
 a76 := Tryz.isAgg324
 z76 := Tryz.sizeOf324
 v76 := Tryz.zeroValue324
 t77 := Tryz.underlying86
 a77 := Tryz.isAgg86
 z77 := Tryz.sizeOf86
 v77 := Tryz.zeroValue86 }
end Go.Proofs
namespace Rm
open Go Go.RowKit Go.Sort
def GrD (w w' : World) : Prop := Gr w w' ∧ w.drawn ≤ w'.drawn
theorem GrD.refl (w : World) : GrD w w := ⟨Gr.refl w, Nat.le_refl _⟩
theorem GrD.alloc {a w : World} (h : GrD a w) (o : Obj) : GrD a (w.alloc o) := ⟨h.1.alloc o, h.2⟩
theorem GrD.drew {a w : World} (h : GrD a w) : GrD a w.drew := ⟨h.1.drew, Nat.le_succ_of_le h.2⟩
theorem GrD.grow {w w' : World} (h : GrD w w') : ∃ q os, w' = Go.Sort.grow (w.drewN q) os := by
 refine ⟨w'.drawn - w.drawn, w'.heap.extract w.heap.size w'.heap.size, ?_⟩
 obtain ⟨g, hd⟩ := h
 have hsz := g.size
 have hh : w'.heap = w.heap ++ w'.heap.extract w.heap.size w'.heap.size := by
  apply Array.ext_getElem?
  intro k
  rcases Nat.lt_or_ge k w.heap.size with c | c
  ·rw [Array.getElem?_append_left c]; exact Below.block g k c
  ·rw [Array.getElem?_append_right c, Array.getElem?_extract]
   split
   ·rw [Nat.add_sub_cancel' c]
   ·rw [Array.getElem?_eq_none (by omega)]
 cases w' with
 | mk heap tape drawn os output =>
  have e1 := g.tape
  have e2 := g.os
  have e3 := g.output
  simp only at e1 e2 e3 hd hh
  simp only [Go.Sort.grow, World.drewN]
  rw [← hh, e1, e2, e3]
  congr 1
  omega
def encD (x : Nat × Nat) : List Value := [.int .i64 x.1, .int .i64 x.2]
def cmpD (x y : Nat × Nat) : Int := if Lib.compareInt (x.1 : Int) y.1 != 0 then Lib.compareInt (x.1 : Int) y.1 else Lib.compareInt (x.2 : Int) y.2
theorem cmpInt_cases (x y : Int) : (Lib.compareInt x y = -1 ∧ x < y) ∨ (Lib.compareInt x y = 0 ∧ x = y) ∨ (Lib.compareInt x y = 1 ∧ y < x) := by
 unfold Lib.compareInt
 by_cases h1 : x < y
 ·simp [h1]
 ·by_cases h2 : y < x
  ·simp [h1, h2]
  ·simp [h1, h2]; omega
theorem cmpD_lt (x y : Nat × Nat) : Go.Proofs.ltOf cmpD x y = true ↔ ltD x y := by
 unfold Go.Proofs.ltOf cmpD ltD
 rcases cmpInt_cases x.1 y.1 with ⟨e, h⟩ | ⟨e, h⟩ | ⟨e, h⟩
 ·simp [e]; omega
 ·rw [e]
  rcases cmpInt_cases x.2 y.2 with ⟨e', h'⟩ | ⟨e', h'⟩ | ⟨e', h'⟩ <;> simp [e'] <;> omega
 ·simp [e]; omega
theorem cmpD_ge (x y : Nat × Nat) : (0 ≤ cmpD x y) ↔ ¬ ltD x y := by
 rw [← cmpD_lt]; unfold Go.Proofs.ltOf; simp
theorem swoD : SWO (Go.Proofs.ltOf cmpD) where
 irrefl x := by rw [Bool.eq_false_iff]; rw [ne_eq, cmpD_lt]; exact ltD_irr x
 trans x y z h1 h2 := by rw [cmpD_lt] at *; exact ltD_trans h1 h2
 ntrans x y z h1 h2 := by rw [Bool.eq_false_iff, ne_eq, cmpD_lt] at *; unfold ltD at *; omega
theorem flatK_eq (l : List (Nat × Nat)) : flatK encD 2 l.toArray = (flat (pairs l)).toArray := by
 apply Array.ext_getElem?
 intro t
 have hl : (flat (pairs l)).length = l.length * 2 := by rw [flat_len, pairs_len]
 rcases Nat.lt_or_ge t (l.length * 2) with c | c
 ·have h1 : t < (flatK encD 2 l.toArray).size := by simpa using c
  have h2 := get_flatK encD 2 l.toArray t (by simpa using c)
  rw [getElem!_pos (flatK encD 2 l.toArray) t h1] at h2
  rw [Array.getElem?_eq_getElem h1, h2]
  have hd : t / 2 < l.length := by omega
  obtain ⟨p, hp⟩ : ∃ p, l[t / 2]? = some p := ⟨_, List.getElem?_eq_getElem hd⟩
  have h3 := flat_at (pairs l) (t / 2) _ (pairs_at hp)
  have h4 : l.toArray[t / 2]! = p := by
   rw [getElem!_pos l.toArray (t / 2) (by simpa using hd)]
   have := List.getElem?_eq_some_iff.1 hp
   simpa using this.2
  rw [h4]
  have hm : t % 2 = 0 ∨ t % 2 = 1 := by omega
  rcases hm with e | e
  ·have e' : t = t / 2 * 2 := by omega
   rw [e]
   have := h3.1
   rw [← e'] at this
   simpa [encD] using this.symm
  ·have e' : t = t / 2 * 2 + 1 := by omega
   rw [e]
   have := h3.2
   rw [← e'] at this
   simpa [encD] using this.symm
 ·rw [Array.getElem?_eq_none (by simpa using c), Array.getElem?_eq_none (by simp; omega)]
end Rm
namespace Go.Proofs.YtglbnggkkjhokaaGreat
open Go.RowKit Rm Go.Sort
theorem nan_any (x : Int) (w : World) : Calls Tryz.prog 255 #[.int .i64 x] w fun e w' => e = .returned (.bool false) ∧ w' = w := by
 go_enter Tryz.func255, Tryz.ntmps255
 go_wp2
 go_ret
 exact ⟨by simp, rfl⟩
theorem cmp_any (x y : Int) (w : World) : Calls Tryz.prog 218 #[.int .i64 x, .int .i64 y] w fun e w' => e = .returned (.int .i64 (Lib.compareInt x y)) ∧ w' = w := by
 go_enter Tryz.func218, Tryz.ntmps218
 go_wp2_with (go_at_call 255; refine (nan_any _ _).mono ?_; rintro e w' ⟨rfl, hw⟩; rw [hw])
 all_goals (go_ret; refine ⟨?_, rfl⟩; unfold Lib.compareInt; (repeat' split) <;> first | rfl | (exfalso; omega))
theorem or_any (x y : Int) (B c : Nat) (w : World) (h0 : w.cell? ⟨B, 0, none⟩ = some (.int .i64 x)) (h1 : w.cell? ⟨B, 1, none⟩ = some (.int .i64 y)) :
  Calls Tryz.prog 187 #[.slice (some ⟨B, 0, none⟩) 2 c] w fun e w' => e = .returned (.int .i64 (if x != 0 then x else y)) ∧ w' = w := by
 by_cases hx : x = 0
 ·subst hx
  by_cases hy : y = 0
  ·subst hy
   go_enter Tryz.func187, Tryz.ntmps187
   go_wp2
   go_loop [5, 8] (fun a i => ∃ k : Nat, k ≤ 2 ∧ i = .int .i64 k) (fun _ i => 2 - (intOf i).toNat)
   case atStart => exact ⟨0, by omega, rfl⟩
   case round =>
    obtain ⟨k, hk, rfl⟩ := hrel
    match k, hk with
    | 0, _ =>
     go_wp2
     go_round
     case rel => exact ⟨1, by omega, by go_num⟩
     case measure => simp [intOf]
    | 1, _ =>
     go_wp2
     go_round
     case rel => exact ⟨2, by omega, by go_num⟩
     case measure => simp [intOf]
    | 2, _ =>
     go_wp2
     go_ret
     exact ⟨rfl, rfl⟩
  ·have hb : (y != 0) = true := by simpa using hy
   go_enter Tryz.func187, Tryz.ntmps187
   go_wp2
   go_loop [5, 8] (fun a i => ∃ k : Nat, k ≤ 1 ∧ i = .int .i64 k) (fun _ i => 2 - (intOf i).toNat)
   case atStart => exact ⟨0, by omega, rfl⟩
   case round =>
    obtain ⟨k, hk, rfl⟩ := hrel
    match k, hk with
    | 0, _ =>
     go_wp2
     go_round
     case rel => exact ⟨1, by omega, by go_num⟩
     case measure => simp [intOf]
    | 1, _ =>
     go_wp2
     go_ret
     exact ⟨rfl, rfl⟩
 ·have hb : (x != 0) = true := by simpa using hx
  go_enter Tryz.func187, Tryz.ntmps187
  go_wp2
  go_loop [5, 8] (fun a i => i = .int .i64 0) (fun _ i => 2 - (intOf i).toNat)
  case atStart => rfl
  case round =>
   subst hrel
   go_wp2
   go_ret
   exact ⟨by simp [hb], rfl⟩
theorem compare_any (x y : Nat × Nat) (w : World) :
  Calls Tryz.prog 207 #[.agg #[.int .i64 x.1, .int .i64 x.2], .agg #[.int .i64 y.1, .int .i64 y.2]] w fun e w' => e = .returned (.int .i64 (cmpD x y)) ∧ GrD w w' := by
 have H1 := Lib.hid (cmp_any (x.1 : Int) (y.1 : Int))
 have H2 := Lib.hid (cmp_any (x.2 : Int) (y.2 : Int))
 have H3 := Lib.hid (or_any (Lib.compareInt (x.1 : Int) y.1) (Lib.compareInt (x.2 : Int) y.2))
 have HD : Hid (cmpD x y = if Lib.compareInt (x.1 : Int) y.1 != 0 then Lib.compareInt (x.1 : Int) y.1 else Lib.compareInt (x.2 : Int) y.2) := rfl
 generalize Lib.compareInt (x.1 : Int) y.1 = c1 at *
 generalize Lib.compareInt (x.2 : Int) y.2 = c2 at *
 generalize cmpD x y = r at *
 obtain ⟨x1, x2⟩ := x
 obtain ⟨y1, y2⟩ := y
 go_enter Tryz.func207, Tryz.ntmps207
 go_wp2_with fail
 have T0 := (Two.new w x1 x2 51).alloc (.cells #[.int .i64 (y1 : Int), .int .i64 (y2 : Int)] 51)
 have T1 := Two.new (w.alloc (.cells #[.int .i64 (x1 : Int), .int .i64 (x2 : Int)] 51)) y1 y2 51
 have G0 := Lib.hid (((GrD.refl w).alloc (.cells #[.int .i64 (x1 : Int), .int .i64 (x2 : Int)] 51)).alloc (.cells #[.int .i64 (y1 : Int), .int .i64 (y2 : Int)] 51))
 rw [World.size_alloc] at T1
 generalize (w.alloc (.cells #[.int .i64 (x1 : Int), .int .i64 (x2 : Int)] 51)).alloc (.cells #[.int .i64 (y1 : Int), .int .i64 (y2 : Int)] 51) = w2 at *
 obtain ⟨t1, t2, t3⟩ := T0
 obtain ⟨u1, u2, u3⟩ := T1
 clear t1 u1
 go_still_tail 10, (by kernel_rfl)
 still_call (H1.out _)
 repeat still_step
 still_call (H2.out _)
 repeat still_step
 refine wpStill_nil ?_
 change wpList _ _ _ _ _ w2.drew
 have G1 := Lib.hid (G0.out.drew)
 clear t2 t3 u2 u3 G0 H1 H2
 generalize w2.drew = w3 at *
 have HC : Hid (∀ c, Calls Tryz.prog 187 #[.slice (some ⟨w3.heap.size, 0, none⟩) 2 c] (w3.alloc (.cells #[.int .i64 c1, .int .i64 c2] 3)) fun e w' => e = .returned (.int .i64 r) ∧ w' = w3.alloc (.cells #[.int .i64 c1, .int .i64 c2] 3)) :=
  fun c => by rw [HD.out]; exact H3.out _ c _ (by simp [go_sem]) (by simp [go_sem])
 go_wp2_with (go_at_call 187; refine (HC.out _).mono ?_; rintro e w' ⟨rfl, rfl⟩)
 go_ret
 exact ⟨rfl, G1.out.alloc _⟩
theorem enter_compare (args : Array Value) (w : World) : (callFunc 207 args).run Tryz.prog w = .ok (.enter 207 args) w := enters_of Tryz.func207 (by kernel_rfl) rfl _ _
theorem compare_lays (blk off size : Nat) (w : World) : CmpLays Tryz.prog 207 #[] encD 2 cmpD blk off size w :=
 fun m os dk _ x y => (compare_any x y _).mono fun e w' ⟨h1, h2⟩ => ⟨h1, h2.grow⟩
theorem heap_put {w : World} {g n : Nat} {os : Array Obj} {cur : Array Value} {e : TypeId} {fr : Nat × Nat} (d : Array Value) (hb : w.heap[g]? = some (.cells cur e fr)) :
  (Go.Sort.grow (putRow id (Sort.ahead w n) g 0 d) os).heap[g]? = some (.cells (putCells id 0 d cur) e fr) := by
 have hg : g < w.heap.size := (Array.getElem?_eq_some_iff.1 hb).1
 rw [heap_grow_old _ _ (by simpa using hg)]
 simp [putRow, mapBlock, Sort.ahead, Array.getElem?_modify, hb, onCells]
theorem grown_put {w : World} {g n : Nat} {os : Array Obj} (d : Array Value) : w.grownBy (Go.Sort.grow (putRow id (Sort.ahead w n) g 0 d) os) (some g) := by
 refine ⟨rfl, rfl, rfl, by simp, fun k hk hne => ?_⟩
 rw [heap_grow_old _ _ (by simpa using hk)]
 have : g ≠ k := fun e => hne (by rw [e])
 simp [putRow, mapBlock, Sort.ahead, Array.getElem?_modify, this]
theorem take_put (cur : Array Value) (ts : List Value) (h : ts.length ≤ cur.size) : (putCells id 0 ts.toArray cur).toList.take ts.length = ts := by
 apply List.ext_getElem?
 intro j
 by_cases hj : j < ts.length
 ·rw [List.getElem?_take_of_lt hj, Array.getElem?_toList]
  simp [putCells, hj, show j < cur.size by omega]
 ·rw [List.getElem?_take_eq_none (by omega), List.getElem?_eq_none (by omega)]
theorem sort_own (l : List (Nat × Nat)) (v : Value) (w : World) (base : Nat) (hl : l.length ≤ 1000) (ho : w.ownsRow base 51 2 v l.length (flat (pairs l))) :
    Calls Tryz.prog 183 #[v, .func (.func 207) #[] #[]] w fun e w' => e = .returned (.tuple #[]) ∧
      ∃ l' : List (Nat × Nat), l'.Perm l ∧ l'.Pairwise (fun a b => ¬ ltD b a) ∧ w'.ownsRow base 51 2 v l'.length (flat (pairs l')) ∧ w.grownBy w' v.ownBlock := by
  obtain ⟨hxl, ⟨rfl, hn⟩ | ⟨g, cap, cur, rfl, hbg, hg, hnc, hcm, hcs, htake⟩⟩ := ho
  · obtain rfl : l = [] := List.eq_nil_of_length_eq_zero hn
    refine (AnyF.slices_SortFunc_none Tryz.sortDots none 0 _ w).mono ?_
    rintro e w' ⟨rfl, rfl⟩
    exact ⟨rfl, [], List.Perm.refl _, List.Pairwise.nil, World.ownsRow_nil _ _ _ _, ⟨rfl, rfl, rfl, Nat.le_refl _, fun _ _ _ => rfl⟩⟩
  · have hlt : g < w.heap.size := (Array.getElem?_eq_some_iff.1 hg).1
    have hfl : (flat (pairs l)).length = l.length * 2 := by rw [flat_len, pairs_len]
    have hH : HoldsK encD 2 w g 0 l.toArray := by
      unfold HoldsK
      rw [flatK_eq]
      intro j hj
      have hj' : j < (flat (pairs l)).length := by simpa using hj
      refine ⟨?_, by simp [World.frozen?, hg]⟩
      have h1 : (cur.toList.take (l.length * 2))[j]? = (flat (pairs l))[j]? := by rw [htake]
      rw [List.getElem?_take_of_lt (by omega)] at h1
      simp only [World.cell?, hg, Nat.zero_add]
      simp only [Option.isSome_none, Bool.false_eq_true, if_false]
      rw [← Array.getElem?_toList, h1]
      simp [hj']
    have hcon := AnyQ.slices_SortFunc Tryz.sortDots 2 Tryz.isAgg51 Tryz.sizeOf51 encD (fun _ => rfl) (fun x v hv => by simp [encD] at hv; rcases hv with rfl | rfl <;> rfl) cmpD swoD 207 #[] g 0 cap l.toArray w enter_compare (compare_lays g 0 _ w) hH hlt (by simp; omega)
    refine hcon.mono ?_
    rintro e w' ⟨rfl, d', n, os, hp, hs, rfl⟩
    obtain ⟨hsz, -, hperm⟩ := hp
    have hsz' : d'.toList.length = l.length := by simpa using hsz
    have hpl : d'.toList.Perm l := by
      have e1 : (d'.extract 0 l.toArray.size) = d' := by rw [← hsz]; simp
      have e2 : (l.toArray.extract 0 l.toArray.size) = l.toArray := by simp
      rw [e1, e2] at hperm
      simpa using hperm
    refine ⟨rfl, d'.toList, hpl, ?_, ?_, ?_⟩
    · rw [List.pairwise_iff_getElem]
      intro i j hi hj hij hlt
      have h1 := hs i j (Nat.zero_le _) hij (by rw [← hsz]; simpa using hj)
      rw [Bool.eq_false_iff, ne_eq, cmpD_lt] at h1
      apply h1
      rw [getElem!_pos d' j (by simpa using hj), getElem!_pos d' i (by simpa using hi)]
      simpa using hlt
    · have hfk : flatK encD 2 d' = (flat (pairs d'.toList)).toArray := by
        have := flatK_eq d'.toList
        simpa using this
      have hfl' : (flat (pairs d'.toList)).length = l.length * 2 := by rw [flat_len, pairs_len, hsz']
      refine ⟨by rw [flat_len, pairs_len], .inr ⟨g, cap, putCells id 0 (flatK encD 2 d') cur, by rw [hsz'], hbg, ?_, by omega, hcm, by simp [putCells, hcs], ?_⟩⟩
      · exact heap_put _ hg
      · rw [hfk, hsz', ← hfl']
        refine take_put cur _ ?_
        rw [hfl', hcs]
        exact Nat.mul_le_mul_right 2 hnc
    · exact grown_put _
end Go.Proofs.YtglbnggkkjhokaaGreat
/- Slices that read as lists of cells. -/
namespace Rm
open Go Go.RowKit
def RdC (s : Nat) (w : World) (v : Value) (n : Nat) (xs : List Value) : Prop := xs.length = n * s ∧ (∀ u ∈ xs, u.oneCell' = true) ∧
  ((v = .slice none 0 0 ∧ n = 0) ∨ ∃ ad c, v = .slice (some ad) n c ∧ n ≤ c ∧ (n ≠ 0 → ad.block < w.heap.size) ∧ ∀ j u, xs[j]? = some u → w.cell? (ad.add j) = some u)
theorem RdC.gr {s n : Nat} {w w' : World} {v : Value} {xs : List Value} (h : RdC s w v n xs) (g : Gr w w') : RdC s w' v n xs := by
 obtain ⟨h1, h2, h3 | ⟨ad, c, e, hc, hb, hx⟩⟩ := h
 ·exact ⟨h1, h2, .inl h3⟩
 ·refine ⟨h1, h2, .inr ⟨ad, c, e, hc, fun hn => Nat.lt_of_lt_of_le (hb hn) g.le, fun j u hj => ?_⟩⟩
  have hn : n ≠ 0 := by rintro rfl; rw [Nat.zero_mul] at h1; rw [List.eq_nil_of_length_eq_zero h1] at hj; simp at hj
  have hb' : (ad.add j).block < w.heap.size := by have := hb hn; unfold Addr.add; split <;> simpa using this
  exact (World.cell?_of_block (Below.block g _ hb')).trans (hx j u hj)
end Rm
/- Sets of dots as values: reading them; Dot, countsOf. -/
namespace Rm
open Go Go.RowKit
def R1 (w : World) (v : Value) (l : List Int) : Prop :=
  ∃ a c, v = .slice a l.length c ∧ l.length ≤ c ∧ (l ≠ [] → ∃ b off, a = some ⟨b, off, none⟩ ∧ b < w.heap.size ∧ ∀ i x, l[i]? = some x → w.cell? ⟨b, off + i, none⟩ = some (.int .i64 x))
theorem R1.gr {w w' : World} {v : Value} {l : List Int} (h : R1 w v l) (g : Gr w w') : R1 w' v l := by
 obtain ⟨a, c, e, hc, h⟩ := h
 refine ⟨a, c, e, hc, fun hl => ?_⟩
 obtain ⟨b, off, ea, hb, hx⟩ := h hl
 exact ⟨b, off, ea, Nat.lt_of_lt_of_le hb g.le, fun i p hp => (g.cells.1 b _ hb).trans (hx i p hp)⟩
theorem R1.nil (w : World) : R1 w (.slice none 0 0) [] := ⟨none, 0, rfl, Nat.le_refl _, fun h => absurd rfl h⟩
def KnR (w : World) (k : Value) (V : List Int) (M : List (Int × Int)) : Prop :=
  ∃ vv mv, k = .agg #[vv, mv] ∧ R1 w vv V ∧ Rd2 w mv M ∧ RdC 2 w mv M.length (flat M)
theorem KnR.gr {w w' : World} {k : Value} {V : List Int} {M : List (Int × Int)} (h : KnR w k V M) (g : Gr w w') : KnR w' k V M := by
 obtain ⟨vv, mv, e, h1, h2, h3⟩ := h
 exact ⟨vv, mv, e, h1.gr g, h2.gr g, h3.gr g⟩
theorem adn {b off k : Nat} : (⟨b, off, none⟩ : Addr).add k = ⟨b, off + k, none⟩ := by
 unfold Addr.add
 split
 ·rename_i h; simp_all
 ·rfl
def cArr (v : List Nat) : Array Value := #[.int .i64 (cv v 0 : Nat), .int .i64 (cv v 1 : Nat), .int .i64 (cv v 2 : Nat), .int .i64 (cv v 3 : Nat), .int .i64 (cv v 4 : Nat)]
theorem splice_cArr (v : List Nat) (h : v.length ≤ 5) :
  (Go.splice [Value.int .i64 0, .int .i64 0, .int .i64 0, .int .i64 0, .int .i64 0] 0 ((ints v).map (Value.int .i64))).toArray = cArr v := by
 match v, h with
 | [], _ => rfl
 | [a], _ => rfl
 | [a, b], _ => rfl
 | [a, b, c], _ => rfl
 | [a, b, c, d], _ => rfl
 | [a, b, c, d, e], _ => rfl
 | _ :: _ :: _ :: _ :: _ :: _ :: _, h => simp only [List.length_cons] at h; omega
end Rm
namespace Go.Proofs.YtglbnggkkjhokaaGreat
open Go.RowKit Rm
theorem dot_any (d : Int × Int) (w : World) : Calls Tryz.prog 117 #[.agg #[.int .i64 d.1, .int .i64 d.2]] w fun e w' => e = .returned (.bool (dotB d)) ∧ Gr w w' := by
 obtain ⟨x, y⟩ := d
 by_cases h : dotB (x, y) = true
 ·obtain ⟨h1, h2, h3, h4⟩ := (dotB_iff _).1 h
  simp only at h1 h2 h3 h4
  rw [h]
  go_enter Tryz.func117, Tryz.ntmps117
  go_wp2
  go_ret
  exact ⟨rfl, (Gr.refl _).alloc _⟩
 ·rw [Bool.not_eq_true] at h
  rw [h]
  have h' := h
  rw [Bool.eq_false_iff, ne_eq, dotB_iff] at h'
  simp only at h'
  go_enter Tryz.func117, Tryz.ntmps117
  go_wp2
  all_goals first
   | (exfalso; omega)
   | (go_ret; exact ⟨rfl, (Gr.refl _).alloc _⟩)
   | (go_ret; exact ⟨by simp; omega, (Gr.refl _).alloc _⟩)
theorem al_new (w : World) (o : Obj) (n : Nat) (h : n = w.heap.size) : (w.alloc o).heap[n]? = some o := by subst h; show (w.heap.push o)[w.heap.size]? = _; simp
theorem al_old (w : World) (o : Obj) (n : Nat) (h : n < w.heap.size) : (w.alloc o).heap[n]? = w.heap[n]? := by show (w.heap.push o)[n]? = _; rw [Array.getElem?_push_lt h, Array.getElem?_eq_getElem h]
theorem cArr_one (v : List Nat) : (cArr v).all (·.oneCell') = true := by simp [cArr, Value.oneCell']
theorem counts_size : (Tryz.prog.info? 237).map (·.size) = some 5 := by kernel_rfl
theorem counts_cArr (v : List Nat) : (Tryz.prog.info? 237).map (·.size) = some (cArr v).size := counts_size
theorem int_size1 : (Tryz.prog.info? 3).map (·.size) = some 1 := by kernel_rfl
theorem countsOf_any (k : Value) (v : List Nat) (M : List (Int × Int)) (w : World) (hk : KnR w k (ints v) M) (hl : v.length ≤ 5) :
  Calls Tryz.prog 172 #[k] w fun e w' => e = .returned (.agg (cArr v)) ∧ Gr w w' := by
 obtain ⟨vv, mv, rfl, ⟨va, vc, rfl, hvc, hv⟩, -, -⟩ := hk
 have HS := Lib.hid (splice_cArr v hl)
 have HV := Lib.hid hv
 have HL : Hid ((ints v).length = v.length) := ints_len v
 generalize hN : (ints v).length = N at *
 clear hv
 go_enter Tryz.func172, Tryz.ntmps172
 go_wp2_with fail
 have G2 := Lib.hid ((((Gr.refl w).alloc (.cells #[.slice va N vc, mv] 75)).alloc (.cells #[.int .i64 0, .int .i64 0, .int .i64 0, .int .i64 0, .int .i64 0] 237)).alloc (.cells #[.int .i64 0, .int .i64 0, .int .i64 0, .int .i64 0, .int .i64 0] 237))
 have e0 : (((w.alloc (.cells #[.slice va N vc, mv] 75)).alloc (.cells #[.int .i64 0, .int .i64 0, .int .i64 0, .int .i64 0, .int .i64 0] 237)).alloc (.cells #[.int .i64 0, .int .i64 0, .int .i64 0, .int .i64 0, .int .i64 0] 237)).cell? ⟨w.heap.size, 0, none⟩ = some (.slice va N vc) := by simp [go_sem]
 have e1 : Hid ((((w.alloc (.cells #[.slice va N vc, mv] 75)).alloc (.cells #[.int .i64 0, .int .i64 0, .int .i64 0, .int .i64 0, .int .i64 0] 237)).alloc (.cells #[.int .i64 0, .int .i64 0, .int .i64 0, .int .i64 0, .int .i64 0] 237)).heap[w.heap.size + 1]? = some (.cells #[.int .i64 0, .int .i64 0, .int .i64 0, .int .i64 0, .int .i64 0] 237 (0, 0))) := (al_old _ _ _ (by simp)).trans (al_new _ _ _ (by simp))
 have e2 : Hid ((((w.alloc (.cells #[.slice va N vc, mv] 75)).alloc (.cells #[.int .i64 0, .int .i64 0, .int .i64 0, .int .i64 0, .int .i64 0] 237)).alloc (.cells #[.int .i64 0, .int .i64 0, .int .i64 0, .int .i64 0, .int .i64 0] 237)).heap[w.heap.size + 1 + 1]? = some (.cells #[.int .i64 0, .int .i64 0, .int .i64 0, .int .i64 0, .int .i64 0] 237 (0, 0))) := al_new _ _ _ (by simp)
 generalize ((w.alloc (.cells #[.slice va N vc, mv] 75)).alloc (.cells #[.int .i64 0, .int .i64 0, .int .i64 0, .int .i64 0, .int .i64 0] 237)).alloc (.cells #[.int .i64 0, .int .i64 0, .int .i64 0, .int .i64 0, .int .i64 0] 237) = w2 at *
 go_still_tail 3, (by kernel_rfl)
 repeat still_step
 change wpList _ _ _ _ _ w2.drew
 refine Go.wpList_copy_splice rfl (.tmp 4) (.tmp 6) 45 45 rfl 3 Tryz.underlying45 int_size1 _ _ _ _ _ _ rfl rfl (w.heap.size + 1 + 1) 0 [.int .i64 0, .int .i64 0, .int .i64 0, .int .i64 0, .int .i64 0] 237 e2.out ((ints v).map (Value.int .i64)) (by have := HL.out; simp only [List.length_map, hN]; exact (Nat.min_eq_left (by omega)).symm) (fun hp => ?_) (by have := HL.out; simp; omega) (by simp [Value.oneCell']) (w.heap.size + 1 + 1) w2.drew (Below.refl _ _) (Nat.le_refl _) ?_
 ·obtain ⟨b, off, rfl, hb, hx⟩ := HV.out (by intro e; rw [e] at hp; simp at hp)
  refine ⟨by simp, _, rfl, fun j u hu => ?_⟩
  simp only [List.getElem?_map, Option.map_eq_some_iff] at hu
  obtain ⟨x, hx1, rfl⟩ := hu
  have := (G2.out.drew.cells.1 b (off + j) hb).trans (hx j x hx1)
  rw [adn]
  exact this
 ·intro w3 hw3 hb3
  have f1 : w3.heap[w.heap.size + 1]? = some (.cells #[.int .i64 0, .int .i64 0, .int .i64 0, .int .i64 0, .int .i64 0] 237 (0, 0)) := (Below.block hb3 _ (by omega)).trans e1.out
  have G3 : Hid (Gr w w3) := Below.trans G2.out.drew (Below.mono hb3 (by omega))
  have f2 := hw3.out
  rw [HS.out] at f2
  have f6 : Hid (w.heap.size ≤ w.heap.size + 1) := Nat.le_add_right _ _
  clear e0 e1 e2 HS HV hw3 hb3 G2 hN HL hvc
  generalize w.heap.size + 1 = g1 at *
  have f3 := Lib.hid (counts_cArr v)
  have f4 := Lib.hid (cArr_one v)
  have f5 : Hid ((cArr v).size = 5) := rfl
  generalize hA : cArr v = A at *
  go_wp2_with (first
   | (refine Go.wpList_load_row rfl 237 (.tmp 3) rfl (g1 + 1) rfl 237 A (0, 0) _ f2 Tryz.underlying237 rfl f3.out ?_)
   | (refine Go.wpList_store_row rfl 237 (.tmp 2) (.tmp 8) rfl g1 A rfl rfl 237 _ f1 f3.out f5.out.symm f4.out ?_))
  refine bodyPost_ret (v := .agg A) (results_cell_row Tryz.results172 _ _ g1 237 _ (0, 0) _ rfl (setRow_heap _ _ _ _ _ _ f1) Tryz.underlying237 rfl f3.out) rfl ⟨by rw [hA], ?_⟩
  exact Go.below_setRow G3.out f6.out _
end Go.Proofs.YtglbnggkkjhokaaGreat
/- slices.Clone at integers; know.trim. -/
namespace Rm
open Go Go.RowKit
def five (v : List Nat) : List Nat := [cv v 0, cv v 1, cv v 2, cv v 3, cv v 4]
def flatI (v : List Nat) : List Value := v.map fun (x : Nat) => Value.int .i64 (x : Int)
theorem five_at (v : List Nat) (j : Nat) (h : j < 5) : (five v)[j]? = some (cv v j) := by
 match j, h with
 | 0, _ => rfl
 | 1, _ => rfl
 | 2, _ => rfl
 | 3, _ => rfl
 | 4, _ => rfl
theorem cv_five (v : List Nat) (s : Nat) : cv (five v) s = if s < 5 then cv v s else 0 := by
 by_cases h : s < 5
 ·rw [if_pos h]; unfold cv; rw [List.getD_eq_getElem?_getD]; have := five_at v s h; rw [this]; rfl
 ·rw [if_neg h]; exact cv_out (by simp [five]; omega)
theorem trim_take (v : List Nat) (n : Nat) (hn : n ≤ 5) (hz : ∀ s, n ≤ s → s < 5 → cv v s = 0) (h : n = 0 ∨ cv v (n - 1) ≠ 0) : trimL (five v) = (five v).take n := by
 refine vec_ext (trimL_last _) ?_ (fun s => ?_)
 ·rcases h with rfl | h
  ·simp
  ·by_cases h0 : n = 0
   ·subst h0; simp
   ·rw [List.getLast?_take, if_neg h0, five_at v (n - 1) (by omega)]
    simpa using h
 ·rw [trimL_cv, cv_five]
  by_cases hs : s < n
  ·rw [if_pos (by omega)]
   unfold cv
   rw [List.getD_eq_getElem?_getD, List.getD_eq_getElem?_getD, List.getElem?_take_of_lt hs]
   have := five_at v s (by omega)
   rw [this]
   simp [cv]
  ·rw [cv_out (v := (five v).take n) (by simp; omega)]
   by_cases h5 : s < 5
   ·rw [if_pos h5]; exact hz s (by omega) h5
   ·rw [if_neg h5]
theorem own_less {w : World} {b b' : Nat} {e : TypeId} {s n : Nat} {v : Value} {xs : List Value} (h : w.ownsRow b e s v n xs) (hb : b' ≤ b) : w.ownsRow b' e s v n xs := by
 obtain ⟨h1, h2 | ⟨g, cap, cur, e, h3, h4⟩⟩ := h
 ·exact ⟨h1, .inl h2⟩
 ·exact ⟨h1, .inr ⟨g, cap, cur, e, Nat.le_trans hb h3, h4⟩⟩
end Rm
namespace Go.Proofs.YtglbnggkkjhokaaGreat
open Go.RowKit Rm
theorem cArr_at (v : List Nat) (s : Nat) (hs : s < 5) : (cArr v)[s]? = some (.int .i64 (cv v s : Nat)) := by
 match s, hs with
 | 0, _ => rfl
 | 1, _ => rfl
 | 2, _ => rfl
 | 3, _ => rfl
 | 4, _ => rfl
theorem iinfo : (Tryz.prog.info? 3).map (fun i => (i.zero, i.size, i.bytes)) = some (some (.int .i64 0), 1, 8) := by kernel_rfl
theorem cloneI {w : World} {v : Value} {n : Nat} {xs : List Value} (hr : RdC 1 w v n xs) (hn : n ≤ 1000) :
  Calls Tryz.prog 240 #[v] w fun e w' => ∃ u, e = .returned u ∧ w'.ownsRow w.heap.size 3 1 u n xs ∧ Gr w w' := by
 obtain ⟨i0, hi0, hz0, hz1, hz2⟩ := info_parts iinfo
 obtain ⟨hxl, hone, ⟨rfl, rfl⟩ | ⟨ad, c, rfl, hc, hb, hx⟩⟩ := hr
 ·have hq : ∀ wx : World, (binOp .eql 45 (.slice none 0 0) (.slice none 0 0)).run Tryz.prog wx = .ok (.bool true) wx := fun wx => by
   have := Lib.run_eql_slice_nil (P := Tryz.prog) wx 45 _ none 0 0 0 0 Tryz.underlying45
   simpa using this
  go_enter Tryz.func240, Tryz.ntmps240
  go_wp2_with fail
  go_ret
  exact ⟨_, rfl, ⟨hxl, .inl ⟨rfl, rfl⟩⟩, Gr.refl _⟩
 ·have HC : Hid (∀ j u, xs[j]? = some u → (w.alloc (.cells #[] 3)).cell? (ad.add j) = some u) := fun j u hj => by
   have hn0 : n ≠ 0 := by rintro rfl; rw [Nat.zero_mul] at hxl; rw [List.eq_nil_of_length_eq_zero hxl] at hj; simp at hj
   have hb2 : (ad.add j).block < w.heap.size := by have := hb hn0; unfold Addr.add; split <;> simpa using this
   exact (World.cell?_of_block (Below.block ((Gr.refl w).alloc _) _ hb2)).trans (hx j u hj)
  have HO : Hid ((w.alloc (.cells #[] 3)).ownsRow w.heap.size 3 1 (.slice (some ⟨w.heap.size, 0, none⟩) 0 0) 0 []) := World.ownsRow_made w #[] 0 (Nat.le_refl _) (by simp [maxLen]) rfl
  have HF := Lib.hid hxl
  have H1 := Lib.hid hone
  have hq : ∀ wx : World, (binOp .eql 45 (.slice (some ad) n c) (.slice none 0 0)).run Tryz.prog wx = .ok (.bool false) wx := fun wx => by
   have := Lib.run_eql_slice_nil (P := Tryz.prog) wx 45 _ (some ad) n c 0 0 Tryz.underlying45
   simpa using this
  clear hx hone hxl
  go_enter Tryz.func240, Tryz.ntmps240
  go_wp2_with (at_builtin; refine wpList_append_own _ rfl (.tmp 5) (.tmp 6) 45 rfl w.heap.size 3 i0 _ 1 8 Tryz.underlying45 hi0 hz0 hz1 hz2 rfl (by omega) _ _ _ rfl HO.out ad n c xs rfl HF.out HC.out H1.out (by simp only [maxLen]; omega) (by omega) (by simp) ?_; intro v1 w4 hown hg1 _)
  go_ret
  refine ⟨v1, rfl, ?_, ((Gr.refl w).alloc _).grown hg1 (fun k hk => (HO.out.lt k hk).1)⟩
  rw [Nat.zero_add, List.nil_append] at hown
  exact hown
theorem slice_counts (g n : Nat) (hn : n ≤ 5) (w : World) : (Instr.sliceAt 237 (.pointer (some ⟨g, 0, none⟩)) none (some (.int .i64 (n : Int))) none).run Tryz.prog w = .ok (.slice (some ⟨g, 0, none⟩) n 5) w := by
 match n, hn with
 | 0, _ => go_simp
 | 1, _ => go_simp
 | 2, _ => go_simp
 | 3, _ => go_simp
 | 4, _ => go_simp
 | 5, _ => go_simp
theorem trim_any (v : List Nat) (w : World) (hv : ∀ s, s < 5 → cv v s ≤ 1000) :
  Calls Tryz.prog 208 #[.agg (cArr v)] w fun e w' => ∃ u, e = .returned u ∧ w'.ownsRow w.heap.size 3 1 u (trimL (five v)).length (flatI (trimL (five v))) ∧ Gr w w' := by
 have G1 := Lib.hid ((Gr.refl w).alloc (.cells (cArr v) 237))
 have B1 : Hid ((w.alloc (.cells (cArr v) 237)).heap[w.heap.size]? = some (.cells (cArr v) 237 (0, 0))) := al_new _ _ _ rfl
 have HV := Lib.hid hv
 clear hv
 go_enter Tryz.func208, Tryz.ntmps208
 go_wp2
 generalize w.alloc (.cells (cArr v) 237) = w1 at *
 go_loop [3, 4, 5, 6, 7, 8, 9, 10, 11, 12, 13, 14] (fun i _ _ _ _ _ _ _ _ _ _ _ => ∃ n : Nat, n ≤ 5 ∧ i = .int .i64 n ∧ ∀ s, n ≤ s → s < 5 → cv v s = 0) (fun i _ _ _ _ _ _ _ _ _ _ _ => (intOf i).toNat)
 case atStart => exact ⟨5, by omega, rfl, fun s h1 h2 => by omega⟩
 case round =>
  obtain ⟨n, hn, rfl, hz⟩ := hrel
  have HZ := Lib.hid hz
  have hnI : (n : Int) ≤ 5 := by omega
  clear hz
  have key : (n = 0 ∨ cv v (n - 1) ≠ 0) → Hid (∃ ad : Addr, True) → Hid (trimL (five v) = (five v).take n) := fun h _ => trim_take v n hn HZ.out h
  have HT : Hid (∀ c, n ≤ c → trimL (five v) = (five v).take n → Calls Tryz.prog 240 #[.slice (some ⟨w.heap.size, 0, none⟩) n c] w1 fun e w' => ∃ u, e = .returned u ∧ w'.ownsRow w1.heap.size 3 1 u (trimL (five v)).length (flatI (trimL (five v))) ∧ Gr w1 w') := fun c hc e => by
   have hlen : (trimL (five v)).length = n := by rw [e]; simp [five]; omega
   rw [hlen]
   refine cloneI ⟨by simp [flatI, hlen], by simp [flatI, Value.oneCell'], .inr ⟨_, c, rfl, hc, fun _ => (Array.getElem?_eq_some_iff.1 B1.out).1, fun j u hj => ?_⟩⟩ (by omega)
   rw [adn, Nat.zero_add]
   have hj' : j < n := by
    have := (List.getElem?_eq_some_iff.1 hj).1
    simp [flatI, hlen] at this; exact this
   rw [e] at hj
   simp only [flatI, List.getElem?_map] at hj
   rw [List.getElem?_take_of_lt hj', five_at v j (by omega)] at hj
   simp only [Option.map_some, Option.some.injEq] at hj
   subst hj
   simp only [World.cell?, B1.out]
   exact cArr_at v j (by omega)
  by_cases h0 : n = 0
  ·subst h0
   have HE := Lib.hid (trim_take v 0 (by omega) HZ.out (.inl rfl))
   clear key
   go_wp2_with (go_at_call 240; refine (HT.out _ (by omega) HE.out).mono ?_; rintro e w2 ⟨u, rfl, ho, g2⟩)
   go_ret
   exact ⟨u, rfl, own_less ho G1.out.le, G1.out.trans g2⟩
  ·obtain ⟨k, rfl⟩ : ∃ k, n = k + 1 := ⟨n - 1, by omega⟩
   have hc : w1.cell? ⟨w.heap.size, k, none⟩ = some (.int .i64 (cv v k : Nat)) := by
    simp only [World.cell?, B1.out]; exact cArr_at v k (by omega)
   have hkI : (k : Int) < 5 := by omega
   have hk1 : ((k + 1 : Nat) : Int) - 1 = (k : Int) := by omega
   by_cases hk0 : cv v k = 0
   ·rw [hk0] at hc
    have HN : Hid (∀ s, k ≤ s → s < 5 → cv v s = 0) := fun s h1 h2 => by
     by_cases e : s = k
     ·subst e; exact hk0
     ·exact HZ.out s (by omega) h2
    clear key HT
    go_wp2
    go_round
    case rel => exact ⟨k, by omega, by go_num, HN.out⟩
    case measure => simp [intOf]
   ·have HE := Lib.hid (trim_take v (k + 1) hn HZ.out (.inr (by simpa using hk0)))
    have hne : ¬ ((cv v k : Nat) : Int) = 0 := by omega
    have hsl : ∀ wx, (Instr.sliceAt 237 (.pointer (some ⟨w.heap.size, 0, none⟩)) none (some (.int .i64 ((k : Int) + 1))) none).run Tryz.prog wx = .ok (.slice (some ⟨w.heap.size, 0, none⟩) (k + 1) 5) wx := fun wx => slice_counts w.heap.size (k + 1) hn wx
    clear key
    go_wp2_with (go_at_call 240; refine (HT.out _ (by omega) HE.out).mono ?_; rintro e w2 ⟨u, rfl, ho, g2⟩)
    go_ret
    exact ⟨u, rfl, own_less ho G1.out.le, G1.out.trans g2⟩
end Go.Proofs.YtglbnggkkjhokaaGreat
/- slices.Compact at dots, over a row that is owned. -/
namespace Rm
open Go Go.RowKit
def ddT (l : List (Nat × Nat)) : Nat → List (Nat × Nat)
  | 0 => []
  | i + 1 => match l[i]? with
    | none => ddT l i
    | some d => if 0 < i ∧ l[i - 1]? = some d then ddT l i else ddT l i ++ [d]
theorem ddT_same {l : List (Nat × Nat)} {i : Nat} {d : Nat × Nat} (h : l[i]? = some d) (h' : 0 < i ∧ l[i - 1]? = some d) : ddT l (i + 1) = ddT l i := by
 show (match l[i]? with | none => ddT l i | some d => if 0 < i ∧ l[i - 1]? = some d then ddT l i else ddT l i ++ [d]) = _
 rw [h]; simp only; rw [if_pos h']
theorem ddT_more {l : List (Nat × Nat)} {i : Nat} {d : Nat × Nat} (h : l[i]? = some d) (h' : ¬ (0 < i ∧ l[i - 1]? = some d)) : ddT l (i + 1) = ddT l i ++ [d] := by
 show (match l[i]? with | none => ddT l i | some d => if 0 < i ∧ l[i - 1]? = some d then ddT l i else ddT l i ++ [d]) = _
 rw [h]; simp only; rw [if_neg h']
theorem ddT_all {l : List (Nat × Nat)} : ∀ {k : Nat}, k ≤ l.length → (∀ j, j < k → 0 < j → l[j]? ≠ l[j - 1]?) → ddT l k = l.take k
 | 0, _, _ => by simp [ddT]
 | k + 1, hk, h => by
  obtain ⟨d, hd⟩ : ∃ d, l[k]? = some d := ⟨_, List.getElem?_eq_getElem (by omega)⟩
  rw [ddT_more hd (fun q => h k (by omega) q.1 (by rw [hd, q.2])), ddT_all (by omega) (fun j hj h0 => h j (by omega) h0), List.take_add_one, hd]
  rfl
theorem ddT_mem {l : List (Nat × Nat)} : ∀ {k : Nat}, k ≤ l.length → ∀ x, x ∈ ddT l k ↔ ∃ j, j < k ∧ l[j]? = some x
 | 0, _, x => by simp [ddT]
 | k + 1, hk, x => by
  obtain ⟨d, hd⟩ : ∃ d, l[k]? = some d := ⟨_, List.getElem?_eq_getElem (by omega)⟩
  have ih := ddT_mem (l := l) (k := k) (by omega) x
  by_cases h : 0 < k ∧ l[k - 1]? = some d
  ·rw [ddT_same hd h, ih]
   constructor
   ·rintro ⟨j, h1, h2⟩; exact ⟨j, by omega, h2⟩
   ·rintro ⟨j, h1, h2⟩
    by_cases e : j = k
    ·subst e; rw [hd] at h2; exact ⟨j - 1, by omega, by rw [h.2, h2]⟩
    ·exact ⟨j, by omega, h2⟩
  ·rw [ddT_more hd h, List.mem_append, ih, List.mem_singleton]
   constructor
   ·rintro (⟨j, h1, h2⟩ | rfl)
    ·exact ⟨j, by omega, h2⟩
    ·exact ⟨k, by omega, hd⟩
   ·rintro ⟨j, h1, h2⟩
    by_cases e : j = k
    ·subst e; rw [hd] at h2; exact .inr (Option.some.inj h2).symm
    ·exact .inl ⟨j, by omega, h2⟩
theorem ltD_eq {a b : Nat × Nat} (h : ¬ ltD a b) (h' : ¬ ltD b a) : a = b := by
 obtain ⟨a1, a2⟩ := a
 obtain ⟨b1, b2⟩ := b
 unfold ltD at h h'
 simp only at h h'
 congr <;> omega
theorem ddT_sort {l : List (Nat × Nat)} (hs : l.Pairwise (fun a b => ¬ ltD b a)) : ∀ {k : Nat}, k ≤ l.length → (ddT l k).Pairwise ltD
 | 0, _ => List.Pairwise.nil
 | k + 1, hk => by
  obtain ⟨d, hd⟩ : ∃ d, l[k]? = some d := ⟨_, List.getElem?_eq_getElem (by omega)⟩
  have ih := ddT_sort hs (k := k) (by omega)
  have at' : ∀ {i j : Nat} {x y : Nat × Nat}, i < j → l[i]? = some x → l[j]? = some y → ¬ ltD y x := by
   intro i j x y hij hx hy
   obtain ⟨h1, e1⟩ := List.getElem?_eq_some_iff.1 hx
   obtain ⟨h2, e2⟩ := List.getElem?_eq_some_iff.1 hy
   have := List.pairwise_iff_getElem.1 hs i j h1 h2 hij
   rw [e1, e2] at this
   exact this
  by_cases h : 0 < k ∧ l[k - 1]? = some d
  ·rw [ddT_same hd h]; exact ih
  ·rw [ddT_more hd h, List.pairwise_append]
   refine ⟨ih, List.pairwise_singleton _ _, fun x hx y hy => ?_⟩
   rw [List.mem_singleton] at hy
   subst hy
   obtain ⟨j, hj, hjx⟩ := (ddT_mem (by omega) x).1 hx
   have h1 := at' hj hjx hd
   apply Classical.byContradiction
   intro hn
   have e := ltD_eq hn h1
   subst e
   apply h
   refine ⟨by omega, ?_⟩
   obtain ⟨z, hz⟩ : ∃ z, l[k - 1]? = some z := ⟨_, List.getElem?_eq_getElem (by omega)⟩
   rw [hz]
   congr 1
   by_cases e : j = k - 1
   ·subst e; rw [hz] at hjx; exact Option.some.inj hjx
   ·exact (ltD_eq (at' (show k - 1 < k by omega) hz hd) (at' (show j < k - 1 by omega) hjx hz)).symm
def RowD (e : TypeId) (w : World) (g cap : Nat) (c : List (Nat × Nat)) : Prop := c.length ≤ cap ∧ ∃ cur, w.heap[g]? = some (.cells cur e (0, 0)) ∧ cur.size = cap * 2 ∧ cur.toList.take (c.length * 2) = flat (pairs c)
theorem RowD.cell {e : TypeId} {w : World} {g cap : Nat} {c : List (Nat × Nat)} (h : RowD e w g cap c) {i : Nat} {d : Nat × Nat} (hd : c[i]? = some d) :
  w.cell? ⟨g, i * 2, none⟩ = some (.int .i64 (d.1 : Int)) ∧ w.cell? ⟨g, i * 2 + 1, none⟩ = some (.int .i64 (d.2 : Int)) ∧ w.frozen? ⟨g, i * 2, none⟩ = false ∧ w.frozen? ⟨g, i * 2 + 1, none⟩ = false := by
 obtain ⟨hl, cur, hg, hsz, ht⟩ := h
 have hi : i < c.length := (List.getElem?_eq_some_iff.1 hd).1
 have hf := flat_at (pairs c) i _ (pairs_at hd)
 rw [← ht] at hf
 rw [List.getElem?_take_of_lt (by omega), List.getElem?_take_of_lt (by omega)] at hf
 refine ⟨?_, ?_, by simp [World.frozen?, hg], by simp [World.frozen?, hg]⟩
 ·have := hf.1; simpa [World.cell?, hg] using this
 ·have := hf.2; simpa [World.cell?, hg] using this
theorem hsc {w : World} {B o : Nat} {cur : Array Value} {e : TypeId} {v : Value} (h : w.heap[B]? = some (.cells cur e (0, 0))) : (w.setCell ⟨B, o, none⟩ v).heap[B]? = some (.cells (cur.setIfInBounds o v) e (0, 0)) := by
 simp [World.setCell, Array.getElem?_modify, h]
theorem gset (w : World) (B o : Nat) (v : Value) : w.grownBy (w.setCell ⟨B, o, none⟩ v) (some B) := by
 refine ⟨by simp [World.setCell], by simp [World.setCell], by simp [World.setCell], by simp [World.setCell], fun k hk hne => ?_⟩
 have : B ≠ k := fun e => hne (by rw [e])
 simp [World.setCell, Array.getElem?_modify, this]
theorem flat_setD (c : List (Nat × Nat)) (i : Nat) (d : Nat × Nat) (hi : i < c.length) : ((flat (pairs c)).set (i * 2) (.int .i64 (d.1 : Int))).set (i * 2 + 1) (.int .i64 (d.2 : Int)) = flat (pairs (c.set i d)) := by
 induction c generalizing i with
 | nil => simp at hi
 | cons a c ih =>
  cases i with
  | zero => rfl
  | succ i =>
   have h1 : (i + 1) * 2 = i * 2 + 1 + 1 := by omega
   have := ih i (by simpa using hi)
   simp only [pairs, List.map_cons, flat_cons, List.set_cons_succ, h1] at this ⊢
   rw [this]
theorem take_set2 {α : Type} (L : List α) (n i j : Nat) (x y : α) : ((L.set i x).set j y).take n = ((L.take n).set i x).set j y := by rw [List.take_set, List.take_set]
theorem RowD.put {e : TypeId} {w : World} {g cap : Nat} {c : List (Nat × Nat)} (h : RowD e w g cap c) {i : Nat} (d : Nat × Nat) (hi : i < c.length) :
  RowD e ((w.setCell ⟨g, i * 2, none⟩ (.int .i64 (d.1 : Int))).setCell ⟨g, i * 2 + 1, none⟩ (.int .i64 (d.2 : Int))) g cap (c.set i d) := by
 obtain ⟨hl, cur, hg, hsz, ht⟩ := h
 refine ⟨by simpa using hl, _, hsc (hsc hg), by simpa using hsz, ?_⟩
 rw [← flat_setD c i d hi, ← ht]
 simp only [Array.toList_setIfInBounds, List.length_set]
 exact take_set2 _ _ _ _ _ _
theorem gb_trans {w w1 w2 : World} {g : Nat} (h : w.grownBy w1 (some g)) (k : w1.grownBy w2 (some g)) : w.grownBy w2 (some g) :=
 h.andThen k (fun j e => .inr (by rw [e]))
def CmpAt (l : List (Nat × Nat)) (w wr : World) (g cap k0 k j : Nat) (c : List (Nat × Nat)) : Prop :=
  k0 + j + 1 ≤ l.length ∧ k ≤ k0 + j ∧ c.length = l.length ∧ k = (ddT l (k0 + j + 1)).length ∧ c.take k = ddT l (k0 + j + 1) ∧ (∀ i, k0 + j ≤ i → c[i]? = l[i]?) ∧ RowD 51 wr g cap c ∧ w.grownBy wr (some g)
theorem CmpAt.same {l : List (Nat × Nat)} {w wr wr' : World} {g cap k0 k j : Nat} {c : List (Nat × Nat)} (h : CmpAt l w wr g cap k0 k j c) (hlt : k0 + j + 1 < l.length) (he : l[k0 + j + 1]? = l[k0 + j]?) (hr : RowD 51 wr' g cap c) (hg : wr.grownBy wr' (some g)) : CmpAt l w wr' g cap k0 k (j + 1) c := by
 obtain ⟨h1, h2, h3, h4, h5, h6, h7, h8⟩ := h
 obtain ⟨d, hd⟩ : ∃ d, l[k0 + j + 1]? = some d := ⟨_, List.getElem?_eq_getElem hlt⟩
 have e : ddT l (k0 + (j + 1) + 1) = ddT l (k0 + j + 1) := ddT_same (i := k0 + j + 1) hd ⟨by omega, by rw [show k0 + j + 1 - 1 = k0 + j from rfl, ← he, hd]⟩
 exact ⟨by omega, by omega, h3, by rw [e]; exact h4, by rw [e]; exact h5, fun i hi => h6 i (by omega), hr, gb_trans h8 hg⟩
theorem CmpAt.more {l : List (Nat × Nat)} {w wr wr' : World} {g cap k0 k j : Nat} {c : List (Nat × Nat)} {d : Nat × Nat} (h : CmpAt l w wr g cap k0 k j c) (hd : l[k0 + j + 1]? = some d) (he : l[k0 + j]? ≠ some d) (hr : RowD 51 wr' g cap (c.set k d)) (hg : wr.grownBy wr' (some g)) : CmpAt l w wr' g cap k0 (k + 1) (j + 1) (c.set k d) := by
 obtain ⟨h1, h2, h3, h4, h5, h6, h7, h8⟩ := h
 have hlt : k0 + j + 1 < l.length := (List.getElem?_eq_some_iff.1 hd).1
 have e : ddT l (k0 + (j + 1) + 1) = ddT l (k0 + j + 1) ++ [d] := ddT_more (i := k0 + j + 1) hd (fun q => he q.2)
 refine ⟨by omega, by omega, by simpa using h3, by rw [e, h4]; simp, ?_, fun i hi => ?_, hr, gb_trans h8 hg⟩
 ·rw [e, ← h5, List.take_set, List.take_add_one, List.getElem?_eq_getElem (by omega : k < c.length), List.set_append_right _ _ (by simp; omega)]
  have : k - (List.take k c).length = 0 := by simp; omega
  rw [this]
  rfl
 ·rw [List.getElem?_set_ne (by omega)]; exact h6 i (by omega)
theorem setCells_block (b : Nat) : ∀ (vs : List Value) (o : Nat) (w : World) (cur : Array Value) (e : TypeId), w.heap[b]? = some (.cells cur e (0, 0)) → ∃ cur', (w.setCells b o vs).heap[b]? = some (.cells cur' e (0, 0)) ∧ cur'.size = cur.size ∧ ∀ n, n ≤ o → cur'.toList.take n = cur.toList.take n
 | [], o, w, cur, e, h => ⟨cur, h, rfl, fun _ _ => rfl⟩
 | v :: vs, o, w, cur, e, h => by
  obtain ⟨cur', h1, h2, h3⟩ := setCells_block b vs (o + 1) _ _ e (hsc (o := o) (v := v) h)
  refine ⟨cur', h1, by simpa using h2, fun n hn => ?_⟩
  rw [h3 n (by omega), Array.toList_setIfInBounds, List.take_set, List.set_eq_of_length_le (by simp; omega)]
theorem setCells_grown (b : Nat) : ∀ (vs : List Value) (o : Nat) (w : World), w.grownBy (w.setCells b o vs) (some b)
 | [], o, w => ⟨rfl, rfl, rfl, Nat.le_refl _, fun _ _ _ => rfl⟩
 | v :: vs, o, w => gb_trans (gset w b o v) (setCells_grown b vs (o + 1) _)
end Rm
namespace Go.Proofs.YtglbnggkkjhokaaGreat
open Go.RowKit Rm
def zsD (n : Nat) : List Value := (Builtin.zeroCells #[.int .i64 0, .int .i64 0] n).toList
theorem zsD_len (n : Nat) : (zsD n).length = n * 2 := by simp [zsD, Builtin.zeroCells]
theorem zsD_one (n : Nat) : ∀ v ∈ zsD n, v.oneCell' = true := by
 intro v hv
 simp only [zsD, Builtin.zeroCells, Array.toList_map, List.mem_map] at hv
 obtain ⟨i, _, rfl⟩ := hv
 have h2 : i % 2 = 0 ∨ i % 2 = 1 := by omega
 rcases h2 with h | h <;> simp [h, Value.oneCell']
theorem run_clear_dots (w : World) (ty : TypeId) (b o n c : Nat) (hn : 0 < n) (hc : ∀ j, j < n * 2 → (w.cell? ⟨b, o + j, none⟩).isSome = true) (hf : ∀ j, j < n * 2 → w.frozen? ⟨b, o + j, none⟩ = false) :
  (Builtin.clear_ #[73] ty #[.slice (some ⟨b, o, none⟩) n c]).run Tryz.prog w = .ok (.tuple #[]) (w.setCells b o (zsD n)) := by
 have hst := run_storeCells_cells (P := Tryz.prog) b o (zsD n) 0 w (by rw [zsD_len]; simpa using hc) (by rw [zsD_len]; simpa using hf) (zsD_one n)
 simp only [Nat.add_zero] at hst
 have hv : ∀ w, (zeroValue 51).run Tryz.prog w = .ok (.agg #[.int .i64 0, .int .i64 0]) w := Tryz.zeroValue51
 have hzc : (Builtin.zeroCells (Value.agg #[.int .i64 0, .int .i64 0]).cells n).toList = zsD n := rfl
 obtain ⟨m, rfl⟩ : ∃ m, n = m + 1 := ⟨n - 1, by omega⟩
 simp [Builtin.clear_, run_underlying Tryz.underlying73, hv, hzc, hst]
theorem flat_takeP (c : List (Nat × Nat)) (k : Nat) : (flat (pairs c)).take (k * 2) = flat (pairs (c.take k)) := by
 induction c generalizing k with
 | nil => simp [pairs, flat]
 | cons a c ih =>
  cases k with
  | zero => simp [pairs, flat]
  | succ k =>
   have h1 : (k + 1) * 2 = k * 2 + 1 + 1 := by omega
   have := ih k
   simp only [pairs, List.map_cons, flat_cons, List.take_succ_cons, h1] at this ⊢
   rw [this]
theorem gb_refl (w : World) (g : Nat) : w.grownBy w (some g) := ⟨rfl, rfl, rfl, Nat.le_refl _, fun _ _ _ => rfl⟩
theorem gb_drewN (w : World) (g q : Nat) : w.grownBy (w.drewN q) (some g) := ⟨rfl, rfl, rfl, Nat.le_refl _, fun _ _ _ => rfl⟩
theorem drewN_add (w : World) (q m : Nat) : (w.drewN q).drewN m = w.drewN (q + m) := by
 simp [World.drewN, Nat.add_assoc]
theorem RowD.drewN {e : TypeId} {w : World} {g cap : Nat} {c : List (Nat × Nat)} (h : RowD e w g cap c) (q : Nat) : RowD e (w.drewN q) g cap c := h
theorem RowD.shrink {e : TypeId} {w : World} {g cap k : Nat} {c : List (Nat × Nat)} {vs : List Value} (h : RowD e w g cap c) (hk : k ≤ c.length) : RowD e (w.setCells g (k * 2) vs) g cap (c.take k) := by
 obtain ⟨hl, cur, hg, hsz, ht⟩ := h
 obtain ⟨cur', h1, h2, h3⟩ := setCells_block g vs (k * 2) w cur e hg
 refine ⟨by simp; omega, cur', h1, by rw [h2, hsz], ?_⟩
 have hlen : (c.take k).length = k := by simp; omega
 rw [hlen, h3 _ (Nat.le_refl _)]
 have : cur.toList.take (k * 2) = (cur.toList.take (c.length * 2)).take (k * 2) := by rw [List.take_take, Nat.min_eq_left (by omega)]
 rw [this, ht]
 exact flat_takeP _ _
theorem compact_row (l : List (Nat × Nat)) (g cap : Nat) (w : World) (hr : RowD 51 w g cap l) (hn : l.length ≤ 1000) :
  Calls Tryz.prog 185 #[.slice (some ⟨g, 0, none⟩) l.length cap] w fun e w' => e = .returned (.slice (some ⟨g, 0, none⟩) (ddT l l.length).length cap) ∧ RowD 51 w' g cap (ddT l l.length) ∧ w.grownBy w' (some g) := by
 have HR := Lib.hid hr
 have hnI : (l.length : Int) ≤ 1000 := by omega
 have hcap : l.length ≤ cap := hr.1
 by_cases h2 : l.length < 2
 ·have HE : Hid (ddT l l.length = l) := by
   show _ = _
   rw [ddT_all (Nat.le_refl _) (fun j h1 h3 => by omega)]; simp
  have h2I : (l.length : Int) < 2 := by omega
  clear hr
  go_enter Tryz.func185, Tryz.ntmps185
  go_wp2
  go_ret
  rw [HE.out]
  exact ⟨rfl, HR.out, gb_refl _ _⟩
 ·have h2I : ¬ (l.length : Int) < 2 := by omega
  clear hr
  go_enter Tryz.func185, Tryz.ntmps185
  go_wp2
  go_loopg [3] l.length (fun gh s3 wr => ∃ k : Nat, 1 ≤ k ∧ k ≤ l.length ∧ l.length - k ≤ gh ∧ s3 = .int .i64 (k : Int) ∧ (∃ q, wr = w.drewN q) ∧ ∀ j, j < k → 0 < j → l[j]? ≠ l[j - 1]?)
  case atStart => exact ⟨1, by omega, by omega, by omega, rfl, ⟨0, rfl⟩, fun j h1 h3 => by omega⟩
  case round =>
   obtain ⟨k, hk1, hk, hg, rfl, ⟨q, hwr⟩, hall⟩ := hrel
   have HA := Lib.hid hall
   have HW := Lib.hid hwr
   have HRr : Hid (RowD 51 wr g cap l) := by rw [hwr]; exact RowD.drewN HR.out q
   clear hall hwr
   by_cases hlt : k < l.length
   ·obtain ⟨p, hkp⟩ : ∃ p, k = p + 1 := ⟨k - 1, by omega⟩
    obtain ⟨x, hx⟩ : ∃ x, l[p]? = some x := ⟨_, List.getElem?_eq_getElem (by omega)⟩
    obtain ⟨y, hy⟩ : ∃ y, l[k]? = some y := ⟨_, List.getElem?_eq_getElem (by omega)⟩
    obtain ⟨a0, a1, a2, a3⟩ := RowD.cell HRr.out hx
    obtain ⟨b0, b1, b2, b3⟩ := RowD.cell HRr.out hy
    have hltI : (k : Int) < (l.length : Int) := by omega
    have hsub : (k : Int) - 1 = (p : Int) := by omega
    have hpI : (p : Int) < (l.length : Int) := by omega
    have hwp : IntKind.i64.wrap (p : Int) = (p : Int) := IntWalk.i64_in _ (by omega)
    have HX := Lib.hid hx
    have HY := Lib.hid hy
    have HK := Lib.hid hkp
    obtain ⟨x1, x2⟩ := x
    obtain ⟨y1, y2⟩ := y
    simp only at a0 a1 b0 b1
    clear hx hy a2 a3 b2 b3 hkp
    by_cases hdup : (y1, y2) = (x1, x2)
    ·obtain ⟨rfl, rfl⟩ := Prod.mk.inj hdup
     clear hdup
     have HS : Hid (∀ m, CmpAt l w (wr.drewN m) g cap k k 0 l) := by
      intro m
      have hks := HK.out
      have e1 : ddT l (k + 1) = ddT l k := ddT_same (i := k) HY.out ⟨by omega, by rw [show k - 1 = p by omega]; exact HX.out⟩
      have e2 : ddT l k = l.take k := ddT_all (by omega) HA.out
      refine ⟨by omega, by omega, rfl, ?_, ?_, fun i _ => rfl, RowD.drewN HRr.out m, ?_⟩
      ·show k = (ddT l (k + 1)).length
       rw [e1, e2]; simp; omega
      ·show l.take k = ddT l (k + 1)
       rw [e1, e2]
      ·rw [HW.out]; exact gb_trans (gb_drewN w g q) (gb_drewN _ g m)
     go_wp2_with fail
     go_quiet (fail)
     have HI := Lib.hid (HS.out nq)
     generalize (wr.drewN nq) = w1 at *
     clear HS a0 a1 b0 b1
     have hkc : k ≤ cap := by omega
     go_wp2
     generalize hn2 : l.length - k = n2 at *
     have HN2 := Lib.hid hn2
     clear hn2
     go_loopg [3, 5] l.length (fun gh s3 s5 wr => ∃ (i j j' : Nat) (c : List (Nat × Nat)), s3 = .int .i64 (i : Int) ∧ s5 = .int .i64 (j : Int) ∧ j = j' + 1 ∧ l.length - (k + j) ≤ gh ∧ CmpAt l w wr g cap k i j' c)
     case atStart => exact ⟨k, 1, 0, l, rfl, rfl, rfl, by omega, HI.out⟩
     case round =>
      obtain ⟨i, j, j', c, rfl, rfl, hjj, hg2, hat⟩ := hrel
      have HT := Lib.hid hat
      have HJ := Lib.hid hjj
      have hij : i ≤ k + j' := hat.2.1
      have hcl : c.length = l.length := hat.2.2.1
      have hle : k + j ≤ l.length := by have := hat.1; omega
      clear hat hjj
      by_cases hjl : k + j < l.length
      ·obtain ⟨x, hx⟩ : ∃ x, l[k + j]? = some x := ⟨_, List.getElem?_eq_getElem (by omega)⟩
       obtain ⟨y, hy⟩ : ∃ y, l[k + j']? = some y := ⟨_, List.getElem?_eq_getElem (by have := HJ.out; omega)⟩
       obtain ⟨z, hz⟩ : ∃ z, c[i]? = some z := ⟨_, List.getElem?_eq_getElem (by have := HJ.out; omega)⟩
       have hRow := HT.out.2.2.2.2.2.2.1
       have hhi := HT.out.2.2.2.2.2.1
       have hx' := (hhi (k + j) (by have := HJ.out; omega)).trans hx
       have hy' := (hhi (k + j') (by omega)).trans hy
       obtain ⟨a0, a1, a2, a3⟩ := RowD.cell hRow hx'
       obtain ⟨b0, b1, b2, b3⟩ := RowD.cell hRow hy'
       obtain ⟨d0, d1, d2, d3⟩ := RowD.cell hRow hz
       have o1 : (k + j) * 2 = k * 2 + j * 2 := by omega
       have o2 : (k + j') * 2 = k * 2 + j' * 2 := by omega
       rw [o1] at a0 a1
       rw [o2] at b0 b1
       have HX2 := Lib.hid hx
       have HY2 := Lib.hid hy
       have hjI : (j : Int) < (n2 : Int) := by have := HN2.out; omega
       have hsub : (j : Int) - 1 = (j' : Int) := by have := HJ.out; omega
       have hj'I : (j' : Int) < (n2 : Int) := by omega
       have hiI : (i : Int) < (l.length : Int) := by have := HJ.out; omega
       have hjb : (j : Int) ≤ 1000 := by omega
       have hwj : IntKind.i64.wrap (j' : Int) = (j' : Int) := IntWalk.i64_in _ (by omega)
       have HRow := Lib.hid hRow
       have HIC : Hid (i < c.length) := by show _ < _; have := HJ.out; omega
       obtain ⟨x1, x2⟩ := x
       obtain ⟨y1, y2⟩ := y
       obtain ⟨z1, z2⟩ := z
       simp only at a0 a1 b0 b1 d0 d1
       clear hx hy hz hx' hy' hRow hhi a2 a3 b2 b3 o1 o2
       by_cases hsame : (x1, x2) = (y1, y2)
       ·obtain ⟨rfl, rfl⟩ := Prod.mk.inj hsame
        clear hsame
        have HN : Hid (∀ m, CmpAt l w (wr.drewN m) g cap k i (j' + 1) c) := fun m => CmpAt.same HT.out (by have := HJ.out; omega) (by rw [show k + j' + 1 = k + j by have := HJ.out; omega, HX2.out, HY2.out]) (RowD.drewN HRow.out m) (gb_drewN _ g m)
        go_wp2_with fail
        go_quiet (fail)
        go_wp2
        go_roundg (l.length - (k + (j + 1)))
        case measure => omega
        case rel => exact ⟨i, j + 1, j' + 1, c, rfl, by go_num, by rw [HJ.out], Nat.le_refl _, HN.out _⟩
       ·have HN : Hid (∀ m, CmpAt l w (((wr.drewN m).setCell ⟨g, i * 2, none⟩ (.int .i64 (x1 : Int))).setCell ⟨g, i * 2 + 1, none⟩ (.int .i64 (x2 : Int))) g cap k (i + 1) (j' + 1) (c.set i (x1, x2))) := fun m =>
         CmpAt.more (d := (x1, x2)) HT.out (by rw [show k + j' + 1 = k + j by have := HJ.out; omega, HX2.out]) (by rw [HY2.out]; intro e; exact hsame (Option.some.inj e).symm) (RowD.put (RowD.drewN HRow.out m) (x1, x2) HIC.out) (gb_trans (gb_drewN _ g m) (gb_trans (gset _ g _ _) (gset _ g _ _)))
        have hne : ¬ (x1 = y1 ∧ x2 = y2) := fun e => hsame (by rw [e.1, e.2])
        clear hsame
        have hcase : (¬ x1 = y1) ∨ (x1 = y1 ∧ ¬ x2 = y2) := by omega
        rcases hcase with h1 | ⟨rfl, h1⟩
        ·clear hne
         go_wp2_with fail
         go_quiet (fail)
         go_wp2
         go_roundg (l.length - (k + (j + 1)))
         case measure => omega
         case rel => exact ⟨i + 1, j + 1, j' + 1, _, by go_num, by go_num, by rw [HJ.out], Nat.le_refl _, HN.out _⟩
        ·clear hne
         have h1I : ¬ (x2 : Int) = (y2 : Int) := by omega
         go_wp2_with fail
         go_quiet (fail)
         go_wp2
         go_roundg (l.length - (k + (j + 1)))
         case measure => omega
         case rel => exact ⟨i + 1, j + 1, j' + 1, _, by go_num, by go_num, by rw [HJ.out], Nat.le_refl _, HN.out _⟩
      ·have hend : k + j = l.length := by omega
       have hjI : ¬ (j : Int) < (n2 : Int) := by have := HN2.out; omega
       have hil : i < l.length := by have := HJ.out; omega
       have hRow := HT.out.2.2.2.2.2.2.1
       have hblk := hRow.2
       have hclr : ∀ ty, (Builtin.clear_ #[73] ty #[.slice (some ⟨g, i * 2, none⟩) (l.length - i) (cap - i)]).run Tryz.prog wr = .ok (.tuple #[]) (wr.setCells g (i * 2) (zsD (l.length - i))) := fun ty => by
        obtain ⟨cur, hgc, hsz, htk⟩ := hblk
        exact run_clear_dots wr ty g (i * 2) _ _ (by omega) (fun m hm => by simp only [World.cell?, hgc]; simp; omega) (fun m hm => by simp [World.frozen?, hgc])
       have HF : Hid ((ddT l l.length).length = i ∧ RowD 51 (wr.setCells g (i * 2) (zsD (l.length - i))) g cap (ddT l l.length) ∧ w.grownBy (wr.setCells g (i * 2) (zsD (l.length - i))) (some g)) := by
        obtain ⟨q1, q2, q3, q4, q5, q6, q7, q8⟩ := HT.out
        have e : k + j' + 1 = l.length := by have := HJ.out; omega
        rw [e] at q4 q5
        refine ⟨q4.symm, ?_, gb_trans q8 (setCells_grown g _ _ _)⟩
        rw [← q5]
        exact RowD.shrink q7 (by omega)
       have hiI : (i : Int) < (l.length : Int) := by omega
       clear hRow hblk
       go_wp2
       go_ret
       obtain ⟨f1, f2, f3⟩ := HF.out
       exact ⟨by rw [f1]; rfl, f2, f3⟩
    ·have HN : Hid (∀ j, j < k + 1 → 0 < j → l[j]? ≠ l[j - 1]?) := fun j h1 h3 => by
      by_cases e : j = k
      ·subst e
       rw [show j - 1 = p by have := HK.out; omega, HX.out, HY.out]
       intro e; exact hdup (Option.some.inj e)
      ·exact HA.out j (by omega) h3
     have hcase : (¬ y1 = x1) ∨ (y1 = x1 ∧ ¬ y2 = x2) := by
      by_cases e : y1 = x1
      ·exact .inr ⟨e, fun e' => hdup (by rw [e, e'])⟩
      ·exact .inl e
     clear hdup
     rcases hcase with h1 | ⟨rfl, h1⟩
     ·go_wp2_with fail
      go_quiet (fail)
      go_wp2
      go_roundg (l.length - (k + 1))
      case measure => omega
      case rel => exact ⟨k + 1, by omega, by omega, Nat.le_refl _, by go_num, ⟨q + nq, by rw [HW.out]; exact (drewN_add ..)⟩, HN.out⟩
     ·have h1I : ¬ (y2 : Int) = (x2 : Int) := by omega
      go_wp2_with fail
      go_quiet (fail)
      go_wp2
      go_roundg (l.length - (k + 1))
      case measure => omega
      case rel => exact ⟨k + 1, by omega, by omega, Nat.le_refl _, by go_num, ⟨q + nq, by rw [HW.out]; exact (drewN_add ..)⟩, HN.out⟩
   ·obtain rfl : k = l.length := by omega
    have HE : Hid (ddT l l.length = l) := by
     show _ = _
     rw [ddT_all (Nat.le_refl _) HA.out]; simp
    go_wp2
    go_ret
    rw [HE.out]
    exact ⟨rfl, HRr.out, by rw [HW.out]; exact gb_drewN w g q⟩
theorem compact_own (l : List (Nat × Nat)) (v : Value) (w : World) (base : Nat) (hl : l.length ≤ 1000) (ho : w.ownsRow base 51 2 v l.length (flat (pairs l))) :
    Calls Tryz.prog 185 #[v] w fun e w' => ∃ u, e = .returned u ∧ u.ownBlock = v.ownBlock ∧ w'.ownsRow base 51 2 u (ddT l l.length).length (flat (pairs (ddT l l.length))) ∧ w.grownBy w' v.ownBlock := by
  obtain ⟨hxl, ⟨rfl, hn⟩ | ⟨g, cap, cur, rfl, hbg, hg, hnc, hcm, hcs, htake⟩⟩ := ho
  · obtain rfl : l = [] := List.eq_nil_of_length_eq_zero hn
    go_enter Tryz.func185, Tryz.ntmps185
    go_wp2
    go_ret
    exact ⟨_, rfl, rfl, World.ownsRow_nil _ _ _ _, ⟨rfl, rfl, rfl, Nat.le_refl _, fun _ _ _ => rfl⟩⟩
  · refine (compact_row l g cap w ⟨hnc, cur, hg, hcs, htake⟩ hl).mono ?_
    rintro e w' ⟨rfl, ⟨h1, cur', h2, h3, h4⟩, h5⟩
    exact ⟨_, rfl, rfl, ⟨by rw [flat_len, pairs_len], .inr ⟨g, cap, cur', rfl, hbg, h2, h1, hcm, h3, h4⟩⟩, h5⟩
end Go.Proofs.YtglbnggkkjhokaaGreat
/- What know.build computes: the form of the dots up to the counts and of those in a sorted list. -/
namespace Rm
open Go Go.RowKit
def setC (v : List Nat) (s n : Nat) : List Nat := (five v).set s n
theorem cv_setC (v : List Nat) (s n t : Nat) (hs : s < 5) (ht : t < 5) : cv (setC v s n) t = if t = s then n else cv v t := by
 unfold setC
 by_cases h : t = s
 ·subst h
  rw [if_pos rfl]; unfold cv
  rw [List.getD_eq_getElem?_getD, List.getElem?_set_self (by simp [five]; omega)]; rfl
 ·rw [if_neg h]
  have := five_at v t ht
  unfold cv
  rw [List.getD_eq_getElem?_getD, List.getElem?_set_ne (fun e => h e.symm), this]; rfl
structure BInv (v0 : List Nat) (pre : List (Nat × Nat)) (v : List Nat) (m : List (Nat × Nat)) : Prop where
  le : ∀ s, s < 5 → cv v s ≤ 1000
  dots : ∀ d ∈ m, d.1 < 5 ∧ d.2 ≤ 1000 ∧ cv v d.1 + 2 ≤ d.2
  sort : m.Pairwise ltD
  sub : ∀ d ∈ m, d ∈ pre
  len : m.length ≤ pre.length
  mem : ∀ s c, inR s c → (memB v m s c = true ↔ (1 ≤ c ∧ c ≤ cv v0 s) ∨ (s, c) ∈ pre)
theorem BInv.start (v : List Nat) (h : ∀ s, s < 5 → cv v s ≤ 1000) : BInv v [] v [] where
 le := h
 dots := fun d hd => by simp at hd
 sort := List.Pairwise.nil
 sub := fun d hd => by simp at hd
 len := Nat.le_refl _
 mem := fun s c _ => by rw [memB_iff]
theorem BInv.up {v0 v : List Nat} {pre m : List (Nat × Nat)} {s c : Nat} (h : BInv v0 pre v m) (hs : ∀ x ∈ pre, ltD x (s, c)) (hr : inR s c) (he : c = cv v s + 1) : BInv v0 (pre ++ [(s, c)]) (setC v s c) m := by
 obtain ⟨r1, r2, r3⟩ := hr
 have hno : ∀ d ∈ m, d.1 ≠ s := by
  intro d hd e
  have h1 := hs d (h.sub d hd)
  have h2 := (h.dots d hd).2.2
  unfold ltD at h1
  simp only at h1
  rw [e] at h2
  omega
 refine ⟨fun t ht => ?_, fun d hd => ?_, h.sort, fun d hd => List.mem_append_left _ (h.sub d hd), by have := h.len; simp; omega, fun t n ht => ?_⟩
 ·rw [cv_setC v s c t r1 ht]; split
  ·exact r3
  ·exact h.le t ht
 ·have hd' := h.dots d hd
  rw [cv_setC v s c d.1 r1 hd'.1, if_neg (hno d hd)]
  exact hd'
 ·have h1 := h.mem t n ht
  rw [memB_iff] at h1 ⊢
  rw [cv_setC v s c t r1 ht.1, List.mem_append, List.mem_singleton, Prod.mk.injEq]
  by_cases e : t = s
  ·subst e
   rw [if_pos rfl]
   have hm : (t, n) ∉ m := fun q => hno _ q rfl
   have h2 : (1 ≤ n ∧ n ≤ cv v t) ↔ (1 ≤ n ∧ n ≤ cv v0 t) ∨ (t, n) ∈ pre := by
    rw [← h1]; simp [hm]
   constructor
   ·rintro (⟨q1, q2⟩ | q)
    ·by_cases e' : n = c
     ·exact .inr (.inr ⟨rfl, e'⟩)
     ·rcases h2.1 ⟨q1, by omega⟩ with k | k
      ·exact .inl k
      ·exact .inr (.inl k)
    ·exact absurd q hm
   ·rintro (q | q | q)
    ·have := h2.2 (.inl q); exact .inl ⟨this.1, by omega⟩
    ·have := h2.2 (.inr q); exact .inl ⟨this.1, by omega⟩
    ·exact .inl ⟨by omega, by omega⟩
  ·rw [if_neg e, h1]
   constructor
   ·rintro (q | q)
    ·exact .inl q
    ·exact .inr (.inl q)
   ·rintro (q | q | q)
    ·exact .inl q
    ·exact .inr q
    ·exact absurd q.1 e
theorem BInv.more {v0 v : List Nat} {pre m : List (Nat × Nat)} {s c : Nat} (h : BInv v0 pre v m) (hs : ∀ x ∈ pre, ltD x (s, c)) (hr : inR s c) (he : cv v s + 2 ≤ c) : BInv v0 (pre ++ [(s, c)]) v (m ++ [(s, c)]) := by
 obtain ⟨r1, r2, r3⟩ := hr
 refine ⟨h.le, fun d hd => ?_, ?_, fun d hd => ?_, by have := h.len; simp; omega, fun t n ht => ?_⟩
 ·rcases List.mem_append.1 hd with q | q
  ·exact h.dots d q
  ·rw [List.mem_singleton] at q; subst q; exact ⟨r1, r3, he⟩
 ·rw [List.pairwise_append]
  refine ⟨h.sort, List.pairwise_singleton _ _, fun x hx y hy => ?_⟩
  rw [List.mem_singleton] at hy; subst hy
  exact hs x (h.sub x hx)
 ·rcases List.mem_append.1 hd with q | q
  ·exact List.mem_append_left _ (h.sub d q)
  ·exact List.mem_append_right _ q
 ·have h1 := h.mem t n ht
  rw [memB_iff] at h1 ⊢
  rw [List.mem_append, List.mem_append, ← or_assoc, ← or_assoc, h1]
theorem BInv.old {v0 v : List Nat} {pre m : List (Nat × Nat)} {s c : Nat} (h : BInv v0 pre v m) (hr : inR s c) (he : c ≤ cv v s) : BInv v0 (pre ++ [(s, c)]) v m := by
 refine ⟨h.le, h.dots, h.sort, fun d hd => List.mem_append_left _ (h.sub d hd), by have := h.len; simp; omega, fun t n ht => ?_⟩
 have h1 := h.mem t n ht
 rw [h1, List.mem_append, List.mem_singleton, Prod.mk.injEq]
 constructor
 ·rintro (q | q)
  ·exact .inl q
  ·exact .inr (.inl q)
 ·rintro (q | q | ⟨rfl, rfl⟩)
  ·exact .inl q
  ·exact .inr q
  ·exact h1.1 ((memB_iff ..).2 (.inl ⟨hr.2.1, he⟩))
def upD (v : List Nat) (l : List (Nat × Nat)) : DS := fun s c => decide (1 ≤ c ∧ c ≤ cv v s) || l.contains (s, c)
theorem BInv.okv {v0 v : List Nat} {pre m : List (Nat × Nat)} (h : BInv v0 pre v m) : OkV (trimL (five v)) m where
 len := Nat.le_trans (trimL_len _) (by simp [five])
 le := fun x hx => by
  have h1 := trimL_mem _ x hx
  simp only [five, List.mem_cons, List.not_mem_nil, or_false] at h1
  rcases h1 with q | q | q | q | q <;> rw [q] <;> exact h.le _ (by omega)
 last := trimL_last _
 dots := fun d hd => by
  have h1 := h.dots d hd
  rw [trimL_cv, cv_five, if_pos h1.1]; exact h1
 sort := h.sort
theorem BInv.form {v0 v : List Nat} {pre m : List (Nat × Nat)} (h : BInv v0 pre v m) : formV (upD v0 pre) = trimL (five v) ∧ formM (upD v0 pre) = m := by
 refine h.okv.form (fun s c hr => ?_)
 rw [Bool.eq_iff_iff]
 have h1 := h.mem s c hr
 rw [memB_iff] at h1 ⊢
 rw [trimL_cv, cv_five, if_pos hr.1, h1]
 simp [upD]
theorem upD_congr {v : List Nat} {l l' : List (Nat × Nat)} (h : ∀ d, d ∈ l ↔ d ∈ l') : upD v l = upD v l' := by
 funext s c
 rw [Bool.eq_iff_iff]
 simp [upD, h]
end Rm
/- know.Check and its parts; Count. -/
namespace Go.Proofs.YtglbnggkkjhokaaGreat
open Go.RowKit Rm
theorem badV_at {V : List Int} {k : Nat} {x : Int} (h : V[k]? = some x) : badV V k = if x < 0 ∨ 1000 < x then 1 else 0 := by unfold badV; rw [h]
theorem checkVec_any (v : Value) (V : List Int) (w : World) (hr : R1 w v V) (hl : V.length ≤ 5) :
    Calls Tryz.prog 181 #[v] w fun e w' => e = .returned (.int .i64 (chkV V)) ∧ Gr w w' := by
  obtain ⟨a, c, rfl, hc, hx⟩ := hr
  by_cases h0 : V = []
  · subst h0
    go_enter Tryz.func181, Tryz.ntmps181
    go_wp2
    go_loop [2, 4, 7, 8, 9, 10, 11, 12, 13, 14, 15, 16, 17] (fun r x i a1 a2 a3 a4 a5 a6 a7 a8 a9 a10 => i = .int .i64 0) (fun _ _ _ _ _ _ _ _ _ _ _ _ _ => 0)
    case atStart => rfl
    case round =>
      subst hrel
      go_wp2
      go_ret
      exact ⟨rfl, Gr.refl _⟩
  · obtain ⟨b, off, rfl, hb, hcell⟩ := hx h0
    have hpos : 0 < V.length := List.length_pos_iff.2 h0
    have hlast : ∃ y, V.getLast? = some y ∧ w.cell? ⟨b, off + (V.length - 1), none⟩ = some (.int .i64 y) := by
      obtain ⟨y, hy⟩ : ∃ y, V[V.length - 1]? = some y := ⟨_, List.getElem?_eq_getElem (by omega)⟩
      exact ⟨y, by rw [List.getLast?_eq_getElem?]; exact hy, hcell _ _ hy⟩
    obtain ⟨y, hy, hyc⟩ := hlast
    have hlen : (V.length : Int) ≤ 5 := by omega
    have HC := Lib.hid hcell
    clear hx hcell
    go_enter Tryz.func181, Tryz.ntmps181
    go_wp2
    go_loop [2, 4, 7, 8, 9, 10, 11, 12, 13, 14, 15, 16, 17] (fun r x i a1 a2 a3 a4 a5 a6 a7 a8 a9 a10 => ∃ k : Nat, k ≤ V.length ∧ i = .int .i64 k ∧ ∀ j, j < k → badV V j = 0) (fun _ _ i _ _ _ _ _ _ _ _ _ _ => V.length - (intOf i).toNat)
    case atStart => exact ⟨0, by omega, rfl, fun j hj => by omega⟩
    case round =>
      obtain ⟨k, hk, rfl, hz⟩ := hrel
      have HZ := Lib.hid hz
      by_cases hkl : k < V.length
      · obtain ⟨x, hx⟩ : ∃ x, V[k]? = some x := ⟨_, List.getElem?_eq_getElem hkl⟩
        have hcx := HC.out k x hx
        have hkI : (k : Int) < (V.length : Int) := by omega
        have HB := Lib.hid (badV_at hx)
        by_cases hbad : x < 0 ∨ 1000 < x
        · have HR : Hid (chkV V = 1) := by
            show _ = _
            unfold chkV
            have h1 : badV V k = 1 := by rw [HB.out, if_pos hbad]
            rw [first_some HZ.out hkl (by rw [h1]; decide), h1]; rfl
          clear hz hx HZ HB
          go_wp2
          all_goals first
            | (exfalso; omega)
            | (go_ret; exact ⟨by rw [HR.out]; rfl, Gr.refl _⟩)
        · have HN : Hid (∀ j, j < k + 1 → badV V j = 0) := fun j hj => by
            by_cases e : j = k
            · subst e; rw [HB.out, if_neg hbad]
            · exact HZ.out j (by omega)
          have b1 : ¬ x < 0 := fun e => hbad (.inl e)
          have b2 : x ≤ 1000 := by omega
          clear hz hx HZ HB hbad
          go_wp2
          all_goals first
            | (exfalso; omega)
            | (go_round
               case rel => exact ⟨k + 1, by omega, by go_num, HN.out⟩
               case measure => simp [intOf]; omega)
      · obtain rfl : k = V.length := by omega
        have HF : Hid (chkV V = if y = 0 then 3 else 0) := by
          show _ = _
          unfold chkV
          rw [first_none HZ.out, if_neg (by simp), hy]
          simp only [Option.some.injEq]
        clear hz HZ
        have h1 : (V.length : Int) - 1 = ((V.length - 1 : Nat) : Int) := by omega
        by_cases hy0 : y = 0
        · subst hy0
          go_wp2
          all_goals first
            | (exfalso; omega)
            | (go_ret; exact ⟨by rw [HF.out]; rfl, Gr.refl _⟩)
        · go_wp2
          all_goals first
            | (exfalso; omega)
            | (go_ret; exact ⟨by rw [HF.out, if_neg hy0]; rfl, Gr.refl _⟩)
end Go.Proofs.YtglbnggkkjhokaaGreat
/- know.checkMore, Check, checkBoth, Count. -/
namespace Go.Proofs.YtglbnggkkjhokaaGreat
open Go.RowKit Rm
theorem badM_dot {v : List Nat} {M : List (Int × Int)} {k : Nat} {d : Int × Int} (h : M[k]? = some d) (hd : dotB d = false) : badM v M k = 1 := by
 unfold badM; rw [h]; simp [hd]
theorem badM_low {v : List Nat} {M : List (Int × Int)} {k s c : Nat} (h : M[k]? = some ((s : Int), (c : Int))) (hd : dotB ((s : Int), (c : Int)) = true) (hc : c < cv v s + 2) : badM v M k = 3 := by
 unfold badM; rw [h]; simp only [hd]; rw [if_neg (by simp), if_pos (.inl (by simp; omega))]
theorem badM_fst {v : List Nat} {M : List (Int × Int)} {s c : Nat} (h : M[0]? = some ((s : Int), (c : Int))) (hd : dotB ((s : Int), (c : Int)) = true) (hc : cv v s + 2 ≤ c) : badM v M 0 = 0 := by
 unfold badM; rw [h]; simp only [hd]; rw [if_neg (by simp), if_neg (by simp; omega)]
theorem badM_nxt {v : List Nat} {M : List (Int × Int)} {k s c s' c' : Nat} (h : M[k + 1]? = some ((s : Int), (c : Int))) (h' : M[k]? = some ((s' : Int), (c' : Int))) (hd : dotB ((s : Int), (c : Int)) = true) (hc : cv v s + 2 ≤ c) :
  badM v M (k + 1) = if 0 ≤ cmpD (s', c') (s, c) then 3 else 0 := by
 unfold badM
 rw [h]
 simp only [hd, Nat.add_sub_cancel]
 rw [List.getD_eq_getElem?_getD, h', if_neg (by simp)]
 by_cases q : ltD (s', c') (s, c)
 ·rw [if_neg (c := 0 ≤ cmpD (s', c') (s, c)) (by rw [cmpD_ge]; exact fun e => e q), if_neg]
  rintro (e | ⟨_, e⟩)
  ·simp at e; omega
  ·apply e; unfold ltD at q; unfold ltI; simp at q ⊢; omega
 ·rw [if_pos (c := 0 ≤ cmpD (s', c') (s, c)) (by rw [cmpD_ge]; exact q), if_pos]
  refine .inr ⟨by omega, fun e => q ?_⟩
  unfold ltI at e; unfold ltD; simp at e ⊢; omega
theorem cell_cArr {w : World} {g : Nat} {t : TypeId} {fr : Nat × Nat} {v : List Nat} (h : w.heap[g]? = some (.cells (cArr v) t fr)) {s : Nat} (hs : s < 5) : w.cell? ⟨g, s, none⟩ = some (.int .i64 (cv v s : Nat)) := by
 match s, hs with
 | 0, _ => simp [World.cell?, h, cArr]
 | 1, _ => simp [World.cell?, h, cArr]
 | 2, _ => simp [World.cell?, h, cArr]
 | 3, _ => simp [World.cell?, h, cArr]
 | 4, _ => simp [World.cell?, h, cArr]
theorem dot_nat {d : Int × Int} (h : dotB d = true) : ∃ s c : Nat, d = ((s : Int), (c : Int)) ∧ s < 5 ∧ 1 ≤ c ∧ c ≤ 1000 := by
 obtain ⟨x, y⟩ := d
 have := (dotB_iff _).1 h
 simp only at this
 exact ⟨x.toNat, y.toNat, by congr <;> omega, by omega, by omega, by omega⟩
theorem beside_gr {f : Nat} {args : Array Value} {w : World} {A : Ending → World → Prop} (h : Calls Tryz.prog f args w A) (hg : ∀ e w', A e w' → Gr w w') {S : World → Prop} (hS : ∀ w', Gr w w' → S w') : Calls Tryz.prog f args w (fun e w' => A e w' ∧ S w') :=
 h.mono fun e w' a => ⟨a, hS w' (hg e w' a)⟩
theorem checkMore_any (m : Value) (v : List Nat) (M : List (Int × Int)) (w : World) (hr : Rd2 w m M) (hl : M.length ≤ 60) (hv : ∀ x ∈ v, x ≤ 1000) :
  Calls Tryz.prog 182 #[m, .agg (cArr v)] w fun e w' => e = .returned (.int .i64 (chkM v M)) ∧ Gr w w' := by
 obtain ⟨a, c, rfl, hc, hx⟩ := hr
 have G1 := Lib.hid ((Gr.refl w).alloc (.cells (cArr v) 237))
 have B1 : Hid ((w.alloc (.cells (cArr v) 237)).heap[w.heap.size]? = some (.cells (cArr v) 237 (0, 0))) := al_new _ _ _ rfl
 have HX := Lib.hid hx
 have HV := Lib.hid hv
 have HLI : (M.length : Int) ≤ 60 := by omega
 have hwlt : Hid (w.heap.size < (w.alloc (.cells (cArr v) 237)).heap.size) := by show _ < _; simp
 clear hx hv
 go_enter Tryz.func182, Tryz.ntmps182
 go_wp2
 generalize w.alloc (.cells (cArr v) 237) = w1 at *
 go_loopw [4, 5, 6, 9, 10, 11, 12, 13, 14, 15, 16, 17, 18, 19, 20, 21, 22, 23, 24, 25, 26, 27, 28, 29, 30, 31, 32, 33, 34, 35, 36, 37, 38, 39] (fun _ _ _ i _ _ _ _ _ _ _ _ _ _ _ _ _ _ _ _ _ _ _ _ _ _ _ _ _ _ _ _ _ _ wr => ∃ k : Nat, k ≤ M.length ∧ i = .int .i64 k ∧ Gr w1 wr ∧ ∀ j, j < k → badM v M j = 0) (fun _ _ _ i _ _ _ _ _ _ _ _ _ _ _ _ _ _ _ _ _ _ _ _ _ _ _ _ _ _ _ _ _ _ _ => M.length - (intOf i).toNat)
 case atStart => exact ⟨0, by omega, rfl, Gr.refl _, fun j hj => by omega⟩
 case round =>
  obtain ⟨k, hk, rfl, gr, hz⟩ := hrel
  have HZ := Lib.hid hz
  have GR := Lib.hid gr
  clear hz gr
  by_cases hkl : k < M.length
  ·obtain ⟨d, hd⟩ : ∃ d, M[k]? = some d := ⟨_, List.getElem?_eq_getElem hkl⟩
   obtain ⟨b, off, rfl, hb, hcell⟩ := HX.out (by intro e; rw [e] at hkl; simp at hkl)
   have hkI : (k : Int) < (M.length : Int) := by omega
   have G01 := Lib.hid (G1.out.trans GR.out)
   have q1 := (G01.out.cells.1 b (off + k * 2) hb).trans (hcell k d hd).1
   have q2 := (G01.out.cells.1 b (off + k * 2 + 1) hb).trans (hcell k d hd).2
   have HCell := Lib.hid hcell
   clear hcell
   have HD := Lib.hid (dot_any d)
   by_cases hdot : dotB d = true
   ·obtain ⟨s, cc, rfl, hs5, hc1, hc2⟩ := dot_nat hdot
    simp only at q1 q2
    rw [hdot] at HD
    have hcv := Lib.hid (cv_le HV.out s)
    have HM1 : Hid (cc < cv v s + 2 → badM v M k = 3) := fun e => badM_low hd hdot e
    have HM2 : Hid (k = 0 → cv v s + 2 ≤ cc → badM v M k = 0) := fun e e' => by subst e; exact badM_fst hd hdot e'
    have HM3 : Hid (∀ k', k = k' + 1 → cv v s + 2 ≤ cc → ∃ s' c' : Nat, M[k']? = some ((s' : Int), (c' : Int)) ∧ badM v M k = if 0 ≤ cmpD (s', c') (s, cc) then 3 else 0) := by
     intro k' e e'
     subst e
     obtain ⟨p, hp⟩ : ∃ p, M[k']? = some p := ⟨_, List.getElem?_eq_getElem (by omega)⟩
     obtain ⟨s', c', rfl, _⟩ := dot_nat (badM_zero HZ.out k' p (by omega) hp).1
     exact ⟨s', c', hp, badM_nxt hd hp hdot e'⟩
    have B2 := Lib.hid (cell_cArr ((Below.block GR.out _ hwlt.out).trans B1.out) hs5)
    generalize cv v s = n at *
    go_wp2_with (first | (go_at_call 117; refine (HD.out _).mono ?_; rintro e w3 ⟨rfl, g3⟩; have G3 := Lib.hid g3; clear g3))
    have GA : Hid (Gr wr w3) := (((Gr.refl wr).alloc (.cells #[.int .i64 (s : Int), .int .i64 (cc : Int)] 51))).trans G3.out
    have T1 := (Two.new wr s cc 51).gr G3.out
    have B3 := (GA.out.cells.1 _ s (Nat.lt_of_lt_of_le hwlt.out GR.out.le)).trans B2.out
    have GW := Lib.hid (G01.out.trans GA.out)
    have GL := Lib.hid (GR.out.trans GA.out)
    obtain ⟨t0, t1, t2⟩ := T1
    have hn0 : (n : Int) ≤ 1000 := by have := hcv.out; omega
    have hs5' : (s : Int) < 5 := by omega
    have hccI : (cc : Int) ≤ 1000 := by omega
    clear G3 HD q1 q2 B2
    generalize wr.heap.size = gd at *
    by_cases hA : cc < n + 2
    ·have hA' : (cc : Int) < (n : Int) + 2 := by omega
     have HR : Hid (chkM v M = 3) := by
      show _ = _
      have h1 : badM v M k = 3 := HM1.out hA
      unfold chkM
      rw [first_some HZ.out hkl (by rw [h1]; decide), h1]
     go_quiet (fail)
     go_wp2
     go_ret
     exact ⟨by rw [HR.out]; rfl, GW.out.drewN _⟩
    ·have hA' : decide ((cc : Int) < (n : Int) + 2) = false := by simp; omega
     by_cases hk0 : k = 0
     ·subst hk0
      have HN : Hid (∀ j, j < 0 + 1 → badM v M j = 0) := fun j hj => by
       obtain rfl : j = 0 := by omega
       exact HM2.out rfl (by omega)
      go_quiet (fail)
      go_wp2
      go_roundw
      case rel => exact ⟨0 + 1, by omega, by go_num, GL.out.drewN _, HN.out⟩
      case measure => simp [intOf]; omega
     ·obtain ⟨k', rfl⟩ : ∃ k', k = k' + 1 := ⟨k - 1, by omega⟩
      obtain ⟨s', c', hp, hbm⟩ := HM3.out k' rfl (by omega)
      have HBM := Lib.hid hbm
      have p1 := (GW.out.cells.1 b (off + k' * 2) hb).trans (HCell.out k' _ hp).1
      have p2 := (GW.out.cells.1 b (off + k' * 2 + 1) hb).trans (HCell.out k' _ hp).2
      simp only at p1 p2
      have hbw := Nat.lt_of_lt_of_le hb GW.out.le
      have hgw : w.heap.size < w3.heap.size := Nat.lt_of_lt_of_le hwlt.out (GL.out.le)
      have hk1 : ((k' + 1 : Nat) : Int) - 1 = (k' : Int) := by omega
      have hk2 : (k' : Int) < (M.length : Int) := by omega
      have HCM := Lib.hid (compare_any (s', c') (s, cc))
      clear hbm HM1 HM2 HM3
      have hcd' : ((k' : Int) + 1) > 0 := by omega
      generalize cmpD (s', c') (s, cc) = r at *
      have hw1 : IntKind.i64.wrap ((n : Int) + 2) = (n : Int) + 2 := IntWalk.i64_in _ (by omega)
      have hw2 : IntKind.i64.wrap ((k' : Int) + 1 - 1) = (k' : Int) := by rw [show (k' : Int) + 1 - 1 = (k' : Int) by omega]; exact IntWalk.i64_in _ (by omega)
      have hw3 : IntKind.i64.wrap (k' : Int) = (k' : Int) := IntWalk.i64_in _ (by omega)
      have hle : (n : Int) + 2 ≤ (cc : Int) := by omega
      go_still_tail 18, (by kernel_rfl)
      change wpList _ _ _ _ _ w3.drew
      have GW1 := Lib.hid GW.out.drew
      have GL1 := Lib.hid GL.out.drew
      clear GW GL t0 t1 t2 B3 p1 p2 hw1 hw2 hw3 hle hbw hgw GA
      generalize w3.drew = w4 at *
      by_cases hr : 0 ≤ r
      ·have HR : Hid (chkM v M = 3) := by
        show _ = _
        have h1 : badM v M (k' + 1) = 3 := by rw [HBM.out, if_pos hr]
        unfold chkM
        rw [first_some HZ.out hkl (by rw [h1]; decide), h1]
       go_wp2_with (first | (go_at_call 207; refine (HCM.out _).mono ?_; rintro e w5 ⟨rfl, g5⟩; have G5 := Lib.hid g5.1; clear g5))
       go_ret
       exact ⟨by rw [HR.out]; rfl, GW1.out.trans G5.out⟩
      ·have HN : Hid (∀ j, j < k' + 1 + 1 → badM v M j = 0) := fun j hj => by
        by_cases e : j = k' + 1
        ·subst e; rw [HBM.out, if_neg hr]
        ·exact HZ.out j (by omega)
       have hr' : decide (0 ≤ r) = false := decide_eq_false hr
       go_wp2_with (first | (go_at_call 207; refine (HCM.out _).mono ?_; rintro e w5 ⟨rfl, g5⟩; have G5 := Lib.hid g5.1; clear g5))
       go_roundw
       case rel => exact ⟨k' + 1 + 1, by omega, by go_num, GL1.out.trans G5.out, HN.out⟩
       case measure => simp [intOf]; omega
   ·rw [Bool.not_eq_true] at hdot
    rw [hdot] at HD
    have HR : Hid (chkM v M = 1) := by
     show _ = _
     have h1 : badM v M k = 1 := badM_dot hd hdot
     unfold chkM
     rw [first_some HZ.out hkl (by rw [h1]; decide), h1]
    go_wp2_with (first | (go_at_call 117; refine (HD.out _).mono ?_; rintro e w3 ⟨rfl, g3⟩; have G3 := Lib.hid g3; clear g3))
    go_ret
    exact ⟨by rw [HR.out]; rfl, (G01.out.alloc _).trans G3.out⟩
  ·obtain rfl : k = M.length := by omega
   have HF : Hid (chkM v M = 0) := first_none HZ.out
   go_wp2
   go_ret
   exact ⟨by rw [HF.out]; rfl, G1.out.trans GR.out⟩
end Go.Proofs.YtglbnggkkjhokaaGreat
/- The contracts of slices.Grow at nil and of slices.Concat, over dots. -/
namespace Go.Proofs.YtglbnggkkjhokaaGreat
open Go.RowKit Rm
theorem ccd_info : (Tryz.prog.info? 51).map (fun i => (i.zero, i.size, i.bytes)) = some (some (.agg #[.int .i64 0, .int .i64 0]), 2, 16) := by kernel_rfl
theorem own_formD {w : World} {base : Nat} {e : TypeId} {s n : Nat} {v : Value} {xs : List Value} (h : w.ownsRow base e s v n xs) : ∃ a c, v = .slice a n c ∧ n ≤ c := by
 rcases h.2 with ⟨rfl, rfl⟩ | ⟨g, cap, cur, rfl, _, _, hn, _⟩
 ·exact ⟨none, 0, rfl, Nat.le_refl _⟩
 ·exact ⟨_, cap, rfl, hn⟩
def RoomD (w w' : World) (v : Value) : Prop := Gr w w' ∧ w'.ownsRow w.heap.size 51 2 v 0 []
theorem growD_nil (n : Nat) (w : World) (hn : n ≤ 1000) :
  Calls Tryz.prog 209 #[.slice none 0 0, .int .i64 (n : Int)] w fun e w' => ∃ v, e = .returned v ∧ RoomD w w' v := by
 obtain ⟨i0, hi0, hz0, hz1, hz2⟩ := info_parts ccd_info
 by_cases h0 : n = 0
 ·subst h0
  go_enter Tryz.func209, Tryz.ntmps209
  go_wp2
  go_ret
  exact ⟨_, rfl, Gr.refl _, World.ownsRow_nil _ _ _ _⟩
 ·have hold : (Builtin.firstCells i0.size 0 (.slice none 0 0)).run Tryz.prog w.drew = .ok ([] : List Value).toArray w.drew := run_firstCells_none w.drew i0.size 0 0 0
  have hrz : ∀ ty, (Builtin.append_ #[73, 3] ty #[.slice none 0 0, .int .i64 (n : Int)]).run Tryz.prog w = _ := fun ty =>
   Lib.run_append_grow_zeros w 73 3 ty 51 i0 _ .i64 .i64 Tryz.underlying73 Tryz.underlying3 hi0 hz0 none 0 0 [] hold n (by omega) (by rw [hz1]; omega) (by omega) (by omega)
    (by rw [hz2]; omega) (by rw [hz2]; exact growslice_fits (by omega) (by omega))
  have HRZ := Lib.hid hrz
  have hGn : 0 + n ≤ grownCap w (0 + n) 0 51 := grownCap_ge w _ _ _
  have hGm : grownCap w (0 + n) 0 51 ≤ maxLen := grownCap_le_maxLen w (0 + n) 0 51 (by unfold maxLen; omega)
  rw [Nat.zero_add] at hGn hGm
  have h1 : (0 : Int) < (n : Int) := by omega
  have h2 : ¬ ((n : Int) < 0) := by omega
  clear hold hrz hz0 hi0
  go_enter Tryz.func209, Tryz.ntmps209
  go_wp2_with (at_builtin; refine Lib.wpList_append_run _ rfl _ _ _ _ rfl _ _ rfl rfl _ _ (HRZ.out _) ?_)
  go_ret
  refine ⟨_, rfl, ((Gr.refl w).drew).alloc _, ?_⟩
  have hb : w.heap.size ≤ w.drew.heap.size := Nat.le_refl _
  refine World.ownsRow_made (base := w.heap.size) (e := 51) (size := 2) w.drew _ _ hb hGm ?_
  simp only [Array.size_append, size_zeroCells]
  show n * 2 + (grownCap w n 0 51 - n) * 2 = grownCap w n 0 51 * 2
  omega
def SrcD (w : World) (bb : Nat) (X : List (Nat × List Value)) : Prop :=
  bb < w.heap.size ∧ ∀ i p, X[i]? = some p → ∃ v, w.cell? ⟨bb, i, none⟩ = some v ∧ RdC 2 w v p.1 p.2
def sumD (X : List (Nat × List Value)) : Nat := (X.map (·.1)).sum
def catD (X : List (Nat × List Value)) : List Value := (X.map (·.2)).flatten
theorem sumD_take {X : List (Nat × List Value)} {k : Nat} {p : Nat × List Value} (h : X[k]? = some p) : sumD (X.take (k + 1)) = sumD (X.take k) + p.1 := by
 obtain ⟨hk, e⟩ := List.getElem?_eq_some_iff.1 h
 rw [List.take_succ_eq_append_getElem hk, e]
 simp [sumD]
theorem catD_take {X : List (Nat × List Value)} {k : Nat} {p : Nat × List Value} (h : X[k]? = some p) : catD (X.take (k + 1)) = catD (X.take k) ++ p.2 := by
 obtain ⟨hk, e⟩ := List.getElem?_eq_some_iff.1 h
 rw [List.take_succ_eq_append_getElem hk, e]
 simp [catD]
theorem sumD_app (a b : List (Nat × List Value)) : sumD (a ++ b) = sumD a + sumD b := by simp [sumD]
theorem sumD_le (X : List (Nat × List Value)) (k : Nat) : sumD (X.take k) ≤ sumD X := by
 have h := sumD_app (X.take k) (X.drop k)
 rw [List.take_append_drop] at h
 omega
theorem concatD (X : List (Nat × List Value)) (bb cap : Nat) (w : World) (hX : SrcD w bb X) (hs : sumD X ≤ 1000) (hl : X.length ≤ 10) :
  Calls Tryz.prog 174 #[.slice (some ⟨bb, 0, none⟩) X.length cap] w fun e w' => ∃ v, e = .returned v ∧ Gr w w' ∧ w'.ownsRow w.heap.size 51 2 v (sumD X) (catD X) := by
 obtain ⟨i0, hi0, hz0, hz1, hz2⟩ := info_parts ccd_info
 have HX := Lib.hid hX
 have HSL := Lib.hid (sumD_le X)
 have hl' : (X.length : Int) ≤ 10 := by omega
 have hbb := hX.1
 clear hX
 go_enter Tryz.func174, Tryz.ntmps174
 go_wp2
 go_loop [3, 11] (fun a i => ∃ k : Nat, k ≤ X.length ∧ i = .int .i64 k ∧ a = .int .i64 (sumD (X.take k) : Nat)) (fun _ i => X.length - (intOf i).toNat)
 case atStart => exact ⟨0, by omega, rfl, rfl⟩
 case round =>
  obtain ⟨k, hk, rfl, rfl⟩ := hrel
  by_cases hlt : k < X.length
  ·obtain ⟨p, hp⟩ : ∃ p, X[k]? = some p := ⟨_, List.getElem?_eq_getElem hlt⟩
   obtain ⟨v0, c1, pl, p1, hv0⟩ := HX.out.2 k p hp
   have HS := Lib.hid (sumD_take hp)
   have hs1 := HSL.out (k + 1)
   have hs2 : sumD (X.take k) + p.1 ≤ 1000 := by rw [← sumD_take hp]; omega
   have hk10 : (k : Int) < 10 := by omega
   obtain ⟨ao, c, rfl⟩ : ∃ ao c, v0 = .slice ao p.1 c := by
    rcases hv0 with ⟨rfl, z⟩ | ⟨ad, c, rfl, _⟩
    ·exact ⟨none, 0, by rw [z]⟩
    ·exact ⟨some ad, c, rfl⟩
   clear hp hs1 hv0
   generalize sumD (X.take k) = sk at *
   have hs3 : (sk : Int) + (p.1 : Int) ≤ 1000 := by omega
   have hs4 : ¬ ((sk : Int) + (p.1 : Int) < 0) := by omega
   go_wp2_with fail
   go_round
   case rel => exact ⟨k + 1, by omega, by go_num, by rw [HS.out]; simp⟩
   case measure => simp [intOf]; omega
  ·obtain rfl : k = X.length := by omega
   rw [List.take_length]
   go_wp2_with fail
   refine (growD_nil (sumD X) _ hs).mono ?_
   rintro e w1 ⟨v, rfl, hg1, ho1⟩
   have HO1 := Lib.hid ho1
   have HG1 := Lib.hid hg1
   clear hg1 ho1
   go_wp2_with fail
   go_loopw [6, 27] (fun v i wr => ∃ k : Nat, k ≤ X.length ∧ i = .int .i64 k ∧ Gr w wr ∧ wr.ownsRow w.heap.size 51 2 v (sumD (X.take k)) (catD (X.take k))) (fun _ i _ => X.length - (intOf i).toNat)
   case atStart => exact ⟨0, by omega, rfl, HG1.out, HO1.out⟩
   case round =>
    obtain ⟨k, hk, rfl, hg, hown⟩ := hrel
    by_cases hlt : k < X.length
    ·obtain ⟨p, hp⟩ : ∃ p, X[k]? = some p := ⟨_, List.getElem?_eq_getElem hlt⟩
     obtain ⟨v0, c1, hv0⟩ := HX.out.2 k p hp
     obtain ⟨pl, p1, ⟨rfl, z1⟩ | ⟨ad, c, rfl, hnc, hb, hc⟩⟩ := hv0.gr hg
     ·rw [← hg.cells.1 bb _ hbb] at c1
      have HS := Lib.hid (sumD_take hp)
      have HC := Lib.hid (catD_take hp)
      have z2 : p.2 = [] := List.eq_nil_of_length_eq_zero (by simp [pl, z1])
      rw [z1] at HS
      rw [z2] at HC
      have hk10 : (k : Int) < 10 := by omega
      have HO := Lib.hid hown
      obtain ⟨va, vc, rfl, hvc⟩ := own_formD hown
      clear hp hown z1 z2 hv0 pl p1
      go_wp2_with (at_builtin; refine wpList_append_own_none rfl (.tmp 31) (.tmp 32) 73 rfl w.heap.size 51 i0 2 Tryz.underlying73 hi0 _ _ _ rfl HO.out rfl ?_)
      go_roundw
      case rel => exact ⟨k + 1, by omega, by go_num, hg, by rw [HS.out, HC.out, List.append_nil]; exact HO.out⟩
      case measure => simp [intOf]; omega
     ·rw [← hg.cells.1 bb _ hbb] at c1
      have HP := Lib.hid hc
      have HS := Lib.hid (sumD_take hp)
      have HC := Lib.hid (catD_take hp)
      have hs1 := HSL.out (k + 1)
      have hs2 : sumD (X.take k) + p.1 ≤ 1000 := by rw [← sumD_take hp]; omega
      have hk10 : (k : Int) < 10 := by omega
      have HPL := Lib.hid pl
      have HP1 := Lib.hid p1
      have HO := Lib.hid hown
      obtain ⟨va, vc, rfl, hvc⟩ := own_formD hown
      clear hp hs1 hc pl p1 hown hv0 hb
      generalize sumD (X.take k) = sk at *
      go_wp2_with (at_builtin; refine wpList_append_own _ rfl (.tmp 31) (.tmp 32) 73 rfl w.heap.size 51 i0 _ 2 16 Tryz.underlying73 hi0 hz0 hz1 hz2 rfl (by omega) _ _ _ rfl HO.out ad p.1 c p.2 rfl HPL.out HP.out HP1.out (by simp only [maxLen]; omega) (by omega) hg.le ?_; intro v1 w2 hown hg1 _)
      go_roundw
      case rel => exact ⟨k + 1, by omega, by go_num, hg.grown hg1 (fun k hk => (HO.out.lt k hk).1), by rw [HS.out, HC.out]; exact hown⟩
      case measure => simp [intOf]; omega
    ·obtain rfl : k = X.length := by omega
     rw [List.take_length] at hown
     go_wp2_with fail
     go_ret
     exact ⟨_, rfl, hg, hown⟩
end Go.Proofs.YtglbnggkkjhokaaGreat
