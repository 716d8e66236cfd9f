/- The contracts of package formula's box, filterOf and Filter. -/
import Derived.Test.YthnoafmdecehcaaFormA
import Derived.Test.YthnoafmdecehcaaFilR
import Derived.Deep.RegionHeld3
namespace Rm
open Go Go.RowKit
set_option linter.unusedVariables false
/-- a slice of values of one cell each reads as a list -/
def RdV (w : World) (v : Value) (l : List Value) : Prop :=
  ∃ a c, v = .slice a l.length c ∧ l.length ≤ c ∧ (l ≠ [] → ∃ b off, a = some ⟨b, off, none⟩ ∧ b < w.heap.size ∧ ∀ i p, l[i]? = some p → w.cell? ⟨b, off + i, none⟩ = some p)
theorem RdV.gr {w w' : World} {v : Value} {l : List Value} (h : RdV w v l) (g : Gr w w') : RdV w' v l := by
  obtain ⟨a, c, e, hc, h⟩ := h
  refine ⟨a, c, e, hc, fun hl => ?_⟩
  obtain ⟨b, off, ea, hb, hx⟩ := h hl
  exact ⟨b, off, ea, Nat.lt_of_lt_of_le hb g.le, fun i p hp => (g.cells.1 b _ hb).trans (hx i p hp)⟩
theorem RdV.own {w : World} {base : Nat} {e : TypeId} {v : Value} {l : List Value} (h : w.ownsRow base e 1 v l.length l) : RdV w v l := by
  obtain ⟨hl, h⟩ := h
  rcases h with ⟨rfl, h0⟩ | ⟨g, cap, cur, rfl, _, hg, hn, _, hs, ht⟩
  · have : l = [] := List.eq_nil_of_length_eq_zero h0
    subst this
    exact ⟨none, 0, rfl, Nat.le_refl _, fun h => absurd rfl h⟩
  · refine ⟨_, _, rfl, hn, fun hne => ?_⟩
    have hlt : g < w.heap.size := by
      rcases Nat.lt_or_ge g w.heap.size with h | h
      · exact h
      · rw [Array.getElem?_eq_none h] at hg; cases hg
    refine ⟨g, 0, rfl, hlt, fun i p hp => ?_⟩
    have hi : i < l.length := (List.getElem?_eq_some_iff.1 hp).1
    have hf := hp
    rw [← ht, List.getElem?_take_of_lt (by omega)] at hf
    simpa [World.cell?, hg] using hf
/-- a table has the points of a set -/
def RepT (T : Nat → Nat) (P : Pt) : Prop := ∀ t, t < 16 → ∀ x, x < 32 → (T t).testBit x = P t x
theorem full_bit : ∀ x < 32, Nat.testBit 4294967295 x = true := by decide
theorem tag_tab : ∀ a < 4, ∀ t < 16, tabF [((2 ^ a, 0), 4294967295)] t = if Nat.testBit t a then 4294967295 else 0 := by decide +kernel
theorem vld_tag : ∀ a < 4, Vld (2 ^ a) 0 := by intro a h; exact ⟨by match a, h with | 0, _ | 1, _ | 2, _ | 3, _ => decide, by decide, by match a, h with | 0, _ | 1, _ | 2, _ | 3, _ => decide⟩
theorem rep_all (v : Nat → Pt) (a b : Int) : RepT (fun _ => 4294967295) (ndP (1, a, b) v) := fun t _ x hx => full_bit x hx
theorem rep_tag (v : Nat → Pt) {a : Nat} (b : Int) (h : a < 4) : RepT (tabF [((2 ^ a, 0), 4294967295)]) (ndP (2, (a : Int), b) v) := fun t ht x hx => by
  rw [tag_tab a h t ht]
  show _ = t.testBit a
  cases hc : t.testBit a
  · simp
  · simpa using full_bit x hx
theorem vf_one {a b : Nat} (h : a < b) (hb : b ≤ 32) : VF 0 [(a, b)] := by simp [VF]; omega
theorem inC_zero : ∀ t < 16, inC ((0, 0), 0) t = true := by decide +kernel
theorem rep_num (v : Nat → Pt) {a b : Nat} (h : a < b) (hb : b ≤ 32) : RepT (tabF [((0, 0), maskL [(a, b)])]) (ndP (3, (a : Int), (b : Int)) v) := fun t ht x hx => by
  show _ = (decide ((a : Int) ≤ (x : Int)) && decide ((x : Int) < (b : Int)))
  rw [Bool.eq_iff_iff, tabF_bit]
  have e : inC ((0, 0), maskL [(a, b)]) t = true := inC_zero t ht
  simp only [List.mem_singleton, exists_eq_left, e, true_and]
  rw [maskL_bit (vf_one h hb)]
  simp [memS]
theorem rep_not {v : Nat → Pt} {a : Nat} (b : Int) {T : Nat → Nat} (hT : OkT T) (h : RepT T (v a)) : RepT (fun t => lessM 4294967295 (T t)) (ndP (4, (a : Int), b) v) := fun t ht x hx => by
  show _ = !(v a t x)
  rw [← h t ht x hx, lessM_bit _ _ _ (hT t ht) (by decide), full_bit x hx]
  simp
theorem rep_both {v : Nat → Pt} {a b : Nat} {T U : Nat → Nat} (h : RepT T (v a)) (h' : RepT U (v b)) : RepT (fun t => T t &&& U t) (ndP (5, (a : Int), (b : Int)) v) := fun t ht x hx => by
  show _ = (v a t x && v b t x)
  rw [← h t ht x hx, ← h' t ht x hx, Nat.testBit_and]
theorem rep_any {v : Nat → Pt} {a b : Nat} {T U : Nat → Nat} (h : RepT T (v a)) (h' : RepT U (v b)) : RepT (fun t => T t ||| U t) (ndP (6, (a : Int), (b : Int)) v) := fun t ht x hx => by
  show _ = (v a t x || v b t x)
  rw [← h t ht x hx, ← h' t ht x hx, Nat.testBit_or]
end Rm
namespace Go.Proofs.Ythnoafmdecehcaa
open Go.RowKit Rm
set_option linter.unusedVariables false

/-- a filter in new memory that has the points of a set -/
def FP (base : Nat) (w : World) (v : Value) (P : Pt) : Prop := ∃ T, FO base 16 w v T ∧ RepT T P
theorem FP.gr {base : Nat} {w w' : World} {v : Value} {P : Pt} (h : FP base w v P) (g : Gr w w') : FP base w' v P := by
  obtain ⟨T, h1, h2⟩ := h
  exact ⟨T, h1.gr g, h2⟩
theorem FP.base {base base' : Nat} {w : World} {v : Value} {P : Pt} (h : FP base w v P) (hb : base' ≤ base) : FP base' w v P := by
  obtain ⟨T, h1, h2⟩ := h
  exact ⟨T, h1.base hb, h2⟩

set_option maxHeartbeats 400000 in
set_option maxRecDepth 100000 in
theorem box_own (y n f t m : Nat) (w : World) (hc : canon m = [(f, t)]) (hm : m < 2 ^ 32) (hv : Vld y n) :
    Calls Try.prog 81 #[.agg #[.int .i64 (y : Int), .int .i64 (n : Int)], .int .i64 (f : Int), .int .i64 (t : Int)] w fun e w' => ∃ v, e = .returned v ∧ FO w.heap.size 1 w' v (tabF [((y, n), m)]) ∧ Gr w w' := by
  have HB := Lib.hid ((lit_own (w.alloc (.cells #[.int .i64 (y : Int), .int .i64 (n : Int)] 51)) y n f t m hc hm hv).base (base' := w.heap.size) (by simp))
  clear hc hm hv
  go_enter Try.func81, Try.ntmps81
  go_wp2
  go_ret
  exact ⟨_, rfl, by simpa using HB.out, (((Gr.refl _).alloc _).alloc _).alloc _⟩

/-- what is kept beside a call -/
theorem beside {f : Nat} {args : Array Value} {w : World} {A : Ending → World → Prop} (h : Calls Try.prog f args w A) (hg : ∀ e w', A e w' → Gr w w') {c1 c2 c3 c4 : Addr} {x1 x2 x3 x4 : Value}
    (b1 : c1.block < w.heap.size) (b2 : c2.block < w.heap.size) (b3 : c3.block < w.heap.size) (b4 : c4.block < w.heap.size) (k1 : w.cell? c1 = some x1) (k2 : w.cell? c2 = some x2) (k3 : w.cell? c3 = some x3) (k4 : w.cell? c4 = some x4) :
    Calls Try.prog f args w fun e w' => A e w' ∧ w'.cell? c1 = some x1 ∧ w'.cell? c2 = some x2 ∧ w'.cell? c3 = some x3 ∧ w'.cell? c4 = some x4 :=
  h.mono fun e w' ha => by
    have g := hg e w' ha
    refine ⟨ha, ?_, ?_, ?_, ?_⟩
    · exact (World.cell?_of_block (a := c1) (Below.block g _ b1)).trans k1
    · exact (World.cell?_of_block (a := c2) (Below.block g _ b2)).trans k2
    · exact (World.cell?_of_block (a := c3) (Below.block g _ b3)).trans k3
    · exact (World.cell?_of_block (a := c4) (Below.block g _ b4)).trans k4
end Go.Proofs.Ythnoafmdecehcaa
