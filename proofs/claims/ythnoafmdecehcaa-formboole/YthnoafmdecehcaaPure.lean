/- The plain mathematics of cubes: no program in sight. -/
import Derived.Laws.Bits64
import Derived.WalkKit
import Derived.Deep.Quiet
import Derived.Deep.Draws
namespace Rm
open Go Go.RowKit

/-- is it a combination of tags? -/
def tagsB (x : Int) : Bool := decide (0 ≤ x) && decide (x ≤ 15)
/-- what Check of a cube answers -/
def chk (y n : Int) : Int := if tagsB y && tagsB n then (if bits .and .i64 y n == 0 then 0 else 3) else 1

/-- what Check of two cubes answers -/
def chk2 (y n y' n' : Int) : Int := if chk y n == 0 then chk y' n' else chk y n
/-- have two cubes nothing in common? -/
def apartB (y n y' n' : Int) : Bool := bits .and .i64 y n' != 0 || bits .and .i64 n y' != 0
/-- has the first cube every demand of the second one? -/
def inB (y n y' n' : Int) : Bool := bits .andNot .i64 y' y == 0 && bits .andNot .i64 n' n == 0
/-- is a combination in a cube? -/
def hasB (y n t : Int) : Bool := bits .andNot .i64 y t == 0 && bits .and .i64 n t == 0

/-- what cube.Within answers -/
def withinB (y n y' n' : Int) : Bool := if chk2 y n y' n' == 0 then inB y n y' n' else false
/-- what cube.Has answers: the error, and whether -/
def hasE (y n t : Int) : Int := if chk y n == 0 then (if tagsB t then 0 else 1) else chk y n
def hasR (y n t : Int) : Bool := if hasE y n t == 0 then hasB y n t else false
/-- what cube.Meet answers -/
def meetE (y n y' n' : Int) : Int := if chk2 y n y' n' == 0 then (if apartB y n y' n' then 4 else 0) else chk2 y n y' n'
def meetY (y n y' n' : Int) : Int := if meetE y n y' n' == 0 then bits .or .i64 y y' else 0
def meetN (y n y' n' : Int) : Int := if meetE y n y' n' == 0 then bits .or .i64 n n' else 0

/-- all that was there is as it was; there may be more -/
def Gr (w w' : World) : Prop := Below w.heap.size w w'
theorem Gr.refl (w : World) : Gr w w := Below.refl _ _
theorem Gr.trans {a b c : World} (h : Gr a b) (k : Gr b c) : Gr a c := Below.trans h (Below.mono k h.size)
theorem Gr.drew {a w : World} (h : Gr a w) : Gr a w.drew := Below.drew h
theorem Gr.drewN {a w : World} (h : Gr a w) (n : Nat) : Gr a (w.drewN n) := ⟨h.os, h.tape, h.output, h.size, h.block⟩
theorem Gr.alloc {a w : World} (h : Gr a w) (o : Obj) : Gr a (w.alloc o) := Below.alloc h h.size o
theorem Gr.setCell {a w : World} (h : Gr a w) {p : Addr} (hp : a.heap.size ≤ p.block) (u : Value) : Gr a (w.setCell p u) := Below.setCell h hp u
theorem Gr.le {a w : World} (h : Gr a w) : a.heap.size ≤ w.heap.size := h.size
theorem Gr.cells {W w1 : World} (hb : Gr W w1) : (∀ b o, b < W.heap.size → w1.cell? ⟨b, o, none⟩ = W.cell? ⟨b, o, none⟩) ∧ (∀ b o, b < W.heap.size → w1.frozen? ⟨b, o, none⟩ = W.frozen? ⟨b, o, none⟩) :=
  ⟨fun b o h => Below.cell (p := ⟨b, o, none⟩) hb h, fun b o h => Below.frozen (p := ⟨b, o, none⟩) hb h⟩

/-- a struct of two integers, alone in its block -/
def Two (w : World) (b : Nat) (y n : Int) : Prop := b < w.heap.size ∧ w.cell? ⟨b, 0, none⟩ = some (.int .i64 y) ∧ w.cell? ⟨b, 1, none⟩ = some (.int .i64 n)
theorem Two.gr {w w' : World} {b : Nat} {y n : Int} (h : Two w b y n) (g : Gr w w') : Two w' b y n :=
  ⟨Nat.lt_of_lt_of_le h.1 g.le, (g.cells.1 b 0 h.1).trans h.2.1, (g.cells.1 b 1 h.1).trans h.2.2⟩
theorem Two.alloc {w : World} {b : Nat} {y n : Int} (h : Two w b y n) (o : Obj) : Two (w.alloc o) b y n := h.gr ((Gr.refl w).alloc o)
theorem Two.new (w : World) (y n : Int) (t : TypeId) : Two (w.alloc (.cells #[.int .i64 y, .int .i64 n] t)) w.heap.size y n := by
  refine ⟨by simp, ?_, ?_⟩ <;> simp [go_sem]

end Rm
