/- The plain mathematics of two valid cubes' difference. -/
import Derived.Test.YtkdhfpdpbledcaaPure3
namespace Rm
open Go Go.RowKit

/-- is tag i demanded by the one and not by the other? -/
def cutB (a b i : Nat) : Bool := Nat.land (Nat.land a (15 - b)) (2 ^ i) != 0
/-- the cubes cut off, and what is left, behind i tags -/
def lessTo (y n y' n' : Nat) : Nat → List (Nat × Nat) × Nat × Nat
  | 0 => ([], y, n)
  | i + 1 => let r := lessTo y n y' n' i
    if cutB y' y i then (r.1 ++ [(r.2.1, Nat.lor r.2.2 (2 ^ i))], Nat.lor r.2.1 (2 ^ i), r.2.2)
    else if cutB n' n i then (r.1 ++ [(Nat.lor r.2.1 (2 ^ i), r.2.2)], r.2.1, Nat.lor r.2.2 (2 ^ i)) else r
/-- what cube.Less answers -/
def lessL (y n y' n' : Nat) : List (Nat × Nat) := if apartB y n y' n' then [(y, n)] else (lessTo y n y' n' 4).1

theorem tag16 : ∀ i < 4, wrap64 (2 ^ i) = ((2 ^ i : Nat) : Int) ∧ 2 ^ i < 16 := by decide +kernel
theorem cut16 : ∀ a < 16, ∀ b < 16, ∀ i < 4, (bits .and .i64 (bits .andNot .i64 ((a : Nat) : Int) ((b : Nat) : Int)) ((2 ^ i : Nat) : Int) != 0) = cutB a b i := by decide +kernel

def lessOk (y n y' n' i : Nat) : Bool := decide ((lessTo y n y' n' i).2.1 < 16) && decide ((lessTo y n y' n' i).2.2 < 16) && decide ((lessTo y n y' n' i).1.length ≤ i)
theorem lessTo_ok (y n y' n' : Nat) (hy : y < 16) (hn : n < 16) : ∀ i, i ≤ 4 → (lessTo y n y' n' i).2.1 < 16 ∧ (lessTo y n y' n' i).2.2 < 16 ∧ (lessTo y n y' n' i).1.length ≤ i
  | 0, _ => ⟨hy, hn, Nat.le_refl _⟩
  | i + 1, h => by
    obtain ⟨h1, h2, h3⟩ := lessTo_ok y n y' n' hy hn i (by omega)
    have ht := (tag16 i (by omega)).2
    unfold lessTo
    simp only
    split
    · exact ⟨lor_lt16 _ h1 _ ht, h2, by simp; omega⟩
    · split
      · exact ⟨h1, lor_lt16 _ h2 _ ht, by simp; omega⟩
      · exact ⟨h1, h2, by omega⟩
end Rm
