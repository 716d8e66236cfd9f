/- What the document asks of cubes, combination by combination, held against a table of all pairs. -/
import Derived.Test.YtkdhfpdpbledcaaPure5
namespace Rm
open Go Go.RowKit

/-- is a combination in a cube? -/
def in16 (y n t : Nat) : Bool := (Nat.land y t == y) && (Nat.land n t == 0)
def cntTo (y n : Nat) : Nat → Nat
  | 0 => 0
  | k + 1 => cntTo y n k + (if in16 y n k then 1 else 0)
def timesN : List (Nat × Nat) → Nat → Nat
  | [], _ => 0
  | c :: l, t => (if in16 c.1 c.2 t then 1 else 0) + timesN l t
/-- is the one within the other, as far as k? -/
def withinTo (y n y' n' : Nat) : Nat → Bool
  | 0 => true
  | k + 1 => withinTo y n y' n' k && !(in16 y n k && !in16 y' n' k)
def bothTo (y n y' n' : Nat) : Nat → Nat
  | 0 => 0
  | k + 1 => bothTo y n y' n' k + (if in16 y n k && in16 y' n' k then 1 else 0)
def lessN (y n y' n' : Nat) : List (Nat × Nat) := if apartN y n y' n' then [(y, n)] else (lessTo y n y' n' 4).1
def saysT (y n y' n' : Nat) (L : List (Nat × Nat)) : Nat → Bool
  | 0 => true
  | k + 1 => saysT y n y' n' L k && (timesN L k == (if in16 y n k && !in16 y' n' k then 1 else 0))
def saysN (y n y' n' : Nat) : Bool := saysT y n y' n' (lessN y n y' n') 16 && (withinTo y n y' n' 16 == ((Nat.land y' y == y') && (Nat.land n' n == n'))) && (Nat.beq (bothTo y n y' n' 16) 0 == apartN y n y' n')
def allSays : Bool := (List.range 16).all fun y => (List.range 16).all fun n => !(vldN y n) || ((cntTo y n 16 == cntN y n) && ((List.range 16).all fun y' => (List.range 16).all fun n' => !(vldN y' n') || saysN y n y' n'))
theorem allSays_true : allSays = true := by decide +kernel
end Rm
