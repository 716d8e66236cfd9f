/- The difference of two valid cubes, held against a table of all pairs. -/
import Derived.Test.YtkdhfpdpbledcaaPure4
namespace Rm
open Go Go.RowKit

def vldN (y n : Nat) : Bool := Nat.land y n == 0
def apartN (y n y' n' : Nat) : Bool := !(Nat.land y n' == 0) || !(Nat.land n y' == 0)
def popN (a : Nat) : Nat := a % 2 + a / 2 % 2 + a / 4 % 2 + a / 8 % 2
def cntN (y n : Nat) : Nat := 2 ^ popN (15 - Nat.lor y n)
def goodN (y n y' n' : Nat) (c : Nat × Nat) : Bool := Nat.blt c.1 16 && Nat.blt c.2 16 && vldN c.1 c.2 && (Nat.land y c.1 == y) && (Nat.land n c.2 == n) && apartN c.1 c.2 y' n'
def pairwiseN : List (Nat × Nat) → Bool
  | [] => true
  | c :: l => l.all (fun d => apartN d.1 d.2 c.1 c.2) && pairwiseN l
def sumN : List (Nat × Nat) → Nat
  | [] => 0
  | c :: l => cntN c.1 c.2 + sumN l
def partsN (y n y' n' : Nat) : Bool := apartN y n y' n' ||
  ((lessTo y n y' n' 4).1.all (goodN y n y' n') && pairwiseN (lessTo y n y' n' 4).1 && (sumN (lessTo y n y' n' 4).1 + cntN (Nat.lor y y') (Nat.lor n n') == cntN y n))
def allParts : Bool := (List.range 16).all fun y => (List.range 16).all fun n => !(vldN y n) || ((List.range 16).all fun y' => (List.range 16).all fun n' => !(vldN y' n') || partsN y n y' n')
theorem allParts_true : allParts = true := by decide +kernel
end Rm
