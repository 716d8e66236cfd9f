/- The contracts of math/bits.OnesCount32 and of span.Count, Has, Within. -/
import Derived.Test.YthnoafmdecehcaaSpanD
import Derived.Lib.BitFns
namespace Rm
open Go Go.RowKit
/-- how many bits of a number are set, below the k-th -/
def popTo (m : Nat) : Nat → Nat
  | 0 => 0
  | k + 1 => popTo m k + (m.testBit k).toNat
theorem popTo_le (m k : Nat) : popTo m k ≤ k := by
  induction k with
  | zero => exact Nat.le_refl _
  | succ k ih => have := Bool.toNat_le (m.testBit k); simp only [popTo]; omega
theorem popTo_congr {m m' k : Nat} (h : ∀ i, i < k → m.testBit i = m'.testBit i) : popTo m k = popTo m' k := by
  induction k with
  | zero => rfl
  | succ k ih => simp only [popTo]; rw [ih (fun i hi => h i (by omega)), h k (by omega)]
theorem popTo_add (m j k : Nat) : popTo m (j + k) = popTo m j + popTo (m / 2 ^ j) k := by
  induction k with
  | zero => rfl
  | succ k ih =>
    show popTo m (j + k) + (m.testBit (j + k)).toNat = popTo m j + (popTo (m / 2 ^ j) k + ((m / 2 ^ j).testBit k).toNat)
    rw [ih, Nat.testBit_div_two_pow, Nat.add_comm k j]
    omega
theorem popTo_mod (m : Nat) : popTo (m % 256) 8 = popTo m 8 := by
  apply popTo_congr
  intro i hi
  have e : m % 256 = m % 2 ^ 8 := rfl
  rw [e, Nat.testBit_mod_two_pow]
  simp [hi]
def popTab : Bool := (List.range 256).all fun n => Lib.pop8 (n : Int) == ((popTo n 8 : Nat) : Int)
theorem popTab_true : popTab = true := by decide +kernel
theorem pop8_tab (n : Nat) (h : n < 256) : Lib.pop8 (n : Int) = ((popTo n 8 : Nat) : Int) := by
  have H := popTab_true
  unfold popTab at H
  rw [List.all_eq_true] at H
  have := H n (List.mem_range.2 h)
  simpa only [beq_iff_eq] using this
theorem tab_eq (b : Nat) (h : b < Lib.pop8tab.size) (hb : b < 256) : (((Lib.pop8tab[b]'h).toNat : Nat) : Int) = ((popTo b 8 : Nat) : Int) := by
  rw [← pop8_tab b hb]
  unfold Lib.pop8
  simp [h]
/-- the elements of a set -/
def popc (m : Nat) : Nat := popTo m 32
theorem popc_le (m : Nat) : popc m ≤ 32 := popTo_le m 32
theorem popc_bytes (x : Nat) : popc x = popTo (x % 256) 8 + popTo (x / 256 % 256) 8 + popTo (x / 65536 % 256) 8 + popTo (x / 16777216 % 256) 8 := by
  unfold popc
  rw [popTo_mod, popTo_mod, popTo_mod, popTo_mod]
  have e1 : popTo x 32 = popTo x 8 + popTo (x / 2 ^ 8) 24 := popTo_add x 8 24
  have e2 : popTo (x / 2 ^ 8) 24 = popTo (x / 2 ^ 8) 8 + popTo (x / 2 ^ 8 / 2 ^ 8) 16 := popTo_add (x / 2 ^ 8) 8 16
  have e3 : popTo (x / 2 ^ 8 / 2 ^ 8) 16 = popTo (x / 2 ^ 8 / 2 ^ 8) 8 + popTo (x / 2 ^ 8 / 2 ^ 8 / 2 ^ 8) 8 := popTo_add (x / 2 ^ 8 / 2 ^ 8) 8 8
  have d1 : x / 2 ^ 8 = x / 256 := rfl
  have d2 : x / 256 / 2 ^ 8 = x / 65536 := by rw [Nat.div_div_eq_div_mul]
  have d3 : x / 65536 / 2 ^ 8 = x / 16777216 := by rw [Nat.div_div_eq_div_mul]
  rw [d1] at e1 e2 e3
  rw [d2] at e2 e3
  rw [d3] at e3
  omega
theorem and255 (a : Nat) (h : a < 2 ^ 32) : bits .and .u32 (a : Int) 255 = ((a % 256 : Nat) : Int) := by
  have e := u32_and_nat a 255 h (by decide)
  rw [show a &&& 255 = a % 256 from Nat.and_two_pow_sub_one_eq_mod a 8] at e
  exact e
end Rm
namespace Go.Proofs.Ythnoafmdecehcaa
open Go.RowKit Rm
set_option linter.unusedVariables false

/-! span.Count -/
/-! span.Has -/
/-- is an integer a bit of a mask? -/
def bitB (m : Nat) (n : Int) : Bool := numB n && m.testBit n.toNat
/-! span.Within -/
/-- is a mask within another one? -/
def subM (a b : Nat) : Bool := lessM a b == 0
theorem subM_eq (a b : Nat) (ha : a < 2 ^ 32) (hb : b < 2 ^ 32) : (bits .andNot .u32 (a : Int) (b : Int) == 0) = subM a b := by
  rw [u32_andNot_nat a b ha hb, Bool.eq_iff_iff]
  simp only [subM, lessM, beq_iff_eq]
  omega
end Go.Proofs.Ythnoafmdecehcaa
