/- The contracts of math/bits.OnesCount64 and OnesCount at small numbers. -/
import Derived.Test.YtphcjjhfgpdhcaaCubeA
import Derived.Test.YtphcjjhfgpdhcaaPure3
namespace Go.Proofs.Ytphcjjhfgpdhcaa
open Go.RowKit Rm
set_option linter.unusedVariables false

def sw1 (x : Int) : Int := IntKind.u64.wrap (bits .and .u64 (x / 2) 6148914691236517205 + bits .and .u64 x 6148914691236517205)
def sw2 (x : Int) : Int := IntKind.u64.wrap (bits .and .u64 (x / 4) 3689348814741910323 + bits .and .u64 x 3689348814741910323)
def sw3 (x : Int) : Int := bits .and .u64 (IntKind.u64.wrap (x / 16 + x)) 1085102592571150095
def sw4 (x : Int) : Int := IntKind.u64.wrap (x + x / 256)
def sw5 (x : Int) : Int := IntKind.u64.wrap (x + x / 65536)
def sw6 (x : Int) : Int := IntKind.u64.wrap (x + x / 4294967296)
/-- what OnesCount64 reckons -/
def sw (x : Int) : Int := bits .and .i64 (wrap64 (sw6 (sw5 (sw4 (sw3 (sw2 (sw1 x))))))) 127
/-- the bits of a number below 16 -/
def pop4 (a : Nat) : Nat := a % 2 + a / 2 % 2 + a / 4 % 2 + a / 8 % 2
theorem sw_pop : ∀ a < 16, sw ((a : Nat) : Int) = ((pop4 a : Nat) : Int) := by decide +kernel

set_option maxHeartbeats 400000 in
set_option maxRecDepth 100000 in
theorem ones64_any (x : Int) (w : World) :
    Calls Try.prog 61 #[.int .u64 x] w fun e w' => e = .returned (.int .i64 (sw x)) ∧ w = w' := by
  go_enter Try.func61, Try.ntmps61
  go_wp2
  go_ret
  exact ⟨rfl, rfl⟩

set_option maxHeartbeats 400000 in
set_option maxRecDepth 100000 in
theorem ones_any (x : Int) (w : World) :
    Calls Try.prog 71 #[.int .u64 x] w fun e w' => e = .returned (.int .i64 (sw x)) ∧ w = w' := by
  go_enter Try.func71, Try.ntmps71
  go_wp2_with fail
  refine (ones64_any _ _).mono ?_
  rintro e w1 ⟨rfl, rfl⟩
  go_wp2_with fail
  go_ret
  exact ⟨rfl, rfl⟩

/-- how many combinations a valid cube has -/
def cnt (y n : Nat) : Nat := 2 ^ pop4 (15 - Nat.lor y n)
theorem open16 : ∀ a < 16, ∀ b < 16, bits .andNot .i64 15 (bits .or .i64 ((a : Nat) : Int) ((b : Nat) : Int)) = ((15 - Nat.lor a b : Nat) : Int) := by decide +kernel
theorem pop4_le : ∀ a < 16, pop4 a ≤ 4 := by decide +kernel
theorem wrap_pow : ∀ p < 5, wrap64 (2 ^ p) = ((2 ^ p : Nat) : Int) := by decide +kernel

set_option maxHeartbeats 400000 in
set_option maxRecDepth 100000 in
theorem count_bad (y n : Int) (w : World) (hc : (chk y n == 0) = false) :
    Calls Try.prog 42 #[.agg #[.int .i64 y, .int .i64 n]] w fun e w' => e = .returned (.tuple #[.int .i64 0, .int .i64 (chk y n)]) ∧ Gr w w' := by
  have hc' := bne_of' hc
  go_enter Try.func42, Try.ntmps42
  go_wp2_with fail
  refine (check_any _ _ _).mono ?_
  rintro e w1 ⟨rfl, hb⟩
  go_wp2_with fail
  go_ret2
  exact ⟨rfl, ((Gr.refl _).alloc _).trans hb⟩

set_option maxHeartbeats 400000 in
set_option maxRecDepth 100000 in
theorem count_any (y n : Nat) (w : World) (h : Vld y n) :
    Calls Try.prog 42 #[.agg #[.int .i64 y, .int .i64 n]] w fun e w' => e = .returned (.tuple #[.int .i64 (cnt y n : Nat), .int .i64 0]) ∧ Gr w w' := by
  have hc := h.chk
  have ho := open16 y h.1 n h.2.1
  have hl : 15 - Nat.lor y n < 16 := by omega
  have hs := sw_pop _ hl
  have hp := pop4_le _ hl
  have hw := wrap_pow (pop4 (15 - Nat.lor y n)) (by omega)
  have HW : Hid (wrap64 (2 ^ pop4 (15 - Nat.lor y n)) = ((cnt y n : Nat) : Int)) := hw
  clear hw
  have hu : IntKind.u64.wrap ((15 - Nat.lor y n : Nat) : Int) = ((15 - Nat.lor y n : Nat) : Int) := by
    generalize 15 - Nat.lor y n = a at *
    simp [IntKind.wrap, IntKind.bits, IntKind.signed]
    omega
  generalize cnt y n = c at *
  generalize 15 - Nat.lor y n = a at *
  generalize pop4 a = p at *
  go_enter Try.func42, Try.ntmps42
  go_wp2_with fail
  refine (check_any _ _ _).mono ?_
  rintro e w1 ⟨rfl, hb⟩
  obtain ⟨hbc, hbf⟩ := hb.cells
  go_wp2_with fail
  refine (ones_any _ _).mono ?_
  rintro e w2 ⟨rfl, rfl⟩
  go_wp2_with fail
  go_ret2
  exact ⟨by rw [HW.out]; rfl, ((Gr.refl _).alloc _).trans hb⟩
end Go.Proofs.Ytphcjjhfgpdhcaa
