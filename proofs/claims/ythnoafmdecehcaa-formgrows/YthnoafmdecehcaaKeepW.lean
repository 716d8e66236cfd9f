/- The contract of the statements' Within. -/
import Derived.Test.YthnoafmdecehcaaSpanA
import Derived.RegionTactic
import Derived.LoopTactic
namespace Go.Proofs.Ythnoafmdecehcaa
open Go.RowKit Rm

/-- the remainder that Within answers -/
def remB (k n : Int) : Int := (k % 18446744073709551616) % n
theorem rem_lt (k n : Int) (hn : 0 < n) : 0 ≤ remB k n ∧ remB k n < n := by
  unfold remB
  exact ⟨Int.emod_nonneg _ (by omega), Int.emod_lt_of_pos _ hn⟩
theorem ret_int {k : IntKind} {a b : Int} (h : a = b) : Ending.returned (.int k a) = .returned (.int k b) := by rw [h]
theorem rem_eq (k n : Int) (hn : 0 < n) (hn' : n < 1000000) : wrap64 ((IntKind.u64.wrap k).tmod n) = remB k n := by
  have e : IntKind.u64.wrap k = k % 18446744073709551616 := by simp [IntKind.wrap, IntKind.bits, IntKind.signed]
  rw [e, Int.tmod_eq_emod_of_nonneg (by omega)]
  have h := rem_lt k n hn
  unfold remB at *
  unfold wrap64
  omega

set_option maxHeartbeats 400000 in
set_option maxRecDepth 100000 in
theorem keepWithin_any (k n : Int) (hn : 0 < n) (hn' : n < 1000000) (w : World) :
    Calls Try.prog 25 #[.int .i64 k, .int .i64 n] w fun e w' => e = .returned (.int .i64 (remB k n)) ∧ w = w' := by
  go_enter Try.func25, Try.ntmps25
  go_wp2
  go_ret
  exact ⟨ret_int (rem_eq k n hn hn'), rfl⟩

end Go.Proofs.Ythnoafmdecehcaa
