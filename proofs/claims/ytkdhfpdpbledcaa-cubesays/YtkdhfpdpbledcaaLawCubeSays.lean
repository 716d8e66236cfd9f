/- The walk of CubeSays, whole. -/
import Derived.Test.YtkdhfpdpbledcaaSaysBad
import Derived.Test.YtkdhfpdpbledcaaSaysHalf
import Derived.Test.YtkdhfpdpbledcaaSaysApartNeg
import Derived.Test.YtkdhfpdpbledcaaSaysApartBig
import Derived.Test.YtkdhfpdpbledcaaSaysApartIn
import Derived.Test.YtkdhfpdpbledcaaSaysMeetNeg
import Derived.Test.YtkdhfpdpbledcaaSaysMeetBig
import Derived.Test.YtkdhfpdpbledcaaSaysMeetIn
namespace Go.Proofs.Ytkdhfpdpbledcaa
open Go.RowKit Rm
set_option linter.unusedVariables false
theorem cubeSays_walk (y n y' n' t : Int) (wt : (Lit.int .i64 t).wf = true) (w : World) :
    Calls Try.prog 5 #[.agg #[.int .i64 y, .int .i64 n], .agg #[.int .i64 y', .int .i64 n'], .int .i64 t] w fun e w' => e = .returned (.bool true) ∧ Gr w w' := by
  cases h1 : (chk y n == 0)
  · exact cubeSays_bad y n y' n' t w h1
  · obtain ⟨a, b, vx, rfl, rfl⟩ := Vld.of (show chk y n = 0 by simpa using h1)
    by_cases t1 : t < 0
    · cases h2 : (chk y' n' == 0)
      · exact cubeSays_bad_neg a b vx y' n' h2 t t1 w
      · obtain ⟨c, d, vy, rfl, rfl⟩ := Vld.of (show chk y' n' = 0 by simpa using h2)
        cases ha : apartB a b c d
        · exact cubeSays_meet_neg a b vx c d vy ha t t1 w
        · exact cubeSays_apart_neg a b vx c d vy ha t t1 w
    · by_cases t2 : 15 < t
      · cases h2 : (chk y' n' == 0)
        · exact cubeSays_bad_big a b vx y' n' h2 t t2 w
        · obtain ⟨c, d, vy, rfl, rfl⟩ := Vld.of (show chk y' n' = 0 by simpa using h2)
          cases ha : apartB a b c d
          · exact cubeSays_meet_big a b vx c d vy ha t t2 w
          · exact cubeSays_apart_big a b vx c d vy ha t t2 w
      · obtain ⟨k, rfl⟩ := Int.eq_ofNat_of_zero_le (show 0 ≤ t by omega)
        have hk : k < 16 := by omega
        cases h2 : (chk y' n' == 0)
        · exact cubeSays_bad_in a b vx y' n' h2 k hk w
        · obtain ⟨c, d, vy, rfl, rfl⟩ := Vld.of (show chk y' n' = 0 by simpa using h2)
          cases ha : apartB a b c d
          · exact cubeSays_meet_in a b vx c d vy ha k hk w
          · exact cubeSays_apart_in a b vx c d vy ha k hk w
end Go.Proofs.Ytkdhfpdpbledcaa
