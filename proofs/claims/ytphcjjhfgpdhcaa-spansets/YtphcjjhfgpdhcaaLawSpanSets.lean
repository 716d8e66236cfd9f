/- The walk of SpanSets, whole. -/
import Derived.Test.YtphcjjhfgpdhcaaSetsBad
import Derived.Test.YtphcjjhfgpdhcaaSetsOk
namespace Go.Proofs.Ytphcjjhfgpdhcaa
open Go.RowKit Rm
set_option linter.unusedVariables false
theorem spanSets_walk {w : World} (v : Value) (l : List (Int × Int)) (hl : Rd2 w v l) (v' : Value) (r : List (Int × Int)) (hr : Rd2 w v' r) :
    Calls Try.prog 14 #[v, v'] w fun e w' => e = .returned (.bool true) ∧ Gr w w' := by
  cases h1 : (chkS l == 0)
  · exact spanSets_bad1 v v' l r w hl hr h1
  · cases h2 : (chkS r == 0)
    · exact spanSets_bad2 v v' l r w hl hr h1 h2
    · have hc : chkS2 l r = 0 := by
        unfold chkS2
        rw [if_pos h1]
        simpa using h2
      obtain ⟨L, R, rfl, rfl, vL, vR⟩ := valid2_of hc
      exact spanSets_ok v v' (maskL L) (maskL R) w (MS.of hl vL) (MS.of hr vR)
end Go.Proofs.Ytphcjjhfgpdhcaa
