/- The walk of FilterSets, whole. -/
import Derived.Test.YtphcjjhfgpdhcaaFSetsBad
import Derived.Test.YtphcjjhfgpdhcaaFSetsOk
namespace Go.Proofs.Ytphcjjhfgpdhcaa
open Go.RowKit Rm
set_option linter.unusedVariables false
theorem filterSets_walk (v : Value) (l : List BoxI) (v' : Value) (r : List BoxI) (w : World) (hl : RdF w v l) (hr : RdF w v' r) :
    Calls Try.prog 4 #[v, v'] w fun e w' => e = .returned (.bool true) ∧ Gr w w' := by
  cases h1 : (chkF l == 0)
  · exact filterSets_bad1 v v' l r w hl hr h1
  · cases h2 : (chkF r == 0)
    · exact filterSets_bad2 v v' l r w hl hr h1 h2
    · obtain ⟨T, a, b⟩ := fs_of hl h1
      obtain ⟨U, c, d⟩ := fs_of hr h2
      exact filterSets_ok v v' T U w a c b d
end Go.Proofs.Ytphcjjhfgpdhcaa
