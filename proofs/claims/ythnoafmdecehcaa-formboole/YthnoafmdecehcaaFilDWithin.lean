/- The contract of package filter's combine, as Within calls it. -/
import Derived.Test.YthnoafmdecehcaaFilD
namespace Go.Proofs.Ythnoafmdecehcaa
open Go.RowKit Rm
set_option linter.unusedVariables false

end Go.Proofs.Ythnoafmdecehcaa
