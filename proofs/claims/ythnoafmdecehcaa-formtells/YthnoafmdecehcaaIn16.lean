/- Is a combination in a cube? -/
import Derived.Test.YthnoafmdecehcaaPure
namespace Rm
open Go Go.RowKit

/-- is a combination in a cube? -/
def in16 (y n t : Nat) : Bool := (Nat.land y t == y) && (Nat.land n t == 0)
end Rm
