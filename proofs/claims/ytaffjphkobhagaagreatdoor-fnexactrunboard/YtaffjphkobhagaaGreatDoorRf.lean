/- A loop over a function, by its record: what a round owes, out of its body's walk; the statement, with the record told. -/
import Derived.Test.YtaffjphkobhagaaGreatDoorQ0
import Derived.RangeFuncNested
import Derived.RangeFuncBound
namespace Go.Proofs.YtaffjphkobhagaaGreatDoor
open Go Go.RowKit
variable {F:Fence} {m:Nat} {P:Program}
end Go.Proofs.YtaffjphkobhagaaGreatDoor
