/- A loop over a function whose body may return, and whose function may end by itself. -/
import Derived.Test.YtaffjphkobhagaaGreatDoorRf
namespace Go.Proofs.YtaffjphkobhagaaGreatDoor
open Go Go.RowKit
variable {F:Fence} {m:Nat} {P:Program}
end Go.Proofs.YtaffjphkobhagaaGreatDoor
