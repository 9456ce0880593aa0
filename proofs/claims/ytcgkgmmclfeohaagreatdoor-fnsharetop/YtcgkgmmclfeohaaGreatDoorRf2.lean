/- A loop over a function whose body may return, and whose function may end by itself. -/
import Derived.Test.YtcgkgmmclfeohaaGreatDoorRf
namespace Go.Proofs.YtcgkgmmclfeohaaGreatDoor
open Go Go.RowKit
variable {F:Fence} {m:Nat} {P:Program}
end Go.Proofs.YtcgkgmmclfeohaaGreatDoor
