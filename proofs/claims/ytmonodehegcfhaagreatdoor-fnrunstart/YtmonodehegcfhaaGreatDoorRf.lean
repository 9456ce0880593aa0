/- A loop over a function, by its record: what a round owes, out of its body's walk; the statement, with the record told. -/
import Derived.RangeFuncNested
import Derived.RangeFuncBound
import Derived.RangeFuncCalls
import Derived.RangeFuncLeaves
import Derived.RangeFuncBox
namespace Go.Proofs.YtmonodehegcfhaaGreatDoor
open Go Go.RowKit
variable {F:Fence} {m:Nat} {P:Program}
def RX(a:Act)(w:World)(fn:FuncId)(ps:Array Tmp)(assign body:Code):Loop:={state:=.ready,pending:=none,fn,tmps:=a.tmps,params:=ps,assign,body,defers:=w.heap.size}
end Go.Proofs.YtmonodehegcfhaaGreatDoor
