/- The program's RunHouseOk (chapter 22). -/
import Derived.Test.YtaffjphkobhagaaGreatDoorV6
namespace Go.Proofs.YtaffjphkobhagaaGreatDoor
open Go.RowKit
def Pv(h:House)(j:Nat):Prop:=match j with
 | 0=>Dt h
 | 1=>N0 h
 | 2=>BE h.sh
 | 3=>Be h
 | 4=>CW h
 | 5=>CX h h.bs.length
 | _=>Cm h h.bs.length
theorem Pw(h:House):F2 h↔∀j,j<7->Pv h j:=by
 constructor
 .rintro⟨t0,t1,t2,t3,t4,t5,t6⟩ j hj;match j,hj with
  | 0,_=>exact t0
  | 1,_=>exact t1
  | 2,_=>exact t2
  | 3,_=>exact t3
  | 4,_=>exact t4
  | 5,_=>exact t5
  | 6,_=>exact t6
 .intro t;exact⟨t 0 oM,t 1 oM,t 2 oM,t 3 oM,t 4 oM,t 5 oM,t 6 oM⟩
end Go.Proofs.YtaffjphkobhagaaGreatDoor
