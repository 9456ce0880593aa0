/- The functions that the law of who moves calls, the going ones apart. -/
import Derived.Test.YtafgabakhaipnaaProg
import Derived.Test.YtafgabakhaipnaaJ9
namespace Go.Proofs.Ytafgabakhaipnaa
open Go.Conc
def fsW : List Nat := [4, 5, 6, 8, 9, 10, 11, 12, 13, 14, 15, 16, 17, 18, 19, 20, 23, 24, 25, 26, 27, 28, 29, 30, 31, 32, 33, 34, 35, 36, 37, 39, 40, 41, 42, 43, 44, 51, 52, 53, 74]
set_option maxRecDepth 100000 in
theorem setW : SetOk Try.prog (fun g => fsW.contains g) := setOk_of (by kernel_rfl)
end Go.Proofs.Ytafgabakhaipnaa
