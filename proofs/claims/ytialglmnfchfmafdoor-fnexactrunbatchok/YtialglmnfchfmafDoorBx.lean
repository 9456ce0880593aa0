/- Structs in blocks of their own: their cells, copied, kept, handed back. -/
import Derived.Test.YtialglmnfchfmafDoorGx
import Derived.Test.YtialglmnfchfmafDoorPr
import Derived.Test.YtialglmnfchfmafDoorWa
namespace Go.Proofs.YtialglmnfchfmafDoor
open Go.RowKit

theorem sizeP : (Tryd.prog.info? 43).map (·.size) = some 8 := by kernel_rfl
end Go.Proofs.YtialglmnfchfmafDoor
