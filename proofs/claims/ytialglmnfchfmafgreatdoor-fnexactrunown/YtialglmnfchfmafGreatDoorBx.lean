/- Structs in blocks of their own: their cells, copied, kept, handed back. -/
import Derived.Test.YtialglmnfchfmafGreatDoorGx
import Derived.Test.YtialglmnfchfmafGreatDoorPr
import Derived.Test.YtialglmnfchfmafGreatDoorWa
namespace Go.Proofs.YtialglmnfchfmafGreatDoor
open Go.RowKit

theorem sizeP : (Tryz.prog.info? 65).map (·.size) = some 8 := by kernel_rfl
end Go.Proofs.YtialglmnfchfmafGreatDoor
