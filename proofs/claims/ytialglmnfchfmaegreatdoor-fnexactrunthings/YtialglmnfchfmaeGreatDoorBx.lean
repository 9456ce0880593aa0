/- Structs in blocks of their own: their cells, copied, kept, handed back. -/
import Derived.Test.YtialglmnfchfmaeGreatDoorGx
import Derived.Test.YtialglmnfchfmaeGreatDoorPr
import Derived.Test.YtialglmnfchfmaeGreatDoorWa
namespace Go.Proofs.YtialglmnfchfmaeGreatDoor
open Go.RowKit

theorem sizeP : (Tryz.prog.info? 115).map (·.size) = some 8 := by kernel_rfl
end Go.Proofs.YtialglmnfchfmaeGreatDoor
