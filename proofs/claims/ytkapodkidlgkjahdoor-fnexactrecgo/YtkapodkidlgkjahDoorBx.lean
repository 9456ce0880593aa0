/- Structs in blocks of their own: their cells, copied, kept, handed back. -/
import Derived.Test.YtkapodkidlgkjahDoorGx
import Derived.Test.YtkapodkidlgkjahDoorPr
import Derived.Test.YtkapodkidlgkjahDoorWa
namespace Go.Proofs.YtkapodkidlgkjahDoor
open Go.RowKit

theorem sizeP : (Tryd.prog.info? 63).map (·.size) = some 8 := by kernel_rfl
end Go.Proofs.YtkapodkidlgkjahDoor
