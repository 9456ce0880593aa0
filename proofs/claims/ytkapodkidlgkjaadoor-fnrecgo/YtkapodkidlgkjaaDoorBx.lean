/- Structs in blocks of their own: their cells, copied, kept, handed back. -/
import Derived.Test.YtkapodkidlgkjaaDoorGx
import Derived.Test.YtkapodkidlgkjaaDoorPr
import Derived.Test.YtkapodkidlgkjaaDoorWa
namespace Go.Proofs.YtkapodkidlgkjaaDoor
open Go.RowKit

theorem sizeP : (Tryd.prog.info? 32).map (·.size) = some 8 := by kernel_rfl
end Go.Proofs.YtkapodkidlgkjaaDoor
