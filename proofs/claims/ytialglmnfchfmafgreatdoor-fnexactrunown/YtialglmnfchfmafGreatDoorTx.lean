/- Lists of texts: handed about, of one's own. -/
import Derived.Test.YtialglmnfchfmafGreatDoorGx
import Derived.Test.YtialglmnfchfmafGreatDoorRg
import Derived.Test.YtialglmnfchfmafGreatDoorWx
namespace Go.Proofs.YtialglmnfchfmafGreatDoor
open Go.RowKit

end Go.Proofs.YtialglmnfchfmafGreatDoor
