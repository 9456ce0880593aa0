/- Lists of texts: handed about, of one's own. -/
import Derived.Test.YtialglmnfchfmaeGreatDoorGx
import Derived.Test.YtialglmnfchfmaeGreatDoorRg
import Derived.Test.YtialglmnfchfmaeGreatDoorWx
namespace Go.Proofs.YtialglmnfchfmaeGreatDoor
open Go.RowKit

end Go.Proofs.YtialglmnfchfmaeGreatDoor
