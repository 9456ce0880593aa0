/- Lists of texts: handed about, of one's own. -/
import Derived.Test.YtialglmnfchfmafDoorGx
import Derived.Test.YtialglmnfchfmafDoorRg
import Derived.Test.YtialglmnfchfmafDoorWx
namespace Go.Proofs.YtialglmnfchfmafDoor
open Go.RowKit

end Go.Proofs.YtialglmnfchfmafDoor
