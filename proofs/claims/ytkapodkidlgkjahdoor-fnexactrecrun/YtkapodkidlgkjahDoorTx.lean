/- Lists of texts: handed about, of one's own. -/
import Derived.Test.YtkapodkidlgkjahDoorGx
import Derived.Test.YtkapodkidlgkjahDoorRg
import Derived.Test.YtkapodkidlgkjahDoorWx
namespace Go.Proofs.YtkapodkidlgkjahDoor
open Go.RowKit

end Go.Proofs.YtkapodkidlgkjahDoor
