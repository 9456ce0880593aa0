/- The program's chapter 13: a batch taken out of a row (slices.Delete). -/
import Derived.Test.YtmfjakieahkacaaGreatDoorJ11
namespace Go.Proofs.YtmfjakieahkacaaGreatDoor
open Go.RowKit
end Go.Proofs.YtmfjakieahkacaaGreatDoor
