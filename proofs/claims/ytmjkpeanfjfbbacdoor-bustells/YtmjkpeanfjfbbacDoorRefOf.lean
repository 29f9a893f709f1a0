/-
  Contracts of the document's answer, chapter 1: Fine, CrewOf.
-/
import Derived.Test.YtmjkpeanfjfbbacDoorRef0
import Derived.Test.YtmjkpeanfjfbbacDoorRefRes
namespace Go.Proofs.YtmjkpeanfjfbbacDoor
open Go.RowKit

end Go.Proofs.YtmjkpeanfjfbbacDoor
