/-
  Contracts of the document's answer, chapter 1: Fine, CrewOf.
-/
import Derived.Test.YtmjkpeanfjfbbabDoorRef0
import Derived.Test.YtmjkpeanfjfbbabDoorRefRes
namespace Go.Proofs.YtmjkpeanfjfbbabDoor
open Go.RowKit

end Go.Proofs.YtmjkpeanfjfbbabDoor
