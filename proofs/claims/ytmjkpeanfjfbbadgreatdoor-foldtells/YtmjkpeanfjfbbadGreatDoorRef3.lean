/-
  Contracts of the document's answer: CrewText.
-/
import Derived.Test.YtmjkpeanfjfbbadGreatDoorRef1
import Derived.Test.YtmjkpeanfjfbbadGreatDoorRefDec
namespace Go.Proofs.YtmjkpeanfjfbbadGreatDoor
open Go.RowKit

end Go.Proofs.YtmjkpeanfjfbbadGreatDoor
