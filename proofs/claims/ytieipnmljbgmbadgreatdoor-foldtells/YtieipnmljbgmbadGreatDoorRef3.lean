/-
  Contracts of the document's answer: CrewText.
-/
import Derived.Test.YtieipnmljbgmbadGreatDoorRef1
import Derived.Test.YtieipnmljbgmbadGreatDoorRefDec
namespace Go.Proofs.YtieipnmljbgmbadGreatDoor
open Go.RowKit

end Go.Proofs.YtieipnmljbgmbadGreatDoor
