/-
  Contracts of the document's answer: CrewText.
-/
import Derived.Test.YtglhapkclpllfadGreatDoorRef1
import Derived.Test.YtglhapkclpllfadGreatDoorRefDec
namespace Go.Proofs.YtglhapkclpllfadGreatDoor
open Go.RowKit

end Go.Proofs.YtglhapkclpllfadGreatDoor
