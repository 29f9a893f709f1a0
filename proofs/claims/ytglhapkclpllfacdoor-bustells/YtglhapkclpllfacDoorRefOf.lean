/-
  Contracts of the document's answer, chapter 1: Fine, CrewOf.
-/
import Derived.Test.YtglhapkclpllfacDoorRef0
import Derived.Test.YtglhapkclpllfacDoorRefRes
namespace Go.Proofs.YtglhapkclpllfacDoor
open Go.RowKit

end Go.Proofs.YtglhapkclpllfacDoor
