/-
  Contracts of the document's answer, chapter 1: Fine, CrewOf.
-/
import Derived.Test.YtglhapkclpllfabDoorRef0
import Derived.Test.YtglhapkclpllfabDoorRefRes
namespace Go.Proofs.YtglhapkclpllfabDoor
open Go.RowKit

end Go.Proofs.YtglhapkclpllfabDoor
