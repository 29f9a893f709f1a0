/-
  Contracts of the document's answer, chapter 1: Fine, CrewOf.
-/
import Derived.Test.YtieipnmljbgmbabDoorRef0
import Derived.Test.YtieipnmljbgmbabDoorRefRes
namespace Go.Proofs.YtieipnmljbgmbabDoor
open Go.RowKit

end Go.Proofs.YtieipnmljbgmbabDoor
