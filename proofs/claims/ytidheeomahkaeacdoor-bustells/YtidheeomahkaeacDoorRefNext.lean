/-
  The contract of the document's answer, chapter 2: NextOf.
-/
import Derived.Test.YtidheeomahkaeacDoorRefPlan
namespace Go.Proofs.YtidheeomahkaeacDoor
open Go.RowKit

end Go.Proofs.YtidheeomahkaeacDoor
