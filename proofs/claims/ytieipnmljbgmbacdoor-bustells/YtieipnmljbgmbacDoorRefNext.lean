/-
  The contract of the document's answer, chapter 2: NextOf.
-/
import Derived.Test.YtieipnmljbgmbacDoorRefPlan
namespace Go.Proofs.YtieipnmljbgmbacDoor
open Go.RowKit

end Go.Proofs.YtieipnmljbgmbacDoor
