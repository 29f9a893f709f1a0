/-
  The contract of the document's answer, chapter 2: NextOf.
-/
import Derived.Test.YtmjkpeanfjfbbacDoorRefPlan
namespace Go.Proofs.YtmjkpeanfjfbbacDoor
open Go.RowKit

end Go.Proofs.YtmjkpeanfjfbbacDoor
