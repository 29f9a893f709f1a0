/-
  The contract of the document's answer, chapter 2: NextOf.
-/
import Derived.Test.YtjcgbplblmccjacDoorRefPlan
namespace Go.Proofs.YtjcgbplblmccjacDoor
open Go.RowKit

end Go.Proofs.YtjcgbplblmccjacDoor
