/-
  The contract of the document's answer, chapter 2: NextOf.
-/
import Derived.Test.YtglhapkclpllfacDoorRefPlan
namespace Go.Proofs.YtglhapkclpllfacDoor
open Go.RowKit

end Go.Proofs.YtglhapkclpllfacDoor
