/-
  Contracts of package plan: search and Next, whatever the plan, the node and the slot are.
-/
import Derived.Test.YtidheeomahkaeacDoorPlan1
namespace Go.Proofs.YtidheeomahkaeacDoor
open Go.RowKit

end Go.Proofs.YtidheeomahkaeacDoor
