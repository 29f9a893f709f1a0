/-
  Contracts of package plan: search and Next, whatever the plan, the node and the slot are.
-/
import Derived.Test.YtieipnmljbgmbacDoorPlan1
namespace Go.Proofs.YtieipnmljbgmbacDoor
open Go.RowKit

end Go.Proofs.YtieipnmljbgmbacDoor
