/-
  Contracts of package plan: search and Next, whatever the plan, the node and the slot are.
-/
import Derived.Test.YtmjkpeanfjfbbacDoorPlan1
namespace Go.Proofs.YtmjkpeanfjfbbacDoor
open Go.RowKit

end Go.Proofs.YtmjkpeanfjfbbacDoor
