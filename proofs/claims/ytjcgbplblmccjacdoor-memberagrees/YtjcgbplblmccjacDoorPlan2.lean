/-
  Contracts of package plan: search and Next, whatever the plan, the node and the slot are.
-/
import Derived.Test.YtjcgbplblmccjacDoorPlan1
namespace Go.Proofs.YtjcgbplblmccjacDoor
open Go.RowKit

end Go.Proofs.YtjcgbplblmccjacDoor
