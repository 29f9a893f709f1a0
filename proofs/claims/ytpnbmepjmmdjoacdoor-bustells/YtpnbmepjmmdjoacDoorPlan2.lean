/-
  Contracts of package plan: search and Next, whatever the plan, the node and the slot are.
-/
import Derived.Test.YtpnbmepjmmdjoacDoorPlan1
namespace Go.Proofs.YtpnbmepjmmdjoacDoor
open Go.RowKit

end Go.Proofs.YtpnbmepjmmdjoacDoor
