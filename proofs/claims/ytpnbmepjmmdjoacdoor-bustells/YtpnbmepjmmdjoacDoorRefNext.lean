/-
  The contract of the document's answer, chapter 2: NextOf.
-/
import Derived.Test.YtpnbmepjmmdjoacDoorRefPlan
namespace Go.Proofs.YtpnbmepjmmdjoacDoor
open Go.RowKit

end Go.Proofs.YtpnbmepjmmdjoacDoor
