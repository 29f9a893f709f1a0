/-
  DERIVED. GIVEN WITH THE SEED: THE CARDS: each row of YtpnbmepjmmdjoacDoorRows.lean that lists a variable, with what it lists TIED to the program's text (the seventh form; the later family's looks); each row that meets fmt, with fmt's text TOLD by the authors' own Lean function (tested against real Go, not proved from fmt's source: count such statements apart). THE CARD IS WHAT COUNTS. Prove the row's statement (the work); the ties are given (YtpnbmepjmmdjoacDoorTie.lean); close each card by the builder's one call (the guide's Derived/Test/ToyasCard.lean, 'card_holds'). Laid BY PROGRAM, IN A SANDBOX (cutbox-door.mjs). By AI agents, Wed Nov 11 2026. No macro, syntax, notation, axiom, sorry.
-/
import Derived.Test.YtpnbmepjmmdjoacDoorRows
import GoSem.ClaimSeven
namespace Go.Proofs.YtpnbmepjmmdjoacDoor
namespace Rows

/-- THE TIED CARD OF 'bargelocklaw2.BusOne'. -/
def busOneCard : Claim7 := { stood := { row := busOneRow, standIns := [], harness := (true, "a0853086b003414c13d68026983c83d09ac5446c16c0ebda45c884f576f035e7"), looks := true }, kinds := [], alts := [], laidByText := true, laidKinds := [.sentinel, .sentinel, .sentinel, .sentinel, .sentinel], laidTests := true, laidLooks := .later }
def BusOneCardSaid : Prop := Claim7.holds Tryd.pinned (.plain (OpenSpec.ofChange busOneSpec)) busOneCard

/-- THE TIED CARD OF 'bargelocklaw2.BusTells'. -/
def busTellsCard : Claim7 := { stood := { row := busTellsRow, standIns := [], harness := (true, "a0853086b003414c13d68026983c83d09ac5446c16c0ebda45c884f576f035e7"), looks := true }, kinds := [], alts := [], laidByText := true, laidKinds := [.handle, .sentinel, .sentinel, .sentinel, .sentinel, .sentinel, .sentinel, .sentinel, .sentinel, .sentinel, .sentinel, .sentinel], laidTests := true, laidLooks := .later }
def BusTellsCardSaid : Prop := Claim7.holds Tryd.pinned (.plain (OpenSpec.ofChange busTellsSpec)) busTellsCard

/-- THE SECOND FORM's CARD OF 'bargelocklaw2.BusOne'. -/
def busOneUptoCard : Claim7 := { stood := { row := busOneUptoRow, standIns := [], harness := (true, "a0853086b003414c13d68026983c83d09ac5446c16c0ebda45c884f576f035e7"), looks := true }, kinds := [], alts := [], laidByText := true, laidKinds := [.sentinel, .sentinel, .sentinel, .sentinel, .sentinel], laidTests := true, laidLooks := .later }
def BusOneUptoCardSaid : Prop := Claim7.holds Tryd.pinned (.plain (OpenSpec.upto busOneSpec)) busOneUptoCard

/-- THE SECOND FORM's CARD OF 'bargelocklaw2.BusTells'. -/
def busTellsUptoCard : Claim7 := { stood := { row := busTellsUptoRow, standIns := [], harness := (true, "a0853086b003414c13d68026983c83d09ac5446c16c0ebda45c884f576f035e7"), looks := true }, kinds := [], alts := [], laidByText := true, laidKinds := [.handle, .sentinel, .sentinel, .sentinel, .sentinel, .sentinel, .sentinel, .sentinel, .sentinel, .sentinel, .sentinel, .sentinel], laidTests := true, laidLooks := .later }
def BusTellsUptoCardSaid : Prop := Claim7.holds Tryd.pinned (.plain (OpenSpec.upto busTellsSpec)) busTellsUptoCard
end Rows
end Go.Proofs.YtpnbmepjmmdjoacDoor
