/-
  DERIVED. GIVEN WITH THE SEED: THE CARDS: each row of YtjcgbplblmccjadDoorRows.lean that lists a variable, with what it lists TIED to the program's text (the seventh form; the later family's looks); each row that meets fmt, with fmt's text TOLD by the authors' own Lean function (tested against real Go, not proved from fmt's source: count such statements apart). THE CARD IS WHAT COUNTS. Prove the row's statement (the work); the ties are given (YtjcgbplblmccjadDoorTie.lean); close each card by the builder's one call (the guide's Derived/Test/ToyasCard.lean, 'card_holds'). Laid BY PROGRAM, IN A SANDBOX (cutbox-door.mjs). By AI agents, Wed Nov 11 2026. No macro, syntax, notation, axiom, sorry.
-/
import Derived.Test.YtjcgbplblmccjadDoorRows
import GoSem.ClaimSeven
namespace Go.Proofs.YtjcgbplblmccjadDoor
namespace Rows

/-- THE TIED CARD OF 'bargelocklaw2.CliqueTells'. -/
def cliqueTellsCard : Claim7 := { stood := { row := cliqueTellsRow, standIns := [], harness := (true, "b198e6c3cae4c2b8977483aaee647574ca040d3143f67418259f5bb968d8f215"), looks := true }, kinds := [], alts := [], laidByText := true, laidKinds := [.handle, .sentinel, .sentinel, .sentinel, .sentinel, .sentinel, .sentinel, .sentinel, .sentinel, .sentinel, .sentinel, .sentinel], laidTests := true, laidLooks := .later }
def CliqueTellsCardSaid : Prop := Claim7.holds Tryd.pinned (.plain (OpenSpec.ofChange cliqueTellsSpec)) cliqueTellsCard

/-- THE SECOND FORM's CARD OF 'bargelocklaw2.CliqueTells'. -/
def cliqueTellsUptoCard : Claim7 := { stood := { row := cliqueTellsUptoRow, standIns := [], harness := (true, "b198e6c3cae4c2b8977483aaee647574ca040d3143f67418259f5bb968d8f215"), looks := true }, kinds := [], alts := [], laidByText := true, laidKinds := [.handle, .sentinel, .sentinel, .sentinel, .sentinel, .sentinel, .sentinel, .sentinel, .sentinel, .sentinel, .sentinel, .sentinel], laidTests := true, laidLooks := .later }
def CliqueTellsUptoCardSaid : Prop := Claim7.holds Tryd.pinned (.plain (OpenSpec.upto cliqueTellsSpec)) cliqueTellsUptoCard
end Rows
end Go.Proofs.YtjcgbplblmccjadDoor
