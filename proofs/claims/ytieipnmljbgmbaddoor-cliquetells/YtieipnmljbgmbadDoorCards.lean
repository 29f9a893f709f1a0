/-
  DERIVED. GIVEN WITH THE SEED: THE CARDS: each row of YtieipnmljbgmbadDoorRows.lean that lists a variable, with what it lists TIED to the program's text (the seventh form; the later family's looks); each row that meets fmt, with fmt's text TOLD by the authors' own Lean function (tested against real Go, not proved from fmt's source: count such statements apart). THE CARD IS WHAT COUNTS. Prove the row's statement (the work); the ties are given (YtieipnmljbgmbadDoorTie.lean); close each card by the builder's one call (the guide's Derived/Test/ToyasCard.lean, 'card_holds'). Laid BY PROGRAM, IN A SANDBOX (cutbox-door.mjs). By AI agents, Wed Nov 11 2026. No macro, syntax, notation, axiom, sorry.
-/
import Derived.Test.YtieipnmljbgmbadDoorRows
import GoSem.ClaimSeven
namespace Go.Proofs.YtieipnmljbgmbadDoor
namespace Rows

/-- THE TIED CARD OF 'bargelocklaw2.CliqueTells'. -/
def cliqueTellsCard : Claim7 := { stood := { row := cliqueTellsRow, standIns := [], harness := (true, "ecbef25b036e16a938d6e94d735f3c55ace2f4e8cacf049d141851742c888f9e"), looks := true }, kinds := [], alts := [], laidByText := true, laidKinds := [.handle, .sentinel, .sentinel, .sentinel, .sentinel, .sentinel, .sentinel, .sentinel, .sentinel, .sentinel, .sentinel, .sentinel], laidTests := true, laidLooks := .later }
def CliqueTellsCardSaid : Prop := Claim7.holds Tryd.pinned (.plain (OpenSpec.ofChange cliqueTellsSpec)) cliqueTellsCard

/-- THE TIED CARD OF 'bargelocklaw2.FoldBack'. -/
def foldBackCard : Claim7 := { stood := { row := foldBackRow, standIns := [], harness := (true, "ecbef25b036e16a938d6e94d735f3c55ace2f4e8cacf049d141851742c888f9e"), looks := true }, kinds := [], alts := [], laidByText := true, laidKinds := [.data, .data, .data, .data, .sentinel, .sentinel, .sentinel, .sentinel, .sentinel, .sentinel, .sentinel, .sentinel, .pinned], laidTests := true, laidLooks := .later }
def FoldBackCardSaid : Prop := Claim7.holds Tryd.pinned (.plain (OpenSpec.ofChange foldBackSpec)) foldBackCard

/-- THE SECOND FORM's CARD OF 'bargelocklaw2.CliqueTells'. -/
def cliqueTellsUptoCard : Claim7 := { stood := { row := cliqueTellsUptoRow, standIns := [], harness := (true, "ecbef25b036e16a938d6e94d735f3c55ace2f4e8cacf049d141851742c888f9e"), looks := true }, kinds := [], alts := [], laidByText := true, laidKinds := [.handle, .sentinel, .sentinel, .sentinel, .sentinel, .sentinel, .sentinel, .sentinel, .sentinel, .sentinel, .sentinel, .sentinel], laidTests := true, laidLooks := .later }
def CliqueTellsUptoCardSaid : Prop := Claim7.holds Tryd.pinned (.plain (OpenSpec.upto cliqueTellsSpec)) cliqueTellsUptoCard

/-- THE SECOND FORM's CARD OF 'bargelocklaw2.FoldBack'. -/
def foldBackUptoCard : Claim7 := { stood := { row := foldBackUptoRow, standIns := [], harness := (true, "ecbef25b036e16a938d6e94d735f3c55ace2f4e8cacf049d141851742c888f9e"), looks := true }, kinds := [], alts := [], laidByText := true, laidKinds := [.data, .data, .data, .data, .sentinel, .sentinel, .sentinel, .sentinel, .sentinel, .sentinel, .sentinel, .sentinel, .pinned], laidTests := true, laidLooks := .later }
def FoldBackUptoCardSaid : Prop := Claim7.holds Tryd.pinned (.plain (OpenSpec.upto foldBackSpec)) foldBackUptoCard
end Rows
end Go.Proofs.YtieipnmljbgmbadDoor
