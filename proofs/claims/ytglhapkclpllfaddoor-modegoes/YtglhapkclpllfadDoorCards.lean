/-
  DERIVED. GIVEN WITH THE SEED: THE CARDS: each row of YtglhapkclpllfadDoorRows.lean that lists a variable, with what it lists TIED to the program's text (the seventh form; the later family's looks); each row that meets fmt, with fmt's text TOLD by the authors' own Lean function (tested against real Go, not proved from fmt's source: count such statements apart). THE CARD IS WHAT COUNTS. Prove the row's statement (the work); the ties are given (YtglhapkclpllfadDoorTie.lean); close each card by the builder's one call (the guide's Derived/Test/ToyasCard.lean, 'card_holds'). Laid BY PROGRAM, IN A SANDBOX (cutbox-door.mjs). By AI agents, Wed Nov 11 2026. No macro, syntax, notation, axiom, sorry.
-/
import Derived.Test.YtglhapkclpllfadDoorRows
import GoSem.ClaimSeven
namespace Go.Proofs.YtglhapkclpllfadDoor
namespace Rows

/-- THE TIED CARD OF 'bargelocklaw2.CliqueTells'. -/
def cliqueTellsCard : Claim7 := { stood := { row := cliqueTellsRow, standIns := [], harness := (true, "d72a36e35e213e6ba657864b14bda7a93ce7b8ecbe057ed1226a0e4758b5f86e"), looks := true }, kinds := [], alts := [], laidByText := true, laidKinds := [.handle, .sentinel, .sentinel, .sentinel, .sentinel, .sentinel, .sentinel, .sentinel, .sentinel, .sentinel, .sentinel, .sentinel], laidTests := true, laidLooks := .later }
def CliqueTellsCardSaid : Prop := Claim7.holds Tryd.pinned (.plain (OpenSpec.ofChange cliqueTellsSpec)) cliqueTellsCard

/-- THE TIED CARD OF 'bargelocklaw2.FoldBack'. -/
def foldBackCard : Claim7 := { stood := { row := foldBackRow, standIns := [], harness := (true, "d72a36e35e213e6ba657864b14bda7a93ce7b8ecbe057ed1226a0e4758b5f86e"), looks := true }, kinds := [], alts := [], laidByText := true, laidKinds := [.data, .data, .data, .data, .sentinel, .sentinel, .sentinel, .sentinel, .sentinel, .sentinel, .sentinel, .sentinel, .pinned], laidTests := true, laidLooks := .later }
def FoldBackCardSaid : Prop := Claim7.holds Tryd.pinned (.plain (OpenSpec.ofChange foldBackSpec)) foldBackCard

/-- THE TIED CARD OF 'bargelocklaw2.DeltaWhole'. -/
def deltaWholeCard : Claim7 := { stood := { row := deltaWholeRow, standIns := [], harness := (true, "d72a36e35e213e6ba657864b14bda7a93ce7b8ecbe057ed1226a0e4758b5f86e"), looks := true }, kinds := [], alts := [], laidByText := true, laidKinds := [.sentinel, .sentinel, .sentinel, .sentinel, .sentinel], laidTests := true, laidLooks := .later }
def DeltaWholeCardSaid : Prop := Claim7.holds Tryd.pinned (.plain (OpenSpec.ofChange deltaWholeSpec)) deltaWholeCard

/-- THE TIED CARD OF 'bargelocklaw2.DeltaTells'. -/
def deltaTellsCard : Claim7 := { stood := { row := deltaTellsRow, standIns := [], harness := (true, "d72a36e35e213e6ba657864b14bda7a93ce7b8ecbe057ed1226a0e4758b5f86e"), looks := true }, kinds := [], alts := [], laidByText := true, laidKinds := [.handle, .sentinel, .sentinel, .sentinel, .sentinel, .sentinel, .sentinel, .sentinel, .sentinel, .sentinel, .sentinel, .sentinel], laidTests := true, laidLooks := .later }
def DeltaTellsCardSaid : Prop := Claim7.holds Tryd.pinned (.plain (OpenSpec.ofChange deltaTellsSpec)) deltaTellsCard

/-- THE TIED CARD OF 'bargelocklaw2.ModeGoes'. -/
def modeGoesCard : Claim7 := { stood := { row := modeGoesRow, standIns := [], harness := (true, "d72a36e35e213e6ba657864b14bda7a93ce7b8ecbe057ed1226a0e4758b5f86e"), looks := true }, kinds := [], alts := [], laidByText := true, laidKinds := [.handle, .sentinel, .sentinel, .sentinel, .sentinel, .sentinel, .sentinel, .sentinel, .sentinel, .sentinel, .sentinel, .sentinel], laidTests := true, laidLooks := .later }
def ModeGoesCardSaid : Prop := Claim7.holds Tryd.pinned (.plain (OpenSpec.ofChange modeGoesSpec)) modeGoesCard

/-- THE SECOND FORM's CARD OF 'bargelocklaw2.CliqueTells'. -/
def cliqueTellsUptoCard : Claim7 := { stood := { row := cliqueTellsUptoRow, standIns := [], harness := (true, "d72a36e35e213e6ba657864b14bda7a93ce7b8ecbe057ed1226a0e4758b5f86e"), looks := true }, kinds := [], alts := [], laidByText := true, laidKinds := [.handle, .sentinel, .sentinel, .sentinel, .sentinel, .sentinel, .sentinel, .sentinel, .sentinel, .sentinel, .sentinel, .sentinel], laidTests := true, laidLooks := .later }
def CliqueTellsUptoCardSaid : Prop := Claim7.holds Tryd.pinned (.plain (OpenSpec.upto cliqueTellsSpec)) cliqueTellsUptoCard

/-- THE SECOND FORM's CARD OF 'bargelocklaw2.FoldBack'. -/
def foldBackUptoCard : Claim7 := { stood := { row := foldBackUptoRow, standIns := [], harness := (true, "d72a36e35e213e6ba657864b14bda7a93ce7b8ecbe057ed1226a0e4758b5f86e"), looks := true }, kinds := [], alts := [], laidByText := true, laidKinds := [.data, .data, .data, .data, .sentinel, .sentinel, .sentinel, .sentinel, .sentinel, .sentinel, .sentinel, .sentinel, .pinned], laidTests := true, laidLooks := .later }
def FoldBackUptoCardSaid : Prop := Claim7.holds Tryd.pinned (.plain (OpenSpec.upto foldBackSpec)) foldBackUptoCard

/-- THE SECOND FORM's CARD OF 'bargelocklaw2.DeltaWhole'. -/
def deltaWholeUptoCard : Claim7 := { stood := { row := deltaWholeUptoRow, standIns := [], harness := (true, "d72a36e35e213e6ba657864b14bda7a93ce7b8ecbe057ed1226a0e4758b5f86e"), looks := true }, kinds := [], alts := [], laidByText := true, laidKinds := [.sentinel, .sentinel, .sentinel, .sentinel, .sentinel], laidTests := true, laidLooks := .later }
def DeltaWholeUptoCardSaid : Prop := Claim7.holds Tryd.pinned (.plain (OpenSpec.upto deltaWholeSpec)) deltaWholeUptoCard

/-- THE SECOND FORM's CARD OF 'bargelocklaw2.DeltaTells'. -/
def deltaTellsUptoCard : Claim7 := { stood := { row := deltaTellsUptoRow, standIns := [], harness := (true, "d72a36e35e213e6ba657864b14bda7a93ce7b8ecbe057ed1226a0e4758b5f86e"), looks := true }, kinds := [], alts := [], laidByText := true, laidKinds := [.handle, .sentinel, .sentinel, .sentinel, .sentinel, .sentinel, .sentinel, .sentinel, .sentinel, .sentinel, .sentinel, .sentinel], laidTests := true, laidLooks := .later }
def DeltaTellsUptoCardSaid : Prop := Claim7.holds Tryd.pinned (.plain (OpenSpec.upto deltaTellsSpec)) deltaTellsUptoCard

/-- THE SECOND FORM's CARD OF 'bargelocklaw2.ModeGoes'. -/
def modeGoesUptoCard : Claim7 := { stood := { row := modeGoesUptoRow, standIns := [], harness := (true, "d72a36e35e213e6ba657864b14bda7a93ce7b8ecbe057ed1226a0e4758b5f86e"), looks := true }, kinds := [], alts := [], laidByText := true, laidKinds := [.handle, .sentinel, .sentinel, .sentinel, .sentinel, .sentinel, .sentinel, .sentinel, .sentinel, .sentinel, .sentinel, .sentinel], laidTests := true, laidLooks := .later }
def ModeGoesUptoCardSaid : Prop := Claim7.holds Tryd.pinned (.plain (OpenSpec.upto modeGoesSpec)) modeGoesUptoCard
end Rows
end Go.Proofs.YtglhapkclpllfadDoor
