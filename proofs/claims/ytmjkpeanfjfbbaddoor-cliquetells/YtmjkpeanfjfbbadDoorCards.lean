/-
  DERIVED. GIVEN WITH THE SEED: THE CARDS: each row of YtmjkpeanfjfbbadDoorRows.lean that lists a variable, with what it lists TIED to the program's text (the seventh form; the later family's looks); each row that meets fmt, with fmt's text TOLD by the authors' own Lean function (tested against real Go, not proved from fmt's source: count such statements apart). THE CARD IS WHAT COUNTS. Prove the row's statement (the work); the ties are given (YtmjkpeanfjfbbadDoorTie.lean); close each card by the builder's one call (the guide's Derived/Test/ToyasCard.lean, 'card_holds'). Laid BY PROGRAM, IN A SANDBOX (cutbox-door.mjs). By AI agents, Wed Nov 11 2026. No macro, syntax, notation, axiom, sorry.
-/
import Derived.Test.YtmjkpeanfjfbbadDoorRows
import GoSem.ClaimSeven
namespace Go.Proofs.YtmjkpeanfjfbbadDoor
namespace Rows

/-- THE TIED CARD OF 'bargelocklaw2.CliqueTells'. -/
def cliqueTellsCard : Claim7 := { stood := { row := cliqueTellsRow, standIns := [], harness := (true, "f5647f299f289d2e891407eab7fe8e5937d137d81fd7a31776e3a9aa79ff27fe"), looks := true }, kinds := [], alts := [], laidByText := true, laidKinds := [.handle, .sentinel, .sentinel, .sentinel, .sentinel, .sentinel, .sentinel, .sentinel, .sentinel, .sentinel, .sentinel, .sentinel], laidTests := true, laidLooks := .later }
def CliqueTellsCardSaid : Prop := Claim7.holds Tryd.pinned (.plain (OpenSpec.ofChange cliqueTellsSpec)) cliqueTellsCard

/-- THE TIED CARD OF 'bargelocklaw2.FoldBack'. -/
def foldBackCard : Claim7 := { stood := { row := foldBackRow, standIns := [], harness := (true, "f5647f299f289d2e891407eab7fe8e5937d137d81fd7a31776e3a9aa79ff27fe"), looks := true }, kinds := [], alts := [], laidByText := true, laidKinds := [.data, .data, .data, .data, .sentinel, .sentinel, .sentinel, .sentinel, .sentinel, .sentinel, .sentinel, .sentinel, .pinned], laidTests := true, laidLooks := .later }
def FoldBackCardSaid : Prop := Claim7.holds Tryd.pinned (.plain (OpenSpec.ofChange foldBackSpec)) foldBackCard

/-- THE TIED CARD OF 'bargelocklaw2.DeltaWhole'. -/
def deltaWholeCard : Claim7 := { stood := { row := deltaWholeRow, standIns := [], harness := (true, "f5647f299f289d2e891407eab7fe8e5937d137d81fd7a31776e3a9aa79ff27fe"), looks := true }, kinds := [], alts := [], laidByText := true, laidKinds := [.sentinel, .sentinel, .sentinel, .sentinel, .sentinel], laidTests := true, laidLooks := .later }
def DeltaWholeCardSaid : Prop := Claim7.holds Tryd.pinned (.plain (OpenSpec.ofChange deltaWholeSpec)) deltaWholeCard

/-- THE TIED CARD OF 'bargelocklaw2.DeltaTells'. -/
def deltaTellsCard : Claim7 := { stood := { row := deltaTellsRow, standIns := [], harness := (true, "f5647f299f289d2e891407eab7fe8e5937d137d81fd7a31776e3a9aa79ff27fe"), looks := true }, kinds := [], alts := [], laidByText := true, laidKinds := [.handle, .sentinel, .sentinel, .sentinel, .sentinel, .sentinel, .sentinel, .sentinel, .sentinel, .sentinel, .sentinel, .sentinel], laidTests := true, laidLooks := .later }
def DeltaTellsCardSaid : Prop := Claim7.holds Tryd.pinned (.plain (OpenSpec.ofChange deltaTellsSpec)) deltaTellsCard

/-- THE SECOND FORM's CARD OF 'bargelocklaw2.CliqueTells'. -/
def cliqueTellsUptoCard : Claim7 := { stood := { row := cliqueTellsUptoRow, standIns := [], harness := (true, "f5647f299f289d2e891407eab7fe8e5937d137d81fd7a31776e3a9aa79ff27fe"), looks := true }, kinds := [], alts := [], laidByText := true, laidKinds := [.handle, .sentinel, .sentinel, .sentinel, .sentinel, .sentinel, .sentinel, .sentinel, .sentinel, .sentinel, .sentinel, .sentinel], laidTests := true, laidLooks := .later }
def CliqueTellsUptoCardSaid : Prop := Claim7.holds Tryd.pinned (.plain (OpenSpec.upto cliqueTellsSpec)) cliqueTellsUptoCard

/-- THE SECOND FORM's CARD OF 'bargelocklaw2.FoldBack'. -/
def foldBackUptoCard : Claim7 := { stood := { row := foldBackUptoRow, standIns := [], harness := (true, "f5647f299f289d2e891407eab7fe8e5937d137d81fd7a31776e3a9aa79ff27fe"), looks := true }, kinds := [], alts := [], laidByText := true, laidKinds := [.data, .data, .data, .data, .sentinel, .sentinel, .sentinel, .sentinel, .sentinel, .sentinel, .sentinel, .sentinel, .pinned], laidTests := true, laidLooks := .later }
def FoldBackUptoCardSaid : Prop := Claim7.holds Tryd.pinned (.plain (OpenSpec.upto foldBackSpec)) foldBackUptoCard

/-- THE SECOND FORM's CARD OF 'bargelocklaw2.DeltaWhole'. -/
def deltaWholeUptoCard : Claim7 := { stood := { row := deltaWholeUptoRow, standIns := [], harness := (true, "f5647f299f289d2e891407eab7fe8e5937d137d81fd7a31776e3a9aa79ff27fe"), looks := true }, kinds := [], alts := [], laidByText := true, laidKinds := [.sentinel, .sentinel, .sentinel, .sentinel, .sentinel], laidTests := true, laidLooks := .later }
def DeltaWholeUptoCardSaid : Prop := Claim7.holds Tryd.pinned (.plain (OpenSpec.upto deltaWholeSpec)) deltaWholeUptoCard

/-- THE SECOND FORM's CARD OF 'bargelocklaw2.DeltaTells'. -/
def deltaTellsUptoCard : Claim7 := { stood := { row := deltaTellsUptoRow, standIns := [], harness := (true, "f5647f299f289d2e891407eab7fe8e5937d137d81fd7a31776e3a9aa79ff27fe"), looks := true }, kinds := [], alts := [], laidByText := true, laidKinds := [.handle, .sentinel, .sentinel, .sentinel, .sentinel, .sentinel, .sentinel, .sentinel, .sentinel, .sentinel, .sentinel, .sentinel], laidTests := true, laidLooks := .later }
def DeltaTellsUptoCardSaid : Prop := Claim7.holds Tryd.pinned (.plain (OpenSpec.upto deltaTellsSpec)) deltaTellsUptoCard
end Rows
end Go.Proofs.YtmjkpeanfjfbbadDoor
