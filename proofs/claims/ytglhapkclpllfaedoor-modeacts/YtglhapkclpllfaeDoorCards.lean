/-
  DERIVED. GIVEN WITH THE SEED: THE CARDS: each row of YtglhapkclpllfaeDoorRows.lean that lists a variable, with what it lists TIED to the program's text (the seventh form; the later family's looks); each row that meets fmt, with fmt's text TOLD by the authors' own Lean function (tested against real Go, not proved from fmt's source: count such statements apart). THE CARD IS WHAT COUNTS. Prove the row's statement (the work); the ties are given (YtglhapkclpllfaeDoorTie.lean); close each card by the builder's one call (the guide's Derived/Test/ToyasCard.lean, 'card_holds'). Laid BY PROGRAM, IN A SANDBOX (cutbox-door.mjs). By AI agents, Wed Nov 11 2026. No macro, syntax, notation, axiom, sorry.
-/
import Derived.Test.YtglhapkclpllfaeDoorRows
import GoSem.ClaimSeven
namespace Go.Proofs.YtglhapkclpllfaeDoor
namespace Rows

/-- THE TIED CARD OF 'bargelocklaw2.ModeActs'. -/
def modeActsCard : Claim7 := { stood := { row := modeActsRow, standIns := [], harness := (true, "39a19edc783da18d5c902303fa463ee3f8e447dc00d7d4712fef69c462c65315"), looks := true }, kinds := [], alts := [], laidByText := true, laidKinds := [.handle, .sentinel, .sentinel, .sentinel, .sentinel, .sentinel, .sentinel, .sentinel, .sentinel, .sentinel, .sentinel, .sentinel], laidTests := true, laidLooks := .later }
def ModeActsCardSaid : Prop := Claim7.holds Tryd.pinned (.plain (OpenSpec.ofChange modeActsSpec)) modeActsCard

/-- THE SECOND FORM's CARD OF 'bargelocklaw2.ModeActs'. -/
def modeActsUptoCard : Claim7 := { stood := { row := modeActsUptoRow, standIns := [], harness := (true, "39a19edc783da18d5c902303fa463ee3f8e447dc00d7d4712fef69c462c65315"), looks := true }, kinds := [], alts := [], laidByText := true, laidKinds := [.handle, .sentinel, .sentinel, .sentinel, .sentinel, .sentinel, .sentinel, .sentinel, .sentinel, .sentinel, .sentinel, .sentinel], laidTests := true, laidLooks := .later }
def ModeActsUptoCardSaid : Prop := Claim7.holds Tryd.pinned (.plain (OpenSpec.upto modeActsSpec)) modeActsUptoCard
end Rows
end Go.Proofs.YtglhapkclpllfaeDoor
