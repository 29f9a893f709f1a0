/-
  DERIVED. GIVEN WITH THE SEED: THE CARDS: each row of YtmblonlmjbbkiaaDoorRows.lean that lists a variable, with what it lists TIED to the program's text (the seventh form; the later family's looks); each row that meets fmt, with fmt's text TOLD by the authors' own Lean function (tested against real Go, not proved from fmt's source: count such statements apart). THE CARD IS WHAT COUNTS. Prove the row's statement (the work); the ties are given (YtmblonlmjbbkiaaDoorTie.lean); close each card by the builder's one call (the guide's Derived/Test/ToyasCard.lean, 'card_holds'). Laid BY PROGRAM, IN A SANDBOX (cutbox-door.mjs). By AI agents, Wed Nov 11 2026. No macro, syntax, notation, axiom, sorry.
-/
import Derived.Test.YtmblonlmjbbkiaaDoorRows
import GoSem.ClaimSeven
namespace Go.Proofs.YtmblonlmjbbkiaaDoor
namespace Rows

/-- THE TIED CARD OF 'bargelocklaw1.Names'. -/
def namesCard : Claim7 := { stood := { row := namesRow, standIns := [], harness := (true, "ad12e792e9e97cd18f0d739b48313a0b5449f8fd902b64bcd1da6b4a87638c43"), looks := true }, kinds := [], alts := [], laidByText := true, laidKinds := [.handle, .sentinel, .sentinel, .sentinel, .sentinel, .sentinel, .sentinel, .sentinel, .sentinel, .sentinel, .sentinel, .sentinel], laidTests := true, laidLooks := .later }
def NamesCardSaid : Prop := Claim7.holds Tryd.pinned (.plain (OpenSpec.ofChange namesSpec)) namesCard

/-- THE TIED CARD OF 'bargelocklaw1.CrewParts'. -/
def crewPartsCard : Claim7 := { stood := { row := crewPartsRow, standIns := [], harness := (true, "ad12e792e9e97cd18f0d739b48313a0b5449f8fd902b64bcd1da6b4a87638c43"), looks := true }, kinds := [], alts := [], laidByText := true, laidKinds := [.data, .data, .data, .sentinel, .sentinel, .sentinel, .sentinel, .sentinel], laidTests := true, laidLooks := .later }
def CrewPartsCardSaid : Prop := Claim7.holds Tryd.pinned (.plain (OpenSpec.ofChange crewPartsSpec)) crewPartsCard

/-- THE SECOND FORM's CARD OF 'bargelocklaw1.Names'. -/
def namesUptoCard : Claim7 := { stood := { row := namesUptoRow, standIns := [], harness := (true, "ad12e792e9e97cd18f0d739b48313a0b5449f8fd902b64bcd1da6b4a87638c43"), looks := true }, kinds := [], alts := [], laidByText := true, laidKinds := [.handle, .sentinel, .sentinel, .sentinel, .sentinel, .sentinel, .sentinel, .sentinel, .sentinel, .sentinel, .sentinel, .sentinel], laidTests := true, laidLooks := .later }
def NamesUptoCardSaid : Prop := Claim7.holds Tryd.pinned (.plain (OpenSpec.upto namesSpec)) namesUptoCard

/-- THE SECOND FORM's CARD OF 'bargelocklaw1.CrewParts'. -/
def crewPartsUptoCard : Claim7 := { stood := { row := crewPartsUptoRow, standIns := [], harness := (true, "ad12e792e9e97cd18f0d739b48313a0b5449f8fd902b64bcd1da6b4a87638c43"), looks := true }, kinds := [], alts := [], laidByText := true, laidKinds := [.data, .data, .data, .sentinel, .sentinel, .sentinel, .sentinel, .sentinel], laidTests := true, laidLooks := .later }
def CrewPartsUptoCardSaid : Prop := Claim7.holds Tryd.pinned (.plain (OpenSpec.upto crewPartsSpec)) crewPartsUptoCard
end Rows
end Go.Proofs.YtmblonlmjbbkiaaDoor
