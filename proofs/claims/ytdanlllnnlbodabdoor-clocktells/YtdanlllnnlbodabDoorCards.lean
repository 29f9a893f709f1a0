/-
  DERIVED. GIVEN WITH THE SEED: THE CARDS: each row of YtdanlllnnlbodabDoorRows.lean that lists a variable, with what it lists TIED to the program's text (the seventh form; the later family's looks); each row that meets fmt, with fmt's text TOLD by the authors' own Lean function (tested against real Go, not proved from fmt's source: count such statements apart). THE CARD IS WHAT COUNTS. Prove the row's statement (the work); the ties are given (YtdanlllnnlbodabDoorTie.lean); close each card by the builder's one call (the guide's Derived/Test/ToyasCard.lean, 'card_holds'). Laid BY PROGRAM, IN A SANDBOX (cutbox-door.mjs). By AI agents, Wed Nov 11 2026. No macro, syntax, notation, axiom, sorry.
-/
import Derived.Test.YtdanlllnnlbodabDoorRows
import GoSem.ClaimSeven
namespace Go.Proofs.YtdanlllnnlbodabDoor
namespace Rows

/-- THE TIED CARD OF 'bargelocklaw1.ClockBetween'. -/
def clockBetweenCard : Claim7 := { stood := { row := clockBetweenRow, standIns := [], harness := (true, "c82eeb1a332bc2cab5fd95e7db8845fa92e4338aed7ba05fd51b42dfd2c865ff"), looks := true }, kinds := [], alts := [], laidByText := true, laidKinds := [.sentinel], laidTests := true, laidLooks := .later }
def ClockBetweenCardSaid : Prop := Claim7.holds Tryd.pinned (.plain (OpenSpec.ofChange clockBetweenSpec)) clockBetweenCard

/-- THE TIED CARD OF 'bargelocklaw1.ClockHalves'. -/
def clockHalvesCard : Claim7 := { stood := { row := clockHalvesRow, standIns := [], harness := (true, "c82eeb1a332bc2cab5fd95e7db8845fa92e4338aed7ba05fd51b42dfd2c865ff"), looks := true }, kinds := [], alts := [], laidByText := true, laidKinds := [.sentinel], laidTests := true, laidLooks := .later }
def ClockHalvesCardSaid : Prop := Claim7.holds Tryd.pinned (.plain (OpenSpec.ofChange clockHalvesSpec)) clockHalvesCard

/-- THE TIED CARD OF 'bargelocklaw1.ClockTells'. -/
def clockTellsCard : Claim7 := { stood := { row := clockTellsRow, standIns := [], harness := (true, "c82eeb1a332bc2cab5fd95e7db8845fa92e4338aed7ba05fd51b42dfd2c865ff"), looks := true }, kinds := [], alts := [], laidByText := true, laidKinds := [.handle, .sentinel, .sentinel, .sentinel, .sentinel, .sentinel, .sentinel, .sentinel, .sentinel, .sentinel, .sentinel, .sentinel], laidTests := true, laidLooks := .later }
def ClockTellsCardSaid : Prop := Claim7.holds Tryd.pinned (.plain (OpenSpec.ofChange clockTellsSpec)) clockTellsCard

/-- THE SECOND FORM's CARD OF 'bargelocklaw1.ClockBetween'. -/
def clockBetweenUptoCard : Claim7 := { stood := { row := clockBetweenUptoRow, standIns := [], harness := (true, "c82eeb1a332bc2cab5fd95e7db8845fa92e4338aed7ba05fd51b42dfd2c865ff"), looks := true }, kinds := [], alts := [], laidByText := true, laidKinds := [.sentinel], laidTests := true, laidLooks := .later }
def ClockBetweenUptoCardSaid : Prop := Claim7.holds Tryd.pinned (.plain (OpenSpec.upto clockBetweenSpec)) clockBetweenUptoCard

/-- THE SECOND FORM's CARD OF 'bargelocklaw1.ClockHalves'. -/
def clockHalvesUptoCard : Claim7 := { stood := { row := clockHalvesUptoRow, standIns := [], harness := (true, "c82eeb1a332bc2cab5fd95e7db8845fa92e4338aed7ba05fd51b42dfd2c865ff"), looks := true }, kinds := [], alts := [], laidByText := true, laidKinds := [.sentinel], laidTests := true, laidLooks := .later }
def ClockHalvesUptoCardSaid : Prop := Claim7.holds Tryd.pinned (.plain (OpenSpec.upto clockHalvesSpec)) clockHalvesUptoCard

/-- THE SECOND FORM's CARD OF 'bargelocklaw1.ClockTells'. -/
def clockTellsUptoCard : Claim7 := { stood := { row := clockTellsUptoRow, standIns := [], harness := (true, "c82eeb1a332bc2cab5fd95e7db8845fa92e4338aed7ba05fd51b42dfd2c865ff"), looks := true }, kinds := [], alts := [], laidByText := true, laidKinds := [.handle, .sentinel, .sentinel, .sentinel, .sentinel, .sentinel, .sentinel, .sentinel, .sentinel, .sentinel, .sentinel, .sentinel], laidTests := true, laidLooks := .later }
def ClockTellsUptoCardSaid : Prop := Claim7.holds Tryd.pinned (.plain (OpenSpec.upto clockTellsSpec)) clockTellsUptoCard
end Rows
end Go.Proofs.YtdanlllnnlbodabDoor
