/-
  DERIVED. GIVEN WITH THE SEED: THE CARDS: each row of YtglhapkclpllfabDoorRows.lean that lists a variable, with what it lists TIED to the program's text (the seventh form; the later family's looks); each row that meets fmt, with fmt's text TOLD by the authors' own Lean function (tested against real Go, not proved from fmt's source: count such statements apart). THE CARD IS WHAT COUNTS. Prove the row's statement (the work); the ties are given (YtglhapkclpllfabDoorTie.lean); close each card by the builder's one call (the guide's Derived/Test/ToyasCard.lean, 'card_holds'). Laid BY PROGRAM, IN A SANDBOX (cutbox-door.mjs). By AI agents, Wed Nov 11 2026. No macro, syntax, notation, axiom, sorry.
-/
import Derived.Test.YtglhapkclpllfabDoorRows
import GoSem.ClaimSeven
namespace Go.Proofs.YtglhapkclpllfabDoor
namespace Rows

/-- THE TIED CARD OF 'bargelocklaw1.ClockBetween'. -/
def clockBetweenCard : Claim7 := { stood := { row := clockBetweenRow, standIns := [], harness := (true, "77ad571a2d3ca1c2cd2219c1edc8a534f90c6c5b7885f16592741ddb7fcdbed5"), looks := true }, kinds := [], alts := [], laidByText := true, laidKinds := [.sentinel], laidTests := true, laidLooks := .later }
def ClockBetweenCardSaid : Prop := Claim7.holds Tryd.pinned (.plain (OpenSpec.ofChange clockBetweenSpec)) clockBetweenCard

/-- THE TIED CARD OF 'bargelocklaw1.ClockHalves'. -/
def clockHalvesCard : Claim7 := { stood := { row := clockHalvesRow, standIns := [], harness := (true, "77ad571a2d3ca1c2cd2219c1edc8a534f90c6c5b7885f16592741ddb7fcdbed5"), looks := true }, kinds := [], alts := [], laidByText := true, laidKinds := [.sentinel], laidTests := true, laidLooks := .later }
def ClockHalvesCardSaid : Prop := Claim7.holds Tryd.pinned (.plain (OpenSpec.ofChange clockHalvesSpec)) clockHalvesCard

/-- THE TIED CARD OF 'bargelocklaw1.ClockTells'. -/
def clockTellsCard : Claim7 := { stood := { row := clockTellsRow, standIns := [], harness := (true, "77ad571a2d3ca1c2cd2219c1edc8a534f90c6c5b7885f16592741ddb7fcdbed5"), looks := true }, kinds := [], alts := [], laidByText := true, laidKinds := [.handle, .sentinel, .sentinel, .sentinel, .sentinel, .sentinel, .sentinel, .sentinel, .sentinel, .sentinel, .sentinel, .sentinel], laidTests := true, laidLooks := .later }
def ClockTellsCardSaid : Prop := Claim7.holds Tryd.pinned (.plain (OpenSpec.ofChange clockTellsSpec)) clockTellsCard

/-- THE TIED CARD OF 'bargelocklaw1.GuardOne'. -/
def guardOneCard : Claim7 := { stood := { row := guardOneRow, standIns := [], harness := (true, "77ad571a2d3ca1c2cd2219c1edc8a534f90c6c5b7885f16592741ddb7fcdbed5"), looks := true }, kinds := [], alts := [], laidByText := true, laidKinds := [.handle, .sentinel, .sentinel, .sentinel, .sentinel, .sentinel, .sentinel, .sentinel, .sentinel, .sentinel, .sentinel, .sentinel], laidTests := true, laidLooks := .later }
def GuardOneCardSaid : Prop := Claim7.holds Tryd.pinned (.plain (OpenSpec.ofChange guardOneSpec)) guardOneCard

/-- THE TIED CARD OF 'bargelocklaw1.GuardTells'. -/
def guardTellsCard : Claim7 := { stood := { row := guardTellsRow, standIns := [], harness := (true, "77ad571a2d3ca1c2cd2219c1edc8a534f90c6c5b7885f16592741ddb7fcdbed5"), looks := true }, kinds := [], alts := [], laidByText := true, laidKinds := [.handle, .sentinel, .sentinel, .sentinel, .sentinel, .sentinel, .sentinel, .sentinel, .sentinel, .sentinel, .sentinel, .sentinel], laidTests := true, laidLooks := .later }
def GuardTellsCardSaid : Prop := Claim7.holds Tryd.pinned (.plain (OpenSpec.ofChange guardTellsSpec)) guardTellsCard

/-- THE SECOND FORM's CARD OF 'bargelocklaw1.ClockBetween'. -/
def clockBetweenUptoCard : Claim7 := { stood := { row := clockBetweenUptoRow, standIns := [], harness := (true, "77ad571a2d3ca1c2cd2219c1edc8a534f90c6c5b7885f16592741ddb7fcdbed5"), looks := true }, kinds := [], alts := [], laidByText := true, laidKinds := [.sentinel], laidTests := true, laidLooks := .later }
def ClockBetweenUptoCardSaid : Prop := Claim7.holds Tryd.pinned (.plain (OpenSpec.upto clockBetweenSpec)) clockBetweenUptoCard

/-- THE SECOND FORM's CARD OF 'bargelocklaw1.ClockHalves'. -/
def clockHalvesUptoCard : Claim7 := { stood := { row := clockHalvesUptoRow, standIns := [], harness := (true, "77ad571a2d3ca1c2cd2219c1edc8a534f90c6c5b7885f16592741ddb7fcdbed5"), looks := true }, kinds := [], alts := [], laidByText := true, laidKinds := [.sentinel], laidTests := true, laidLooks := .later }
def ClockHalvesUptoCardSaid : Prop := Claim7.holds Tryd.pinned (.plain (OpenSpec.upto clockHalvesSpec)) clockHalvesUptoCard

/-- THE SECOND FORM's CARD OF 'bargelocklaw1.ClockTells'. -/
def clockTellsUptoCard : Claim7 := { stood := { row := clockTellsUptoRow, standIns := [], harness := (true, "77ad571a2d3ca1c2cd2219c1edc8a534f90c6c5b7885f16592741ddb7fcdbed5"), looks := true }, kinds := [], alts := [], laidByText := true, laidKinds := [.handle, .sentinel, .sentinel, .sentinel, .sentinel, .sentinel, .sentinel, .sentinel, .sentinel, .sentinel, .sentinel, .sentinel], laidTests := true, laidLooks := .later }
def ClockTellsUptoCardSaid : Prop := Claim7.holds Tryd.pinned (.plain (OpenSpec.upto clockTellsSpec)) clockTellsUptoCard

/-- THE SECOND FORM's CARD OF 'bargelocklaw1.GuardOne'. -/
def guardOneUptoCard : Claim7 := { stood := { row := guardOneUptoRow, standIns := [], harness := (true, "77ad571a2d3ca1c2cd2219c1edc8a534f90c6c5b7885f16592741ddb7fcdbed5"), looks := true }, kinds := [], alts := [], laidByText := true, laidKinds := [.handle, .sentinel, .sentinel, .sentinel, .sentinel, .sentinel, .sentinel, .sentinel, .sentinel, .sentinel, .sentinel, .sentinel], laidTests := true, laidLooks := .later }
def GuardOneUptoCardSaid : Prop := Claim7.holds Tryd.pinned (.plain (OpenSpec.upto guardOneSpec)) guardOneUptoCard

/-- THE SECOND FORM's CARD OF 'bargelocklaw1.GuardTells'. -/
def guardTellsUptoCard : Claim7 := { stood := { row := guardTellsUptoRow, standIns := [], harness := (true, "77ad571a2d3ca1c2cd2219c1edc8a534f90c6c5b7885f16592741ddb7fcdbed5"), looks := true }, kinds := [], alts := [], laidByText := true, laidKinds := [.handle, .sentinel, .sentinel, .sentinel, .sentinel, .sentinel, .sentinel, .sentinel, .sentinel, .sentinel, .sentinel, .sentinel], laidTests := true, laidLooks := .later }
def GuardTellsUptoCardSaid : Prop := Claim7.holds Tryd.pinned (.plain (OpenSpec.upto guardTellsSpec)) guardTellsUptoCard
end Rows
end Go.Proofs.YtglhapkclpllfabDoor
