/-
  DERIVED. GIVEN WITH THE SEED: THE CARDS: each row of YtglhapkclpllfacDoorRows.lean that lists a variable, with what it lists TIED to the program's text (the seventh form; the later family's looks); each row that meets fmt, with fmt's text TOLD by the authors' own Lean function (tested against real Go, not proved from fmt's source: count such statements apart). THE CARD IS WHAT COUNTS. Prove the row's statement (the work); the ties are given (YtglhapkclpllfacDoorTie.lean); close each card by the builder's one call (the guide's Derived/Test/ToyasCard.lean, 'card_holds'). Laid BY PROGRAM, IN A SANDBOX (cutbox-door.mjs). By AI agents, Wed Nov 11 2026. No macro, syntax, notation, axiom, sorry.
-/
import Derived.Test.YtglhapkclpllfacDoorRows
import GoSem.ClaimSeven
namespace Go.Proofs.YtglhapkclpllfacDoor
namespace Rows

/-- THE TIED CARD OF 'bargelocklaw2.BusOne'. -/
def busOneCard : Claim7 := { stood := { row := busOneRow, standIns := [], harness := (true, "0f13a84306758e827478cec2ff62b5450d9ba6571f07ae863c184256b5f25b5c"), looks := true }, kinds := [], alts := [], laidByText := true, laidKinds := [.sentinel, .sentinel, .sentinel, .sentinel, .sentinel], laidTests := true, laidLooks := .later }
def BusOneCardSaid : Prop := Claim7.holds Tryd.pinned (.plain (OpenSpec.ofChange busOneSpec)) busOneCard

/-- THE TIED CARD OF 'bargelocklaw2.BusTells'. -/
def busTellsCard : Claim7 := { stood := { row := busTellsRow, standIns := [], harness := (true, "0f13a84306758e827478cec2ff62b5450d9ba6571f07ae863c184256b5f25b5c"), looks := true }, kinds := [], alts := [], laidByText := true, laidKinds := [.handle, .sentinel, .sentinel, .sentinel, .sentinel, .sentinel, .sentinel, .sentinel, .sentinel, .sentinel, .sentinel, .sentinel], laidTests := true, laidLooks := .later }
def BusTellsCardSaid : Prop := Claim7.holds Tryd.pinned (.plain (OpenSpec.ofChange busTellsSpec)) busTellsCard

/-- THE TIED CARD OF 'bargelocklaw2.MemberAgrees'. -/
def memberAgreesCard : Claim7 := { stood := { row := memberAgreesRow, standIns := [], harness := (true, "0f13a84306758e827478cec2ff62b5450d9ba6571f07ae863c184256b5f25b5c"), looks := true }, kinds := [], alts := [], laidByText := true, laidKinds := [.data, .data, .data, .data, .sentinel, .sentinel, .sentinel, .sentinel, .sentinel, .sentinel, .sentinel, .sentinel, .sentinel, .sentinel, .pinned], laidTests := true, laidLooks := .later }
def MemberAgreesCardSaid : Prop := Claim7.holds Tryd.pinned (.plain (OpenSpec.ofChange memberAgreesSpec)) memberAgreesCard

/-- THE TIED CARD OF 'bargelocklaw2.MemberSlot'. -/
def memberSlotCard : Claim7 := { stood := { row := memberSlotRow, standIns := [], harness := (true, "0f13a84306758e827478cec2ff62b5450d9ba6571f07ae863c184256b5f25b5c"), looks := true }, kinds := [], alts := [], laidByText := true, laidKinds := [.data, .data, .data, .data, .sentinel, .sentinel, .sentinel, .sentinel, .sentinel, .sentinel, .sentinel, .sentinel, .sentinel, .sentinel, .pinned], laidTests := true, laidLooks := .later }
def MemberSlotCardSaid : Prop := Claim7.holds Tryd.pinned (.plain (OpenSpec.ofChange memberSlotSpec)) memberSlotCard

/-- THE TIED CARD OF 'bargelocklaw2.CliqueOne'. -/
def cliqueOneCard : Claim7 := { stood := { row := cliqueOneRow, standIns := [], harness := (true, "0f13a84306758e827478cec2ff62b5450d9ba6571f07ae863c184256b5f25b5c"), looks := true }, kinds := [], alts := [], laidByText := true, laidKinds := [.sentinel, .sentinel, .sentinel, .sentinel, .sentinel], laidTests := true, laidLooks := .later }
def CliqueOneCardSaid : Prop := Claim7.holds Tryd.pinned (.plain (OpenSpec.ofChange cliqueOneSpec)) cliqueOneCard

/-- THE SECOND FORM's CARD OF 'bargelocklaw2.BusOne'. -/
def busOneUptoCard : Claim7 := { stood := { row := busOneUptoRow, standIns := [], harness := (true, "0f13a84306758e827478cec2ff62b5450d9ba6571f07ae863c184256b5f25b5c"), looks := true }, kinds := [], alts := [], laidByText := true, laidKinds := [.sentinel, .sentinel, .sentinel, .sentinel, .sentinel], laidTests := true, laidLooks := .later }
def BusOneUptoCardSaid : Prop := Claim7.holds Tryd.pinned (.plain (OpenSpec.upto busOneSpec)) busOneUptoCard

/-- THE SECOND FORM's CARD OF 'bargelocklaw2.BusTells'. -/
def busTellsUptoCard : Claim7 := { stood := { row := busTellsUptoRow, standIns := [], harness := (true, "0f13a84306758e827478cec2ff62b5450d9ba6571f07ae863c184256b5f25b5c"), looks := true }, kinds := [], alts := [], laidByText := true, laidKinds := [.handle, .sentinel, .sentinel, .sentinel, .sentinel, .sentinel, .sentinel, .sentinel, .sentinel, .sentinel, .sentinel, .sentinel], laidTests := true, laidLooks := .later }
def BusTellsUptoCardSaid : Prop := Claim7.holds Tryd.pinned (.plain (OpenSpec.upto busTellsSpec)) busTellsUptoCard

/-- THE SECOND FORM's CARD OF 'bargelocklaw2.MemberAgrees'. -/
def memberAgreesUptoCard : Claim7 := { stood := { row := memberAgreesUptoRow, standIns := [], harness := (true, "0f13a84306758e827478cec2ff62b5450d9ba6571f07ae863c184256b5f25b5c"), looks := true }, kinds := [], alts := [], laidByText := true, laidKinds := [.data, .data, .data, .data, .sentinel, .sentinel, .sentinel, .sentinel, .sentinel, .sentinel, .sentinel, .sentinel, .sentinel, .sentinel, .pinned], laidTests := true, laidLooks := .later }
def MemberAgreesUptoCardSaid : Prop := Claim7.holds Tryd.pinned (.plain (OpenSpec.upto memberAgreesSpec)) memberAgreesUptoCard

/-- THE SECOND FORM's CARD OF 'bargelocklaw2.MemberSlot'. -/
def memberSlotUptoCard : Claim7 := { stood := { row := memberSlotUptoRow, standIns := [], harness := (true, "0f13a84306758e827478cec2ff62b5450d9ba6571f07ae863c184256b5f25b5c"), looks := true }, kinds := [], alts := [], laidByText := true, laidKinds := [.data, .data, .data, .data, .sentinel, .sentinel, .sentinel, .sentinel, .sentinel, .sentinel, .sentinel, .sentinel, .sentinel, .sentinel, .pinned], laidTests := true, laidLooks := .later }
def MemberSlotUptoCardSaid : Prop := Claim7.holds Tryd.pinned (.plain (OpenSpec.upto memberSlotSpec)) memberSlotUptoCard

/-- THE SECOND FORM's CARD OF 'bargelocklaw2.CliqueOne'. -/
def cliqueOneUptoCard : Claim7 := { stood := { row := cliqueOneUptoRow, standIns := [], harness := (true, "0f13a84306758e827478cec2ff62b5450d9ba6571f07ae863c184256b5f25b5c"), looks := true }, kinds := [], alts := [], laidByText := true, laidKinds := [.sentinel, .sentinel, .sentinel, .sentinel, .sentinel], laidTests := true, laidLooks := .later }
def CliqueOneUptoCardSaid : Prop := Claim7.holds Tryd.pinned (.plain (OpenSpec.upto cliqueOneSpec)) cliqueOneUptoCard
end Rows
end Go.Proofs.YtglhapkclpllfacDoor
