/-
  NARROWER THAN 'FOR EVERY INPUT', by the rows' own cells (each row's printed sentence says how): ClockBetween: laid · ClockHalves: laid · ClockTells: laid · GuardOne: laid · GuardTells: laid.
  DERIVED. THE GIVEN ROWS OF THIS SEAT. 5 by the template 'for every input the law returns true; each argument reads behind the call as it read before'; 0 by the template 'total and deterministic' (their statements: YtglhapkclpllfabDoorTotals.lean).
  GIVEN WITH THE SEED: the statements are not yours to turn. If you find one false, say at which input.
  Laid BY PROGRAM, IN A SANDBOX (cutbox-rows.mjs): the forced cells as the released guide's own fill.sh prints them over the translation ee7360b3871d5569… (all of the seat's roots in one cut). By AI agents, Wed Nov 11 2026. No macro, syntax, notation, axiom, sorry.
-/
import Derived.Test.YtglhapkclpllfabDoorChecked
import GoSem.Claim
import GoSem.ClaimJoined
import GoSem.ClaimMapViews
import Derived.JoinedTies
import Derived.KernelRfl
namespace Go.Proofs.YtglhapkclpllfabDoor
/- THE CELL 'sum', in the pinned program and in every row, IS THE sha256 OF THE DUMP (.gsa) THAT YtglhapkclpllfabDoorProg.lean LOADS. Nothing in Lean hashes anything: it is a label: what it is worth is what the hold of that sum in a sandbox is worth. -/
noncomputable def Tryd.pinned : Pinned := { name := "ytglhapkclpllfabdoor", sum := "ee7360b3871d55697e3b6090084909c8d2e8c7e7a8723f877baf9461f6084539", checked := Tryd.checked }
namespace Rows
def none {H : Type} : Left H := { results := [], args := [] }

/- WHAT THE LISTED PACKAGE-LEVEL VARIABLES READ AS WHEN THE CALL BEGINS. Each datum BY PROGRAM (the guide's laid-datum.mjs) off the statement by which the dump's own 'gosem.cut.vars' lays the variable. In a bare row this is a premise. The card (YtglhapkclpllfabDoorCards.lean) ties it to the program's text. -/
def laid_bargelock_api_ErrBound {H : Type} : DataW H := .iface "*errors.errorString" (.ptr (.agg [.lit (.string [98, 97, 114, 103, 101, 108, 111, 99, 107, 58, 32, 98, 111, 117, 110, 100])]))
def laid_errors_errorType {H : Type} : DataW H := .iface "internal/reflectlite.rtype" (.agg [.ptr (.lit (.string [101, 114, 114, 111, 114]))])
def laid_bargelock_api_ErrText {H : Type} : DataW H := .iface "*errors.errorString" (.ptr (.agg [.lit (.string [98, 97, 114, 103, 101, 108, 111, 99, 107, 58, 32, 116, 101, 120, 116])]))
def laid_bargelock_api_ErrShape {H : Type} : DataW H := .iface "*errors.errorString" (.ptr (.agg [.lit (.string [98, 97, 114, 103, 101, 108, 111, 99, 107, 58, 32, 115, 104, 97, 112, 101])]))
def laid_bargelock_api_ErrNode {H : Type} : DataW H := .iface "*errors.errorString" (.ptr (.agg [.lit (.string [98, 97, 114, 103, 101, 108, 111, 99, 107, 58, 32, 110, 111, 100, 101])]))
def laid_bargelock_api_ErrNone {H : Type} : DataW H := .iface "*errors.errorString" (.ptr (.agg [.lit (.string [98, 97, 114, 103, 101, 108, 111, 99, 107, 58, 32, 110, 111, 110, 101])]))
def laid_bargelock_api_ErrExist {H : Type} : DataW H := .iface "*errors.errorString" (.ptr (.agg [.lit (.string [98, 97, 114, 103, 101, 108, 111, 99, 107, 58, 32, 101, 120, 105, 115, 116])]))
def laid_bargelock_api_ErrFull {H : Type} : DataW H := .iface "*errors.errorString" (.ptr (.agg [.lit (.string [98, 97, 114, 103, 101, 108, 111, 99, 107, 58, 32, 102, 117, 108, 108])]))
def laid_bargelock_api_ErrSum {H : Type} : DataW H := .iface "*errors.errorString" (.ptr (.agg [.lit (.string [98, 97, 114, 103, 101, 108, 111, 99, 107, 58, 32, 115, 117, 109])]))
def laid_bargelock_api_ErrLate {H : Type} : DataW H := .iface "*errors.errorString" (.ptr (.agg [.lit (.string [98, 97, 114, 103, 101, 108, 111, 99, 107, 58, 32, 108, 97, 116, 101])]))
def laid_bargelock_api_ErrGap {H : Type} : DataW H := .iface "*errors.errorString" (.ptr (.agg [.lit (.string [98, 97, 114, 103, 101, 108, 111, 99, 107, 58, 32, 103, 97, 112])]))
def laid_bargelock_api_ErrOff {H : Type} : DataW H := .iface "*errors.errorString" (.ptr (.agg [.lit (.string [98, 97, 114, 103, 101, 108, 111, 99, 107, 58, 32, 111, 102, 102])]))

/-- 'bargelocklaw1.ClockBetween': WHATEVER THE INPUT: true; the input reads as it did. -/
def clockBetweenSpec : ChangeSpec := { name := "clockBetween", fn := fun _ => fun
  | [d1, d2, d3] => { results := [.lit (.bool true)], args := [d1, d2, d3] }
  | _ => none }
def clockBetweenRow : OpenClaim := { program := "ytglhapkclpllfabdoor", sum := "ee7360b3871d55697e3b6090084909c8d2e8c7e7a8723f877baf9461f6084539", func := "bargelock/bargelocklaw1.ClockBetween", spec := "clockBetween", recurses := true, named := ["bargelock/api.ErrBound"], apart := false, laid := [("bargelock/api.ErrBound", laid_bargelock_api_ErrBound)] }
def ClockBetweenSaid : Prop := clockBetweenRow.holds Tryd.pinned (OpenSpec.ofChange clockBetweenSpec)

/-- ITS FALSE NEIGHBOUR: 'it returns false'. Refute it at one input. -/
def clockBetweenWrong : ChangeSpec := { name := "clockBetween", fn := fun _ => fun
  | [d1, d2, d3] => { results := [.lit (.bool false)], args := [d1, d2, d3] }
  | _ => none }
def ClockBetweenWrongFalsely : Prop := clockBetweenRow.holds Tryd.pinned (OpenSpec.ofChange clockBetweenWrong)

/-- 'bargelocklaw1.ClockHalves': WHATEVER THE INPUT: true; the input reads as it did. -/
def clockHalvesSpec : ChangeSpec := { name := "clockHalves", fn := fun _ => fun
  | [d1, d2, d3] => { results := [.lit (.bool true)], args := [d1, d2, d3] }
  | _ => none }
def clockHalvesRow : OpenClaim := { program := "ytglhapkclpllfabdoor", sum := "ee7360b3871d55697e3b6090084909c8d2e8c7e7a8723f877baf9461f6084539", func := "bargelock/bargelocklaw1.ClockHalves", spec := "clockHalves", recurses := true, named := ["bargelock/api.ErrBound"], apart := false, laid := [("bargelock/api.ErrBound", laid_bargelock_api_ErrBound)] }
def ClockHalvesSaid : Prop := clockHalvesRow.holds Tryd.pinned (OpenSpec.ofChange clockHalvesSpec)

/-- ITS FALSE NEIGHBOUR: 'it returns false'. Refute it at one input. -/
def clockHalvesWrong : ChangeSpec := { name := "clockHalves", fn := fun _ => fun
  | [d1, d2, d3] => { results := [.lit (.bool false)], args := [d1, d2, d3] }
  | _ => none }
def ClockHalvesWrongFalsely : Prop := clockHalvesRow.holds Tryd.pinned (OpenSpec.ofChange clockHalvesWrong)

/-- 'bargelocklaw1.ClockTells': WHATEVER THE INPUT: true; the input reads as it did. -/
def clockTellsSpec : ChangeSpec := { name := "clockTells", fn := fun _ => fun
  | [d1, d2, d3] => { results := [.lit (.bool true)], args := [d1, d2, d3] }
  | _ => none }
def clockTellsRow : OpenClaim := { program := "ytglhapkclpllfabdoor", sum := "ee7360b3871d55697e3b6090084909c8d2e8c7e7a8723f877baf9461f6084539", func := "bargelock/bargelocklaw1.ClockTells", spec := "clockTells", inPlace := ["internal/reflectlite.ValueOf", "(internal/reflectlite.Value).Type", "(internal/reflectlite.Value).IsNil", "internal/reflectlite.TypeOf", "(internal/reflectlite.Value).Elem", "(internal/reflectlite.Value).Set"], unfollowed := true, recurses := true, named := ["bargelock/api.ErrBound", "bargelock/api.ErrText", "bargelock/api.ErrShape", "bargelock/api.ErrNode", "bargelock/api.ErrNone", "bargelock/api.ErrExist", "bargelock/api.ErrFull", "bargelock/api.ErrSum", "bargelock/api.ErrLate", "bargelock/api.ErrGap", "bargelock/api.ErrOff", "errors.errorType"], apart := false, laid := [("errors.errorType", laid_errors_errorType), ("bargelock/api.ErrText", laid_bargelock_api_ErrText), ("bargelock/api.ErrBound", laid_bargelock_api_ErrBound), ("bargelock/api.ErrShape", laid_bargelock_api_ErrShape), ("bargelock/api.ErrNode", laid_bargelock_api_ErrNode), ("bargelock/api.ErrNone", laid_bargelock_api_ErrNone), ("bargelock/api.ErrExist", laid_bargelock_api_ErrExist), ("bargelock/api.ErrFull", laid_bargelock_api_ErrFull), ("bargelock/api.ErrSum", laid_bargelock_api_ErrSum), ("bargelock/api.ErrLate", laid_bargelock_api_ErrLate), ("bargelock/api.ErrGap", laid_bargelock_api_ErrGap), ("bargelock/api.ErrOff", laid_bargelock_api_ErrOff)] }
def ClockTellsSaid : Prop := clockTellsRow.holds Tryd.pinned (OpenSpec.ofChange clockTellsSpec)

/-- ITS FALSE NEIGHBOUR: 'it returns false'. Refute it at one input. -/
def clockTellsWrong : ChangeSpec := { name := "clockTells", fn := fun _ => fun
  | [d1, d2, d3] => { results := [.lit (.bool false)], args := [d1, d2, d3] }
  | _ => none }
def ClockTellsWrongFalsely : Prop := clockTellsRow.holds Tryd.pinned (OpenSpec.ofChange clockTellsWrong)

/-- 'bargelocklaw1.GuardOne': WHATEVER THE INPUT: true; the input reads as it did. -/
def guardOneSpec : ChangeSpec := { name := "guardOne", fn := fun _ => fun
  | [d1, d2, d3, d4] => { results := [.lit (.bool true)], args := [d1, d2, d3, d4] }
  | _ => none }
def guardOneRow : OpenClaim := { program := "ytglhapkclpllfabdoor", sum := "ee7360b3871d55697e3b6090084909c8d2e8c7e7a8723f877baf9461f6084539", func := "bargelock/bargelocklaw1.GuardOne", spec := "guardOne", inPlace := ["internal/reflectlite.ValueOf", "(internal/reflectlite.Value).Type", "(internal/reflectlite.Value).IsNil", "internal/reflectlite.TypeOf", "(internal/reflectlite.Value).Elem", "(internal/reflectlite.Value).Set"], unfollowed := true, recurses := true, named := ["bargelock/api.ErrBound", "bargelock/api.ErrNone", "bargelock/api.ErrFull", "bargelock/api.ErrNode", "bargelock/api.ErrLate", "bargelock/api.ErrText", "bargelock/api.ErrShape", "bargelock/api.ErrExist", "bargelock/api.ErrSum", "bargelock/api.ErrGap", "bargelock/api.ErrOff", "errors.errorType"], apart := false, laid := [("errors.errorType", laid_errors_errorType), ("bargelock/api.ErrText", laid_bargelock_api_ErrText), ("bargelock/api.ErrBound", laid_bargelock_api_ErrBound), ("bargelock/api.ErrShape", laid_bargelock_api_ErrShape), ("bargelock/api.ErrNode", laid_bargelock_api_ErrNode), ("bargelock/api.ErrNone", laid_bargelock_api_ErrNone), ("bargelock/api.ErrExist", laid_bargelock_api_ErrExist), ("bargelock/api.ErrFull", laid_bargelock_api_ErrFull), ("bargelock/api.ErrSum", laid_bargelock_api_ErrSum), ("bargelock/api.ErrLate", laid_bargelock_api_ErrLate), ("bargelock/api.ErrGap", laid_bargelock_api_ErrGap), ("bargelock/api.ErrOff", laid_bargelock_api_ErrOff)] }
def GuardOneSaid : Prop := guardOneRow.holds Tryd.pinned (OpenSpec.ofChange guardOneSpec)

/-- ITS FALSE NEIGHBOUR: 'it returns false'. Refute it at one input. -/
def guardOneWrong : ChangeSpec := { name := "guardOne", fn := fun _ => fun
  | [d1, d2, d3, d4] => { results := [.lit (.bool false)], args := [d1, d2, d3, d4] }
  | _ => none }
def GuardOneWrongFalsely : Prop := guardOneRow.holds Tryd.pinned (OpenSpec.ofChange guardOneWrong)

/-- 'bargelocklaw1.GuardTells': WHATEVER THE INPUT: true; the input reads as it did. -/
def guardTellsSpec : ChangeSpec := { name := "guardTells", fn := fun _ => fun
  | [d1, d2, d3, d4] => { results := [.lit (.bool true)], args := [d1, d2, d3, d4] }
  | _ => none }
def guardTellsRow : OpenClaim := { program := "ytglhapkclpllfabdoor", sum := "ee7360b3871d55697e3b6090084909c8d2e8c7e7a8723f877baf9461f6084539", func := "bargelock/bargelocklaw1.GuardTells", spec := "guardTells", inPlace := ["internal/reflectlite.ValueOf", "(internal/reflectlite.Value).Type", "(internal/reflectlite.Value).IsNil", "internal/reflectlite.TypeOf", "(internal/reflectlite.Value).Elem", "(internal/reflectlite.Value).Set"], unfollowed := true, recurses := true, named := ["bargelock/api.ErrBound", "bargelock/api.ErrNone", "bargelock/api.ErrFull", "bargelock/api.ErrNode", "bargelock/api.ErrLate", "bargelock/api.ErrText", "bargelock/api.ErrShape", "bargelock/api.ErrExist", "bargelock/api.ErrSum", "bargelock/api.ErrGap", "bargelock/api.ErrOff", "errors.errorType"], apart := false, laid := [("errors.errorType", laid_errors_errorType), ("bargelock/api.ErrText", laid_bargelock_api_ErrText), ("bargelock/api.ErrBound", laid_bargelock_api_ErrBound), ("bargelock/api.ErrShape", laid_bargelock_api_ErrShape), ("bargelock/api.ErrNode", laid_bargelock_api_ErrNode), ("bargelock/api.ErrNone", laid_bargelock_api_ErrNone), ("bargelock/api.ErrExist", laid_bargelock_api_ErrExist), ("bargelock/api.ErrFull", laid_bargelock_api_ErrFull), ("bargelock/api.ErrSum", laid_bargelock_api_ErrSum), ("bargelock/api.ErrLate", laid_bargelock_api_ErrLate), ("bargelock/api.ErrGap", laid_bargelock_api_ErrGap), ("bargelock/api.ErrOff", laid_bargelock_api_ErrOff)] }
def GuardTellsSaid : Prop := guardTellsRow.holds Tryd.pinned (OpenSpec.ofChange guardTellsSpec)

/-- ITS FALSE NEIGHBOUR: 'it returns false'. Refute it at one input. -/
def guardTellsWrong : ChangeSpec := { name := "guardTells", fn := fun _ => fun
  | [d1, d2, d3, d4] => { results := [.lit (.bool false)], args := [d1, d2, d3, d4] }
  | _ => none }
def GuardTellsWrongFalsely : Prop := guardTellsRow.holds Tryd.pinned (OpenSpec.ofChange guardTellsWrong)

/- THE SECOND FORM. 'bulk': how many values and letters a reading holds, each counted each time it is reached (what is shared counts as often as it is met; a slice's spare places count too). A statement '..UptoSaid' is the law's where the arguments, and the package variables that the reading takes, are together of bulk at most 1048576: NARROWER than '..Said'. Prove '..Said' where nothing that the law and all that it calls make is longer than what came in: it says more and counts as full. Else prove '..UptoSaid'. A law counts once. -/
mutual
def uptoBulk {H : Type} : DataW H → Nat
  | .lit (.string bytes) => bytes.length + 1
  | .lit _ => 1
  | .nil => 1
  | .ptr d => uptoBulk d + 1
  | .slice elems spare => uptoBulkAll elems + uptoBulkAll spare + 1
  | .agg parts => uptoBulkAll parts + 1
  | .iface _ d => uptoBulk d + 1
  | .map entries => uptoBulkEntries entries + 1
  | .held _ => 1
def uptoBulkAll {H : Type} : List (DataW H) → Nat
  | [] => 0
  | d :: r => uptoBulk d + uptoBulkAll r
def uptoBulkEntries {H : Type} : List (Lit × DataW H) → Nat
  | [] => 0
  | x :: r => uptoBulkEntry x + uptoBulkEntries r
def uptoBulkEntry {H : Type} : Lit × DataW H → Nat
  | (.string bytes, d) => bytes.length + uptoBulk d + 1
  | (_, d) => uptoBulk d + 1
 end
def uptoSmall : (H : Type) → List (DataW H) → Bool := fun _ ds => decide (uptoBulkAll ds ≤ 1048576)
def OpenSpec.upto (s : _root_.Go.ChangeSpec) : _root_.Go.OpenSpec := { _root_.Go.OpenSpec.ofChange s with cond := some uptoSmall }

/-- 'bargelocklaw1.ClockBetween', WHERE WHAT IT READS IS OF BULK AT MOST 1048576: true; the input reads as it did. -/
def clockBetweenUptoRow : OpenClaim := { program := "ytglhapkclpllfabdoor", sum := "ee7360b3871d55697e3b6090084909c8d2e8c7e7a8723f877baf9461f6084539", func := "bargelock/bargelocklaw1.ClockBetween", spec := "clockBetween", recurses := true, named := ["bargelock/api.ErrBound"], apart := false, laid := [("bargelock/api.ErrBound", laid_bargelock_api_ErrBound)], narrowed := true }
def ClockBetweenUptoSaid : Prop := clockBetweenUptoRow.holds Tryd.pinned (OpenSpec.upto clockBetweenSpec)

/-- 'bargelocklaw1.ClockHalves', WHERE WHAT IT READS IS OF BULK AT MOST 1048576: true; the input reads as it did. -/
def clockHalvesUptoRow : OpenClaim := { program := "ytglhapkclpllfabdoor", sum := "ee7360b3871d55697e3b6090084909c8d2e8c7e7a8723f877baf9461f6084539", func := "bargelock/bargelocklaw1.ClockHalves", spec := "clockHalves", recurses := true, named := ["bargelock/api.ErrBound"], apart := false, laid := [("bargelock/api.ErrBound", laid_bargelock_api_ErrBound)], narrowed := true }
def ClockHalvesUptoSaid : Prop := clockHalvesUptoRow.holds Tryd.pinned (OpenSpec.upto clockHalvesSpec)

/-- 'bargelocklaw1.ClockTells', WHERE WHAT IT READS IS OF BULK AT MOST 1048576: true; the input reads as it did. -/
def clockTellsUptoRow : OpenClaim := { program := "ytglhapkclpllfabdoor", sum := "ee7360b3871d55697e3b6090084909c8d2e8c7e7a8723f877baf9461f6084539", func := "bargelock/bargelocklaw1.ClockTells", spec := "clockTells", inPlace := ["internal/reflectlite.ValueOf", "(internal/reflectlite.Value).Type", "(internal/reflectlite.Value).IsNil", "internal/reflectlite.TypeOf", "(internal/reflectlite.Value).Elem", "(internal/reflectlite.Value).Set"], unfollowed := true, recurses := true, named := ["bargelock/api.ErrBound", "bargelock/api.ErrText", "bargelock/api.ErrShape", "bargelock/api.ErrNode", "bargelock/api.ErrNone", "bargelock/api.ErrExist", "bargelock/api.ErrFull", "bargelock/api.ErrSum", "bargelock/api.ErrLate", "bargelock/api.ErrGap", "bargelock/api.ErrOff", "errors.errorType"], apart := false, laid := [("errors.errorType", laid_errors_errorType), ("bargelock/api.ErrText", laid_bargelock_api_ErrText), ("bargelock/api.ErrBound", laid_bargelock_api_ErrBound), ("bargelock/api.ErrShape", laid_bargelock_api_ErrShape), ("bargelock/api.ErrNode", laid_bargelock_api_ErrNode), ("bargelock/api.ErrNone", laid_bargelock_api_ErrNone), ("bargelock/api.ErrExist", laid_bargelock_api_ErrExist), ("bargelock/api.ErrFull", laid_bargelock_api_ErrFull), ("bargelock/api.ErrSum", laid_bargelock_api_ErrSum), ("bargelock/api.ErrLate", laid_bargelock_api_ErrLate), ("bargelock/api.ErrGap", laid_bargelock_api_ErrGap), ("bargelock/api.ErrOff", laid_bargelock_api_ErrOff)], narrowed := true }
def ClockTellsUptoSaid : Prop := clockTellsUptoRow.holds Tryd.pinned (OpenSpec.upto clockTellsSpec)

/-- 'bargelocklaw1.GuardOne', WHERE WHAT IT READS IS OF BULK AT MOST 1048576: true; the input reads as it did. -/
def guardOneUptoRow : OpenClaim := { program := "ytglhapkclpllfabdoor", sum := "ee7360b3871d55697e3b6090084909c8d2e8c7e7a8723f877baf9461f6084539", func := "bargelock/bargelocklaw1.GuardOne", spec := "guardOne", inPlace := ["internal/reflectlite.ValueOf", "(internal/reflectlite.Value).Type", "(internal/reflectlite.Value).IsNil", "internal/reflectlite.TypeOf", "(internal/reflectlite.Value).Elem", "(internal/reflectlite.Value).Set"], unfollowed := true, recurses := true, named := ["bargelock/api.ErrBound", "bargelock/api.ErrNone", "bargelock/api.ErrFull", "bargelock/api.ErrNode", "bargelock/api.ErrLate", "bargelock/api.ErrText", "bargelock/api.ErrShape", "bargelock/api.ErrExist", "bargelock/api.ErrSum", "bargelock/api.ErrGap", "bargelock/api.ErrOff", "errors.errorType"], apart := false, laid := [("errors.errorType", laid_errors_errorType), ("bargelock/api.ErrText", laid_bargelock_api_ErrText), ("bargelock/api.ErrBound", laid_bargelock_api_ErrBound), ("bargelock/api.ErrShape", laid_bargelock_api_ErrShape), ("bargelock/api.ErrNode", laid_bargelock_api_ErrNode), ("bargelock/api.ErrNone", laid_bargelock_api_ErrNone), ("bargelock/api.ErrExist", laid_bargelock_api_ErrExist), ("bargelock/api.ErrFull", laid_bargelock_api_ErrFull), ("bargelock/api.ErrSum", laid_bargelock_api_ErrSum), ("bargelock/api.ErrLate", laid_bargelock_api_ErrLate), ("bargelock/api.ErrGap", laid_bargelock_api_ErrGap), ("bargelock/api.ErrOff", laid_bargelock_api_ErrOff)], narrowed := true }
def GuardOneUptoSaid : Prop := guardOneUptoRow.holds Tryd.pinned (OpenSpec.upto guardOneSpec)

/-- 'bargelocklaw1.GuardTells', WHERE WHAT IT READS IS OF BULK AT MOST 1048576: true; the input reads as it did. -/
def guardTellsUptoRow : OpenClaim := { program := "ytglhapkclpllfabdoor", sum := "ee7360b3871d55697e3b6090084909c8d2e8c7e7a8723f877baf9461f6084539", func := "bargelock/bargelocklaw1.GuardTells", spec := "guardTells", inPlace := ["internal/reflectlite.ValueOf", "(internal/reflectlite.Value).Type", "(internal/reflectlite.Value).IsNil", "internal/reflectlite.TypeOf", "(internal/reflectlite.Value).Elem", "(internal/reflectlite.Value).Set"], unfollowed := true, recurses := true, named := ["bargelock/api.ErrBound", "bargelock/api.ErrNone", "bargelock/api.ErrFull", "bargelock/api.ErrNode", "bargelock/api.ErrLate", "bargelock/api.ErrText", "bargelock/api.ErrShape", "bargelock/api.ErrExist", "bargelock/api.ErrSum", "bargelock/api.ErrGap", "bargelock/api.ErrOff", "errors.errorType"], apart := false, laid := [("errors.errorType", laid_errors_errorType), ("bargelock/api.ErrText", laid_bargelock_api_ErrText), ("bargelock/api.ErrBound", laid_bargelock_api_ErrBound), ("bargelock/api.ErrShape", laid_bargelock_api_ErrShape), ("bargelock/api.ErrNode", laid_bargelock_api_ErrNode), ("bargelock/api.ErrNone", laid_bargelock_api_ErrNone), ("bargelock/api.ErrExist", laid_bargelock_api_ErrExist), ("bargelock/api.ErrFull", laid_bargelock_api_ErrFull), ("bargelock/api.ErrSum", laid_bargelock_api_ErrSum), ("bargelock/api.ErrLate", laid_bargelock_api_ErrLate), ("bargelock/api.ErrGap", laid_bargelock_api_ErrGap), ("bargelock/api.ErrOff", laid_bargelock_api_ErrOff)], narrowed := true }
def GuardTellsUptoSaid : Prop := guardTellsUptoRow.holds Tryd.pinned (OpenSpec.upto guardTellsSpec)

end Rows
end Go.Proofs.YtglhapkclpllfabDoor
