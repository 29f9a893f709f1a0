/-
  NARROWER THAN 'FOR EVERY INPUT', by the rows' own cells (each row's printed sentence says how): Names: laid · CrewParts: laid · PlanWaits: laid · PlanTells: laid · FrameBack: laid.
  DERIVED. THE GIVEN ROWS OF THIS SEAT. 5 by the template 'for every input the law returns true; each argument reads behind the call as it read before'; 0 by the template 'total and deterministic' (their statements: YtglhapkclpllfaaDoorTotals.lean).
  GIVEN WITH THE SEED: the statements are not yours to turn. If you find one false, say at which input.
  Laid BY PROGRAM, IN A SANDBOX (cutbox-rows.mjs): the forced cells as the released guide's own fill.sh prints them over the translation 2491961c473637da… (all of the seat's roots in one cut). By AI agents, Wed Nov 11 2026. No macro, syntax, notation, axiom, sorry.
-/
import Derived.Test.YtglhapkclpllfaaDoorChecked
import GoSem.PinnedTables
import GoSem.Claim
import GoSem.ClaimJoined
import GoSem.ClaimMapViews
import Derived.JoinedTies
import Derived.KernelRfl
namespace Go.Proofs.YtglhapkclpllfaaDoor
/- THE CELL 'sum', in the pinned program and in every row, IS THE sha256 OF THE DUMP (.gsa) THAT YtglhapkclpllfaaDoorProg.lean LOADS. Nothing in Lean hashes anything: it is a label: what it is worth is what the hold of that sum in a sandbox is worth. -/
noncomputable def Tryd.pinned : Pinned := { name := "ytglhapkclpllfaadoor", sum := "2491961c473637da07d99bc0af2f3fdba643ef8d740694c8245ccc628a8c9499", checked := Tryd.checked }
namespace Rows
def none {H : Type} : Left H := { results := [], args := [] }

/- WHAT THE LISTED PACKAGE-LEVEL VARIABLES READ AS WHEN THE CALL BEGINS. Each datum BY PROGRAM (the guide's laid-datum.mjs) off the statement by which the dump's own 'gosem.cut.vars' lays the variable. In a bare row this is a premise. The card (YtglhapkclpllfaaDoorCards.lean) ties it to the program's text. -/
def laid_errors_errorType {H : Type} : DataW H := .iface "internal/reflectlite.rtype" (.agg [.ptr (.lit (.string [101, 114, 114, 111, 114]))])
def laid_bargelock_api_ErrText {H : Type} : DataW H := .iface "*errors.errorString" (.ptr (.agg [.lit (.string [98, 97, 114, 103, 101, 108, 111, 99, 107, 58, 32, 116, 101, 120, 116])]))
def laid_bargelock_api_ErrBound {H : Type} : DataW H := .iface "*errors.errorString" (.ptr (.agg [.lit (.string [98, 97, 114, 103, 101, 108, 111, 99, 107, 58, 32, 98, 111, 117, 110, 100])]))
def laid_bargelock_api_ErrShape {H : Type} : DataW H := .iface "*errors.errorString" (.ptr (.agg [.lit (.string [98, 97, 114, 103, 101, 108, 111, 99, 107, 58, 32, 115, 104, 97, 112, 101])]))
def laid_bargelock_api_ErrNode {H : Type} : DataW H := .iface "*errors.errorString" (.ptr (.agg [.lit (.string [98, 97, 114, 103, 101, 108, 111, 99, 107, 58, 32, 110, 111, 100, 101])]))
def laid_bargelock_api_ErrNone {H : Type} : DataW H := .iface "*errors.errorString" (.ptr (.agg [.lit (.string [98, 97, 114, 103, 101, 108, 111, 99, 107, 58, 32, 110, 111, 110, 101])]))
def laid_bargelock_api_ErrExist {H : Type} : DataW H := .iface "*errors.errorString" (.ptr (.agg [.lit (.string [98, 97, 114, 103, 101, 108, 111, 99, 107, 58, 32, 101, 120, 105, 115, 116])]))
def laid_bargelock_api_ErrFull {H : Type} : DataW H := .iface "*errors.errorString" (.ptr (.agg [.lit (.string [98, 97, 114, 103, 101, 108, 111, 99, 107, 58, 32, 102, 117, 108, 108])]))
def laid_bargelock_api_ErrSum {H : Type} : DataW H := .iface "*errors.errorString" (.ptr (.agg [.lit (.string [98, 97, 114, 103, 101, 108, 111, 99, 107, 58, 32, 115, 117, 109])]))
def laid_bargelock_api_ErrLate {H : Type} : DataW H := .iface "*errors.errorString" (.ptr (.agg [.lit (.string [98, 97, 114, 103, 101, 108, 111, 99, 107, 58, 32, 108, 97, 116, 101])]))
def laid_bargelock_api_ErrGap {H : Type} : DataW H := .iface "*errors.errorString" (.ptr (.agg [.lit (.string [98, 97, 114, 103, 101, 108, 111, 99, 107, 58, 32, 103, 97, 112])]))
def laid_bargelock_api_ErrOff {H : Type} : DataW H := .iface "*errors.errorString" (.ptr (.agg [.lit (.string [98, 97, 114, 103, 101, 108, 111, 99, 107, 58, 32, 111, 102, 102])]))
def laid_math_bits_deBruijn32tab {H : Type} : DataW H := .agg [.lit (.int .u8 0), .lit (.int .u8 1), .lit (.int .u8 28), .lit (.int .u8 2), .lit (.int .u8 29), .lit (.int .u8 14), .lit (.int .u8 24), .lit (.int .u8 3), .lit (.int .u8 30), .lit (.int .u8 22), .lit (.int .u8 20), .lit (.int .u8 15), .lit (.int .u8 25), .lit (.int .u8 17), .lit (.int .u8 4), .lit (.int .u8 8), .lit (.int .u8 31), .lit (.int .u8 27), .lit (.int .u8 13), .lit (.int .u8 23), .lit (.int .u8 21), .lit (.int .u8 19), .lit (.int .u8 16), .lit (.int .u8 7), .lit (.int .u8 26), .lit (.int .u8 12), .lit (.int .u8 18), .lit (.int .u8 6), .lit (.int .u8 11), .lit (.int .u8 5), .lit (.int .u8 10), .lit (.int .u8 9)]
def laid_math_bits_deBruijn64tab {H : Type} : DataW H := .agg [.lit (.int .u8 0), .lit (.int .u8 1), .lit (.int .u8 56), .lit (.int .u8 2), .lit (.int .u8 57), .lit (.int .u8 49), .lit (.int .u8 28), .lit (.int .u8 3), .lit (.int .u8 61), .lit (.int .u8 58), .lit (.int .u8 42), .lit (.int .u8 50), .lit (.int .u8 38), .lit (.int .u8 29), .lit (.int .u8 17), .lit (.int .u8 4), .lit (.int .u8 62), .lit (.int .u8 47), .lit (.int .u8 59), .lit (.int .u8 36), .lit (.int .u8 45), .lit (.int .u8 43), .lit (.int .u8 51), .lit (.int .u8 22), .lit (.int .u8 53), .lit (.int .u8 39), .lit (.int .u8 33), .lit (.int .u8 30), .lit (.int .u8 24), .lit (.int .u8 18), .lit (.int .u8 12), .lit (.int .u8 5), .lit (.int .u8 63), .lit (.int .u8 55), .lit (.int .u8 48), .lit (.int .u8 27), .lit (.int .u8 60), .lit (.int .u8 41), .lit (.int .u8 37), .lit (.int .u8 16), .lit (.int .u8 46), .lit (.int .u8 35), .lit (.int .u8 44), .lit (.int .u8 21), .lit (.int .u8 52), .lit (.int .u8 32), .lit (.int .u8 23), .lit (.int .u8 11), .lit (.int .u8 54), .lit (.int .u8 26), .lit (.int .u8 40), .lit (.int .u8 15), .lit (.int .u8 34), .lit (.int .u8 20), .lit (.int .u8 31), .lit (.int .u8 10), .lit (.int .u8 25), .lit (.int .u8 14), .lit (.int .u8 19), .lit (.int .u8 9), .lit (.int .u8 13), .lit (.int .u8 8), .lit (.int .u8 7), .lit (.int .u8 6)]
def laid_internal_strconv_uint64pow10 {H : Type} : DataW H := .agg [.lit (.int .u64 1), .lit (.int .u64 10), .lit (.int .u64 100), .lit (.int .u64 1000), .lit (.int .u64 10000), .lit (.int .u64 100000), .lit (.int .u64 1000000), .lit (.int .u64 10000000), .lit (.int .u64 100000000), .lit (.int .u64 1000000000), .lit (.int .u64 10000000000), .lit (.int .u64 100000000000), .lit (.int .u64 1000000000000), .lit (.int .u64 10000000000000), .lit (.int .u64 100000000000000), .lit (.int .u64 1000000000000000), .lit (.int .u64 10000000000000000), .lit (.int .u64 100000000000000000), .lit (.int .u64 1000000000000000000), .lit (.int .u64 10000000000000000000)]
def laid_strconv_ErrRange {H : Type} : DataW H := .iface "*errors.errorString" (.ptr (.agg [.lit (.string [118, 97, 108, 117, 101, 32, 111, 117, 116, 32, 111, 102, 32, 114, 97, 110, 103, 101])]))
def laid_strconv_ErrSyntax {H : Type} : DataW H := .iface "*errors.errorString" (.ptr (.agg [.lit (.string [105, 110, 118, 97, 108, 105, 100, 32, 115, 121, 110, 116, 97, 120])]))
def laid_unicode_utf8_acceptRanges {H : Type} : DataW H := .agg [.agg [.lit (.int .u8 128), .lit (.int .u8 191)], .agg [.lit (.int .u8 160), .lit (.int .u8 191)], .agg [.lit (.int .u8 128), .lit (.int .u8 159)], .agg [.lit (.int .u8 144), .lit (.int .u8 191)], .agg [.lit (.int .u8 128), .lit (.int .u8 143)], .agg [.lit (.int .u8 0), .lit (.int .u8 0)], .agg [.lit (.int .u8 0), .lit (.int .u8 0)], .agg [.lit (.int .u8 0), .lit (.int .u8 0)], .agg [.lit (.int .u8 0), .lit (.int .u8 0)], .agg [.lit (.int .u8 0), .lit (.int .u8 0)], .agg [.lit (.int .u8 0), .lit (.int .u8 0)], .agg [.lit (.int .u8 0), .lit (.int .u8 0)], .agg [.lit (.int .u8 0), .lit (.int .u8 0)], .agg [.lit (.int .u8 0), .lit (.int .u8 0)], .agg [.lit (.int .u8 0), .lit (.int .u8 0)], .agg [.lit (.int .u8 0), .lit (.int .u8 0)]]
/-- One of Go's own tables, pinned by name: the form's constant. -/
def laid_unicode_utf8_first : DataW Unit := Go.Pinned.utf8First

/-- 'bargelocklaw1.Names': WHATEVER THE INPUT: true; the input reads as it did. -/
def namesSpec : ChangeSpec := { name := "names", fn := fun _ => fun
  | [] => { results := [.lit (.bool true)], args := [] }
  | _ => none }
def namesRow : OpenClaim := { program := "ytglhapkclpllfaadoor", sum := "2491961c473637da07d99bc0af2f3fdba643ef8d740694c8245ccc628a8c9499", func := "bargelock/bargelocklaw1.Names", spec := "names", inPlace := ["internal/reflectlite.ValueOf", "(internal/reflectlite.Value).Type", "(internal/reflectlite.Value).IsNil", "internal/reflectlite.TypeOf", "(internal/reflectlite.Value).Elem", "(internal/reflectlite.Value).Set"], unfollowed := true, recurses := true, named := ["bargelock/api.ErrText", "bargelock/api.ErrBound", "bargelock/api.ErrShape", "bargelock/api.ErrNode", "bargelock/api.ErrNone", "bargelock/api.ErrExist", "bargelock/api.ErrFull", "bargelock/api.ErrSum", "bargelock/api.ErrLate", "bargelock/api.ErrGap", "bargelock/api.ErrOff", "errors.errorType"], apart := false, laid := [("errors.errorType", laid_errors_errorType), ("bargelock/api.ErrText", laid_bargelock_api_ErrText), ("bargelock/api.ErrBound", laid_bargelock_api_ErrBound), ("bargelock/api.ErrShape", laid_bargelock_api_ErrShape), ("bargelock/api.ErrNode", laid_bargelock_api_ErrNode), ("bargelock/api.ErrNone", laid_bargelock_api_ErrNone), ("bargelock/api.ErrExist", laid_bargelock_api_ErrExist), ("bargelock/api.ErrFull", laid_bargelock_api_ErrFull), ("bargelock/api.ErrSum", laid_bargelock_api_ErrSum), ("bargelock/api.ErrLate", laid_bargelock_api_ErrLate), ("bargelock/api.ErrGap", laid_bargelock_api_ErrGap), ("bargelock/api.ErrOff", laid_bargelock_api_ErrOff)] }
def NamesSaid : Prop := namesRow.holds Tryd.pinned (OpenSpec.ofChange namesSpec)

/-- ITS FALSE NEIGHBOUR: 'it returns false'. Refute it at one input. -/
def namesWrong : ChangeSpec := { name := "names", fn := fun _ => fun
  | [] => { results := [.lit (.bool false)], args := [] }
  | _ => none }
def NamesWrongFalsely : Prop := namesRow.holds Tryd.pinned (OpenSpec.ofChange namesWrong)

/-- 'bargelocklaw1.CrewParts': WHATEVER THE INPUT: true; the input reads as it did. -/
def crewPartsSpec : ChangeSpec := { name := "crewParts", fn := fun _ => fun
  | [d1, d2, d3] => { results := [.lit (.bool true)], args := [d1, d2, d3] }
  | _ => none }
def crewPartsRow : OpenClaim := { program := "ytglhapkclpllfaadoor", sum := "2491961c473637da07d99bc0af2f3fdba643ef8d740694c8245ccc628a8c9499", func := "bargelock/bargelocklaw1.CrewParts", spec := "crewParts", inPlace := ["internal/bytealg.IndexByteString", "internal/bytealg.IndexString", "internal/abi.NoEscape", "internal/bytealg.MakeNoZero"], unfollowed := true, recurses := true, named := ["bargelock/api.ErrNode", "bargelock/api.ErrText", "internal/bytealg.MaxLen", "strconv.ErrSyntax", "strconv.ErrRange", "internal/strconv.uint64pow10", "math/bits.deBruijn32tab", "math/bits.deBruijn64tab", "bargelock/api.ErrBound"], apart := false, laid := [("math/bits.deBruijn32tab", laid_math_bits_deBruijn32tab), ("math/bits.deBruijn64tab", laid_math_bits_deBruijn64tab), ("internal/strconv.uint64pow10", laid_internal_strconv_uint64pow10), ("bargelock/api.ErrText", laid_bargelock_api_ErrText), ("bargelock/api.ErrBound", laid_bargelock_api_ErrBound), ("bargelock/api.ErrNode", laid_bargelock_api_ErrNode), ("strconv.ErrRange", laid_strconv_ErrRange), ("strconv.ErrSyntax", laid_strconv_ErrSyntax)] }
def CrewPartsSaid : Prop := crewPartsRow.holds Tryd.pinned (OpenSpec.ofChange crewPartsSpec)

/-- ITS FALSE NEIGHBOUR: 'it returns false'. Refute it at one input. -/
def crewPartsWrong : ChangeSpec := { name := "crewParts", fn := fun _ => fun
  | [d1, d2, d3] => { results := [.lit (.bool false)], args := [d1, d2, d3] }
  | _ => none }
def CrewPartsWrongFalsely : Prop := crewPartsRow.holds Tryd.pinned (OpenSpec.ofChange crewPartsWrong)

/-- 'bargelocklaw1.PlanWaits': WHATEVER THE INPUT: true; the input reads as it did. -/
def planWaitsSpec : ChangeSpec := { name := "planWaits", fn := fun _ => fun
  | [d1, d2, d3] => { results := [.lit (.bool true)], args := [d1, d2, d3] }
  | _ => none }
def planWaitsRow : OpenClaim := { program := "ytglhapkclpllfaadoor", sum := "2491961c473637da07d99bc0af2f3fdba643ef8d740694c8245ccc628a8c9499", func := "bargelock/bargelocklaw1.PlanWaits", spec := "planWaits", unfollowed := true, recurses := true, named := ["bargelock/api.ErrBound", "bargelock/api.ErrNone", "bargelock/api.ErrFull", "bargelock/api.ErrNode"], apart := false, laid := [("bargelock/api.ErrBound", laid_bargelock_api_ErrBound), ("bargelock/api.ErrNode", laid_bargelock_api_ErrNode), ("bargelock/api.ErrNone", laid_bargelock_api_ErrNone), ("bargelock/api.ErrFull", laid_bargelock_api_ErrFull)] }
def PlanWaitsSaid : Prop := planWaitsRow.holds Tryd.pinned (OpenSpec.ofChange planWaitsSpec)

/-- ITS FALSE NEIGHBOUR: 'it returns false'. Refute it at one input. -/
def planWaitsWrong : ChangeSpec := { name := "planWaits", fn := fun _ => fun
  | [d1, d2, d3] => { results := [.lit (.bool false)], args := [d1, d2, d3] }
  | _ => none }
def PlanWaitsWrongFalsely : Prop := planWaitsRow.holds Tryd.pinned (OpenSpec.ofChange planWaitsWrong)

/-- 'bargelocklaw1.PlanTells': WHATEVER THE INPUT: true; the input reads as it did. -/
def planTellsSpec : ChangeSpec := { name := "planTells", fn := fun _ => fun
  | [d1, d2, d3] => { results := [.lit (.bool true)], args := [d1, d2, d3] }
  | _ => none }
def planTellsRow : OpenClaim := { program := "ytglhapkclpllfaadoor", sum := "2491961c473637da07d99bc0af2f3fdba643ef8d740694c8245ccc628a8c9499", func := "bargelock/bargelocklaw1.PlanTells", spec := "planTells", inPlace := ["internal/reflectlite.ValueOf", "(internal/reflectlite.Value).Type", "(internal/reflectlite.Value).IsNil", "internal/reflectlite.TypeOf", "(internal/reflectlite.Value).Elem", "(internal/reflectlite.Value).Set"], unfollowed := true, recurses := true, named := ["bargelock/api.ErrBound", "bargelock/api.ErrNone", "bargelock/api.ErrFull", "bargelock/api.ErrNode", "bargelock/api.ErrText", "bargelock/api.ErrShape", "bargelock/api.ErrExist", "bargelock/api.ErrSum", "bargelock/api.ErrLate", "bargelock/api.ErrGap", "bargelock/api.ErrOff", "errors.errorType"], apart := false, laid := [("errors.errorType", laid_errors_errorType), ("bargelock/api.ErrText", laid_bargelock_api_ErrText), ("bargelock/api.ErrBound", laid_bargelock_api_ErrBound), ("bargelock/api.ErrShape", laid_bargelock_api_ErrShape), ("bargelock/api.ErrNode", laid_bargelock_api_ErrNode), ("bargelock/api.ErrNone", laid_bargelock_api_ErrNone), ("bargelock/api.ErrExist", laid_bargelock_api_ErrExist), ("bargelock/api.ErrFull", laid_bargelock_api_ErrFull), ("bargelock/api.ErrSum", laid_bargelock_api_ErrSum), ("bargelock/api.ErrLate", laid_bargelock_api_ErrLate), ("bargelock/api.ErrGap", laid_bargelock_api_ErrGap), ("bargelock/api.ErrOff", laid_bargelock_api_ErrOff)] }
def PlanTellsSaid : Prop := planTellsRow.holds Tryd.pinned (OpenSpec.ofChange planTellsSpec)

/-- ITS FALSE NEIGHBOUR: 'it returns false'. Refute it at one input. -/
def planTellsWrong : ChangeSpec := { name := "planTells", fn := fun _ => fun
  | [d1, d2, d3] => { results := [.lit (.bool false)], args := [d1, d2, d3] }
  | _ => none }
def PlanTellsWrongFalsely : Prop := planTellsRow.holds Tryd.pinned (OpenSpec.ofChange planTellsWrong)

/-- 'bargelocklaw1.FrameBack': WHATEVER THE INPUT: true; the input reads as it did. -/
def frameBackSpec : ChangeSpec := { name := "frameBack", fn := fun _ => fun
  | [d1, d2, d3, d4] => { results := [.lit (.bool true)], args := [d1, d2, d3, d4] }
  | _ => none }
def frameBackRow : OpenClaim := { program := "ytglhapkclpllfaadoor", sum := "2491961c473637da07d99bc0af2f3fdba643ef8d740694c8245ccc628a8c9499", func := "bargelock/bargelocklaw1.FrameBack", spec := "frameBack", inPlace := ["internal/abi.NoEscape", "internal/bytealg.MakeNoZero", "internal/bytealg.CountString", "internal/bytealg.IndexByteString", "internal/bytealg.IndexString"], unfollowed := true, recurses := true, named := ["bargelock/api.ErrNode", "bargelock/api.ErrShape", "bargelock/api.ErrBound", "internal/strconv.uint64pow10", "math/bits.deBruijn32tab", "math/bits.deBruijn64tab", "bargelock/api.ErrSum", "unicode/utf8.first", "unicode/utf8.acceptRanges", "internal/bytealg.MaxLen", "bargelock/api.ErrText", "strconv.ErrSyntax", "strconv.ErrRange"], apart := false, laid := [("math/bits.deBruijn32tab", laid_math_bits_deBruijn32tab), ("math/bits.deBruijn64tab", laid_math_bits_deBruijn64tab), ("internal/strconv.uint64pow10", laid_internal_strconv_uint64pow10), ("unicode/utf8.acceptRanges", laid_unicode_utf8_acceptRanges), ("bargelock/api.ErrText", laid_bargelock_api_ErrText), ("bargelock/api.ErrBound", laid_bargelock_api_ErrBound), ("bargelock/api.ErrShape", laid_bargelock_api_ErrShape), ("bargelock/api.ErrNode", laid_bargelock_api_ErrNode), ("bargelock/api.ErrSum", laid_bargelock_api_ErrSum), ("strconv.ErrRange", laid_strconv_ErrRange), ("strconv.ErrSyntax", laid_strconv_ErrSyntax), ("unicode/utf8.first", laid_unicode_utf8_first)] }
def FrameBackSaid : Prop := frameBackRow.holds Tryd.pinned (OpenSpec.ofChange frameBackSpec)

/-- ITS FALSE NEIGHBOUR: 'it returns false'. Refute it at one input. -/
def frameBackWrong : ChangeSpec := { name := "frameBack", fn := fun _ => fun
  | [d1, d2, d3, d4] => { results := [.lit (.bool false)], args := [d1, d2, d3, d4] }
  | _ => none }
def FrameBackWrongFalsely : Prop := frameBackRow.holds Tryd.pinned (OpenSpec.ofChange frameBackWrong)

/- THE SECOND FORM. 'bulk': how many values and letters a reading holds, each counted each time it is reached (what is shared counts as often as it is met; a slice's spare places count too). A statement '..UptoSaid' is the law's where the arguments, and the package variables that the reading takes, are together of bulk at most 1048576: NARROWER than '..Said'. Prove '..Said' where nothing that the law and all that it calls make is longer than what came in: it says more and counts as full. Else prove '..UptoSaid'. A law counts once. -/
mutual
def uptoBulk {H : Type} : DataW H → Nat
  | .lit (.string bytes) => bytes.length + 1
  | .lit _ => 1
  | .nil => 1
  | .ptr d => uptoBulk d + 1
  | .slice elems spare => uptoBulkAll elems + uptoBulkAll spare + 1
  | .agg parts => uptoBulkAll parts + 1
  | .iface _ d => uptoBulk d + 1
  | .map entries => uptoBulkEntries entries + 1
  | .held _ => 1
def uptoBulkAll {H : Type} : List (DataW H) → Nat
  | [] => 0
  | d :: r => uptoBulk d + uptoBulkAll r
def uptoBulkEntries {H : Type} : List (Lit × DataW H) → Nat
  | [] => 0
  | x :: r => uptoBulkEntry x + uptoBulkEntries r
def uptoBulkEntry {H : Type} : Lit × DataW H → Nat
  | (.string bytes, d) => bytes.length + uptoBulk d + 1
  | (_, d) => uptoBulk d + 1
 end
def uptoSmall : (H : Type) → List (DataW H) → Bool := fun _ ds => decide (uptoBulkAll ds ≤ 1048576)
def OpenSpec.upto (s : _root_.Go.ChangeSpec) : _root_.Go.OpenSpec := { _root_.Go.OpenSpec.ofChange s with cond := some uptoSmall }

/-- 'bargelocklaw1.Names', WHERE WHAT IT READS IS OF BULK AT MOST 1048576: true; the input reads as it did. -/
def namesUptoRow : OpenClaim := { program := "ytglhapkclpllfaadoor", sum := "2491961c473637da07d99bc0af2f3fdba643ef8d740694c8245ccc628a8c9499", func := "bargelock/bargelocklaw1.Names", spec := "names", inPlace := ["internal/reflectlite.ValueOf", "(internal/reflectlite.Value).Type", "(internal/reflectlite.Value).IsNil", "internal/reflectlite.TypeOf", "(internal/reflectlite.Value).Elem", "(internal/reflectlite.Value).Set"], unfollowed := true, recurses := true, named := ["bargelock/api.ErrText", "bargelock/api.ErrBound", "bargelock/api.ErrShape", "bargelock/api.ErrNode", "bargelock/api.ErrNone", "bargelock/api.ErrExist", "bargelock/api.ErrFull", "bargelock/api.ErrSum", "bargelock/api.ErrLate", "bargelock/api.ErrGap", "bargelock/api.ErrOff", "errors.errorType"], apart := false, laid := [("errors.errorType", laid_errors_errorType), ("bargelock/api.ErrText", laid_bargelock_api_ErrText), ("bargelock/api.ErrBound", laid_bargelock_api_ErrBound), ("bargelock/api.ErrShape", laid_bargelock_api_ErrShape), ("bargelock/api.ErrNode", laid_bargelock_api_ErrNode), ("bargelock/api.ErrNone", laid_bargelock_api_ErrNone), ("bargelock/api.ErrExist", laid_bargelock_api_ErrExist), ("bargelock/api.ErrFull", laid_bargelock_api_ErrFull), ("bargelock/api.ErrSum", laid_bargelock_api_ErrSum), ("bargelock/api.ErrLate", laid_bargelock_api_ErrLate), ("bargelock/api.ErrGap", laid_bargelock_api_ErrGap), ("bargelock/api.ErrOff", laid_bargelock_api_ErrOff)], narrowed := true }
def NamesUptoSaid : Prop := namesUptoRow.holds Tryd.pinned (OpenSpec.upto namesSpec)

/-- 'bargelocklaw1.CrewParts', WHERE WHAT IT READS IS OF BULK AT MOST 1048576: true; the input reads as it did. -/
def crewPartsUptoRow : OpenClaim := { program := "ytglhapkclpllfaadoor", sum := "2491961c473637da07d99bc0af2f3fdba643ef8d740694c8245ccc628a8c9499", func := "bargelock/bargelocklaw1.CrewParts", spec := "crewParts", inPlace := ["internal/bytealg.IndexByteString", "internal/bytealg.IndexString", "internal/abi.NoEscape", "internal/bytealg.MakeNoZero"], unfollowed := true, recurses := true, named := ["bargelock/api.ErrNode", "bargelock/api.ErrText", "internal/bytealg.MaxLen", "strconv.ErrSyntax", "strconv.ErrRange", "internal/strconv.uint64pow10", "math/bits.deBruijn32tab", "math/bits.deBruijn64tab", "bargelock/api.ErrBound"], apart := false, laid := [("math/bits.deBruijn32tab", laid_math_bits_deBruijn32tab), ("math/bits.deBruijn64tab", laid_math_bits_deBruijn64tab), ("internal/strconv.uint64pow10", laid_internal_strconv_uint64pow10), ("bargelock/api.ErrText", laid_bargelock_api_ErrText), ("bargelock/api.ErrBound", laid_bargelock_api_ErrBound), ("bargelock/api.ErrNode", laid_bargelock_api_ErrNode), ("strconv.ErrRange", laid_strconv_ErrRange), ("strconv.ErrSyntax", laid_strconv_ErrSyntax)], narrowed := true }
def CrewPartsUptoSaid : Prop := crewPartsUptoRow.holds Tryd.pinned (OpenSpec.upto crewPartsSpec)

/-- 'bargelocklaw1.PlanWaits', WHERE WHAT IT READS IS OF BULK AT MOST 1048576: true; the input reads as it did. -/
def planWaitsUptoRow : OpenClaim := { program := "ytglhapkclpllfaadoor", sum := "2491961c473637da07d99bc0af2f3fdba643ef8d740694c8245ccc628a8c9499", func := "bargelock/bargelocklaw1.PlanWaits", spec := "planWaits", unfollowed := true, recurses := true, named := ["bargelock/api.ErrBound", "bargelock/api.ErrNone", "bargelock/api.ErrFull", "bargelock/api.ErrNode"], apart := false, laid := [("bargelock/api.ErrBound", laid_bargelock_api_ErrBound), ("bargelock/api.ErrNode", laid_bargelock_api_ErrNode), ("bargelock/api.ErrNone", laid_bargelock_api_ErrNone), ("bargelock/api.ErrFull", laid_bargelock_api_ErrFull)], narrowed := true }
def PlanWaitsUptoSaid : Prop := planWaitsUptoRow.holds Tryd.pinned (OpenSpec.upto planWaitsSpec)

/-- 'bargelocklaw1.PlanTells', WHERE WHAT IT READS IS OF BULK AT MOST 1048576: true; the input reads as it did. -/
def planTellsUptoRow : OpenClaim := { program := "ytglhapkclpllfaadoor", sum := "2491961c473637da07d99bc0af2f3fdba643ef8d740694c8245ccc628a8c9499", func := "bargelock/bargelocklaw1.PlanTells", spec := "planTells", inPlace := ["internal/reflectlite.ValueOf", "(internal/reflectlite.Value).Type", "(internal/reflectlite.Value).IsNil", "internal/reflectlite.TypeOf", "(internal/reflectlite.Value).Elem", "(internal/reflectlite.Value).Set"], unfollowed := true, recurses := true, named := ["bargelock/api.ErrBound", "bargelock/api.ErrNone", "bargelock/api.ErrFull", "bargelock/api.ErrNode", "bargelock/api.ErrText", "bargelock/api.ErrShape", "bargelock/api.ErrExist", "bargelock/api.ErrSum", "bargelock/api.ErrLate", "bargelock/api.ErrGap", "bargelock/api.ErrOff", "errors.errorType"], apart := false, laid := [("errors.errorType", laid_errors_errorType), ("bargelock/api.ErrText", laid_bargelock_api_ErrText), ("bargelock/api.ErrBound", laid_bargelock_api_ErrBound), ("bargelock/api.ErrShape", laid_bargelock_api_ErrShape), ("bargelock/api.ErrNode", laid_bargelock_api_ErrNode), ("bargelock/api.ErrNone", laid_bargelock_api_ErrNone), ("bargelock/api.ErrExist", laid_bargelock_api_ErrExist), ("bargelock/api.ErrFull", laid_bargelock_api_ErrFull), ("bargelock/api.ErrSum", laid_bargelock_api_ErrSum), ("bargelock/api.ErrLate", laid_bargelock_api_ErrLate), ("bargelock/api.ErrGap", laid_bargelock_api_ErrGap), ("bargelock/api.ErrOff", laid_bargelock_api_ErrOff)], narrowed := true }
def PlanTellsUptoSaid : Prop := planTellsUptoRow.holds Tryd.pinned (OpenSpec.upto planTellsSpec)

/-- 'bargelocklaw1.FrameBack', WHERE WHAT IT READS IS OF BULK AT MOST 1048576: true; the input reads as it did. -/
def frameBackUptoRow : OpenClaim := { program := "ytglhapkclpllfaadoor", sum := "2491961c473637da07d99bc0af2f3fdba643ef8d740694c8245ccc628a8c9499", func := "bargelock/bargelocklaw1.FrameBack", spec := "frameBack", inPlace := ["internal/abi.NoEscape", "internal/bytealg.MakeNoZero", "internal/bytealg.CountString", "internal/bytealg.IndexByteString", "internal/bytealg.IndexString"], unfollowed := true, recurses := true, named := ["bargelock/api.ErrNode", "bargelock/api.ErrShape", "bargelock/api.ErrBound", "internal/strconv.uint64pow10", "math/bits.deBruijn32tab", "math/bits.deBruijn64tab", "bargelock/api.ErrSum", "unicode/utf8.first", "unicode/utf8.acceptRanges", "internal/bytealg.MaxLen", "bargelock/api.ErrText", "strconv.ErrSyntax", "strconv.ErrRange"], apart := false, laid := [("math/bits.deBruijn32tab", laid_math_bits_deBruijn32tab), ("math/bits.deBruijn64tab", laid_math_bits_deBruijn64tab), ("internal/strconv.uint64pow10", laid_internal_strconv_uint64pow10), ("unicode/utf8.acceptRanges", laid_unicode_utf8_acceptRanges), ("bargelock/api.ErrText", laid_bargelock_api_ErrText), ("bargelock/api.ErrBound", laid_bargelock_api_ErrBound), ("bargelock/api.ErrShape", laid_bargelock_api_ErrShape), ("bargelock/api.ErrNode", laid_bargelock_api_ErrNode), ("bargelock/api.ErrSum", laid_bargelock_api_ErrSum), ("strconv.ErrRange", laid_strconv_ErrRange), ("strconv.ErrSyntax", laid_strconv_ErrSyntax), ("unicode/utf8.first", laid_unicode_utf8_first)], narrowed := true }
def FrameBackUptoSaid : Prop := frameBackUptoRow.holds Tryd.pinned (OpenSpec.upto frameBackSpec)

end Rows
end Go.Proofs.YtglhapkclpllfaaDoor
