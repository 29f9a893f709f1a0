/-
  What a row's reading of its arguments gives the walks: a slice of numbers that came in; a sentinel's cell.
-/
import Derived.Test.YtjcgbplblmccjadDoorProg
import Derived.Test.YtjcgbplblmccjadDoorChecked
import Derived.Test.YtjcgbplblmccjadDoorBase
import Derived.ProofKit
import Derived.LaidMore
import Derived.OpenShut
import Derived.Stop.Joined
import Derived.SevenTiedAt
namespace Go.Proofs.YtjcgbplblmccjadDoor
open Go.ChangeMaps Go.ChangeShapes Go.WideShapes Go.ChangeAt Go.WideMaps Go.WideElems Go.RowKit

theorem own : ownKnob Tryd.prog.godebug = none := by kernel_rfl
theorem laidOut : laidOutB Tryd.prog = true := by kernel_rfl
theorem cellsINT : Tryd.prog.cellsOf 3 = 1 := by kernel_rfl
theorem sent_cell {W : World} {n : String} {g : Nat} {x : Value} (hg : Tryd.prog.globalNamed n = some g) (h : W.var? Tryd.prog n = some #[x]) : W.cell? ⟨g, 0, none⟩ = some x := by
  simpa using World.var?_cell hg h 0
end Go.Proofs.YtjcgbplblmccjadDoor
