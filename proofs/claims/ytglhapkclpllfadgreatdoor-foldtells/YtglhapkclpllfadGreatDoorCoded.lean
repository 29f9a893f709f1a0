/-
  The contract of the law text coded: an error and its number.
-/
import Derived.Test.YtglhapkclpllfadGreatDoorCode
namespace Go.Proofs.YtglhapkclpllfadGreatDoor
open Go.RowKit

theorem same_below {f : FuncId} {args : Array Value} {w : World} {v : Value} (h : Calls Tryz.prog f args w fun e w' => e = .returned v ∧ w' = w) : Calls Tryz.prog f args w fun e w' => e = .returned v ∧ Below w.heap.size w w' :=
  h.mono fun _ _ h => ⟨h.1, by rw [h.2]; exact Below.refl _ _⟩
end Go.Proofs.YtglhapkclpllfadGreatDoor
