/-
  Contracts of the document's answer, chapter 1: Fine, CrewOf.
-/
import Derived.Test.YtidheeomahkaeacDoorRef0
namespace Go.Proofs.YtidheeomahkaeacDoor
open Go.RowKit

theorem fine_ok (w : World) : Calls Tryd.prog 43 #[] w fun e w' => e = .returned (.agg #[.int .i64 0, .int .i64 (-1)]) ∧ Below w.heap.size w w' := by
  go_enter Tryd.func43, Tryd.ntmps43
  go_wp2
  exact bodyPost_ret (v := .agg #[.int .i64 0, .int .i64 (-1)]) (by simp [results, Tryd.results43, go_sem]) rfl ⟨rfl, (Below.refl _ _).alloc (Nat.le_refl _) _⟩
end Go.Proofs.YtidheeomahkaeacDoor
