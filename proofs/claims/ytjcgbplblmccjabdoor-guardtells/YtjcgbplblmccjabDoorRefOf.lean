/-
  Contracts of the document's answer, chapter 1: Fine, CrewOf.
-/
import Derived.Test.YtjcgbplblmccjabDoorRef0
namespace Go.Proofs.YtjcgbplblmccjabDoor
open Go.RowKit

theorem fine_ok (w : World) : Calls Tryd.prog 33 #[] w fun e w' => e = .returned (.agg #[.int .i64 0, .int .i64 (-1)]) ∧ Below w.heap.size w w' := by
  go_enter Tryd.func33, Tryd.ntmps33
  go_wp2
  exact bodyPost_ret (v := .agg #[.int .i64 0, .int .i64 (-1)]) (by simp [results, Tryd.results33, go_sem]) rfl ⟨rfl, (Below.refl _ _).alloc (Nat.le_refl _) _⟩
end Go.Proofs.YtjcgbplblmccjabDoor
