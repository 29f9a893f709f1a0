/-
  The closed fact about guards that the laws of chapter 5 begin with: it answers true. What Wait answers at a right tick and a right plan, with what it means.
  Conditions: package api's errors lie as laid (structure Sent).
-/
import Derived.Test.YtglhapkclpllfacGreatDoorGa
import Derived.Test.YtglhapkclpllfacGreatDoorCoded
namespace Go.Proofs.YtglhapkclpllfacGreatDoor
open Go.RowKit

/-- The errors of package api, for package guard. -/
def eG (a : Nat → Addr) : Nat → TypeId × Value := fun k => (184, .pointer (some (a k)))
theorem Sent.guard {a : Nat → Addr} {w : World} (S : Sent a w) : GSent (eG a) w := ⟨⟨S.c1, S.c3, S.c4, S.c6⟩, S.c8⟩
theorem two_okG : planOk [2, 1] := ⟨by decide, by decide, fun x hx => by
  simp at hx
  rcases hx with rfl | rfl
  · exact ⟨by omega, by omega⟩
  · exact ⟨by omega, by omega⟩⟩
theorem two_inG (w : World) : IntsIn (w.alloc (.cells #[.int .i64 2, .int .i64 1] 3)) (.slice (some ⟨w.heap.size, 0, none⟩) 2 2) [2, 1] :=
  IntsAt.in' (Or.inr ⟨w.heap.size, 0, 2, rfl, ints_new w [2, 1] 3 _ _ rfl rfl⟩)
theorem tick_two (t : Nat) (h : t ≤ 10) : tickOk ((10 : Nat) : Int) t := ⟨⟨by omega, by omega⟩, by omega, by omega⟩
end Go.Proofs.YtglhapkclpllfacGreatDoor
