/-
  The closed fact about plans that the laws of chapter 2 begin with: it answers true.
-/
import Derived.Test.YtglhapkclpllfaaDoorPlan2
namespace Go.Proofs.YtglhapkclpllfaaDoor
open Go.RowKit

theorem two_ok : planOk [2, 1] := ⟨by decide, by decide, fun x hx => by
  simp at hx
  rcases hx with rfl | rfl
  · exact ⟨by omega, by omega⟩
  · exact ⟨by omega, by omega⟩⟩
theorem two_in (w : World) : IntsIn (w.alloc (.cells #[.int .i64 2, .int .i64 1] 3)) (.slice (some ⟨w.heap.size, 0, none⟩) 2 2) [2, 1] :=
  IntsAt.in' (Or.inr ⟨w.heap.size, 0, 2, rfl, ints_new w [2, 1] 3 _ _ rfl rfl⟩)
theorem planned_ok (e : Nat → TypeId × Value) (w : World) (S : PSent e w) : Calls Tryd.prog 22 #[] w fun r w' => r = .returned (.bool true) ∧ Below w.heap.size w w' := by
  have HA : Hid (Below w.heap.size w (w.alloc (.cells #[.int .i64 2, .int .i64 1] 3))) := (Below.refl _ _).alloc (Nat.le_refl _) _
  have H1 : Hid (Calls Tryd.prog _ _ _ _) := whoP_yes e _ [2, 1] 3 _ (two_in w) two_ok (by decide) (S.below (unhide HA))
  have HS := hide S
  clear S
  go_enter Tryd.func22, Tryd.ntmps22
  go_wp2_with fail
  refine (unhide H1).mono ?_
  rintro E w1 ⟨rfl, hB1⟩
  have HB1 : Hid (Below w.heap.size w w1) := (unhide HA).trans (hB1.mono (by simp))
  clear hB1
  have HA2 : Hid (Below w1.heap.size w1 (w1.alloc (.cells #[.int .i64 2, .int .i64 1] 3))) := (Below.refl _ _).alloc (Nat.le_refl _) _
  have HB2 : Hid (Below w.heap.size w (w1.alloc (.cells #[.int .i64 2, .int .i64 1] 3))) := (unhide HB1).trans ((unhide HA2).mono (unhide HB1).size)
  have H2 : Hid (Calls Tryd.prog _ _ _ _) := nextP_yes e _ [2, 1] 2 3 1 _ (two_in w1) two_ok (by decide) ((unhide HS).below (unhide HB2)) (by decide) (by decide) (by decide)
  go_wp2_with fail
  refine (unhide H2).mono ?_
  rintro E w2 ⟨rfl, hB2⟩
  have HB3 : Hid (Below w.heap.size w w2) := (unhide HB2).trans (hB2.mono (unhide HB2).size)
  clear hB2
  go_wp2
  go_ret
  exact ⟨rfl, unhide HB3⟩
end Go.Proofs.YtglhapkclpllfaaDoor
