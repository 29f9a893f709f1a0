/-
  Contracts of the document's answer, chapter 1: IsNode, powerOf, InInts.
-/
import Derived.Test.YtglhapkclpllfadGreatDoorRefMath0
namespace Go.Proofs.YtglhapkclpllfadGreatDoor
open Go.RowKit

theorem isNode_yes (n : Int) (h : Cm.isNode n) (w : World) : Calls Tryz.prog 18 #[.int .i64 n] w fun e w' => e = .returned (.bool true) ∧ w' = w := by
  have h1 := h.1
  have h2 := h.2
  go_enter Tryz.func18, Tryz.ntmps18
  go_wp2
  go_ret
  exact ⟨rfl, rfl⟩
theorem isNode_no (n : Int) (h : ¬ Cm.isNode n) (w : World) : Calls Tryz.prog 18 #[.int .i64 n] w fun e w' => e = .returned (.bool false) ∧ w' = w := by
  by_cases h1 : 1 ≤ n
  · have h2 : ¬ n ≤ 16 := fun h2 => h ⟨h1, h2⟩
    go_enter Tryz.func18, Tryz.ntmps18
    go_wp2
    go_ret
    exact ⟨rfl, rfl⟩
  · go_enter Tryz.func18, Tryz.ntmps18
    go_wp2
    go_ret
    exact ⟨rfl, rfl⟩
theorem pow_small (i : Nat) (h : i ≤ 15) : (2 : Int) ^ i = ((2 ^ i : Nat) : Int) ∧ 2 ^ i ≤ 32768 := ⟨by simp, Nat.le_trans (Nat.pow_le_pow_right (by omega) h) (by decide)⟩
theorem Tryz.infoInt' : (Tryz.prog.info? 3).map (fun i => (i.zero, i.size, i.bytes)) = some (some (.int .i64 0), 1, 8) := by kernel_rfl
end Go.Proofs.YtglhapkclpllfadGreatDoor
