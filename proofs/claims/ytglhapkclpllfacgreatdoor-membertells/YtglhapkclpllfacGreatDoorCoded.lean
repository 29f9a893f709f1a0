/-
  The contract of the law text coded: an error and its number.
-/
import Derived.Test.YtglhapkclpllfacGreatDoorCode
namespace Go.Proofs.YtglhapkclpllfacGreatDoor
open Go.RowKit

theorem same_below {f : FuncId} {args : Array Value} {w : World} {v : Value} (h : Calls Tryz.prog f args w fun e w' => e = .returned v ∧ w' = w) : Calls Tryz.prog f args w fun e w' => e = .returned v ∧ Below w.heap.size w w' :=
  h.mono fun _ _ h => ⟨h.1, by rw [h.2]; exact Below.refl _ _⟩
theorem coded_nil (w : World) : Calls Tryz.prog 5 #[.nilIface, .int .i64 0] w fun e w' => e = .returned (.bool true) ∧ w' = w := by
  go_enter Tryz.func5, Tryz.ntmps5
  go_wp2_with (go_at_call 13; refine (code_nil _).mono ?_; rintro e w' ⟨rfl, rfl⟩)
  go_ret
  exact ⟨rfl, rfl⟩
theorem coded_es (a : Nat → Addr) (k : Nat) (hk : k < 11) (w : World) (S : Sent a w) :
    Calls Tryz.prog 5 #[.iface 184 (.pointer (some (a k))), .int .i64 ((k : Int) + 1)] w fun e w' => e = .returned (.bool true) ∧ Below w.heap.size w w' := by
  obtain ⟨cb, tb, hb⟩ := S.row k hk
  have HS := hide S
  have HB := hide hb
  clear S hb
  go_enter Tryz.func5, Tryz.ntmps5
  go_wp2_with (go_at_call 13; refine (code_es a (a k) cb tb w (unhide HS) (unhide HB)).mono ?_; rintro e w' ⟨c, rfl, hc, hB⟩; obtain rfl := codeIs_at (unhide HS) hk hc)
  go_ret
  exact ⟨rfl, hB⟩
end Go.Proofs.YtglhapkclpllfacGreatDoor
