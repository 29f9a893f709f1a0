/-
  The law text coded over package api's errors, as the laws of chapter 11 want it.
  Conditions: package api's errors lie as laid (structure Sent).
-/
import Derived.Test.YtglhapkclpllfadDoorModeFact
import Derived.Test.YtglhapkclpllfadDoorCoded
namespace Go.Proofs.YtglhapkclpllfadDoor
open Go.RowKit

def eM (a : Nat → Addr) : Nat → TypeId × Value := fun k => (198, .pointer (some (a k)))
/-- The law text coded, over package api's errors. -/
theorem coded_all (a : Nat → Addr) (M : World → Prop) (hS : ∀ w, M w → Sent a w) : CodedO M (eM a) := fun w c m hc => by
  unfold errC
  by_cases h0 : c = 0
  · subst h0
    exact (coded_nil w).mono fun _ _ h => ⟨h.1, by rw [h.2]; exact Below.refl _ _⟩
  · rw [if_neg h0]
    have h := coded_es a (c - 1) (by omega) w (hS w m)
    rw [show ((c - 1 : Nat) : Int) + 1 = (c : Int) by omega] at h
    exact h
end Go.Proofs.YtglhapkclpllfadDoor
