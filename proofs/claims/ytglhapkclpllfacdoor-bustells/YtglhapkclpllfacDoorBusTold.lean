/-
  What package bus and the document's answer tell, side by side, case by case; then the walk of the law BusTells, whole.
  Conditions: package api's errors lie as laid (structure Sent).
-/
import Derived.Test.YtglhapkclpllfacDoorBusTells
import Derived.Test.YtglhapkclpllfacDoorBusHeard
import Derived.Test.YtglhapkclpllfacDoorGuarded
namespace Go.Proofs.YtglhapkclpllfacDoor
open Go.RowKit

theorem fits_nilB (a : Nat → Addr) (w : World) : ErrFits a w .nilIface 0 (-1) := Or.inl ⟨rfl, rfl, rfl⟩
theorem fits_esB (a : Nat → Addr) (w : World) (k : Nat) (hk : k < 11) (c : Int) (hc : c = (k : Int) + 1) : ErrFits a w (.iface (eG a k).1 (eG a k).2) c (-1) := Or.inr (Or.inr ⟨k, hk, rfl, hc, rfl⟩)
theorem btold_any (a : Nat → Addr) (xs lost : List Int) (ss : List Snt) (long slot : Int) (hw1 : -9223372036854775808 ≤ long ∧ long ≤ 9223372036854775807) (hw2 : -9223372036854775808 ≤ slot ∧ slot ≤ 9223372036854775807) (hlo : lost.length ≤ 40) : ∃ c n ys, BTold a xs lost ss long slot c n ys := by
  by_cases h : slotOk long slot
  · obtain ⟨l, rfl⟩ : ∃ l : Nat, long = (l : Int) := ⟨long.toNat, by have := h.1.1; omega⟩
    obtain ⟨s, rfl⟩ : ∃ s : Nat, slot = (s : Int) := ⟨slot.toNat, by have := h.2.1.1; omega⟩
    by_cases hp : planOk xs
    · by_cases h40 : ss.length ≤ 40
      · refine ⟨0, -1, (List.range 16).map (hears ss (cnts xs l s) lost), ⟨fun w v vs vl S hv hs hl => ?_, fun w v vs vl hv hs hl => hearOf_ok v vs vl xs lost ss l s w hv hs hl h hp h40 hlo, by simp⟩⟩
        refine (hear_ok (eG a) v vs vl xs lost ss l s w hv hs hl h hp h40 hlo S.guard).mono ?_
        rintro r w' ⟨x, rfl, hx, hB⟩
        exact ⟨_, _, rfl, hx, fits_nilB a _, hB⟩
      · refine ⟨7, -1, [], ⟨fun w v vs vl S hv hs hl => ?_, fun w v vs vl hv hs hl => ?_, by simp⟩⟩
        · exact (hear_full (eG a) v vs vl xs lost ss l s w hv hs hl h hp (by omega) S.guard).mono fun _ _ h => ⟨_, _, h.1, TxtsIn.nil _, fits_esB a _ 6 (by omega) 7 rfl, h.2⟩
        · exact (hearOf_full v vs vl xs lost ss l s w hv hs hl h hp (by omega)).mono fun _ _ h => ⟨_, h.1, TxtsIn.nil _, h.2⟩
    · obtain ⟨c, n, hc, hF, hE⟩ := planFault_no xs hp
      have fit : ∀ w ty p, PlanErr (eG a) w xs ty p → ErrFits a w (.iface ty p) c n := fun w ty p hp => by
        rcases hE (eG a) w ty p hp with ⟨k, hk, rfl, rfl, rfl, rfl⟩ | ⟨pb, rfl, rfl, rfl, c0, c1⟩
        · exact fits_esB a w k (by omega) _ rfl
        · exact Or.inr (Or.inl ⟨pb, 3, by omega, rfl, rfl, c0, c1⟩)
      refine ⟨c, n, [], ⟨fun w v vs vl S hv hs hl => ?_, fun w v vs vl hv hs hl => ?_, by simp⟩⟩
      · refine (hear_plan (eG a) v vs vl xs lost ss l s w hv hs hl h hp S.guard).mono ?_
        rintro r w' ⟨ty, p, rfl, hpe, hB⟩
        exact ⟨_, _, rfl, TxtsIn.nil _, fit _ _ _ hpe, hB⟩
      · exact (hearOf_keep v vs vl xs lost ss l s c n w hv hs hl h (fun w' hv' => hF v w' hv') hc).mono fun _ _ h => ⟨_, h.1, TxtsIn.nil _, h.2⟩
  · refine ⟨2, -1, [], ⟨fun w v vs vl S hv hs hl => ?_, fun w v vs vl hv hs hl => ?_, by simp⟩⟩
    · exact (hear_bound (eG a) v vs vl xs lost ss long slot w hv hs hl h S.guard).mono fun _ _ h => ⟨_, _, h.1, TxtsIn.nil _, fits_esB a _ 1 (by omega) 2 rfl, h.2⟩
    · exact (hearOf_bound v vs vl xs lost ss long slot w hv hs hl h hw1 hw2).mono fun _ _ h => ⟨_, h.1, TxtsIn.nil _, h.2⟩
theorem btells_all (a : Nat → Addr) (v vs vl : Value) (xs lost : List Int) (ss : List Snt) (long slot : Int) (w : World) (S : Sent a w) (hv : IntsIn w v xs) (hs : SntsIn w vs ss) (hso : ∀ s ∈ ss, s.ok) (hl : IntsIn w vl lost)
    (hw1 : -9223372036854775808 ≤ long ∧ long ≤ 9223372036854775807) (hw2 : -9223372036854775808 ≤ slot ∧ slot ≤ 9223372036854775807) :
    Calls Tryd.prog 4 #[v, .int .i64 long, .int .i64 slot, vs, vl] w fun r w' => r = .returned (.bool true) ∧ Below w.heap.size w w' :=
  btells_walk a (fun w S => heard_ok (eG a) w S.guard) v vs vl xs lost ss long slot w S hv hs hso hl fun _ _ h3 => btold_any a xs lost ss long slot hw1 hw2 h3
end Go.Proofs.YtglhapkclpllfacDoor
