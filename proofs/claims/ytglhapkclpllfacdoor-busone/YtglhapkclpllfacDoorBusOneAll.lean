/-
  The walk of the law BusOne, whole: whatever package bus is asked, the law answers true, and nothing that was in memory has turned.
  Conditions: package api's errors lie as laid (structure GSent).
-/
import Derived.Test.YtglhapkclpllfacDoorBusOne
import Derived.Test.YtglhapkclpllfacDoorBusHeard
namespace Go.Proofs.YtglhapkclpllfacDoor
open Go.RowKit

theorem bone_all (e : Nat → TypeId × Value) (v vs vl : Value) (xs lost : List Int) (ss : List Snt) (long slot : Int) (w : World) (S : GSent e w) (hv : IntsIn w v xs) (hs : SntsIn w vs ss) (hso : ∀ s ∈ ss, s.ok) (hl : IntsIn w vl lost) :
    Calls Tryd.prog 3 #[v, .int .i64 long, .int .i64 slot, vs, vl] w fun r w' => r = .returned (.bool true) ∧ Below w.heap.size w w' := by
  by_cases hf : 40 < xs.length ∨ longS ss = true ∨ 40 < lost.length
  · exact bone_far e (heard_ok e) v vs vl xs lost ss long slot w S hv hs hso hl hf
  · have h2 : longS ss = false := by
      cases hL : longS ss with
      | false => rfl
      | true => exact absurd (Or.inr (Or.inl hL)) hf
    have h1 : xs.length ≤ 40 := Nat.not_lt.1 fun hh => hf (Or.inl hh)
    have h3 : lost.length ≤ 40 := Nat.not_lt.1 fun hh => hf (Or.inr (Or.inr hh))
    by_cases h : slotOk long slot
    · obtain ⟨l, rfl⟩ : ∃ l : Nat, long = (l : Int) := ⟨long.toNat, by have := h.1.1; omega⟩
      obtain ⟨s, rfl⟩ : ∃ s : Nat, slot = (s : Int) := ⟨slot.toNat, by have := h.2.1.1; omega⟩
      by_cases hp : planOk xs
      · by_cases h40 : ss.length ≤ 40
        · exact bone_ok e (heard_ok e) v vs vl xs lost ss l s w S hv hs hso hl h1 h2 h3 hp ⟨by have := h.1.1; omega, by have := h.1.2; omega⟩ (by have := h.2.1.2; omega) 
            fun w v vs vl S hv hs hl => hear_ok e v vs vl xs lost ss l s w hv hs hl h hp h40 h3 S
        · exact bone_err e (heard_ok e) v vs vl xs lost ss l s w S hv hs hso hl h1 h2 h3 fun w v vs vl S hv hs hl =>
            (hear_full e v vs vl xs lost ss l s w hv hs hl h hp (by omega) S).mono fun _ _ h => ⟨_, _, _, h.1, TxtsIn.nil _, h.2⟩
      · exact bone_err e (heard_ok e) v vs vl xs lost ss l s w S hv hs hso hl h1 h2 h3 fun w v vs vl S hv hs hl =>
          (hear_plan e v vs vl xs lost ss l s w hv hs hl h hp S).mono fun _ _ ⟨ty, p, h, _, hB⟩ => ⟨_, ty, p, h, TxtsIn.nil _, hB⟩
    · exact bone_err e (heard_ok e) v vs vl xs lost ss long slot w S hv hs hso hl h1 h2 h3 fun w v vs vl S hv hs hl =>
        (hear_bound e v vs vl xs lost ss long slot w hv hs hl h S).mono fun _ _ h => ⟨_, _, _, h.1, TxtsIn.nil _, h.2⟩
end Go.Proofs.YtglhapkclpllfacDoor
