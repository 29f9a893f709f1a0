/-
  Contracts of package clock: Set, over whatever Mid answers.
  Conditions: ErrBound of package api lies as laid.
-/
import Derived.Test.YtglhapkclpllfabDoorClock2
namespace Go.Proofs.YtglhapkclpllfabDoor
open Go.RowKit

theorem set_far (own : Int) (v : Value) (xs : List Int) (k : Int) (te : TypeId) (pe : Value) (w : World) (hv : IntsIn w v xs) (h : ¬ isT own) (hE : w.cell? ⟨0, 0, none⟩ = some (.iface te pe)) :
    Calls Tryd.prog 13 #[.int .i64 own, v, .int .i64 k] w fun e w' => e = .returned (.tuple #[.int .i64 0, .iface te pe]) ∧ Below w.heap.size w w' := by
  obtain ⟨ad, cap, rfl, _⟩ := hv
  have HF := hide h
  clear h
  go_enter Tryd.func13, Tryd.ntmps13
  go_wp2_with (go_at_call 26; refine (isTime_no own _ (unhide HF)).mono ?_; rintro e W1 ⟨rfl, rfl⟩)
  go_quiet (fail)
  go_wp2
  go_ret2
  exact ⟨rfl, below_draw (Below.refl _ _) _⟩
theorem set_err (own : Int) (v : Value) (xs : List Int) (k : Int) (w : World) (R : TypeId → Value → World → Prop) (hv : IntsIn w v xs) (h : isT own)
    (hM : Calls Tryd.prog 9 #[v, .int .i64 k] w fun e w' => ∃ t p, e = .returned (.tuple #[.int .i64 0, .iface t p]) ∧ R t p w' ∧ Below w.heap.size w w') :
    Calls Tryd.prog 13 #[.int .i64 own, v, .int .i64 k] w fun e w' => ∃ t p, e = .returned (.tuple #[.int .i64 0, .iface t p]) ∧ R t p w' ∧ Below w.heap.size w w' := by
  obtain ⟨ad, cap, rfl, _⟩ := hv
  have HF := hide h
  have HM := hide hM
  clear h hM
  go_enter Tryd.func13, Tryd.ntmps13
  go_wp2_with (go_at_call 26; refine (isTime_yes own _ (unhide HF)).mono ?_; rintro e W1 ⟨rfl, rfl⟩)
  refine (unhide HM).mono ?_
  rintro e w2 ⟨t, p, rfl, hR, hB⟩
  have HR := hide hR
  have HB := hide hB
  clear hR hB
  go_wp2
  go_ret2
  exact ⟨_, _, rfl, unhide HR, unhide HB⟩
theorem set_ok (own : Int) (v : Value) (xs : List Int) (k md : Int) (w : World) (hv : IntsIn w v xs) (h : isT own) (hd : isT md)
    (hM : Calls Tryd.prog 9 #[v, .int .i64 k] w fun e w' => e = .returned (.tuple #[.int .i64 md, .nilIface]) ∧ Below w.heap.size w w') :
    Calls Tryd.prog 13 #[.int .i64 own, v, .int .i64 k] w fun e w' => e = .returned (.tuple #[.int .i64 (md - own), .nilIface]) ∧ Below w.heap.size w w' := by
  obtain ⟨ad, cap, rfl, _⟩ := hv
  have HF := hide h
  have HM := hide hM
  have t1 := h.1
  have t2 := h.2
  have t3 := hd.1
  have t4 := hd.2
  clear h hM hd
  go_enter Tryd.func13, Tryd.ntmps13
  go_wp2_with (go_at_call 26; refine (isTime_yes own _ (unhide HF)).mono ?_; rintro e W1 ⟨rfl, rfl⟩)
  refine (unhide HM).mono ?_
  rintro e w2 ⟨rfl, hB⟩
  have HB := hide hB
  clear hB
  go_wp2
  go_ret2
  exact ⟨rfl, unhide HB⟩
end Go.Proofs.YtglhapkclpllfabDoor
