/-
  What package clock and the document's answer tell of numbers, side by side (structure CTold): too few; one that is no time; all right; a clock that is none.
  Conditions: package api's errors lie as laid (structure Sent).
-/
import Derived.Test.YtglhapkclpllfabDoorClockSet
import Derived.Test.YtglhapkclpllfabDoorRefClock3
import Derived.Test.YtglhapkclpllfabDoorFits
namespace Go.Proofs.YtglhapkclpllfabDoor
open Go.RowKit

/-- Two answers that go together, call by call. -/
structure CTold (a : Nat → Addr) (xs : List Int) (k own r c n s c' n' : Int) : Prop where
  mi : ∀ w v, Sent a w → IntsIn w v xs → Calls Tryd.prog 9 #[v, .int .i64 k] w fun e w' => ∃ ev, e = .returned (.tuple #[.int .i64 r, ev]) ∧ ErrFits a w' ev c n ∧ Below w.heap.size w w'
  mo : ∀ w v, IntsIn w v xs → Calls Tryd.prog 11 #[v, .int .i64 k] w fun e w' => e = .returned (.tuple #[.int .i64 r, .agg #[.int .i64 c, .int .i64 n]]) ∧ Below w.heap.size w w'
  se : ∀ w v, Sent a w → IntsIn w v xs → Calls Tryd.prog 13 #[.int .i64 own, v, .int .i64 k] w fun e w' => ∃ ev, e = .returned (.tuple #[.int .i64 s, ev]) ∧ ErrFits a w' ev c' n' ∧ Below w.heap.size w w'
  so : ∀ w v, IntsIn w v xs → Calls Tryd.prog 14 #[.int .i64 own, v, .int .i64 k] w fun e w' => e = .returned (.tuple #[.int .i64 s, .agg #[.int .i64 c', .int .i64 n']]) ∧ Below w.heap.size w w'
theorem fits_nil (a : Nat → Addr) (w : World) : ErrFits a w .nilIface 0 (-1) := Or.inl ⟨rfl, rfl, rfl⟩
theorem fits_bound (a : Nat → Addr) (w : World) : ErrFits a w (.iface 125 (.pointer (some (a 1)))) 2 (-1) := Or.inr (Or.inr ⟨1, by omega, rfl, rfl, rfl⟩)
/-- Mid and MidOf: a time, or an error. -/
theorem mid_pair (a : Nat → Addr) (xs : List Int) (k : Int) (hl : xs.length ≤ 40) (hk : k ≤ 9223372036854775807) :
    (∃ md, isT md ∧ (∀ w v, Sent a w → IntsIn w v xs → Calls Tryd.prog 9 #[v, .int .i64 k] w fun e w' => e = .returned (.tuple #[.int .i64 md, .nilIface]) ∧ Below w.heap.size w w') ∧
      ∀ w v, IntsIn w v xs → Calls Tryd.prog 11 #[v, .int .i64 k] w fun e w' => e = .returned (.tuple #[.int .i64 md, .agg #[.int .i64 0, .int .i64 (-1)]]) ∧ Below w.heap.size w w') ∨
    ∃ c n, 0 < c ∧ (∀ w v, Sent a w → IntsIn w v xs → Calls Tryd.prog 9 #[v, .int .i64 k] w fun e w' => ∃ t p, e = .returned (.tuple #[.int .i64 0, .iface t p]) ∧ ErrFits a w' (.iface t p) c n ∧ Below w.heap.size w w') ∧
      ∀ w v, IntsIn w v xs → Calls Tryd.prog 11 #[v, .int .i64 k] w fun e w' => e = .returned (.tuple #[.int .i64 0, .agg #[.int .i64 c, .int .i64 n]]) ∧ Below w.heap.size w w' := by
  by_cases h : k < 0 ∨ (xs.length : Int) ≤ 2 * k
  · refine Or.inr ⟨2, -1, by omega, fun w v S hv => ?_, fun w v hv => midOf_bound v xs k w hv (by omega) h⟩
    refine (mid_bound v xs k _ _ w hv (by omega) h hk S.c1).mono ?_
    rintro e w' ⟨rfl, hB⟩
    exact ⟨_, _, rfl, fits_bound a w', hB⟩
  · obtain ⟨q, rfl⟩ : ∃ q : Nat, k = (q : Int) := ⟨k.toNat, by omega⟩
    have hq : 2 * q + 1 ≤ xs.length := by omega
    obtain ⟨m, h1, h2, h3⟩ := first_far xs
    rcases Nat.lt_or_ge m xs.length with hm | hm
    · refine Or.inr ⟨2, m, by omega, fun w v S hv => ?_, fun w v hv => ?_⟩
      · refine (mid_far v xs q m _ _ w hv (by omega) hq hm h2 (h3 hm) S.c1).mono ?_
        rintro e w' ⟨pb, rfl, c0, c1, hB⟩
        exact ⟨_, _, rfl, Or.inr (Or.inl ⟨pb, 1, by omega, rfl, rfl, c0, c1⟩), hB⟩
      · refine (midOf_walk v xs q m w hv (by omega) hq (Nat.le_of_lt hm) h2 h3).mono ?_
        rintro e w' ⟨h | h, hB⟩
        · exact absurd h.1 (Nat.ne_of_lt hm)
        · exact ⟨h.2, hB⟩
    · have hT : ∀ x ∈ xs, isT x := times_all.1 fun i hi => h2 i (by omega)
      refine Or.inl ⟨mid xs q, mid_time hT hq, fun w v S hv => mid_ok v xs q _ _ w hv (by omega) hq hT S.c1, fun w v hv => ?_⟩
      refine (midOf_walk v xs q xs.length w hv (by omega) hq (Nat.le_refl _) (times_all.2 hT) (fun h => absurd h (Nat.lt_irrefl _))).mono ?_
      rintro e w' ⟨h | h, hB⟩
      · exact ⟨h.2, hB⟩
      · exact absurd h.1 (Nat.lt_irrefl _)
theorem ctold (a : Nat → Addr) (xs : List Int) (k own : Int) (hl : xs.length ≤ 40) (hk : k ≤ 9223372036854775807) : ∃ r c n s c' n', CTold a xs k own r c n s c' n' := by
  have farP : ¬ isT own → ∀ w v, Sent a w → IntsIn w v xs → Calls Tryd.prog 13 #[.int .i64 own, v, .int .i64 k] w fun e w' => ∃ ev, e = .returned (.tuple #[.int .i64 0, ev]) ∧ ErrFits a w' ev 2 (-1) ∧ Below w.heap.size w w' := fun hO w v S hv => by
    refine (set_far own v xs k _ _ w hv hO S.c1).mono ?_
    rintro e w' ⟨rfl, hB⟩
    exact ⟨_, rfl, fits_bound a w', hB⟩
  rcases mid_pair a xs k hl hk with ⟨md, hd, hP, hR⟩ | ⟨c, n, hc, hP, hR⟩
  · have mi : ∀ w v, Sent a w → IntsIn w v xs → Calls Tryd.prog 9 #[v, .int .i64 k] w fun e w' => ∃ ev, e = .returned (.tuple #[.int .i64 md, ev]) ∧ ErrFits a w' ev 0 (-1) ∧ Below w.heap.size w w' := fun w v S hv => by
      refine (hP w v S hv).mono ?_
      rintro e w' ⟨rfl, hB⟩
      exact ⟨_, rfl, fits_nil a w', hB⟩
    by_cases hO : isT own
    · refine ⟨md, 0, -1, md - own, 0, -1, mi, hR, fun w v S hv => ?_, fun w v hv => setOf_ok own v xs k md w hv hO hd fun w' hv' => hR w' v hv'⟩
      refine (set_ok own v xs k md w hv hO hd (hP w v S hv)).mono ?_
      rintro e w' ⟨rfl, hB⟩
      exact ⟨_, rfl, fits_nil a w', hB⟩
    · exact ⟨md, 0, -1, 0, 2, -1, mi, hR, farP hO, fun w v hv => setOf_far own v xs k w hv hO⟩
  · have mi : ∀ w v, Sent a w → IntsIn w v xs → Calls Tryd.prog 9 #[v, .int .i64 k] w fun e w' => ∃ ev, e = .returned (.tuple #[.int .i64 0, ev]) ∧ ErrFits a w' ev c n ∧ Below w.heap.size w w' := fun w v S hv => by
      refine (hP w v S hv).mono ?_
      rintro e w' ⟨t, p, rfl, hF, hB⟩
      exact ⟨_, rfl, hF, hB⟩
    by_cases hO : isT own
    · refine ⟨0, c, n, 0, c, n, mi, hR, fun w v S hv => ?_, fun w v hv => setOf_err own v xs k c n w hv hO hc fun w' hv' => hR w' v hv'⟩
      refine (set_err own v xs k w (fun t p w' => ErrFits a w' (.iface t p) c n) hv hO (hP w v S hv)).mono ?_
      rintro e w' ⟨t, p, rfl, hF, hB⟩
      exact ⟨_, rfl, hF, hB⟩
    · exact ⟨0, c, n, 0, 2, -1, mi, hR, farP hO, fun w v hv => setOf_far own v xs k w hv hO⟩
end Go.Proofs.YtglhapkclpllfabDoor
