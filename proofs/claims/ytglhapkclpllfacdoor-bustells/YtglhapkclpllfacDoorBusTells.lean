/-
  The walk of the law BusTells: what package bus and the document's answer tell, side by side (structure BTold), makes it answer true, and nothing that was in memory has turned.
  Conditions: package api's errors lie as laid (structure Sent).
-/
import Derived.Test.YtglhapkclpllfacDoorRefHear
import Derived.Test.YtglhapkclpllfacDoorBusSent
import Derived.Test.YtglhapkclpllfacDoorFits
namespace Go.Proofs.YtglhapkclpllfacDoor
open Go.RowKit

/-- Two answers that go together. -/
structure BTold (a : Nat → Addr) (xs lost : List Int) (ss : List Snt) (long slot c n : Int) (ys : List ByteArray) : Prop where
  he : ∀ w v vs vl, Sent a w → IntsIn w v xs → SntsIn w vs ss → IntsIn w vl lost → Calls Tryd.prog 10 #[v, .int .i64 long, .int .i64 slot, vs, vl] w fun e w' => ∃ x ev, e = .returned (.tuple #[x, ev]) ∧ TxtsIn w' x ys ∧ ErrFits a w' ev c n ∧ Below w.heap.size w w'
  ho : ∀ w v vs vl, IntsIn w v xs → SntsIn w vs ss → IntsIn w vl lost → Calls Tryd.prog 14 #[v, .int .i64 long, .int .i64 slot, vs, vl] w fun e w' => ∃ x, e = .returned (.tuple #[x, .agg #[.int .i64 c, .int .i64 n]]) ∧ TxtsIn w' x ys ∧ Below w.heap.size w w'
  len : ys.length ≤ 16
/-- The closed fact, as the walks want it. -/
def Heard (a : Nat → Addr) : Prop := ∀ w, Sent a w → Calls Tryd.prog 8 #[] w fun r w' => r = .returned (.bool true) ∧ Below w.heap.size w w'
theorem btells_far (a : Nat → Addr) (HD : Heard a) (v vs vl : Value) (xs lost : List Int) (ss : List Snt) (long slot : Int) (w : World) (S : Sent a w) (hv : IntsIn w v xs) (hs : SntsIn w vs ss) (hso : ∀ s ∈ ss, s.ok) (hl : IntsIn w vl lost) (h : 40 < xs.length ∨ longS ss = true ∨ 40 < lost.length) :
    Calls Tryd.prog 4 #[v, .int .i64 long, .int .i64 slot, vs, vl] w fun r w' => r = .returned (.bool true) ∧ Below w.heap.size w w' := by
  have HK := hide (HD w S)
  have HL : Hid (∀ w', Below w.heap.size w w' → Calls Tryd.prog 9 #[vs] w' fun e w2 => e = .returned (.bool (longS ss)) ∧ w2 = w') := fun w' hB => longSent_ok vs ss w' (hs.below hB) hso
  obtain ⟨ad, cap, rfl, _⟩ := hv
  obtain ⟨ads, caps, rfl, _⟩ := SntsIn.at hs
  obtain ⟨al, capl, rfl, _⟩ := hl
  clear S hs hso
  by_cases h1 : 40 < xs.length
  · have h1' : (40 : Int) < (xs.length : Int) := by omega
    clear h
    go_enter Tryd.func4, Tryd.ntmps4
    go_wp2_with (go_at_call 8; refine (unhide HK).mono ?_; rintro E w1 ⟨rfl, hB1⟩; have HB := hide hB1; clear hB1)
    go_ret
    exact ⟨rfl, unhide HB⟩
  · have h1' : ¬ (40 : Int) < (xs.length : Int) := by omega
    cases hL : longS ss with
    | true =>
      rw [hL] at HL
      clear h hL
      go_enter Tryd.func4, Tryd.ntmps4
      go_wp2_with (first
        | (go_at_call 8; refine (unhide HK).mono ?_; rintro E w1 ⟨rfl, hB1⟩; have HB := hide hB1; clear hB1)
        | (go_at_call 9; refine (unhide HL _ (unhide HB)).mono ?_; rintro E w2 ⟨rfl, rfl⟩))
      go_ret
      exact ⟨rfl, unhide HB⟩
    | false =>
      have h2 : (40 : Int) < (lost.length : Int) := by
        rcases h with h | h | h
        · omega
        · rw [hL] at h; cases h
        · omega
      rw [hL] at HL
      clear h hL
      go_enter Tryd.func4, Tryd.ntmps4
      go_wp2_with (first
        | (go_at_call 8; refine (unhide HK).mono ?_; rintro E w1 ⟨rfl, hB1⟩; have HB := hide hB1; clear hB1)
        | (go_at_call 9; refine (unhide HL _ (unhide HB)).mono ?_; rintro E w2 ⟨rfl, rfl⟩))
      go_ret
      exact ⟨rfl, unhide HB⟩
theorem btells_near (a : Nat → Addr) (HD : Heard a) (v vs vl : Value) (xs lost : List Int) (ss : List Snt) (long slot c n : Int) (ys : List ByteArray) (w : World) (S : Sent a w) (hv : IntsIn w v xs) (hs : SntsIn w vs ss) (hso : ∀ s ∈ ss, s.ok) (hl : IntsIn w vl lost)
    (h1 : xs.length ≤ 40) (h2 : longS ss = false) (h3 : lost.length ≤ 40) (T : BTold a xs lost ss long slot c n ys) :
    Calls Tryd.prog 4 #[v, .int .i64 long, .int .i64 slot, vs, vl] w fun r w' => r = .returned (.bool true) ∧ Below w.heap.size w w' := by
  have HK := hide (HD w S)
  have HL : Hid (∀ w', Below w.heap.size w w' → Calls Tryd.prog 9 #[vs] w' fun e w2 => e = .returned (.bool false) ∧ w2 = w') := fun w' hB => by
    have := longSent_ok vs ss w' (hs.below hB) hso
    rw [h2] at this
    exact this
  have h45 : ss.length ≤ 45 := by
    unfold longS at h2
    have := of_decide_eq_false (Bool.or_eq_false_iff.1 h2).1
    omega
  have HA : Hid (∀ w', Below w.heap.size w w' → Calls Tryd.prog 11 #[vs] w' fun e w2 => ∃ v', e = .returned v' ∧ SntsIn w2 v' ss ∧ Below w'.heap.size w' w2) := fun w' hB => asSent_ok vs ss w' (hs.below hB) h45
  have HT := hide T
  have HS := hide S
  have HV := hide hv
  have HSs := hide hs
  have HLo := hide hl
  obtain ⟨ad, cap, rfl, _⟩ := hv
  obtain ⟨ads, caps, rfl, _⟩ := SntsIn.at hs
  obtain ⟨al, capl, rfl, _⟩ := hl
  have h1' : ¬ (40 : Int) < (xs.length : Int) := by omega
  have h3' : ¬ (40 : Int) < (lost.length : Int) := by omega
  clear S hs hso T h2 h45
  go_enter Tryd.func4, Tryd.ntmps4
  go_wp2_with (first
    | (go_at_call 8; refine (unhide HK).mono ?_; rintro E w1 ⟨rfl, hB1⟩; have HB1 := hide hB1; clear hB1)
    | (go_at_call 9; refine (unhide HL _ (unhide HB1)).mono ?_; rintro E w2 ⟨rfl, rfl⟩)
    | (go_at_call 11; refine (unhide HA _ (unhide HB1)).mono ?_; rintro E w3 ⟨va, rfl, hs3, hB3⟩; have HS3 := hide hs3; have HB3 := hide ((unhide HB1).trans (hB3.mono (unhide HB1).size)); clear hs3 hB3)
    | (go_at_call 10; refine ((unhide HT).he _ _ _ _ ((unhide HS).below (unhide HB3)) ((unhide HV).below (unhide HB3)) (unhide HS3) ((unhide HLo).below (unhide HB3))).mono ?_; rintro E w4 ⟨x4, ev4, rfl, hx4, hf4, hB4⟩; have HX4 := hide hx4; have HE4 := hide hf4; have HB4 := hide ((unhide HB3).trans (hB4.mono (unhide HB3).size)); clear hx4 hf4 hB4)
    | (go_at_call 14; refine ((unhide HT).ho _ _ _ _ ((unhide HV).below (unhide HB4)) ((unhide HSs).below (unhide HB4)) ((unhide HLo).below (unhide HB4))).mono ?_; rintro E w5 ⟨x5, rfl, hx5, hB5⟩; have HX5 := hide hx5; have HY5 := hide ((unhide HX4).below hB5); have HE5 := hide ((unhide HE4).below hB5); have HB5 := hide ((unhide HB4).trans (hB5.mono (unhide HB4).size)); clear hx5 hB5))
  have HA5 : Hid (Below w5.heap.size w5 (w5.alloc (.cells #[.int .i64 c, .int .i64 n] 40))) := (Below.refl _ _).alloc (Nat.le_refl _) _
  have HB6 := hide ((unhide HB5).trans ((unhide HA5).mono (unhide HB5).size))
  refine (faulted_ok a _ ((unhide HS).below (unhide HB6)) ((unhide HE5).below (unhide HA5))).mono ?_
  rintro E w7 ⟨rfl, hB7⟩
  have HA7 := hide ((unhide HA5).trans (hB7.mono (unhide HA5).size))
  have HB7 := hide ((unhide HB5).trans ((unhide HA7).mono (unhide HB5).size))
  have HSm := hide (same_texts _ _ ys ys w7 ((unhide HY5).below (unhide HA7)) ((unhide HX5).below (unhide HA7)) (by have := (unhide HT).len; unfold maxLen; omega))
  rw [show decide (ys = ys) = true by simp] at HSm
  obtain ⟨a4, c4, rfl, _⟩ := unhide HY5
  obtain ⟨a5, c5, rfl, _⟩ := unhide HX5
  clear hB7
  go_wp2_with (go_at_call 16; refine (unhide HSm).mono ?_; rintro E w8 ⟨rfl, dn, rfl⟩)
  go_ret
  exact ⟨rfl, below_draw (unhide HB7) _⟩
theorem btells_walk (a : Nat → Addr) (HD : Heard a) (v vs vl : Value) (xs lost : List Int) (ss : List Snt) (long slot : Int) (w : World) (S : Sent a w) (hv : IntsIn w v xs) (hs : SntsIn w vs ss) (hso : ∀ s ∈ ss, s.ok) (hl : IntsIn w vl lost)
    (HT : xs.length ≤ 40 → ss.length ≤ 45 → lost.length ≤ 40 → ∃ c n ys, BTold a xs lost ss long slot c n ys) :
    Calls Tryd.prog 4 #[v, .int .i64 long, .int .i64 slot, vs, vl] w fun r w' => r = .returned (.bool true) ∧ Below w.heap.size w w' := by
  by_cases h : 40 < xs.length ∨ longS ss = true ∨ 40 < lost.length
  · exact btells_far a HD v vs vl xs lost ss long slot w S hv hs hso hl h
  · have h2 : longS ss = false := by
      cases hL : longS ss with
      | false => rfl
      | true => exact absurd (Or.inr (Or.inl hL)) h
    have h45 : ss.length ≤ 45 := by
      have h3 := h2
      unfold longS at h3
      have := of_decide_eq_false (Bool.or_eq_false_iff.1 h3).1
      omega
    have h1 : xs.length ≤ 40 := Nat.not_lt.1 fun hh => h (Or.inl hh)
    have h3 : lost.length ≤ 40 := Nat.not_lt.1 fun hh => h (Or.inr (Or.inr hh))
    obtain ⟨c, n, ys, T⟩ := HT h1 h45 h3
    exact btells_near a HD v vs vl xs lost ss long slot c n ys w S hv hs hso hl h1 h2 h3 T
end Go.Proofs.YtglhapkclpllfacDoor
