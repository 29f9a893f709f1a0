/-
  The closed fact about guards that the laws of chapter 5 begin with: it answers true. What Wait answers at a right tick and a right plan, with what it means.
  Conditions: package api's errors lie as laid (structure Sent).
-/
import Derived.Test.YtglhapkclpllfabDoorGuard1
import Derived.Test.YtglhapkclpllfabDoorCoded
namespace Go.Proofs.YtglhapkclpllfabDoor
open Go.RowKit

/-- The errors of package api, for package guard. -/
def eG (a : Nat → Addr) : Nat → TypeId × Value := fun k => (125, .pointer (some (a k)))
theorem Sent.guard {a : Nat → Addr} {w : World} (S : Sent a w) : GSent (eG a) w := ⟨⟨S.c1, S.c3, S.c4, S.c6⟩, S.c8⟩
theorem two_okG : planOk [2, 1] := ⟨by decide, by decide, fun x hx => by
  simp at hx
  rcases hx with rfl | rfl
  · exact ⟨by omega, by omega⟩
  · exact ⟨by omega, by omega⟩⟩
theorem two_inG (w : World) : IntsIn (w.alloc (.cells #[.int .i64 2, .int .i64 1] 3)) (.slice (some ⟨w.heap.size, 0, none⟩) 2 2) [2, 1] :=
  IntsAt.in' (Or.inr ⟨w.heap.size, 0, 2, rfl, ints_new w [2, 1] 3 _ _ rfl rfl⟩)
theorem tick_two (t : Nat) (h : t ≤ 10) : tickOk ((10 : Nat) : Int) t := ⟨⟨by omega, by omega⟩, by omega, by omega⟩
theorem wait_two (a : Nat → Addr) (w : World) (S : Sent a w) :
    Calls Tryd.prog 21 #[.slice (some ⟨w.heap.size, 0, none⟩) 2 2, .int .i64 10, .int .i64 1, .int .i64 3] (w.alloc (.cells #[.int .i64 2, .int .i64 1] 3)) fun r w' => r = .returned (.tuple #[.int .i64 10, .nilIface]) ∧ Below w.heap.size w w' := by
  have hA : Below w.heap.size w (w.alloc (.cells #[.int .i64 2, .int .i64 1] 3)) := (Below.refl _ _).alloc (Nat.le_refl _) _
  have h := waitG_ok (eG a) _ [2, 1] 10 3 1 1 _ (two_inG w) (tick_two 3 (by omega)) two_okG (S.below hA).guard (by decide) (by decide) (by decide)
  rw [if_pos (by decide)] at h
  exact h.mono fun _ _ h => ⟨h.1, hA.trans (h.2.mono (by simp))⟩
theorem pass_two (a : Nat → Addr) (w : World) (S : Sent a w) :
    Calls Tryd.prog 20 #[.slice (some ⟨w.heap.size, 0, none⟩) 2 2, .int .i64 10, .int .i64 2, .int .i64 9] (w.alloc (.cells #[.int .i64 2, .int .i64 1] 3)) fun r w' => r = .returned .nilIface ∧ Below w.heap.size w w' := by
  have hA : Below w.heap.size w (w.alloc (.cells #[.int .i64 2, .int .i64 1] 3)) := (Below.refl _ _).alloc (Nat.le_refl _) _
  have h := passG_ok (eG a) _ [2, 1] 10 9 2 _ (two_inG w) (tick_two 9 (by omega)) two_okG (S.below hA).guard
  rw [if_pos (by decide)] at h
  exact h.mono fun _ _ h => ⟨h.1, hA.trans (h.2.mono (by simp))⟩
theorem late_two (a : Nat → Addr) (w : World) (S : Sent a w) :
    Calls Tryd.prog 20 #[.slice (some ⟨w.heap.size, 0, none⟩) 2 2, .int .i64 10, .int .i64 1, .int .i64 9] (w.alloc (.cells #[.int .i64 2, .int .i64 1] 3)) fun r w' => r = .returned (.iface 125 (.pointer (some (a 8)))) ∧ Below w.heap.size w w' := by
  have hA : Below w.heap.size w (w.alloc (.cells #[.int .i64 2, .int .i64 1] 3)) := (Below.refl _ _).alloc (Nat.le_refl _) _
  have h := passG_ok (eG a) _ [2, 1] 10 9 1 _ (two_inG w) (tick_two 9 (by omega)) two_okG (S.below hA).guard
  rw [if_neg (by decide)] at h
  exact h.mono fun _ _ h => ⟨h.1, hA.trans (h.2.mono (by simp))⟩
theorem guarded_ok (a : Nat → Addr) (w : World) (S : Sent a w) : Calls Tryd.prog 17 #[] w fun r w' => r = .returned (.bool true) ∧ Below w.heap.size w w' := by
  have H1 := hide (wait_two a w S)
  have HS := hide S
  clear S
  go_enter Tryd.func17, Tryd.ntmps17
  go_wp2_with fail
  refine (unhide H1).mono ?_
  rintro E w1 ⟨rfl, hB1⟩
  have HB1 := hide hB1
  clear hB1
  have H2 := hide (pass_two a w1 ((unhide HS).below (unhide HB1)))
  go_wp2_with fail
  refine (unhide H2).mono ?_
  rintro E w2 ⟨rfl, hB2⟩
  have HB2 := hide ((unhide HB1).trans (hB2.mono (unhide HB1).size))
  clear hB2
  have H3 := hide (late_two a w2 ((unhide HS).below (unhide HB2)))
  go_wp2_with fail
  refine (unhide H3).mono ?_
  rintro E w3 ⟨rfl, hB3⟩
  have HB3 := hide ((unhide HB2).trans (hB3.mono (unhide HB2).size))
  clear hB3
  have H4 := hide (coded_es a 8 (by omega) w3 ((unhide HS).below (unhide HB3)))
  go_wp2_with fail
  refine (unhide H4).mono ?_
  rintro E w4 ⟨rfl, hB4⟩
  have HB4 := hide ((unhide HB3).trans (hB4.mono (unhide HB3).size))
  clear hB4
  go_wp2
  go_ret
  exact ⟨rfl, unhide HB4⟩
/-- What Wait answers at a right tick and a right plan: an error, and it isn't the node's tick; or a tick from t on that is the node's, and if it isn't t, neither t nor the tick ahead is. -/
theorem waitG_sum (e : Nat → TypeId × Value) (xs : List Int) (long t : Nat) (node : Int) (h : tickOk long t) (hp : planOk xs) :
    (ownerAt xs long t ≠ node ∧ ∃ k : Nat, (k = 1 ∨ k = 4) ∧ ∀ w v, IntsIn w v xs → GSent e w → Calls Tryd.prog 21 #[v, .int .i64 long, .int .i64 node, .int .i64 t] w fun r w' => r = .returned (.tuple #[.int .i64 0, .iface (e k).1 (e k).2]) ∧ Below w.heap.size w w') ∨
    ∃ z : Nat, t ≤ z ∧ z ≤ 1000000 ∧ ownerAt xs long z = node ∧ (z = t ∨ (0 < z ∧ ownerAt xs long t ≠ node ∧ ownerAt xs long (z - 1) ≠ node)) ∧
      ∀ w v, IntsIn w v xs → GSent e w → Calls Tryd.prog 21 #[v, .int .i64 long, .int .i64 node, .int .i64 t] w fun r w' => r = .returned (.tuple #[.int .i64 (z : Int), .nilIface]) ∧ Below w.heap.size w w' := by
  obtain ⟨m, h1, h2, h3, h4⟩ := first_at node (rot xs (t / long % xs.length))
  rw [rot_len] at h1 h3 h4
  have hl : 0 < long := by have := h.1.1; omega
  have ht : t ≤ 1000000 := by have := h.2.2; omega
  by_cases hm : m < xs.length
  · by_cases hz : waitAt long t m ≤ 1000000
    · obtain ⟨b1, b2, b3⟩ := wait_first hl hm h2 (h3 hm)
      refine Or.inr ⟨waitAt long t m, b1, hz, b2, b3, fun w v hv S => ?_⟩
      have := waitG_ok e v xs long t m node w hv h hp S hm h2 (h3 hm)
      rw [if_pos hz] at this
      exact this
    · refine Or.inl ⟨wait_far hm h2 (by omega), 1, Or.inl rfl, fun w v hv S => ?_⟩
      have := waitG_ok e v xs long t m node w hv h hp S hm h2 (h3 hm)
      rw [if_neg hz] at this
      exact this
  · have hno : node ∉ xs := fun h => hm (h4.2 ((rot_mem xs _ node).2 h))
    exact Or.inl ⟨wait_none long t (by have := hp.1; omega) hno, 4, Or.inr rfl, fun w v hv S => waitG_none e v xs long t node w hv h hp hno S⟩
end Go.Proofs.YtglhapkclpllfabDoor
