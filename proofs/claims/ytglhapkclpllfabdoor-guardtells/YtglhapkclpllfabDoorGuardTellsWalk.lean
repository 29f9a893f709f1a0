/-
  The walk of the law GuardTells: whatever the plan, the slot's length, the node and the tick are, it answers true, and nothing that was in memory has turned.
  Conditions: package api's errors lie as laid (structure Sent).
-/
import Derived.Test.YtglhapkclpllfabDoorGuardTells
namespace Go.Proofs.YtglhapkclpllfabDoor
open Go.RowKit

theorem gtells_far (a : Nat → Addr) (v : Value) (xs : List Int) (long node t : Int) (w : World) (S : Sent a w) (hv : IntsIn w v xs) (h : 40 < xs.length) :
    Calls Tryd.prog 7 #[v, .int .i64 long, .int .i64 node, .int .i64 t] w fun r w' => r = .returned (.bool true) ∧ Below w.heap.size w w' := by
  obtain ⟨ad, cap, rfl, _⟩ := hv
  have HS := hide S
  have h1 : (40 : Int) < (xs.length : Int) := by omega
  clear S h
  go_enter Tryd.func7, Tryd.ntmps7
  go_wp2_with (go_at_call 17; refine (guarded_ok a w (unhide HS)).mono ?_; rintro E w1 ⟨rfl, hB1⟩; have HB := hide hB1; clear hB1)
  go_ret
  exact ⟨rfl, unhide HB⟩
theorem gtells_tick (a : Nat → Addr) (v : Value) (xs : List Int) (long node t cP nP nx cW nW : Int) (w : World) (S : Sent a w) (hv : IntsIn w v xs) (h40 : xs.length ≤ 40) (h : ¬ tickOk long t) (T : GTold a xs long node t cP nP nx cW nW) :
    Calls Tryd.prog 7 #[v, .int .i64 long, .int .i64 node, .int .i64 t] w fun r w' => r = .returned (.bool true) ∧ Below w.heap.size w w' := by
  have HV := hide hv
  obtain ⟨ad, cap, rfl, _⟩ := hv
  have HS := hide S
  have HT := hide T
  have HE : Hid (∀ w', Calls Tryd.prog 22 #[.int .i64 long, .int .i64 t] w' fun e w2 => e = .returned (.int .i64 2) ∧ w2 = w') := fun w' => tickError_no long t w' h
  have HO : Hid (∀ w', Sent a w' → Calls Tryd.prog 18 #[.int .i64 long, .int .i64 t] w' fun r w2 => r = .returned (.tuple #[.int .i64 0, .iface (eG a 1).1 (eG a 1).2]) ∧ Below w'.heap.size w' w2) := fun w' S => slotG_no (eG a) long t w' h S.guard.p
  have h1 : ¬ (40 : Int) < (xs.length : Int) := by omega
  clear S h T h40
  go_enter Tryd.func7, Tryd.ntmps7
  go_wp2_with fail
  refine (guarded_ok a w (unhide HS)).mono ?_
  rintro E w1 ⟨rfl, hB1⟩
  have HB1 := hide hB1
  clear hB1
  go_wp2_with fail
  refine (unhide HE _).mono ?_
  rintro E w2 ⟨rfl, rfl⟩
  go_wp2_with fail
  refine (unhide HO _ ((unhide HS).below (unhide HB1))).mono ?_
  rintro E w3 ⟨rfl, hB3⟩
  have HB3 := hide ((unhide HB1).trans (hB3.mono (unhide HB1).size))
  clear hB3
  go_wp2_with fail
  refine (coded_es a 1 (by omega) _ ((unhide HS).below (unhide HB3))).mono ?_
  rintro E w4 ⟨rfl, hB4⟩
  have HB4 := hide ((unhide HB3).trans (hB4.mono (unhide HB3).size))
  clear hB4
  go_wp2_with fail
  refine ((unhide HT).pa _ _ ((unhide HS).below (unhide HB4)) ((unhide HV).below (unhide HB4))).mono ?_
  rintro E w5 ⟨ev5, rfl, hf5, hB5⟩
  have HB5 := hide ((unhide HB4).trans (hB5.mono (unhide HB4).size))
  have HE5 := hide hf5
  clear hB5 hf5
  go_wp2_with fail
  refine ((unhide HT).pf _ _ ((unhide HV).below (unhide HB5))).mono ?_
  rintro E w6 ⟨rfl, hB6⟩
  have HB6 := hide ((unhide HB5).trans (hB6.mono (unhide HB5).size))
  have HE6 := hide ((unhide HE5).below hB6)
  clear hB6
  go_wp2_with fail
  refine (faulted_ok a _ ((unhide HS).below (unhide HB6)) (unhide HE6)).mono ?_
  rintro E w7 ⟨rfl, hB7⟩
  have HB7 := hide ((unhide HB6).trans (hB7.mono (unhide HB6).size))
  clear hB7
  go_wp2_with fail
  refine ((unhide HT).wa _ _ ((unhide HS).below (unhide HB7)) ((unhide HV).below (unhide HB7))).mono ?_
  rintro E w8 ⟨ev8, rfl, hf8, hB8⟩
  have HB8 := hide ((unhide HB7).trans (hB8.mono (unhide HB7).size))
  have HE8 := hide hf8
  clear hB8 hf8
  go_wp2_with fail
  refine ((unhide HT).wo _ _ ((unhide HV).below (unhide HB8))).mono ?_
  rintro E w9 ⟨rfl, hB9⟩
  have HB9 := hide ((unhide HB8).trans (hB9.mono (unhide HB8).size))
  have HE9 := hide ((unhide HE8).below hB9)
  clear hB9
  have HBa := hide ((unhide HB9).trans (((Below.refl w9.heap.size w9).alloc (Nat.le_refl _) (.cells #[.int .i64 cW, .int .i64 nW] 32)).mono (unhide HB9).size))
  have HEa := hide ((unhide HE9).below ((Below.refl w9.heap.size w9).alloc (Nat.le_refl _) (.cells #[.int .i64 cW, .int .i64 nW] 32)))
  go_wp2_with fail
  refine (faulted_ok a _ ((unhide HS).below (unhide HBa)) (unhide HEa)).mono ?_
  rintro E wb ⟨rfl, hBb⟩
  have HBb := hide ((unhide HBa).trans (hBb.mono (unhide HBa).size))
  clear hBb
  go_wp2
  go_ret
  exact ⟨rfl, unhide HBb⟩
theorem gtells_on (a : Nat → Addr) (v : Value) (xs : List Int) (long t : Nat) (node cP nP nx cW nW : Int) (w : World) (S : Sent a w) (hv : IntsIn w v xs) (h40 : xs.length ≤ 40) (h : tickOk long t) (T : GTold a xs long node t cP nP nx cW nW) :
    Calls Tryd.prog 7 #[v, .int .i64 long, .int .i64 node, .int .i64 t] w fun r w' => r = .returned (.bool true) ∧ Below w.heap.size w w' := by
  have HV := hide hv
  obtain ⟨ad, cap, rfl, _⟩ := hv
  have HS := hide S
  have HT := hide T
  have HE : Hid (∀ w', Calls Tryd.prog 22 #[.int .i64 long, .int .i64 t] w' fun e w2 => e = .returned (.int .i64 0) ∧ w2 = w') := fun w' => tickError_yes long t w' h
  have HO : Hid (∀ w', Sent a w' → Calls Tryd.prog 18 #[.int .i64 long, .int .i64 t] w' fun r w2 => r = .returned (.tuple #[.int .i64 ((t / long : Nat) : Int), .nilIface]) ∧ Below w'.heap.size w' w2) := fun w' _ => slotG_yes long t w' h
  obtain ⟨n1, _, n3, _⟩ := slot_nums long t 1 h (by omega)
  have hl0 : ¬ (long : Int) = 0 := by have := h.1.1; omega
  have h1 : ¬ (40 : Int) < (xs.length : Int) := by omega
  clear S h T h40
  generalize t / long = q at *
  go_enter Tryd.func7, Tryd.ntmps7
  go_wp2_with fail
  refine (guarded_ok a w (unhide HS)).mono ?_
  rintro E w1 ⟨rfl, hB1⟩
  have HB1 := hide hB1
  clear hB1
  go_wp2_with fail
  refine (unhide HE _).mono ?_
  rintro E w2 ⟨rfl, rfl⟩
  go_wp2_with fail
  refine (unhide HO _ ((unhide HS).below (unhide HB1))).mono ?_
  rintro E w3 ⟨rfl, hB3⟩
  have HB3 := hide ((unhide HB1).trans (hB3.mono (unhide HB1).size))
  clear hB3
  go_wp2_with fail
  refine (same_below (coded_nil _)).mono ?_
  rintro E w4 ⟨rfl, hB4⟩
  have HB4 := hide ((unhide HB3).trans (hB4.mono (unhide HB3).size))
  clear hB4
  go_wp2_with fail
  refine ((unhide HT).pa _ _ ((unhide HS).below (unhide HB4)) ((unhide HV).below (unhide HB4))).mono ?_
  rintro E w5 ⟨ev5, rfl, hf5, hB5⟩
  have HB5 := hide ((unhide HB4).trans (hB5.mono (unhide HB4).size))
  have HE5 := hide hf5
  clear hB5 hf5
  go_wp2_with fail
  refine ((unhide HT).pf _ _ ((unhide HV).below (unhide HB5))).mono ?_
  rintro E w6 ⟨rfl, hB6⟩
  have HB6 := hide ((unhide HB5).trans (hB6.mono (unhide HB5).size))
  have HE6 := hide ((unhide HE5).below hB6)
  clear hB6
  go_wp2_with fail
  refine (faulted_ok a _ ((unhide HS).below (unhide HB6)) (unhide HE6)).mono ?_
  rintro E w7 ⟨rfl, hB7⟩
  have HB7 := hide ((unhide HB6).trans (hB7.mono (unhide HB6).size))
  clear hB7
  go_wp2_with fail
  refine ((unhide HT).wa _ _ ((unhide HS).below (unhide HB7)) ((unhide HV).below (unhide HB7))).mono ?_
  rintro E w8 ⟨ev8, rfl, hf8, hB8⟩
  have HB8 := hide ((unhide HB7).trans (hB8.mono (unhide HB7).size))
  have HE8 := hide hf8
  clear hB8 hf8
  go_wp2_with fail
  refine ((unhide HT).wo _ _ ((unhide HV).below (unhide HB8))).mono ?_
  rintro E w9 ⟨rfl, hB9⟩
  have HB9 := hide ((unhide HB8).trans (hB9.mono (unhide HB8).size))
  have HE9 := hide ((unhide HE8).below hB9)
  clear hB9
  have HBa := hide ((unhide HB9).trans (((Below.refl w9.heap.size w9).alloc (Nat.le_refl _) (.cells #[.int .i64 cW, .int .i64 nW] 32)).mono (unhide HB9).size))
  have HEa := hide ((unhide HE9).below ((Below.refl w9.heap.size w9).alloc (Nat.le_refl _) (.cells #[.int .i64 cW, .int .i64 nW] 32)))
  go_wp2_with fail
  refine (faulted_ok a _ ((unhide HS).below (unhide HBa)) (unhide HEa)).mono ?_
  rintro E wb ⟨rfl, hBb⟩
  have HBb := hide ((unhide HBa).trans (hBb.mono (unhide HBa).size))
  clear hBb
  go_wp2
  go_ret
  exact ⟨rfl, unhide HBb⟩
theorem gtells_walk (a : Nat → Addr) (v : Value) (xs : List Int) (long node t : Int) (w : World) (S : Sent a w) (hv : IntsIn w v xs) :
    Calls Tryd.prog 7 #[v, .int .i64 long, .int .i64 node, .int .i64 t] w fun r w' => r = .returned (.bool true) ∧ Below w.heap.size w w' := by
  by_cases h40 : 40 < xs.length
  · exact gtells_far a v xs long node t w S hv h40
  by_cases h : tickOk long t
  · obtain ⟨l, rfl⟩ : ∃ l : Nat, long = (l : Int) := ⟨long.toNat, by have := h.1.1; omega⟩
    obtain ⟨u, rfl⟩ : ∃ u : Nat, t = (u : Int) := ⟨t.toNat, by have := h.2.1; omega⟩
    by_cases hp : planOk xs
    · obtain ⟨cP, nP, nx, cW, nW, T⟩ := gtold_ok a xs l u node h hp
      exact gtells_on a v xs l u node cP nP nx cW nW w S hv (by omega) h T
    · obtain ⟨c, n, T⟩ := gtold_plan a xs l u node h hp
      exact gtells_on a v xs l u node c n 0 c n w S hv (by omega) h T
  · exact gtells_tick a v xs long node t 2 (-1) 0 2 (-1) w S hv (by omega) h (gtold_tick a xs long node t h)
end Go.Proofs.YtglhapkclpllfabDoor
