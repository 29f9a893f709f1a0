/-
  The walk of the law GuardOne: whatever the plan, the slot's length, the node and the tick are, it answers true, and nothing that was in memory has turned.
  Conditions: package api's errors lie as laid (structure Sent).
-/
import Derived.Test.YtglhapkclpllfabDoorGuarded
namespace Go.Proofs.YtglhapkclpllfabDoor
open Go.RowKit

theorem one_start {x : Int} (h : Cm.isNode x) : 0 = oneUpto x 0 := by
  unfold oneUpto
  have := h.1
  rw [if_neg (by omega)]
theorem one_le (x : Int) (k : Nat) : oneUpto x k ≤ 1 := by
  unfold oneUpto
  split <;> omega
theorem gone_far (a : Nat → Addr) (v : Value) (xs : List Int) (long node t : Int) (w : World) (S : Sent a w) (hv : IntsIn w v xs) (h : 40 < xs.length) :
    Calls Tryd.prog 6 #[v, .int .i64 long, .int .i64 node, .int .i64 t] w fun r w' => r = .returned (.bool true) ∧ Below w.heap.size w w' := by
  obtain ⟨ad, cap, rfl, _⟩ := hv
  have HS := hide S
  clear S
  go_enter Tryd.func6, Tryd.ntmps6
  go_wp2_with (go_at_call 17; refine (guarded_ok a w (unhide HS)).mono ?_; rintro E w1 ⟨rfl, hB1⟩)
  go_ret
  exact ⟨rfl, hB1⟩
theorem gone_tick (a : Nat → Addr) (v : Value) (xs : List Int) (long node t : Int) (w : World) (S : Sent a w) (hv : IntsIn w v xs) (h40 : xs.length ≤ 40) (h : ¬ tickOk long t) :
    Calls Tryd.prog 6 #[v, .int .i64 long, .int .i64 node, .int .i64 t] w fun r w' => r = .returned (.bool true) ∧ Below w.heap.size w w' := by
  obtain ⟨ad, cap, rfl, _⟩ := hv
  have HS := hide S
  have HH := hide h
  have h40' : ¬ (40 : Int) < (xs.length : Int) := by omega
  clear S h h40
  go_enter Tryd.func6, Tryd.ntmps6
  go_wp2_with fail
  refine (guarded_ok a w (unhide HS)).mono ?_
  rintro E w1 ⟨rfl, hB1⟩
  have HB1 := hide hB1
  clear hB1
  go_wp2_with fail
  refine (slotG_no (eG a) long t _ (unhide HH) ((unhide HS).below (unhide HB1)).guard.p).mono ?_
  rintro E w2 ⟨rfl, hB2⟩
  have HB2 := hide ((unhide HB1).trans (hB2.mono (unhide HB1).size))
  clear hB2
  go_wp2
  go_ret
  exact ⟨rfl, unhide HB2⟩
theorem gone_plan (a : Nat → Addr) (v : Value) (xs : List Int) (long t : Nat) (node : Int) (w : World) (S : Sent a w) (hv : IntsIn w v xs) (h40 : xs.length ≤ 40) (h : tickOk long t) (hp : ¬ planOk xs) :
    Calls Tryd.prog 6 #[v, .int .i64 long, .int .i64 node, .int .i64 t] w fun r w' => r = .returned (.bool true) ∧ Below w.heap.size w w' := by
  have HV := hide hv
  obtain ⟨ad, cap, rfl, _⟩ := hv
  have HS := hide S
  have HH := hide h
  have HP := hide hp
  have h40' : ¬ (40 : Int) < (xs.length : Int) := by omega
  have HO : Hid (∀ w', Calls Tryd.prog 18 #[.int .i64 long, .int .i64 t] w' fun r w2 => r = .returned (.tuple #[.int .i64 ((t / long : Nat) : Int), .nilIface]) ∧ Below w'.heap.size w' w2) := fun w' => slotG_yes long t w' h
  clear S h h40 hp
  generalize t / long = q at *
  go_enter Tryd.func6, Tryd.ntmps6
  go_wp2_with fail
  refine (guarded_ok a w (unhide HS)).mono ?_
  rintro E w1 ⟨rfl, hB1⟩
  have HB1 := hide hB1
  clear hB1
  go_wp2_with fail
  refine (unhide HO _).mono ?_
  rintro E w2 ⟨rfl, hB2⟩
  have HB2 := hide ((unhide HB1).trans (hB2.mono (unhide HB1).size))
  clear hB2
  go_wp2_with fail
  refine (checkP_no (eG a) _ xs _ ((unhide HV).below (unhide HB2)) (unhide HP) ((unhide HS).below (unhide HB2)).guard.p).mono ?_
  rintro E w3 ⟨ty, p, rfl, _, hB3⟩
  have HB3 := hide ((unhide HB2).trans (hB3.mono (unhide HB2).size))
  clear hB3
  by_cases hq : (q : Int) = 0
  · go_wp2
    go_ret
    exact ⟨rfl, unhide HB3⟩
  · go_wp2
    go_ret
    exact ⟨rfl, unhide HB3⟩
set_option maxHeartbeats 1000000 in
theorem gone_ok (a : Nat → Addr) (v : Value) (xs : List Int) (long t : Nat) (node : Int) (w : World) (S : Sent a w) (hv : IntsIn w v xs) (h : tickOk long t) (hp : planOk xs) :
    Calls Tryd.prog 6 #[v, .int .i64 long, .int .i64 node, .int .i64 t] w fun r w' => r = .returned (.bool true) ∧ Below w.heap.size w w' := by
  have HV := hide hv
  obtain ⟨ad, cap, rfl, _⟩ := hv
  have HS := hide S
  have HP := hide hp
  have h40' : ¬ (40 : Int) < (xs.length : Int) := by have := hp.2.1; omega
  have ht : t ≤ 1000000 := by have := h.2.2; omega
  have HO : Hid (∀ w', Calls Tryd.prog 18 #[.int .i64 long, .int .i64 t] w' fun r w2 => r = .returned (.tuple #[.int .i64 ((t / long : Nat) : Int), .nilIface]) ∧ Below w'.heap.size w' w2) := fun w' => slotG_yes long t w' h
  have HPa : Hid (∀ (n : Int) (u : Nat) wr, u ≤ 1000000 → Below w.heap.size w wr → Calls Tryd.prog 20 #[.slice ad xs.length cap, .int .i64 long, .int .i64 n, .int .i64 u] wr fun r w' => r = .returned (if ownerAt xs long u = n then .nilIface else .iface (eG a 8).1 (eG a 8).2) ∧ Below wr.heap.size wr w') :=
    fun n u wr hu hB => passG_ok (eG a) _ xs long u n wr ((unhide HV).below hB) ⟨h.1, by omega, by omega⟩ hp (S.below hB).guard
  have HW := hide (waitG_sum (eG a) xs long t node h hp)
  have HN := hide (owner_node hp long t)
  obtain ⟨x, hx⟩ : ∃ x, ownerAt xs long t = x := ⟨_, rfl⟩
  have Hx := hide hx
  rw [hx] at HN
  clear S h hp hx
  generalize t / long = q at *
  go_enter Tryd.func6, Tryd.ntmps6
  go_wp2_with fail
  refine (guarded_ok a w (unhide HS)).mono ?_
  rintro E w1 ⟨rfl, hB1⟩
  have HB1 := hide hB1
  clear hB1
  go_wp2_with fail
  refine (unhide HO _).mono ?_
  rintro E w2 ⟨rfl, hB2⟩
  have HB2 := hide ((unhide HB1).trans (hB2.mono (unhide HB1).size))
  clear hB2
  go_wp2_with fail
  refine (checkP_yes (eG a) _ xs _ ((unhide HV).below (unhide HB2)) (unhide HP) ((unhide HS).below (unhide HB2)).guard.p).mono ?_
  rintro E w3 ⟨rfl, rfl⟩
  go_wp2_with fail
  go_loopw [12, 13] (fun c i wr => ∃ k q : Nat, k ≤ 19 ∧ i = .int .i64 ((k : Int) - 1) ∧ c = .int .i64 (q : Int) ∧ q ≤ 1 ∧ Hid (q = oneUpto x k) ∧ Hid (Below w.heap.size w wr)) (fun _ i _ => (18 - intOf i).toNat)
  case atStart => exact ⟨0, 0, by omega, rfl, rfl, by omega, one_start (unhide HN), unhide HB2⟩
  case round =>
    obtain ⟨k, q', hk, rfl, rfl, hq', Hq, HBr⟩ := hrel
    by_cases hlt : k < 19
    · have hle : ((k : Int) - 1) ≤ 17 := by omega
      have HS1 := hide (one_step x k)
      rw [← unhide Hq] at HS1
      have Hle := hide (one_le x (k + 1))
      have HP1 := hide (unhide HPa ((k : Int) - 1) t wr ht (unhide HBr))
      rw [unhide Hx] at HP1
      by_cases hx : x = (k : Int) - 1
      · rw [if_pos hx] at HS1 HP1
        have hq0 : q' = 0 := by have h1 := unhide HS1; have h2 := unhide Hle; omega
        have Hq2 : Hid (q' + 1 = oneUpto x (k + 1)) := (unhide HS1).symm
        clear hx
        go_wp2_with fail
        refine (unhide HP1).mono ?_
        rintro E w5 ⟨rfl, hB5⟩
        have HB5 := hide ((unhide HBr).trans (hB5.mono (unhide HBr).size))
        clear hB5
        go_wp2
        go_roundw
        case rel => exact ⟨k + 1, q' + 1, by omega, by go_num, by go_num, by omega, unhide Hq2, unhide HB5⟩
        case measure => simp [intOf]; omega
      · rw [if_neg hx] at HS1 HP1
        have Hq2 : Hid (q' = oneUpto x (k + 1)) := (unhide HS1).symm
        clear hx
        go_wp2_with fail
        refine (unhide HP1).mono ?_
        rintro E w5 ⟨rfl, hB5⟩
        have HB5 := hide ((unhide HBr).trans (hB5.mono (unhide HBr).size))
        clear hB5
        go_wp2
        go_roundw
        case rel => exact ⟨k + 1, q', by omega, by go_num, rfl, by omega, unhide Hq2, unhide HB5⟩
        case measure => simp [intOf]; omega
    · have hk19 : k = 19 := by omega
      subst hk19
      have hq1 : q' = 1 := (unhide Hq).trans (one_all x (unhide HN))
      subst hq1
      rcases unhide HW with ⟨ho, e, _, hC⟩ | ⟨z, hz1, hz2, ho, hz, hC⟩
      · have HC := hide (hC wr _ ((unhide HV).below (unhide HBr)) ((unhide HS).below (unhide HBr)).guard)
        have HPn : Hid (∀ wr, Below w.heap.size w wr → Calls Tryd.prog 20 #[.slice ad xs.length cap, .int .i64 long, .int .i64 node, .int .i64 t] wr fun r w' => r = .returned (.iface (eG a 8).1 (eG a 8).2) ∧ Below wr.heap.size wr w') := fun wr hB => by
          have := unhide HPa node t wr ht hB
          rw [if_neg ho] at this
          exact this
        clear ho hC
        go_wp2_with fail
        refine (unhide HC).mono ?_
        rintro E w5 ⟨rfl, hB5⟩
        have HB5 := hide ((unhide HBr).trans (hB5.mono (unhide HBr).size))
        clear hB5
        go_wp2_with fail
        refine (unhide HPn _ (unhide HB5)).mono ?_
        rintro E w6 ⟨rfl, hB6⟩
        have HB6 := hide ((unhide HB5).trans (hB6.mono (unhide HB5).size))
        clear hB6
        go_wp2
        go_ret
        exact ⟨rfl, unhide HB6⟩
      · have HC := hide (hC wr _ ((unhide HV).below (unhide HBr)) ((unhide HS).below (unhide HBr)).guard)
        have HPz : Hid (∀ wr, Below w.heap.size w wr → Calls Tryd.prog 20 #[.slice ad xs.length cap, .int .i64 long, .int .i64 node, .int .i64 z] wr fun r w' => r = .returned .nilIface ∧ Below wr.heap.size wr w') := fun wr hB => by
          have := unhide HPa node z wr hz2 hB
          rw [if_pos ho] at this
          exact this
        have hzt : ¬ (z : Int) < (t : Int) := by omega
        have Hz := hide hz
        clear ho hC hz
        by_cases he : z = t
        · subst he
          clear Hz
          go_wp2_with fail
          refine (unhide HC).mono ?_
          rintro E w5 ⟨rfl, hB5⟩
          have HB5 := hide ((unhide HBr).trans (hB5.mono (unhide HBr).size))
          clear hB5
          go_wp2_with fail
          refine (unhide HPz _ (unhide HB5)).mono ?_
          rintro E w6 ⟨rfl, hB6⟩
          have HB6 := hide ((unhide HB5).trans (hB6.mono (unhide HB5).size))
          clear hB6
          go_wp2
          go_ret
          exact ⟨rfl, unhide HB6⟩
        · obtain ⟨hz0, ho1, ho2⟩ : 0 < z ∧ ownerAt xs long t ≠ node ∧ ownerAt xs long (z - 1) ≠ node := by
            rcases unhide Hz with h | h
            · exact absurd h he
            · exact h
          have HPn : Hid (∀ wr, Below w.heap.size w wr → Calls Tryd.prog 20 #[.slice ad xs.length cap, .int .i64 long, .int .i64 node, .int .i64 t] wr fun r w' => r = .returned (.iface (eG a 8).1 (eG a 8).2) ∧ Below wr.heap.size wr w') := fun wr hB => by
            have := unhide HPa node t wr ht hB
            rw [if_neg ho1] at this
            exact this
          have HPb : Hid (∀ wr, Below w.heap.size w wr → Calls Tryd.prog 20 #[.slice ad xs.length cap, .int .i64 long, .int .i64 node, .int .i64 ((z : Int) - 1)] wr fun r w' => r = .returned (.iface (eG a 8).1 (eG a 8).2) ∧ Below wr.heap.size wr w') := fun wr hB => by
            have := unhide HPa node (z - 1) wr (by omega) hB
            rw [if_neg ho2, show ((z - 1 : Nat) : Int) = (z : Int) - 1 by omega] at this
            exact this
          have he' : ¬ (z : Int) = (t : Int) := by omega
          clear ho1 ho2 Hz
          go_wp2_with fail
          refine (unhide HC).mono ?_
          rintro E w5 ⟨rfl, hB5⟩
          have HB5 := hide ((unhide HBr).trans (hB5.mono (unhide HBr).size))
          clear hB5
          go_wp2_with fail
          refine (unhide HPz _ (unhide HB5)).mono ?_
          rintro E w6 ⟨rfl, hB6⟩
          have HB6 := hide ((unhide HB5).trans (hB6.mono (unhide HB5).size))
          clear hB6
          go_wp2_with fail
          refine (unhide HPn _ (unhide HB6)).mono ?_
          rintro E w7 ⟨rfl, hB7⟩
          have HB7 := hide ((unhide HB6).trans (hB7.mono (unhide HB6).size))
          clear hB7
          go_wp2_with fail
          refine (unhide HPb _ (unhide HB7)).mono ?_
          rintro E w8 ⟨rfl, hB8⟩
          have HB8 := hide ((unhide HB7).trans (hB8.mono (unhide HB7).size))
          clear hB8
          go_wp2
          go_ret
          exact ⟨rfl, unhide HB8⟩
theorem gone_walk (a : Nat → Addr) (v : Value) (xs : List Int) (long node t : Int) (w : World) (S : Sent a w) (hv : IntsIn w v xs) :
    Calls Tryd.prog 6 #[v, .int .i64 long, .int .i64 node, .int .i64 t] w fun r w' => r = .returned (.bool true) ∧ Below w.heap.size w w' := by
  by_cases h40 : 40 < xs.length
  · exact gone_far a v xs long node t w S hv h40
  by_cases h : tickOk long t
  · obtain ⟨l, rfl⟩ : ∃ l : Nat, long = (l : Int) := ⟨long.toNat, by have := h.1.1; omega⟩
    obtain ⟨u, rfl⟩ : ∃ u : Nat, t = (u : Int) := ⟨t.toNat, by have := h.2.1; omega⟩
    by_cases hp : planOk xs
    · exact gone_ok a v xs l u node w S hv h hp
    · exact gone_plan a v xs l u node w S hv (by omega) h hp
  · exact gone_tick a v xs long node t w S hv (by omega) h
end Go.Proofs.YtglhapkclpllfabDoor
