/-
  The walk of the law PlanWaits: whatever the plan, the node and the slot are, it answers true, and nothing that was in memory has turned.
  Conditions: package api's errors lie as laid (structure PSent).
-/
import Derived.Test.YtglhapkclpllfaaDoorPlanned
namespace Go.Proofs.YtglhapkclpllfaaDoor
open Go.RowKit

theorem hasP_ok (e : Nat → TypeId × Value) (xs : List Int) (node : Int) (w : World) (h : planOk xs) (S : PSent e w) :
    Calls Tryd.prog 26 #[.int .i64 (Cm.ofN xs : Nat), .int .i64 node] w fun r w' => r = .returned (.bool (xs.contains node)) ∧ w' = w := by
  by_cases hn : Cm.isNode node
  · obtain ⟨k, rfl⟩ : ∃ k : Nat, node = (k : Int) := ⟨node.toNat, by have := hn.1; omega⟩
    have h1 := hn.1
    have h2 := hn.2
    have := has_ok (Cm.ofN xs) k (Cm.ofN_le xs h.2.2) (by omega) (by omega) w
    rw [ofN_bit xs k h.2.2 (by omega)] at this
    exact this
  · have hc : xs.contains node = false := by
      cases hx : xs.contains node with
      | false => rfl
      | true => exact absurd (h.2.2 node (List.contains_iff_mem.1 hx)) hn
    rw [hc]
    exact has_bad _ node (fun h => hn h.2) _ _ w S.c1
theorem waits_far (e : Nat → TypeId × Value) (v : Value) (xs : List Int) (node s : Int) (w : World) (S : PSent e w) (hv : IntsIn w v xs) (h : 40 < xs.length) :
    Calls Tryd.prog 5 #[v, .int .i64 node, .int .i64 s] w fun r w' => r = .returned (.bool true) ∧ Below w.heap.size w w' := by
  obtain ⟨ad, cap, rfl, _⟩ := hv
  have HS := hide S
  clear S
  go_enter Tryd.func5, Tryd.ntmps5
  go_wp2_with (go_at_call 22; refine (planned_ok e w (unhide HS)).mono ?_; rintro E w1 ⟨rfl, hB1⟩)
  go_ret
  exact ⟨rfl, hB1⟩
theorem waits_bad (e : Nat → TypeId × Value) (v : Value) (xs : List Int) (node s : Int) (w : World) (S : PSent e w) (hv : IntsIn w v xs) (h40 : xs.length ≤ 40) (h : ¬ planOk xs) :
    Calls Tryd.prog 5 #[v, .int .i64 node, .int .i64 s] w fun r w' => r = .returned (.bool true) ∧ Below w.heap.size w w' := by
  have HV := hide hv
  obtain ⟨ad, cap, rfl, _⟩ := hv
  have HS := hide S
  have HH := hide h
  have h40' : ¬ (40 : Int) < (xs.length : Int) := by omega
  clear S h h40
  go_enter Tryd.func5, Tryd.ntmps5
  go_wp2_with fail
  refine (planned_ok e w (unhide HS)).mono ?_
  rintro E w1 ⟨rfl, hB1⟩
  have HB1 := hide hB1
  clear hB1
  go_wp2_with fail
  refine (checkP_no e _ xs _ ((unhide HV).below (unhide HB1)) (unhide HH) ((unhide HS).below (unhide HB1))).mono ?_
  rintro E w2 ⟨t, p, rfl, _, hB2⟩
  have HB2 := hide ((unhide HB1).trans (hB2.mono (unhide HB1).size))
  clear hB2
  go_wp2
  go_ret
  exact ⟨rfl, unhide HB2⟩
theorem waits_out (e : Nat → TypeId × Value) (v : Value) (xs : List Int) (node s : Int) (w : World) (S : PSent e w) (hv : IntsIn w v xs) (h : planOk xs) (hs : s < 0 ∨ 999900 < s) :
    Calls Tryd.prog 5 #[v, .int .i64 node, .int .i64 s] w fun r w' => r = .returned (.bool true) ∧ Below w.heap.size w w' := by
  have HV := hide hv
  obtain ⟨ad, cap, rfl, _⟩ := hv
  have HS := hide S
  have HH := hide h
  have h40' : ¬ (40 : Int) < (xs.length : Int) := by have := h.2.1; omega
  clear S h
  by_cases h1 : s < 0
  · clear hs
    go_enter Tryd.func5, Tryd.ntmps5
    go_wp2_with fail
    refine (planned_ok e w (unhide HS)).mono ?_
    rintro E w1 ⟨rfl, hB1⟩
    have HB1 := hide hB1
    clear hB1
    go_wp2_with fail
    refine (checkP_yes e _ xs _ ((unhide HV).below (unhide HB1)) (unhide HH) ((unhide HS).below (unhide HB1))).mono ?_
    rintro E w2 ⟨rfl, rfl⟩
    go_wp2
    go_ret
    exact ⟨rfl, unhide HB1⟩
  · have h2 : 999900 < s := by omega
    clear hs
    go_enter Tryd.func5, Tryd.ntmps5
    go_wp2_with fail
    refine (planned_ok e w (unhide HS)).mono ?_
    rintro E w1 ⟨rfl, hB1⟩
    have HB1 := hide hB1
    clear hB1
    go_wp2_with fail
    refine (checkP_yes e _ xs _ ((unhide HV).below (unhide HB1)) (unhide HH) ((unhide HS).below (unhide HB1))).mono ?_
    rintro E w2 ⟨rfl, rfl⟩
    go_wp2
    go_ret
    exact ⟨rfl, unhide HB1⟩
set_option maxHeartbeats 1000000 in
theorem waits_found (e : Nat → TypeId × Value) (v : Value) (xs : List Int) (node : Int) (s m : Nat) (w : World) (S : PSent e w) (hv : IntsIn w v xs) (h : planOk xs) (hs : s ≤ 999900)
    (hm : m < xs.length) (hno : ∀ i, i < m → (rot xs (s % xs.length)).getD i 0 ≠ node) (hat : (rot xs (s % xs.length)).getD m 0 = node) :
    Calls Tryd.prog 5 #[v, .int .i64 node, .int .i64 s] w fun r w' => r = .returned (.bool true) ∧ Below w.heap.size w w' := by
  have HV := hide hv
  obtain ⟨ad, cap, rfl, _⟩ := hv
  have HS := hide S
  have HH := hide h
  have h40' : ¬ (40 : Int) < (xs.length : Int) := by have := h.2.1; omega
  have h1 : ¬ (s : Int) < 0 := by omega
  have h2 : ¬ (999900 : Int) < (s : Int) := by omega
  have hin : xs.contains node = true := List.contains_iff_mem.2 ((rot_mem xs (s % xs.length) node).1 (by rw [← hat]; exact getD_mem _ m (by rw [rot_len]; exact hm)))
  have Hin := hide hin
  have Hno := hide hno
  have Hat := hide hat
  clear S h hno hat hin
  go_enter Tryd.func5, Tryd.ntmps5
  go_wp2_with fail
  refine (planned_ok e w (unhide HS)).mono ?_
  rintro E w1 ⟨rfl, hB1⟩
  have HB1 := hide hB1
  clear hB1
  go_wp2_with fail
  refine (checkP_yes e _ xs _ ((unhide HV).below (unhide HB1)) (unhide HH) ((unhide HS).below (unhide HB1))).mono ?_
  rintro E w2 ⟨rfl, rfl⟩
  go_wp2_with fail
  refine (crewP_yes e _ xs _ ((unhide HV).below (unhide HB1)) (unhide HH) ((unhide HS).below (unhide HB1))).mono ?_
  rintro E w2 ⟨rfl, rfl⟩
  go_wp2_with fail
  refine (nextP_yes e _ xs node s m _ ((unhide HV).below (unhide HB1)) (unhide HH) (by omega) ((unhide HS).below (unhide HB1)) hm (unhide Hno) (unhide Hat)).mono ?_
  rintro E w3 ⟨rfl, hB3⟩
  have HB3 := hide ((unhide HB1).trans (hB3.mono (unhide HB1).size))
  clear hB3
  have HHas : Hid (∀ n, Calls Tryd.prog 26 #[.int .i64 (Cm.ofN xs : Nat), .int .i64 node] (w3.drewN n) fun r w' => r = .returned (.bool true) ∧ w' = w3.drewN n) := fun n => by
    have := hasP_ok e xs node (w3.drewN n) (unhide HH) ((unhide HS).below (below_draw (unhide HB3) n))
    rw [unhide Hin] at this
    exact this
  go_wp2_with fail
  go_quiet (first | (go_at_call 26; exact Calls.quiet_of_same (unhide HHas _)) | fail)
  have HB4 := hide (below_draw (unhide HB3) nq)
  have hl := (unhide HH).2.1
  have HW : Hid (∀ k, k < xs.length → ∀ wr, Below w.heap.size w wr → Calls Tryd.prog 27 #[.slice ad xs.length cap, .int .i64 ((s : Int) + (k : Int))] wr fun r w' => r = .returned (.tuple #[.int .i64 ((rot xs (s % xs.length)).getD k 0), .nilIface]) ∧ Below wr.heap.size wr w') := fun k hk wr hB => by
    have := whoP_yes e _ xs (s + k) wr ((unhide HV).below hB) (unhide HH) (by omega) ((unhide HS).below hB)
    rw [getD_mod xs s k hk] at this
    exact this
  have HC : Hid (∀ k, k < xs.length → ((rot xs (s % xs.length)).take (k + 1)).count node = ((rot xs (s % xs.length)).take k).count node + (if (rot xs (s % xs.length)).getD k 0 = node then 1 else 0)) := fun k hk => count_snoc _ k node (by rw [rot_len]; exact hk)
  have HE : Hid (((rot xs (s % xs.length)).take xs.length).count node = xs.count node) := by
    show _ = _
    rw [List.take_of_length_le (by rw [rot_len]; exact Nat.le_refl _), rot_count]
  generalize rot xs (s % xs.length) = ys at *
  go_wp2_with fail
  go_loopw [11, 12] (fun c i wr => ∃ k q : Nat, k ≤ xs.length ∧ i = .int .i64 k ∧ c = .int .i64 q ∧ q ≤ k ∧ Hid (q = (ys.take k).count node) ∧ Hid (Below w.heap.size w wr)) (fun _ i _ => xs.length - (intOf i).toNat)
  case atStart => exact ⟨0, 0, by omega, rfl, rfl, by omega, by show 0 = _; simp, unhide HB4⟩
  case round =>
    obtain ⟨k, q, hk, rfl, rfl, hq, Hq, HBr⟩ := hrel
    by_cases hlt : k < xs.length
    · have HS1 := hide (unhide HC k hlt)
      rw [← unhide Hq] at HS1
      have HW1 := hide (unhide HW k hlt wr (unhide HBr))
      have Hx : Hid (k < m → ys.getD k 0 ≠ node) := fun h => unhide Hno k h
      generalize ys.getD k 0 = x at *
      by_cases hx : x = node
      · subst hx
        have hkm : ¬ k < m := fun h => unhide Hx h rfl
        go_wp2_with fail
        refine (unhide HW1).mono ?_
        rintro E w5 ⟨rfl, hB5⟩
        have HB5 := hide ((unhide HBr).trans (hB5.mono (unhide HBr).size))
        clear hB5
        go_wp2
        go_roundw
        case rel => exact ⟨k + 1, q + 1, by omega, by go_num, by go_num, by omega, by have := unhide HS1; rw [if_pos trivial] at this; exact this.symm, unhide HB5⟩
        case measure => simp [intOf]; omega
      · have HX := hide hx
        by_cases hkm : k < m
        · go_wp2_with fail
          refine (unhide HW1).mono ?_
          rintro E w5 ⟨rfl, hB5⟩
          have HB5 := hide ((unhide HBr).trans (hB5.mono (unhide HBr).size))
          clear hB5
          go_wp2
          go_roundw
          case rel => exact ⟨k + 1, q, by omega, by go_num, rfl, by omega, by have := unhide HS1; rw [if_neg (unhide HX)] at this; exact this.symm, unhide HB5⟩
          case measure => simp [intOf]; omega
        · go_wp2_with fail
          refine (unhide HW1).mono ?_
          rintro E w5 ⟨rfl, hB5⟩
          have HB5 := hide ((unhide HBr).trans (hB5.mono (unhide HBr).size))
          clear hB5
          go_wp2
          go_roundw
          case rel => exact ⟨k + 1, q, by omega, by go_num, rfl, by omega, by have := unhide HS1; rw [if_neg (unhide HX)] at this; exact this.symm, unhide HB5⟩
          case measure => simp [intOf]; omega
    · have hkn : k = xs.length := by omega
      subst hkn
      have hqc : q = xs.count node := (unhide Hq).trans (unhide HE)
      subst hqc
      have HSh := hide (shareP_yes e _ xs node wr ((unhide HV).below (unhide HBr)) (unhide HH) ((unhide HS).below (unhide HBr)))
      have HWm := hide (unhide HW m hm wr (unhide HBr))
      rw [unhide Hat] at HWm
      go_wp2_with fail
      refine (unhide HSh).mono ?_
      rintro E w5 ⟨rfl, rfl⟩
      go_wp2_with fail
      refine (unhide HWm).mono ?_
      rintro E w6 ⟨rfl, hB6⟩
      have HB6 := hide ((unhide HBr).trans (hB6.mono (unhide HBr).size))
      clear hB6
      go_wp2
      go_ret
      exact ⟨rfl, unhide HB6⟩
set_option maxHeartbeats 1000000 in
theorem waits_none (e : Nat → TypeId × Value) (v : Value) (xs : List Int) (node : Int) (s : Nat) (w : World) (S : PSent e w) (hv : IntsIn w v xs) (h : planOk xs) (hs : s ≤ 999900) (hno : node ∉ xs) :
    Calls Tryd.prog 5 #[v, .int .i64 node, .int .i64 s] w fun r w' => r = .returned (.bool true) ∧ Below w.heap.size w w' := by
  have HV := hide hv
  obtain ⟨ad, cap, rfl, _⟩ := hv
  have HS := hide S
  have HH := hide h
  have h40' : ¬ (40 : Int) < (xs.length : Int) := by have := h.2.1; omega
  have h1 : ¬ (s : Int) < 0 := by omega
  have h2 : ¬ (999900 : Int) < (s : Int) := by omega
  have hin : xs.contains node = false := by
    cases hx : xs.contains node with
    | false => rfl
    | true => exact absurd (List.contains_iff_mem.1 hx) hno
  have Hin := hide hin
  have Hno := hide hno
  clear S h hin hno
  go_enter Tryd.func5, Tryd.ntmps5
  go_wp2_with fail
  refine (planned_ok e w (unhide HS)).mono ?_
  rintro E w1 ⟨rfl, hB1⟩
  have HB1 := hide hB1
  clear hB1
  go_wp2_with fail
  refine (checkP_yes e _ xs _ ((unhide HV).below (unhide HB1)) (unhide HH) ((unhide HS).below (unhide HB1))).mono ?_
  rintro E w2 ⟨rfl, rfl⟩
  go_wp2_with fail
  refine (crewP_yes e _ xs _ ((unhide HV).below (unhide HB1)) (unhide HH) ((unhide HS).below (unhide HB1))).mono ?_
  rintro E w2 ⟨rfl, rfl⟩
  go_wp2_with fail
  refine (nextP_none e _ xs node s _ ((unhide HV).below (unhide HB1)) (unhide HH) (by omega) ((unhide HS).below (unhide HB1)) (unhide Hno)).mono ?_
  rintro E w3 ⟨rfl, hB3⟩
  have HB3 := hide ((unhide HB1).trans (hB3.mono (unhide HB1).size))
  clear hB3
  have HHas : Hid (∀ n, Calls Tryd.prog 26 #[.int .i64 (Cm.ofN xs : Nat), .int .i64 node] (w3.drewN n) fun r w' => r = .returned (.bool false) ∧ w' = w3.drewN n) := fun n => by
    have := hasP_ok e xs node (w3.drewN n) (unhide HH) ((unhide HS).below (below_draw (unhide HB3) n))
    rw [unhide Hin] at this
    exact this
  go_wp2_with fail
  go_quiet (first | (go_at_call 26; exact Calls.quiet_of_same (unhide HHas _)) | fail)
  have HB4 := hide (below_draw (unhide HB3) nq)
  have hl := (unhide HH).2.1
  have HW : Hid (∀ k, k < xs.length → ∀ wr, Below w.heap.size w wr → ∃ x, x ≠ node ∧ Calls Tryd.prog 27 #[.slice ad xs.length cap, .int .i64 ((s : Int) + (k : Int))] wr fun r w' => r = .returned (.tuple #[.int .i64 x, .nilIface]) ∧ Below wr.heap.size wr w') := fun k hk wr hB => by
    have := whoP_yes e _ xs (s + k) wr ((unhide HV).below hB) (unhide HH) (by omega) ((unhide HS).below hB)
    exact ⟨_, fun e => unhide Hno (by rw [← e]; exact getD_mem xs _ (Nat.mod_lt _ (by omega))), this⟩
  have HE : Hid (xs.count node = 0) := List.count_eq_zero.2 (unhide Hno)
  go_wp2_with fail
  go_loopw [11, 12] (fun c i wr => ∃ k : Nat, k ≤ xs.length ∧ i = .int .i64 k ∧ c = .int .i64 0 ∧ Hid (Below w.heap.size w wr)) (fun _ i _ => xs.length - (intOf i).toNat)
  case atStart => exact ⟨0, by omega, rfl, rfl, unhide HB4⟩
  case round =>
    obtain ⟨k, hk, rfl, rfl, HBr⟩ := hrel
    by_cases hlt : k < xs.length
    · obtain ⟨x, hx, HW1⟩ := unhide HW k hlt wr (unhide HBr)
      have HW1 := hide HW1
      go_wp2_with fail
      refine (unhide HW1).mono ?_
      rintro E w5 ⟨rfl, hB5⟩
      have HB5 := hide ((unhide HBr).trans (hB5.mono (unhide HBr).size))
      clear hB5
      go_wp2
      go_roundw
      case rel => exact ⟨k + 1, by omega, by go_num, rfl, unhide HB5⟩
      case measure => simp [intOf]; omega
    · have hkn : k = xs.length := by omega
      subst hkn
      have HSh : Hid (∀ wr, Below w.heap.size w wr → Calls Tryd.prog 28 #[.slice ad xs.length cap, .int .i64 node] wr fun r w' => r = .returned (.int .i64 0) ∧ w' = wr) := fun wr hB => by
        have := shareP_yes e _ xs node wr ((unhide HV).below hB) (unhide HH) ((unhide HS).below hB)
        rw [unhide HE] at this
        exact this
      go_wp2_with fail
      refine (unhide HSh _ (unhide HBr)).mono ?_
      rintro E w5 ⟨rfl, rfl⟩
      go_wp2_with fail
      refine (unhide HSh _ (unhide HBr)).mono ?_
      rintro E w5 ⟨rfl, rfl⟩
      go_wp2
      go_ret
      exact ⟨rfl, unhide HBr⟩
theorem waits_walk (e : Nat → TypeId × Value) (v : Value) (xs : List Int) (node s : Int) (w : World) (S : PSent e w) (hv : IntsIn w v xs) :
    Calls Tryd.prog 5 #[v, .int .i64 node, .int .i64 s] w fun r w' => r = .returned (.bool true) ∧ Below w.heap.size w w' := by
  by_cases h40 : 40 < xs.length
  · exact waits_far e v xs node s w S hv h40
  by_cases hp : planOk xs
  · by_cases hs : s < 0 ∨ 999900 < s
    · exact waits_out e v xs node s w S hv hp hs
    · obtain ⟨k, rfl⟩ : ∃ k : Nat, s = (k : Int) := ⟨s.toNat, by omega⟩
      obtain ⟨m, h1, h2, h3, h4⟩ := first_at node (rot xs (k % xs.length))
      rw [rot_len] at h1 h3 h4
      by_cases hm : m < xs.length
      · exact waits_found e v xs node k m w S hv hp (by omega) hm h2 (h3 hm)
      · exact waits_none e v xs node k w S hv hp (by omega) (fun h => hm (h4.2 ((rot_mem xs _ node).2 h)))
  · exact waits_bad e v xs node s w S hv (by omega) hp
end Go.Proofs.YtglhapkclpllfaaDoor
