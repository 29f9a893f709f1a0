/-
  The walk of the law ClockTells: whatever the numbers, k and the clock are, it answers true, and nothing that was in memory has turned.
  Conditions: package api's errors lie as laid (structure Sent).
-/
import Derived.Test.YtglhapkclpllfabDoorClockTells
import Derived.Test.YtglhapkclpllfabDoorFaultVar
import Derived.Test.YtglhapkclpllfabDoorSame
namespace Go.Proofs.YtglhapkclpllfabDoor
open Go.RowKit

set_option maxRecDepth 100000 in
theorem ctells_far (a : Nat → Addr) (v : Value) (xs : List Int) (k own : Int) (w : World) (S : Sent a w) (hv : IntsIn w v xs) (h : 40 < xs.length) :
    Calls Tryd.prog 5 #[v, .int .i64 k, .int .i64 own] w fun r w' => r = .returned (.bool true) ∧ Below w.heap.size w w' := by
  have HK := hide (clocked_ok _ _ w S.c1)
  obtain ⟨ad, cap, rfl, _⟩ := hv
  have h1 : (40 : Int) < (xs.length : Int) := by omega
  clear S h
  go_enter Tryd.func5, Tryd.ntmps5
  go_wp2_with (go_at_call 8; refine (unhide HK).mono ?_; rintro E w1 ⟨rfl, hB1⟩; have HB := hide hB1; clear hB1)
  go_ret
  exact ⟨rfl, unhide HB⟩
set_option maxHeartbeats 4000000 in
set_option maxRecDepth 100000 in
theorem ctells_near (a : Nat → Addr) (v : Value) (xs : List Int) (k own r c n s c' n' : Int) (w : World) (S : Sent a w) (hv : IntsIn w v xs) (h40 : xs.length ≤ 40) (T : CTold a xs k own r c n s c' n') :
    Calls Tryd.prog 5 #[v, .int .i64 k, .int .i64 own] w fun r w' => r = .returned (.bool true) ∧ Below w.heap.size w w' := by
  have HK := hide (clocked_ok _ _ w S.c1)
  have HV := hide hv
  obtain ⟨ad, cap, rfl, hcells⟩ := hv
  have HC := hide hcells
  have HS := hide S
  have HT := hide T
  obtain ⟨i0, hi, hz0, hz1, hz2⟩ := info_parts Tryd.infoI
  obtain ⟨l, hl⟩ : ∃ l, xs.length = l := ⟨_, rfl⟩
  have Hl : Hid (xs.length = l) := hl
  rw [hl] at h40 HV ⊢
  have h40' : ¬ (40 : Int) < (l : Int) := by omega
  clear S T hcells hl
  go_enter Tryd.func5, Tryd.ntmps5
  go_wp2_with (first
    | (go_at_call 8; refine (unhide HK).mono ?_; rintro E w1 ⟨rfl, hB1⟩; have HB1 := hide hB1; clear hB1)
    | (at_builtin; refine wpList_append_on rfl _ _ 22 rfl 3 i0 Tryd.underlying22 hi hz0 hz1 hz2 w.heap.size (unhide HB1).size _ [] rfl (World.ownsRow_nil _ _ _ _) _ xs rfl ((unhide HV).below (unhide HB1)) (by rw [unhide Hl]; simp; omega) ?_; intro vo w2 ho hB2; have HO2 := hide (IntsCap.of_owns ho).in'; have HB2 := hide ((unhide HB1).trans hB2); clear ho hB2))
  rw [List.nil_append] at HO2
  refine ((unhide HT).mi _ _ ((unhide HS).below (unhide HB2)) (unhide HO2)).mono ?_
  rintro E w3 ⟨ev3, rfl, hf3, hB3⟩
  have HO3 := hide ((unhide HO2).below hB3)
  have HB3 := hide ((unhide HB2).trans (hB3.mono (unhide HB2).size))
  have HE3 := hide hf3
  clear hB3 hf3
  go_wp2_with fail
  refine ((unhide HT).mo _ _ ((unhide HV).below (unhide HB3))).mono ?_
  rintro E w4 ⟨rfl, hB4⟩
  have HO4 := hide ((unhide HO3).below hB4)
  have HE4 := hide ((unhide HE3).below hB4)
  have HB4 := hide ((unhide HB3).trans (hB4.mono (unhide HB3).size))
  have HL4 := hide ((unhide HV).below (unhide HB4))
  have HS4 := hide ((unhide HS).below (unhide HB4))
  have HK5 : Hid (Below w4.heap.size w4 (w4.alloc (.cells #[.int .i64 c, .int .i64 n] 32))) := (Below.refl _ _).alloc (Nat.le_refl _) _
  have HF5 := hide (FAt.new w4 c n)
  have HE5 := hide ((unhide HE4).below (unhide HK5))
  clear hB4
  go_wp2_with fail
  refine (faulted_ok a _ ((unhide HS4).below (unhide HK5)) (unhide HE5)).mono ?_
  rintro E w6 ⟨rfl, hB6⟩
  have HK6 := hide ((unhide HK5).trans (hB6.mono (unhide HK5).size))
  have HF6 := hide ((unhide HF5).below hB6)
  clear hB6
  go_wp2_with fail
  refine ((unhide HT).se _ _ ((unhide HS4).below (unhide HK6)) ((unhide HO4).below (unhide HK6))).mono ?_
  rintro E w7 ⟨ev7, rfl, hf7, hB7⟩
  have HK7 := hide ((unhide HK6).trans (hB7.mono (unhide HK6).size))
  have HF7 := hide ((unhide HF6).below hB7)
  have HE7 := hide hf7
  clear hB7 hf7
  go_wp2_with fail
  refine ((unhide HT).so _ _ ((unhide HL4).below (unhide HK7))).mono ?_
  rintro E w8 ⟨rfl, hB8⟩
  have HK8 := hide ((unhide HK7).trans (hB8.mono (unhide HK7).size))
  have HF8 := hide ((unhide HF7).below hB8)
  have HE8 := hide ((unhide HE7).below hB8)
  clear hB8
  have q0 := (unhide HF8).c0
  have q1 := (unhide HF8).c1
  have r0 := (unhide HF8).f0
  have r1 := (unhide HF8).f1
  have HK9 := hide (below_set (unhide HK8) (.int .i64 c') (.int .i64 n'))
  have HE9 := hide (ErrFits.set (unhide HE8) (unhide HF8) (.int .i64 c') (.int .i64 n'))
  go_wp2_with fail
  refine (faulted_ok a _ ((unhide HS4).below (unhide HK9)) (unhide HE9)).mono ?_
  rintro E wa ⟨rfl, hBa⟩
  have HKa := hide ((unhide HK9).trans (hBa.mono (unhide HK9).size))
  clear hBa q0 q1 r0 r1
  go_wp2_with fail
  refine (same_ints_in _ _ xs xs _ ((unhide HO4).below (unhide HKa)) ((unhide HL4).below (unhide HKa)) (by rw [unhide Hl]; unfold maxLen; omega)).mono ?_
  rintro E wb ⟨rfl, dn, hwb⟩
  have hsame : (xs == xs) = true := by simp
  rw [hsame]
  have HKb : Hid (Below w4.heap.size w4 wb) := by show Below _ _ _; rw [hwb]; exact below_draw (unhide HKa) _
  have HBb := hide ((unhide HB4).trans ((unhide HKb).mono (unhide HB4).size))
  have HOb := hide ((unhide HO4).below (unhide HKb))
  have HLb := hide ((unhide HL4).below (unhide HKb))
  clear hsame hwb
  go_wp2
  obtain ⟨m, h1, h2, h3⟩ := first_far xs
  have H2 := hide h2
  have H3 := hide h3
  rw [unhide Hl] at h1
  clear h2 h3
  go_loop [13] (fun i => ∃ j : Nat, j ≤ m ∧ i = .int .i64 j) (fun i => l - (intOf i).toNat)
  case atStart => exact ⟨0, by omega, rfl⟩
  case round =>
    obtain ⟨j, hj, rfl⟩ := hrel
    by_cases hlt : j < l
    · obtain ⟨b, off, rfl, hc⟩ := unhide HC j (by rw [unhide Hl]; exact hlt)
      have hcb := below_cell (unhide HBb) hc
      by_cases hjm : j < m
      · have hT := unhide H2 j hjm
        generalize xs.getD j 0 = x at *
        have t1 : ¬ x < -1000000 := by have := hT.1; omega
        have t2 : ¬ 1000000 < x := by have := hT.2; omega
        clear hT hc
        go_wp2
        go_round
        case rel => exact ⟨j + 1, by omega, by go_num⟩
        case measure => simp [intOf]; omega
      · have hjm' : j = m := by omega
        subst hjm'
        have hT := unhide H3 (by rw [unhide Hl]; exact hlt)
        generalize xs.getD j 0 = x at *
        by_cases t1 : x < -1000000
        · clear hT hc
          go_wp2
          go_ret
          exact ⟨rfl, unhide HBb⟩
        · have t2 : 1000000 < x := by unfold isT at hT; omega
          clear hT hc
          go_wp2
          go_ret
          exact ⟨rfl, unhide HBb⟩
    · have hjm : j = m := by omega
      subst hjm
      have hjl : j = l := by omega
      subst hjl
      have hT : ∀ x ∈ xs, isT x := times_all.1 fun i hi => unhide H2 i (by rw [← unhide Hl]; exact hi)
      have HSp := hide (spread_ok _ xs wb (unhide HOb) (by rw [unhide Hl]; omega) hT)
      have HSo : Hid (∀ w', Below wb.heap.size wb w' → Calls Tryd.prog 16 _ w' _) := fun w' hB => spreadOf_ok _ xs w' ((unhide HLb).below hB) (by rw [unhide Hl]; omega) hT
      have hsb := spr_bound hT
      generalize spr xs = sp at *
      clear hT
      go_wp2_with (first
        | (go_at_call 10; refine (unhide HSp).mono ?_; rintro E wc ⟨rfl, hBc⟩; have HBc := hide hBc; clear hBc)
        | (go_at_call 16; refine (unhide HSo _ (unhide HBc)).mono ?_; rintro E wd ⟨rfl, dq, rfl⟩))
      go_ret
      exact ⟨rfl, below_draw ((unhide HBb).trans ((unhide HBc).mono (unhide HBb).size)) _⟩
theorem ctells_walk (a : Nat → Addr) (v : Value) (xs : List Int) (k own : Int) (w : World) (S : Sent a w) (hv : IntsIn w v xs) (hk : k ≤ 9223372036854775807) :
    Calls Tryd.prog 5 #[v, .int .i64 k, .int .i64 own] w fun r w' => r = .returned (.bool true) ∧ Below w.heap.size w w' := by
  by_cases h : 40 < xs.length
  · exact ctells_far a v xs k own w S hv h
  · obtain ⟨r, c, n, s, c', n', T⟩ := ctold a xs k own (by omega) hk
    exact ctells_near a v xs k own r c n s c' n' w S hv (by omega) T
end Go.Proofs.YtglhapkclpllfabDoor
