/-
  Contracts of package clock: isTime and Mid, whatever the numbers are.
  Conditions: ErrBound of package api lies as laid.
-/
import Derived.Test.YtglhapkclpllfabDoorProg
import Derived.Test.YtglhapkclpllfabDoorClockSpan
import Derived.Test.YtglhapkclpllfabDoorAppendOn
import Derived.Test.YtglhapkclpllfabDoorShelf
import Derived.Sort.OwnSortedInts
import Derived.Lib.OwnBridge
namespace Go.Proofs.YtglhapkclpllfabDoor
open Go.RowKit Go.Sort

theorem isTime_yes (n : Int) (w : World) (h : isT n) : Calls Tryd.prog 26 #[.int .i64 n] w fun e w' => e = .returned (.bool true) ∧ w' = w := by
  have h1 := h.1
  have h2 := h.2
  clear h
  go_enter Tryd.func26, Tryd.ntmps26
  go_wp2
  go_ret
  exact ⟨rfl, rfl⟩
theorem isTime_no (n : Int) (w : World) (h : ¬ isT n) : Calls Tryd.prog 26 #[.int .i64 n] w fun e w' => e = .returned (.bool false) ∧ w' = w := by
  by_cases h1 : -1000000 ≤ n
  · have h2 : ¬ n ≤ 1000000 := fun h2 => h ⟨h1, h2⟩
    clear h
    go_enter Tryd.func26, Tryd.ntmps26
    go_wp2
    go_ret
    exact ⟨rfl, rfl⟩
  · clear h
    go_enter Tryd.func26, Tryd.ntmps26
    go_wp2
    go_ret
    exact ⟨rfl, rfl⟩
theorem ret_two {a b : Int} {v : Value} (h : a = b) : Ending.returned (.tuple #[.int .i64 a, v]) = .returned (.tuple #[.int .i64 b, v]) := by rw [h]
theorem mid_bound (v : Value) (xs : List Int) (k : Int) (te : TypeId) (pe : Value) (w : World) (hv : IntsIn w v xs) (hl : xs.length ≤ 1000000) (h : k < 0 ∨ (xs.length : Int) ≤ 2 * k) (hk : k ≤ 9223372036854775807) (hE : w.cell? ⟨0, 0, none⟩ = some (.iface te pe)) :
    Calls Tryd.prog 9 #[v, .int .i64 k] w fun e w' => e = .returned (.tuple #[.int .i64 0, .iface te pe]) ∧ Below w.heap.size w w' := by
  obtain ⟨ad, cap, rfl, _⟩ := hv
  by_cases h0 : k < 0
  · clear h
    go_enter Tryd.func9, Tryd.ntmps9
    go_wp2
    go_quiet (fail)
    go_wp2
    go_ret2
    exact ⟨rfl, below_draw (Below.refl _ _) _⟩
  · have h1 : (xs.length : Int) - k ≤ k := by omega
    have h2 : wrap64 ((xs.length : Int) - k) = (xs.length : Int) - k := by unfold wrap64; omega
    clear h
    go_enter Tryd.func9, Tryd.ntmps9
    go_wp2
    go_quiet (fail)
    go_wp2
    go_ret2
    exact ⟨rfl, below_draw (Below.refl _ _) _⟩
/-- Behind the sort: the numbers in order, in memory of the call's own. -/
theorem sorted_at {w w1 : World} {g cap n nn : Nat} {os : Array Obj} {xs : List Int} (hn : xs.length = n) (hown : w1.ownsRow w.heap.size 3 1 (.slice (some ⟨g, 0, none⟩) n cap) n (xs.map (Value.int .i64))) (hB : Below w.heap.size w w1) :
    (∀ j, j < n → (grow (putRow (Value.int .i64) (Sort.ahead w1 nn) g 0 (srt xs).toArray) os).cell? ⟨g, 0 + j, none⟩ = some (.int .i64 ((srt xs).getD j 0))) ∧ Below w.heap.size w (grow (putRow (Value.int .i64) (Sort.ahead w1 nn) g 0 (srt xs).toArray) os) := by
  subst hn
  rcases hown.2 with ⟨h0, _⟩ | ⟨g', cap', cur, hv, hbase, hb, h1, h2, h3, h4⟩
  · cases h0
  cases hv
  have hs := ownsRow_sortedI (n := nn) (os := os) (ts := srt xs) (srt_len xs) hbase hb h1 h2 h3
  have hlen := srt_len xs
  refine ⟨fun j hj => ?_, hB.grown (grownBy_sortedI _) hB.size (fun k e => by cases e; exact hbase)⟩
  have := hs.cellAt j (by omega)
  rw [Nat.zero_add, this, List.getElem?_map, List.getD_eq_getElem?_getD, List.getElem?_eq_getElem (by omega)]
  rfl
set_option maxHeartbeats 1000000 in
/-- The numbers are enough: then all are times, and the middle is told, or the first that is none. -/
theorem mid_walk (v : Value) (xs : List Int) (k m : Nat) (te : TypeId) (pe : Value) (w : World) (hv : IntsIn w v xs) (hl : xs.length ≤ 1000000) (hk : 2 * k + 1 ≤ xs.length) (hm : m ≤ xs.length) (hn : ∀ i, i < m → isT (xs.getD i 0)) (hbad : m < xs.length → ¬ isT (xs.getD m 0)) (hE : w.cell? ⟨0, 0, none⟩ = some (.iface te pe)) :
    Calls Tryd.prog 9 #[v, .int .i64 k] w fun e w' => (m = xs.length ∧ e = .returned (.tuple #[.int .i64 (mid xs k), .nilIface]) ∧ Below w.heap.size w w') ∨
      (m < xs.length ∧ e = .returned (.tuple #[.int .i64 0, .iface 50 (.pointer (some ⟨w.heap.size, 0, none⟩))]) ∧ w'.cell? ⟨w.heap.size, 0, none⟩ = some (.int .i64 m) ∧ w'.cell? ⟨w.heap.size, 0 + 1, none⟩ = some (.iface te pe) ∧ Below w.heap.size w w') := by
  obtain ⟨ad, cap, rfl, hcells⟩ := hv
  obtain ⟨b, off, rfl, _⟩ := hcells 0 (by omega)
  have g : ∀ i, i < xs.length → w.cell? ⟨b, off + i, none⟩ = some (.int .i64 (xs.getD i 0)) := fun i hi => by
    obtain ⟨b', o', e, hc⟩ := hcells i hi
    cases e
    exact hc
  have HV := hide g
  have Hn := hide hn
  have Hbad := hide hbad
  have HC := hide (Tryd.slices_Clone_int b off xs.length cap xs w (Nat.le_refl _) (by omega) g)
  obtain ⟨n, hn'⟩ : ∃ n, xs.length = n := ⟨_, rfl⟩
  have Hl : Hid (xs.length = n) := hn'
  rw [hn'] at hm hl hk HC ⊢
  have h0 : ¬ ((k : Int) < 0) := by omega
  have h1 : ¬ ((n : Int) - (k : Int) ≤ (k : Int)) := by omega
  clear hn' hcells hn hbad g
  go_enter Tryd.func9, Tryd.ntmps9
  go_wp2
  go_loop [24] (fun i => ∃ j : Nat, j ≤ m ∧ i = .int .i64 j) (fun i => n - (intOf i).toNat)
  case atStart => exact ⟨0, by omega, rfl⟩
  case round =>
    obtain ⟨j, hj, rfl⟩ := hrel
    by_cases hlt : j < n
    · have hc := unhide HV j (by rw [unhide Hl]; exact hlt)
      obtain ⟨x, hx⟩ : ∃ x, xs.getD j 0 = x := ⟨_, rfl⟩
      rw [hx] at hc
      have HX := hide hx
      clear hx
      by_cases hjm : j < m
      · have hT : isT x := by rw [← unhide HX]; exact unhide Hn j hjm
        go_wp2_with (go_at_call 26; refine (isTime_yes x _ hT).mono ?_; rintro e w' ⟨rfl, rfl⟩)
        go_round
        case rel => exact ⟨j + 1, by omega, by go_num⟩
        case measure => simp [intOf]; omega
      · have hjm' : j = m := by omega
        subst hjm'
        have hT : ¬ isT x := by rw [← unhide HX]; exact unhide Hbad (by rw [unhide Hl]; exact hlt)
        have HT := hide hT
        clear hT
        go_wp2_with (go_at_call 26; refine (isTime_no x _ (unhide HT)).mono ?_; rintro e w' ⟨rfl, rfl⟩)
        go_region
        all_goals (try go_wp2)
        all_goals go_ret2
        all_goals exact Or.inr ⟨hlt, rfl, by simp, by simp, ((Below.refl _ _).alloc (Nat.le_refl _) _).drew⟩
    · have : j = m := by omega
      subst this
      have hnk : j = n := by omega
      subst hnk
      go_wp2_with fail
      refine (unhide HC).mono ?_
      rintro E w1 ⟨v1, rfl, hown, hnn, hB⟩
      rw [List.take_of_length_le (by rw [unhide Hl]; exact Nat.le_refl _)] at hown
      obtain ⟨g, cap1, rfl, hbg, hgl, hncap, hcm, hlen, hH⟩ := Lib.holds_of_ownsRow hown hnn
      have HS := hide (Tryd.slices_Sort_int g 0 cap1 xs w1 hH hgl (by omega))
      rw [unhide Hl] at HS
      have HO : Hid (∀ nn os, (∀ i, i < j → (grow (putRow (Value.int .i64) (Sort.ahead w1 nn) g 0 (srt xs).toArray) os).cell? ⟨g, 0 + i, none⟩ = some (.int .i64 ((srt xs).getD i 0))) ∧ Below w.heap.size w (grow (putRow (Value.int .i64) (Sort.ahead w1 nn) g 0 (srt xs).toArray) os)) := fun nn os => sorted_at (unhide Hl) hown hB
      clear hown hB hH hnn HC hlen
      go_wp2_with fail
      refine (unhide HS).mono ?_
      rintro E w2 ⟨rfl, nn, os, e2⟩
      obtain ⟨hc, hB2⟩ := unhide HO nn os
      have e3 : w2 = grow (putRow (Value.int .i64) (Sort.ahead w1 nn) g 0 (srt xs).toArray) os := e2
      rw [← e3] at hc hB2
      clear e2 e3 HO HS
      have hc1 := hc k (by omega)
      have hc2 := hc (j - 1 - k) (by omega)
      rw [Nat.zero_add] at hc1 hc2
      have HB2 := hide hB2
      clear hc hB2
      have hT1 : isT ((srt xs).getD k 0) := (times_all.1 (fun i hi => unhide Hn i (by rw [← unhide Hl]; exact hi))) _ (srt_getD_mem xs k (by rw [unhide Hl]; omega))
      have hT2 : isT ((srt xs).getD (j - 1 - k) 0) := (times_all.1 (fun i hi => unhide Hn i (by rw [← unhide Hl]; exact hi))) _ (srt_getD_mem xs (j - 1 - k) (by rw [unhide Hl]; omega))
      have HM : Hid (mid xs k = ((srt xs).getD k 0 + (srt xs).getD (j - 1 - k) 0) / 2) := by show _ = _; unfold mid; rw [unhide Hl]
      generalize (srt xs).getD k 0 = lo at *
      generalize (srt xs).getD (j - 1 - k) 0 = hi at *
      have t1 := hT1.1
      have t2 := hT1.2
      have t3 := hT2.1
      have t4 := hT2.2
      have hq : (j : Int) - 1 - (k : Int) = ((j - 1 - k : Nat) : Int) := by omega
      have hkj : k < j := by omega
      have hqj : j - 1 - k < j := by omega
      generalize j - 1 - k = q at *
      clear hT1 hT2
      go_wp2
      go_quiet (fail)
      go_wp2
      go_ret2
      exact ⟨ret_two (unhide HM).symm, below_draw (unhide HB2) _⟩
end Go.Proofs.YtglhapkclpllfabDoor
