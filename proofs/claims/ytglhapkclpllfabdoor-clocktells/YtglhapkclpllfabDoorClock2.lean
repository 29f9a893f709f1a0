/-
  Contracts of package clock: Spread of times, Set; the closed fact about clocks that the laws of chapter 4 begin with.
  Conditions: ErrBound of package api lies as laid.
-/
import Derived.Test.YtglhapkclpllfabDoorClock1
namespace Go.Proofs.YtglhapkclpllfabDoor
open Go.RowKit

theorem Tryd.infoI : (Tryd.prog.info? 3).map (fun i => (i.zero, i.size, i.bytes)) = some (some (.int .i64 0), 1, 8) := by kernel_rfl
theorem cell_new_one (W : World) (x : Int) (t : TypeId) : IntsIn (W.alloc (.cells #[.int .i64 x] t)) (.slice (some ⟨W.heap.size, 0, none⟩) 1 1) [x] :=
  IntsAt.in' (Or.inr ⟨W.heap.size, 0, 1, rfl, ints_new W [x] t _ _ rfl rfl⟩)
set_option maxHeartbeats 1000000 in
set_option maxRecDepth 100000 in
theorem spread_ok (v : Value) (xs : List Int) (w : World) (hv : IntsIn w v xs) (hl : xs.length ≤ 100000) (hT : ∀ x ∈ xs, isT x) :
    Calls Tryd.prog 10 #[v] w fun e w' => e = .returned (.int .i64 (spr xs)) ∧ Below w.heap.size w w' := by
  obtain ⟨i0, hi, hz0, hz1, hz2⟩ := info_parts Tryd.infoI
  obtain ⟨ad, cap, rfl, hcells⟩ := hv
  have HV := hide hcells
  have HT := hide hT
  obtain ⟨n, hn⟩ : ∃ n, xs.length = n := ⟨_, rfl⟩
  have Hl : Hid (xs.length = n) := hn
  rw [hn] at hl ⊢
  clear hn hcells hT
  go_enter Tryd.func10, Tryd.ntmps10
  go_wp2
  go_loopw [3, 8] (fun t i wr => ∃ k : Nat, k ≤ n ∧ i = .int .i64 k ∧ wr.ownsRow w.heap.size 3 1 t (xs.take k).length ((xs.take k).map (Value.int .i64)) ∧ Below w.heap.size w wr) (fun _ i _ => n - (intOf i).toNat)
  case atStart => exact ⟨0, by omega, rfl, World.ownsRow_nil _ _ _ _, Below.refl _ _⟩
  case round =>
    obtain ⟨k, hk, rfl, hrow, hB⟩ := hrel
    by_cases hlt : k < n
    · obtain ⟨b, off, rfl, hc⟩ := unhide HV k (by rw [unhide Hl]; exact hlt)
      have hx : isT (xs.getD k 0) := unhide HT _ (getD_in xs k (by rw [unhide Hl]; exact hlt))
      have HS := hide (take_snocD xs k (by rw [unhide Hl]; exact hlt))
      generalize xs.getD k 0 = x at *
      have hc' := below_cell hB hc
      have hlen : (xs.take k).length = k := by rw [List.length_take, unhide Hl]; omega
      have HB := hide hB
      have HR := hide hrow
      have HL := hide hlen
      have HX := hide hx
      clear hB hrow hc hx hlen
      go_wp2_with (first
        | (go_at_call 26; refine (isTime_yes x _ (unhide HX)).mono ?_; rintro e w' ⟨rfl, rfl⟩)
        | (at_builtin; refine wpList_append_on rfl _ _ 22 rfl 3 i0 Tryd.underlying22 hi hz0 hz1 hz2 w.heap.size (by have := (unhide HB).size; simp; omega) _ (xs.take k) rfl ((unhide HR).alloc _) _ [x] rfl (cell_new_one _ _ _) (by rw [unhide HL]; simp; omega) ?_; intro v' w1 hown' hB1; have HO1 := hide hown'; have HB1 := hide hB1; clear hown' hB1))
      go_roundw
      case rel => exact ⟨k + 1, by omega, by go_num, by rw [unhide HS]; exact unhide HO1, ((unhide HB).alloc (unhide HB).size _).trans (unhide HB1)⟩
      case measure => simp [intOf]; omega
    · have hkn : k = n := by omega
      subst hkn
      rw [List.take_of_length_le (by rw [unhide Hl]; exact Nat.le_refl _), unhide Hl] at hrow
      have HB := hide hB
      rcases Nat.eq_zero_or_pos k with h0 | h0
      · have e0 : xs = [] := List.eq_nil_of_length_eq_zero (by rw [unhide Hl]; exact h0)
        have HS : Hid (spr xs = 0) := by show _ = _; rw [e0]; rfl
        clear e0
        subst h0
        rcases hrow.2 with ⟨rfl, _⟩ | ⟨g, cap1, cur, rfl, _⟩
        all_goals
          clear hrow hB
          go_wp2
          go_ret
          exact ⟨ret_int (unhide HS).symm, unhide HB⟩
      · have hne : xs ≠ [] := fun e => by have := unhide Hl; rw [e] at this; simp at this; omega
        have a1 := unhide HT _ (maxOf_spec hne).2
        have a2 := unhide HT _ (minOf_spec hne).2
        have HS : Hid (spr xs = Lib.maxOf xs - Lib.minOf xs) := by show _ = _; unfold spr; rw [if_neg hne]
        have hA := intsAt_of_owns (by rw [unhide Hl]; exact hrow)
        rcases hA with ⟨_, e⟩ | ⟨g, off, cap1, rfl, hcell⟩
        · exact absurd e hne
        have H1 := hide (Tryd.slices_Max_int g off k cap1 xs _ h0 (by rw [unhide Hl]; exact Nat.le_refl _) (by omega) hcell)
        have H2 := hide (Tryd.slices_Min_int g off k cap1 xs _ h0 (by rw [unhide Hl]; exact Nat.le_refl _) (by omega) hcell)
        rw [List.take_of_length_le (by rw [unhide Hl]; exact Nat.le_refl _)] at H1 H2
        rw [unhide Hl]
        generalize Lib.maxOf xs = hi at *
        generalize Lib.minOf xs = lo at *
        have t1 := a1.1
        have t2 := a1.2
        have t3 := a2.1
        have t4 := a2.2
        have h0' : ¬ ((k : Int) = 0) := by omega
        clear hrow hB hcell hne a1 a2 h0 hk hlt
        go_wp2_with fail
        refine (unhide H1).mono ?_
        rintro e w' ⟨rfl, rfl⟩
        go_wp2_with fail
        refine (unhide H2).mono ?_
        rintro e w' ⟨rfl, rfl⟩
        go_wp2
        go_ret
        exact ⟨ret_int (unhide HS).symm, unhide HB⟩
theorem mid_ok (v : Value) (xs : List Int) (k : Nat) (te : TypeId) (pe : Value) (w : World) (hv : IntsIn w v xs) (hl : xs.length ≤ 1000000) (hk : 2 * k + 1 ≤ xs.length) (hT : ∀ x ∈ xs, isT x) (hE : w.cell? ⟨0, 0, none⟩ = some (.iface te pe)) :
    Calls Tryd.prog 9 #[v, .int .i64 k] w fun e w' => e = .returned (.tuple #[.int .i64 (mid xs k), .nilIface]) ∧ Below w.heap.size w w' :=
  (mid_walk v xs k xs.length te pe w hv hl hk (Nat.le_refl _) (times_all.2 hT) (fun h => absurd h (Nat.lt_irrefl _)) hE).mono fun _ _ h => by
    rcases h with h | h
    · exact h.2
    · exact absurd h.1 (Nat.lt_irrefl _)
theorem mid_far (v : Value) (xs : List Int) (k m : Nat) (te : TypeId) (pe : Value) (w : World) (hv : IntsIn w v xs) (hl : xs.length ≤ 1000000) (hk : 2 * k + 1 ≤ xs.length) (hm : m < xs.length) (hn : ∀ i, i < m → isT (xs.getD i 0)) (hbad : ¬ isT (xs.getD m 0)) (hE : w.cell? ⟨0, 0, none⟩ = some (.iface te pe)) :
    Calls Tryd.prog 9 #[v, .int .i64 k] w fun e w' => ∃ pb, e = .returned (.tuple #[.int .i64 0, .iface 50 (.pointer (some ⟨pb, 0, none⟩))]) ∧ w'.cell? ⟨pb, 0, none⟩ = some (.int .i64 m) ∧ w'.cell? ⟨pb, 0 + 1, none⟩ = some (.iface te pe) ∧ Below w.heap.size w w' :=
  (mid_walk v xs k m te pe w hv hl hk (Nat.le_of_lt hm) hn (fun _ => hbad) hE).mono fun _ _ h => by
    rcases h with h | h
    · exact absurd h.1 (Nat.ne_of_lt hm)
    · exact ⟨_, h.2⟩
/-- Whatever the numbers are: the middle, or 0 and an error. -/
theorem mid_any (v : Value) (xs : List Int) (k : Nat) (te : TypeId) (pe : Value) (w : World) (hv : IntsIn w v xs) (hl : xs.length ≤ 1000000) (hk : k ≤ 1000000) (hE : w.cell? ⟨0, 0, none⟩ = some (.iface te pe)) :
    ((2 * k + 1 ≤ xs.length ∧ ∀ x ∈ xs, isT x) ∧ Calls Tryd.prog 9 #[v, .int .i64 k] w fun e w' => e = .returned (.tuple #[.int .i64 (mid xs k), .nilIface]) ∧ Below w.heap.size w w') ∨
      Calls Tryd.prog 9 #[v, .int .i64 k] w fun e w' => ∃ t p, e = .returned (.tuple #[.int .i64 0, .iface t p]) ∧ Below w.heap.size w w' := by
  by_cases h : 2 * k + 1 ≤ xs.length
  · obtain ⟨m, h1, h2, h3⟩ := first_far xs
    rcases Nat.lt_or_ge m xs.length with hm | hm
    · refine Or.inr ((mid_far v xs k m te pe w hv hl h hm h2 (h3 hm) hE).mono ?_)
      rintro e w' ⟨pb, rfl, _, _, hB⟩
      exact ⟨_, _, rfl, hB⟩
    · have hT : ∀ x ∈ xs, isT x := times_all.1 fun i hi => h2 i (by omega)
      exact Or.inl ⟨⟨h, hT⟩, mid_ok v xs k te pe w hv hl h hT hE⟩
  · refine Or.inr ((mid_bound v xs k te pe w hv hl (Or.inr (by omega)) (by omega) hE).mono ?_)
    rintro e w' ⟨rfl, hB⟩
    exact ⟨_, _, rfl, hB⟩
theorem four_srt : srt [10, 12, 500, 11] = [10, 11, 12, 500] := (srt_unique (x := [10, 11, 12, 500]) (by unfold Rising; decide) (by decide)).symm
theorem four_mid : mid [10, 12, 500, 11] 1 = 11 := by unfold mid; rw [four_srt]; rfl
theorem four_in (w : World) : IntsIn (w.alloc (.cells #[.int .i64 10, .int .i64 12, .int .i64 500, .int .i64 11] 3)) (.slice (some ⟨w.heap.size, 0, none⟩) 4 4) [10, 12, 500, 11] :=
  IntsAt.in' (Or.inr ⟨w.heap.size, 0, 4, rfl, ints_new w [10, 12, 500, 11] 3 _ _ rfl rfl⟩)
theorem two_in9 (w : World) : IntsIn (w.alloc (.cells #[.int .i64 3, .int .i64 9] 3)) (.slice (some ⟨w.heap.size, 0, none⟩) 2 2) [3, 9] :=
  IntsAt.in' (Or.inr ⟨w.heap.size, 0, 2, rfl, ints_new w [3, 9] 3 _ _ rfl rfl⟩)
theorem clocked_ok (te : TypeId) (pe : Value) (w : World) (hE : w.cell? ⟨0, 0, none⟩ = some (.iface te pe)) : Calls Tryd.prog 8 #[] w fun r w' => r = .returned (.bool true) ∧ Below w.heap.size w w' := by
  have HA : Hid (Below w.heap.size w (w.alloc (.cells #[.int .i64 10, .int .i64 12, .int .i64 500, .int .i64 11] 3))) := (Below.refl _ _).alloc (Nat.le_refl _) _
  have H1 : Hid (Calls Tryd.prog _ _ _ _) := mid_ok _ [10, 12, 500, 11] 1 te pe _ (four_in w) (by decide) (by decide) (by decide) (below_cell (unhide HA) hE)
  rw [four_mid] at H1
  clear hE
  go_enter Tryd.func8, Tryd.ntmps8
  go_wp2_with fail
  refine (unhide H1).mono ?_
  rintro E w1 ⟨rfl, hB1⟩
  have HB1 : Hid (Below w.heap.size w w1) := (unhide HA).trans (hB1.mono (by simp))
  clear hB1
  have HA2 : Hid (Below w1.heap.size w1 (w1.alloc (.cells #[.int .i64 3, .int .i64 9] 3))) := (Below.refl _ _).alloc (Nat.le_refl _) _
  have HB2 : Hid (Below w.heap.size w (w1.alloc (.cells #[.int .i64 3, .int .i64 9] 3))) := (unhide HB1).trans ((unhide HA2).mono (unhide HB1).size)
  have H2 : Hid (Calls Tryd.prog _ _ _ _) := spread_ok _ [3, 9] _ (two_in9 w1) (by decide) (by decide)
  have e9 : spr [3, 9] = 6 := by decide
  rw [e9] at H2
  clear e9
  go_wp2_with fail
  refine (unhide H2).mono ?_
  rintro E w2 ⟨rfl, hB2⟩
  have HB3 : Hid (Below w.heap.size w w2) := (unhide HB2).trans (hB2.mono (unhide HB2).size)
  clear hB2
  go_wp2
  go_ret
  exact ⟨rfl, unhide HB3⟩
end Go.Proofs.YtglhapkclpllfabDoor
