/-
  The walk of the law ClockBetween: whatever the right ones, the wrong ones and the place are, it answers true, and nothing that was in memory has turned.
  Conditions: ErrBound of package api lies as laid.
-/
import Derived.Test.YtglhapkclpllfabDoorClock2
namespace Go.Proofs.YtglhapkclpllfabDoor
open Go.RowKit

set_option maxRecDepth 100000 in
theorem between_far (te : TypeId) (pe : Value) (v u : Value) (xs ys : List Int) (p : Int) (w : World) (hE : w.cell? ⟨0, 0, none⟩ = some (.iface te pe)) (hv : IntsCap w v xs) (hu : IntsIn w u ys) (h : 20 < xs.length ∨ 10 < ys.length ∨ p < 0 ∨ (xs.length : Int) < p) :
    Calls Tryd.prog 3 #[v, u, .int .i64 p] w fun r w' => r = .returned (.bool true) ∧ Below w.heap.size w w' := by
  have HK := hide (clocked_ok te pe w hE)
  obtain ⟨ad, cap, rfl, _, _⟩ := hv
  obtain ⟨ae, cae, rfl, _⟩ := hu
  generalize xs.length = n at *
  generalize ys.length = m at *
  clear hE
  by_cases h1 : 20 < n
  · have h1' : (20 : Int) < (n : Int) := by omega
    clear h h1
    go_enter Tryd.func3, Tryd.ntmps3
    go_wp2_with (go_at_call 8; refine (unhide HK).mono ?_; rintro E w1 ⟨rfl, hB1⟩; have HB := hide hB1; clear hB1)
    go_ret
    exact ⟨rfl, unhide HB⟩
  · have h1' : ¬ (20 : Int) < (n : Int) := by omega
    by_cases h2 : 10 < m
    · have h2' : (10 : Int) < (m : Int) := by omega
      clear h h1 h2
      go_enter Tryd.func3, Tryd.ntmps3
      go_wp2_with (go_at_call 8; refine (unhide HK).mono ?_; rintro E w1 ⟨rfl, hB1⟩; have HB := hide hB1; clear hB1)
      go_ret
      exact ⟨rfl, unhide HB⟩
    · have h2' : ¬ (10 : Int) < (m : Int) := by omega
      by_cases h3 : p < 0
      · clear h h1 h2
        go_enter Tryd.func3, Tryd.ntmps3
        go_wp2_with (go_at_call 8; refine (unhide HK).mono ?_; rintro E w1 ⟨rfl, hB1⟩; have HB := hide hB1; clear hB1)
        go_ret
        exact ⟨rfl, unhide HB⟩
      · have h4 : (n : Int) < p := by omega
        clear h h1 h2
        go_enter Tryd.func3, Tryd.ntmps3
        go_wp2_with (go_at_call 8; refine (unhide HK).mono ?_; rintro E w1 ⟨rfl, hB1⟩; have HB := hide hB1; clear hB1)
        go_ret
        exact ⟨rfl, unhide HB⟩
/-- What the loop over the right ones has found. -/
def LoHi (xs : List Int) (k : Nat) (a c : Int) : Prop := a ∈ xs ∧ c ∈ xs ∧ ∀ i, i < k → a ≤ xs.getD i 0 ∧ xs.getD i 0 ≤ c
theorem LoHi.step {xs : List Int} {k : Nat} {a c x : Int} (h : LoHi xs k a c) (hk : k < xs.length) (hx : xs.getD k 0 = x) : LoHi xs (k + 1) (if x < a then x else a) (if c < x then x else c) := by
  obtain ⟨h1, h2, h3⟩ := h
  have hm : x ∈ xs := by rw [← hx]; exact getD_in xs k hk
  refine ⟨by split <;> assumption, by split <;> assumption, fun i hi => ?_⟩
  rcases Nat.lt_or_ge i k with h | h
  · have := h3 i h
    constructor <;> split <;> omega
  · have e : i = k := by omega
    subst e
    rw [hx]
    constructor <;> split <;> omega
theorem LoHi.all {xs : List Int} {a c : Int} {n : Nat} (h : LoHi xs n a c) (hn : xs.length = n) : (∀ x ∈ xs, a ≤ x) ∧ (∀ x ∈ xs, x ≤ c) ∧ spr xs = c - a := by
  subst hn
  have g1 : ∀ x ∈ xs, a ≤ x := fun x hx => by obtain ⟨i, hi, rfl⟩ := in_getD hx; exact (h.2.2 i hi).1
  have g2 : ∀ x ∈ xs, x ≤ c := fun x hx => by obtain ⟨i, hi, rfl⟩ := in_getD hx; exact (h.2.2 i hi).2
  exact ⟨g1, g2, spr_of g1 g2 h.1 h.2.1⟩
theorem parts_perm (xs ys : List Int) (j : Nat) : ([] ++ xs.take j ++ ys ++ xs.drop j).Perm (xs ++ ys) := by
  rw [List.nil_append]
  refine (List.perm_append_comm_assoc (xs.take j) ys (xs.drop j) |> fun h => ?_)
  rw [List.append_assoc]
  refine h.trans ?_
  rw [List.take_append_drop]
  exact List.perm_append_comm
set_option maxHeartbeats 4000000 in
set_option maxRecDepth 100000 in
theorem between_near (te : TypeId) (pe : Value) (v u : Value) (xs ys : List Int) (j : Nat) (w : World) (hE : w.cell? ⟨0, 0, none⟩ = some (.iface te pe)) (hv : IntsCap w v xs) (hu : IntsIn w u ys) (h1 : xs.length ≤ 20) (h2 : ys.length ≤ 10) (h3 : j ≤ xs.length) :
    Calls Tryd.prog 3 #[v, u, .int .i64 j] w fun r w' => r = .returned (.bool true) ∧ Below w.heap.size w w' := by
  obtain ⟨i0, hi, hz0, hz1, hz2⟩ := info_parts Tryd.infoI
  have HK := hide (clocked_ok te pe w hE)
  have HE := hide hE
  have HV := hide hv
  have HU := hide hu
  obtain ⟨ad, cap, rfl, hcap, hcells⟩ := hv
  obtain ⟨ae, cae, rfl, hcellu⟩ := hu
  have HC := hide hcells
  have HD := hide hcellu
  obtain ⟨n, hn⟩ : ∃ n, xs.length = n := ⟨_, rfl⟩
  obtain ⟨m, hm⟩ : ∃ m, ys.length = m := ⟨_, rfl⟩
  have Hn : Hid (xs.length = n) := hn
  have Hm : Hid (ys.length = m) := hm
  rw [hn] at h1 h3 hcap HV ⊢
  rw [hm] at h2 HU ⊢
  clear hE hcells hcellu hn hm
  have f1 : ¬ (20 : Int) < (n : Int) := by omega
  have f2 : ¬ (10 : Int) < (m : Int) := by omega
  have f3 : ¬ (j : Int) < 0 := by omega
  have f4 : ¬ (n : Int) < (j : Int) := by omega
  have f5 : (j : Int) ≤ (cap : Int) := by omega
  by_cases hcj : j = cap
  all_goals (first | subst hcj | (have hcj' : ¬ cap = j := fun e => hcj e.symm))
  all_goals
    go_enter Tryd.func3, Tryd.ntmps3
    go_wp2_with (first
      | (go_at_call 8; refine (unhide HK).mono ?_; rintro E w1 ⟨rfl, hB1⟩; have HB := hide hB1; clear hB1)
      | (at_builtin; refine wpList_append_on rfl _ _ 22 rfl 3 i0 Tryd.underlying22 hi hz0 hz1 hz2 w.heap.size (unhide HB).size _ [] rfl (World.ownsRow_nil _ _ _ _) _ (xs.take j) rfl (cap_take ((unhide HV).below (unhide HB)) j h3) (by rw [List.length_take]; simp; omega) ?_; intro v1 w2 ho1 hB2; have HO1 := hide ho1; have HB2 := hide ((unhide HB).trans hB2); clear ho1 hB2)
      | (at_builtin; refine wpList_append_on rfl _ _ 22 rfl 3 i0 Tryd.underlying22 hi hz0 hz1 hz2 w.heap.size (unhide HB2).size _ ([] ++ xs.take j) rfl (unhide HO1) _ ys rfl ((unhide HU).below (unhide HB2)) (by rw [List.nil_append, List.length_take, unhide Hm]; omega) ?_; intro v2 w3 ho2 hB3; have HO2 := hide ho2; have HB3 := hide ((unhide HB2).trans hB3); clear ho2 hB3)
      | (at_builtin; refine wpList_append_on rfl _ _ 22 rfl 3 i0 Tryd.underlying22 hi hz0 hz1 hz2 w.heap.size (unhide HB3).size _ ([] ++ xs.take j ++ ys) rfl (unhide HO2) _ (xs.drop j) rfl (cap_drop ((unhide HV).below (unhide HB3)) j (by first | rfl | omega) _ (by first | rfl | (rw [if_pos rfl]) | (rw [if_neg hcj']) | (rw [if_neg hcj']; rfl) | (rw [if_neg hcj']; simp))) (by rw [List.nil_append, List.length_append, List.length_take, List.length_drop, unhide Hm, unhide Hn]; omega) ?_; intro v3 w4 ho3 hB4; have HO3 := hide ho3; have HB4 := hide ((unhide HB3).trans hB4); clear ho3 hB4))
    obtain ⟨L, hL⟩ : ∃ L, L = [] ++ xs.take j ++ ys ++ xs.drop j := ⟨_, rfl⟩
    have HP : Hid (L.Perm (xs ++ ys)) := by show L.Perm _; rw [hL]; exact parts_perm xs ys j
    have hLn : L.length = n + m := by rw [(unhide HP).length_eq, List.length_append, unhide Hn, unhide Hm]
    have HLn := hide hLn
    rw [← hL] at HO3
    have hin : IntsIn w4 v3 L := (IntsCap.of_owns (unhide HO3)).in'
    rcases mid_any v3 L m te pe w4 hin (by omega) (by omega) (below_cell (unhide HB4) (unhide HE)) with ⟨⟨hk, hT⟩, HM⟩ | HM
    · refine HM.mono ?_
      rintro E w5 ⟨rfl, hB5⟩
      have HB5 := hide ((unhide HB4).trans (hB5.mono (unhide HB4).size))
      have HTx : Hid (∀ x ∈ xs, isT x) := fun x hx => hT x ((unhide HP).mem_iff.2 (List.mem_append_left _ hx))
      have HSp := hide (spread_ok _ xs w5 ((unhide HV).below (unhide HB5)).in' (by rw [unhide Hn]; omega) (unhide HTx))
      have hk' : m + 1 ≤ n := by omega
      obtain ⟨b, off, rfl, _⟩ := unhide HC 0 (by rw [unhide Hn]; omega)
      have HG : Hid (∀ i, i < n → w5.cell? ⟨b, off + i, none⟩ = some (.int .i64 (xs.getD i 0))) := fun i hi => by
        obtain ⟨b', o', e, hc⟩ := unhide HC i (by rw [unhide Hn]; exact hi)
        cases e
        exact below_cell (unhide HB5) hc
      have HMB : Hid (∀ a c, LoHi xs n a c → a ≤ mid L m ∧ mid L m ≤ c ∧ spr xs = c - a ∧ isT a ∧ isT c) := fun a c h => by
        obtain ⟨g1, g2, g3⟩ := h.all (unhide Hn)
        have := mid_between (l := L) (right := xs) (wrong := ys) (unhide HP) (by rw [unhide Hm]; omega) g1 g2
        rw [unhide Hm] at this
        exact ⟨this.1, this.2, g3, unhide HTx _ h.1, unhide HTx _ h.2.1⟩
      have hc0 := unhide HG 0 (by omega)
      rw [Nat.add_zero] at hc0
      have HX0 : Hid (LoHi xs 0 (xs.getD 0 0) (xs.getD 0 0)) := ⟨getD_in xs 0 (by rw [unhide Hn]; omega), getD_in xs 0 (by rw [unhide Hn]; omega), fun i hi => absurd hi (Nat.not_lt_zero _)⟩
      generalize mid L m = md at *
      generalize xs.getD 0 0 = x0 at *
      have hn0 : 0 < n := by omega
      clear hB5 hk hT hin hL hLn HM
      go_wp2
      go_loop [11, 12, 13] (fun lo hi i => ∃ (k : Nat) (a c : Int), k ≤ n ∧ i = .int .i64 k ∧ lo = .int .i64 a ∧ hi = .int .i64 c ∧ Hid (LoHi xs k a c)) (fun _ _ i => n - (intOf i).toNat)
      case atStart => exact ⟨0, x0, x0, by omega, rfl, rfl, rfl, HX0⟩
      case round =>
        obtain ⟨k, a, c, hk, rfl, rfl, rfl, HI⟩ := hrel
        by_cases hlt : k < n
        · have hc := unhide HG k hlt
          have HS : Hid (LoHi xs (k + 1) (if xs.getD k 0 < a then xs.getD k 0 else a) (if c < xs.getD k 0 then xs.getD k 0 else c)) := (unhide HI).step (by rw [unhide Hn]; exact hlt) rfl
          generalize xs.getD k 0 = x at *
          by_cases g1 : x < a
          · rw [if_pos g1] at HS
            by_cases g2 : c < x
            · rw [if_pos g2] at HS
              go_wp2
              go_round
              case rel => exact ⟨k + 1, x, x, by omega, by go_num, rfl, rfl, HS⟩
              case measure => simp [intOf]; omega
            · rw [if_neg g2] at HS
              go_wp2
              go_round
              case rel => exact ⟨k + 1, x, c, by omega, by go_num, rfl, rfl, HS⟩
              case measure => simp [intOf]; omega
          · rw [if_neg g1] at HS
            by_cases g2 : c < x
            · rw [if_pos g2] at HS
              go_wp2
              go_round
              case rel => exact ⟨k + 1, a, x, by omega, by go_num, rfl, rfl, HS⟩
              case measure => simp [intOf]; omega
            · rw [if_neg g2] at HS
              go_wp2
              go_round
              case rel => exact ⟨k + 1, a, c, by omega, by go_num, rfl, rfl, HS⟩
              case measure => simp [intOf]; omega
        · have hkn : k = n := by omega
          subst hkn
          obtain ⟨q1, q2, q3, q4, q5⟩ := unhide HMB a c (unhide HI)
          rw [q3] at HSp
          have q4a := q4.1
          have q4b := q4.2
          have q5a := q5.1
          have q5b := q5.2
          clear q3 q4 q5
          go_wp2_with (go_at_call 10; refine (unhide HSp).mono ?_; rintro E w6 ⟨rfl, hB6⟩; have HB6 := hide ((unhide HB5).trans (hB6.mono (unhide HB5).size)); clear hB6)
          go_ret
          exact ⟨rfl, unhide HB6⟩
    · refine HM.mono ?_
      rintro E w5 ⟨t, p, rfl, hB5⟩
      have HB5 := hide ((unhide HB4).trans (hB5.mono (unhide HB4).size))
      clear hB5 hin hL hLn HM
      go_wp2
      go_ret
      exact ⟨rfl, unhide HB5⟩
theorem between_walk (te : TypeId) (pe : Value) (v u : Value) (xs ys : List Int) (p : Int) (w : World) (hE : w.cell? ⟨0, 0, none⟩ = some (.iface te pe)) (hv : IntsCap w v xs) (hu : IntsIn w u ys) :
    Calls Tryd.prog 3 #[v, u, .int .i64 p] w fun r w' => r = .returned (.bool true) ∧ Below w.heap.size w w' := by
  by_cases h : 20 < xs.length ∨ 10 < ys.length ∨ p < 0 ∨ (xs.length : Int) < p
  · exact between_far te pe v u xs ys p w hE hv hu h
  · obtain ⟨j, rfl⟩ : ∃ j : Nat, p = (j : Int) := ⟨p.toNat, by omega⟩
    exact between_near te pe v u xs ys j w hE hv hu (by omega) (by omega) (by omega)
end Go.Proofs.YtglhapkclpllfabDoor
