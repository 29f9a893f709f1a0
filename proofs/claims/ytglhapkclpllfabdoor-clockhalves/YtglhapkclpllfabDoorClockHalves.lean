/-
  The walk of the law ClockHalves: whatever the right ones and the two lists of wrong ones are, it answers true, and nothing that was in memory has turned.
  Conditions: ErrBound of package api lies as laid.
-/
import Derived.Test.YtglhapkclpllfabDoorClock2
namespace Go.Proofs.YtglhapkclpllfabDoor
open Go.RowKit

set_option maxRecDepth 100000 in
theorem halves_far (te : TypeId) (pe : Value) (v u t : Value) (xs ys zs : List Int) (w : World) (hE : w.cell? ⟨0, 0, none⟩ = some (.iface te pe)) (hv : IntsIn w v xs) (hu : IntsIn w u ys) (ht : IntsIn w t zs) (lx : xs.length ≤ maxLen) (ly : ys.length ≤ maxLen) (lz : zs.length ≤ maxLen) (h : 30 < xs.length ∨ 8 < ys.length ∨ zs.length ≠ ys.length ∨ xs.length < 2 * ys.length + 1) :
    Calls Tryd.prog 4 #[v, u, t] w fun r w' => r = .returned (.bool true) ∧ Below w.heap.size w w' := by
  have HK := hide (clocked_ok te pe w hE)
  obtain ⟨ad, cap, rfl, _⟩ := hv
  obtain ⟨ae, cae, rfl, _⟩ := hu
  obtain ⟨af, caf, rfl, _⟩ := ht
  unfold maxLen at lx ly lz
  generalize xs.length = n at *
  generalize ys.length = m at *
  generalize zs.length = q at *
  clear hE
  by_cases h1 : 30 < n
  · have h1' : (30 : Int) < (n : Int) := by omega
    clear h h1
    go_enter Tryd.func4, Tryd.ntmps4
    go_wp2_with (go_at_call 8; refine (unhide HK).mono ?_; rintro E w1 ⟨rfl, hB1⟩; have HB := hide hB1; clear hB1)
    go_ret
    exact ⟨rfl, unhide HB⟩
  · have h1' : ¬ (30 : Int) < (n : Int) := by omega
    by_cases h2 : 8 < m
    · have h2' : (8 : Int) < (m : Int) := by omega
      clear h h1 h2
      go_enter Tryd.func4, Tryd.ntmps4
      go_wp2_with (go_at_call 8; refine (unhide HK).mono ?_; rintro E w1 ⟨rfl, hB1⟩; have HB := hide hB1; clear hB1)
      go_ret
      exact ⟨rfl, unhide HB⟩
    · have h2' : ¬ (8 : Int) < (m : Int) := by omega
      by_cases h3 : q = m
      · have h4 : (n : Int) < 2 * (m : Int) + 1 := by omega
        subst h3
        clear h h1 h2
        go_enter Tryd.func4, Tryd.ntmps4
        go_wp2_with (go_at_call 8; refine (unhide HK).mono ?_; rintro E w1 ⟨rfl, hB1⟩; have HB := hide hB1; clear hB1)
        go_ret
        exact ⟨rfl, unhide HB⟩
      · have h3' : ¬ (q : Int) = (m : Int) := by omega
        clear h h1 h2
        go_enter Tryd.func4, Tryd.ntmps4
        go_wp2_with (go_at_call 8; refine (unhide HK).mono ?_; rintro E w1 ⟨rfl, hB1⟩; have HB := hide hB1; clear hB1)
        go_ret
        exact ⟨rfl, unhide HB⟩
theorem halves_math {X Y xs ys zs : List Int} (m : Nat) (hX : X.Perm (xs ++ ys)) (hY : Y.Perm (xs ++ zs)) (ly : ys.length = m) (lz : zs.length = m) (hr : 2 * m + 1 ≤ xs.length) : 2 * (mid X m - mid Y m) ≤ spr xs + 2 ∧ 2 * (mid Y m - mid X m) ≤ spr xs + 2 := by
  have hne : xs ≠ [] := fun e => by rw [e] at hr; simp at hr
  have h := mid_halves m ly lz hX hY hr (minOf_spec hne).1 (maxOf_spec hne).1
  unfold spr
  rw [if_neg hne]
  exact h
theorem apart {w2 w3 : World} {B : Nat} {e : TypeId} {vx vy : Value} {n m : Nat} {xs ys : List Value} (hx : w2.ownsRow B e 1 vx n xs) (hy : w3.ownsRow w2.heap.size e 1 vy m ys) : vy.ownBlock = none ∨ vy.ownBlock ≠ vx.ownBlock := by
  cases h : vy.ownBlock with
  | none => exact Or.inl rfl
  | some g =>
    refine Or.inr fun e => ?_
    have h1 := (hx.lt g e.symm).2
    have h2 := (hy.lt g h).1
    omega
set_option maxHeartbeats 4000000 in
set_option maxRecDepth 100000 in
theorem halves_near (te : TypeId) (pe : Value) (v u t : Value) (xs ys zs : List Int) (w : World) (hE : w.cell? ⟨0, 0, none⟩ = some (.iface te pe)) (hv : IntsIn w v xs) (hu : IntsIn w u ys) (ht : IntsIn w t zs) (h1 : xs.length ≤ 30) (h2 : ys.length ≤ 8) (h3 : zs.length = ys.length) (h4 : 2 * ys.length + 1 ≤ xs.length) :
    Calls Tryd.prog 4 #[v, u, t] w fun r w' => r = .returned (.bool true) ∧ Below w.heap.size w w' := by
  obtain ⟨i0, hi, hz0, hz1, hz2⟩ := info_parts Tryd.infoI
  have HK := hide (clocked_ok te pe w hE)
  have HE := hide hE
  have HV := hide hv
  have HU := hide hu
  have HT := hide ht
  obtain ⟨ad, cap, rfl, _⟩ := hv
  obtain ⟨ae, cae, rfl, _⟩ := hu
  obtain ⟨af, caf, rfl, _⟩ := ht
  obtain ⟨n, hn⟩ : ∃ n, xs.length = n := ⟨_, rfl⟩
  obtain ⟨m, hm⟩ : ∃ m, ys.length = m := ⟨_, rfl⟩
  have hq : zs.length = m := by omega
  have Hn : Hid (xs.length = n) := hn
  have Hm : Hid (ys.length = m) := hm
  have Hq : Hid (zs.length = m) := hq
  rw [hn, hm] at h4
  rw [hn] at h1 HV ⊢
  rw [hm] at h2 HU ⊢
  rw [hq] at HT ⊢
  clear hE hn hm hq h3
  have f1 : ¬ (30 : Int) < (n : Int) := by omega
  have f2 : ¬ (8 : Int) < (m : Int) := by omega
  have f4 : ¬ (n : Int) < 2 * (m : Int) + 1 := by omega
  go_enter Tryd.func4, Tryd.ntmps4
  go_wp2_with (first
    | (go_at_call 8; refine (unhide HK).mono ?_; rintro E w1 ⟨rfl, hB1⟩; have HB := hide hB1; clear hB1)
    | (at_builtin; refine wpList_append_on2 rfl _ _ 22 rfl 3 i0 Tryd.underlying22 hi hz0 hz1 hz2 w.heap.size (unhide HB).size _ [] rfl (World.ownsRow_nil _ _ _ _) _ xs rfl ((unhide HV).below (unhide HB)) (by rw [unhide Hn]; simp; omega) ?_; intro vx w2 ho1 hB2 hg2; have HOx := hide ho1; have HB2 := hide ((unhide HB).trans hB2); clear ho1 hB2 hg2)
    | (at_builtin; refine wpList_append_on2 rfl _ _ 22 rfl 3 i0 Tryd.underlying22 hi hz0 hz1 hz2 w2.heap.size (Nat.le_refl _) _ [] rfl (World.ownsRow_nil _ _ _ _) _ zs rfl ((unhide HT).below (unhide HB2)) (by rw [unhide Hq]; simp; omega) ?_; intro vy w3 ho1 hB2 hg2; have HOy := hide ho1; have HOx3 := hide (owns_below (unhide HOx) hB2); have HS3 := hide hB2.size; have HB3 := hide ((unhide HB2).trans (hB2.mono (unhide HB2).size)); clear ho1 hB2 hg2)
    | (at_builtin; refine wpList_append_on2 rfl _ _ 22 rfl 3 i0 Tryd.underlying22 hi hz0 hz1 hz2 w.heap.size (unhide HB3).size _ ([] ++ xs) rfl (unhide HOx3) _ ys rfl ((unhide HU).below (unhide HB3)) (by rw [List.nil_append, unhide Hn, unhide Hm]; omega) ?_; intro va w4 ho1 hB2 hg2; have HOa := hide ho1; have HB4 := hide ((unhide HB3).trans hB2); have HG4 := hide hg2; clear ho1 hB2 hg2))
  have HOy4 := hide ((unhide HOy).kept (unhide HG4) (apart (unhide HOx) (unhide HOy)))
  have HS : Hid (w2.heap.size ≤ w4.heap.size) := by
    show _ ≤ _
    have h1 := (unhide HG4).size
    have h2 := unhide HS3
    omega
  obtain ⟨X, hX⟩ : ∃ X, X = [] ++ xs ++ ys := ⟨_, rfl⟩
  have HX := hide hX
  rw [← hX] at HOa
  have HXl : Hid (X.length = n + m) := by show _ = _; rw [hX, List.nil_append, List.length_append, unhide Hn, unhide Hm]
  clear hX
  have M1 := mid_any va X m te pe w4 (IntsCap.of_owns (unhide HOa)).in' (by rw [unhide HXl]; omega) (by omega) (below_cell (unhide HB4) (unhide HE))
  clear HG4 HOx HOx3 HOy
  rcases M1 with ⟨⟨_, hT1⟩, HM⟩ | HM
  · refine HM.mono ?_
    rintro E w5 ⟨rfl, hB5⟩
    have HB5 := hide ((unhide HB4).trans (hB5.mono (unhide HB4).size))
    have HOy5 := hide (owns_below (unhide HOy4) hB5)
    have HS5 := hide hB5.size
    have HT1 := hide hT1
    clear hB5 hT1 HM HOy4 HOa
    go_wp2_with (at_builtin; refine wpList_append_on2 rfl _ _ 22 rfl 3 i0 Tryd.underlying22 hi hz0 hz1 hz2 w2.heap.size (Nat.le_trans (unhide HS) (unhide HS5)) _ ([] ++ zs) rfl (unhide HOy5) _ xs rfl ((unhide HV).below (unhide HB5)) (by rw [List.nil_append, unhide Hn, unhide Hq]; omega) ?_; intro vb w6 ho1 hB2 hg2; have HOb := hide ho1; have HB6 := hide ((unhide HB5).trans (hB2.mono (unhide HB2).size)); clear ho1 hB2 hg2)
    obtain ⟨Y, hY⟩ : ∃ Y, Y = [] ++ zs ++ xs := ⟨_, rfl⟩
    have HY := hide hY
    rw [← hY] at HOb
    have HYl : Hid (Y.length = m + n) := by show _ = _; rw [hY, List.nil_append, List.length_append, unhide Hn, unhide Hq]
    clear hY
    have M2 := mid_any vb Y m te pe w6 (IntsCap.of_owns (unhide HOb)).in' (by rw [unhide HYl]; omega) (by omega) (below_cell (unhide HB6) (unhide HE))
    rcases M2 with ⟨⟨hk2, hT2⟩, HM⟩ | HM
    · refine HM.mono ?_
      rintro E w7 ⟨rfl, hB7⟩
      have HB7 := hide ((unhide HB6).trans (hB7.mono (unhide HB6).size))
      have hTx : ∀ x ∈ xs, isT x := fun x hx => unhide HT1 x (by rw [unhide HX]; simp [hx])
      have HSp := hide (spread_ok _ xs w7 ((unhide HV).below (unhide HB7)) (by rw [unhide Hn]; omega) hTx)
      have q1 := mid_time (k := m) (unhide HT1) (by rw [unhide HXl]; omega)
      have q2 := mid_time (k := m) hT2 hk2
      have q3 := spr_bound hTx
      have q4 := halves_math (X := X) (Y := Y) (xs := xs) (ys := ys) (zs := zs) m (by rw [unhide HX]; exact List.Perm.refl _) (by rw [unhide HY]; exact List.perm_append_comm) (unhide Hm) (unhide Hq) (by rw [unhide Hn]; omega)
      generalize mid X m = ma at *
      generalize mid Y m = mb at *
      generalize spr xs = sp at *
      obtain ⟨q1a, q1b⟩ := q1
      obtain ⟨q2a, q2b⟩ := q2
      obtain ⟨q3a, q3b⟩ := q3
      obtain ⟨q4a, q4b⟩ := q4
      clear hB7 hTx hT2 hk2 HM HOb
      by_cases hd : ma - mb < 0
      all_goals
        go_wp2_with (go_at_call 10; refine (unhide HSp).mono ?_; rintro E w8 ⟨rfl, hB8⟩; have HB8 := hide ((unhide HB7).trans (hB8.mono (unhide HB7).size)); clear hB8)
        go_ret
        exact ⟨ret_bool (by first | (simp; done) | (simp; omega)), unhide HB8⟩
    · refine HM.mono ?_
      rintro E w7 ⟨t, p, rfl, hB7⟩
      have HB7 := hide ((unhide HB6).trans (hB7.mono (unhide HB6).size))
      clear hB7 HM HOb
      go_wp2
      go_ret
      exact ⟨rfl, unhide HB7⟩
  · refine HM.mono ?_
    rintro E w5 ⟨t, p, rfl, hB5⟩
    have HB5 := hide ((unhide HB4).trans (hB5.mono (unhide HB4).size))
    have HOy5 := hide (owns_below (unhide HOy4) hB5)
    have HS5 := hide hB5.size
    clear hB5 HM HOy4 HOa
    go_wp2_with (at_builtin; refine wpList_append_on2 rfl _ _ 22 rfl 3 i0 Tryd.underlying22 hi hz0 hz1 hz2 w2.heap.size (Nat.le_trans (unhide HS) (unhide HS5)) _ ([] ++ zs) rfl (unhide HOy5) _ xs rfl ((unhide HV).below (unhide HB5)) (by rw [List.nil_append, unhide Hn, unhide Hq]; omega) ?_; intro vb w6 ho1 hB2 hg2; have HOb := hide ho1; have HB6 := hide ((unhide HB5).trans (hB2.mono (unhide HB2).size)); clear ho1 hB2 hg2)
    obtain ⟨Y, hY⟩ : ∃ Y, Y = [] ++ zs ++ xs := ⟨_, rfl⟩
    have HY := hide hY
    rw [← hY] at HOb
    have HYl : Hid (Y.length = m + n) := by show _ = _; rw [hY, List.nil_append, List.length_append, unhide Hn, unhide Hq]
    clear hY
    have M2 := mid_any vb Y m te pe w6 (IntsCap.of_owns (unhide HOb)).in' (by rw [unhide HYl]; omega) (by omega) (below_cell (unhide HB6) (unhide HE))
    rcases M2 with ⟨_, HM⟩ | HM
    · refine HM.mono ?_
      rintro E w7 ⟨rfl, hB7⟩
      have HB7 := hide ((unhide HB6).trans (hB7.mono (unhide HB6).size))
      clear hB7 HM HOb
      go_wp2
      go_ret
      exact ⟨rfl, unhide HB7⟩
    · refine HM.mono ?_
      rintro E w7 ⟨t, p, rfl, hB7⟩
      have HB7 := hide ((unhide HB6).trans (hB7.mono (unhide HB6).size))
      clear hB7 HM HOb
      go_wp2
      go_ret
      exact ⟨rfl, unhide HB7⟩
theorem halves_walk (te : TypeId) (pe : Value) (v u t : Value) (xs ys zs : List Int) (w : World) (hE : w.cell? ⟨0, 0, none⟩ = some (.iface te pe)) (hv : IntsIn w v xs) (hu : IntsIn w u ys) (ht : IntsIn w t zs) (lx : xs.length ≤ maxLen) (ly : ys.length ≤ maxLen) (lz : zs.length ≤ maxLen) :
    Calls Tryd.prog 4 #[v, u, t] w fun r w' => r = .returned (.bool true) ∧ Below w.heap.size w w' := by
  by_cases h : 30 < xs.length ∨ 8 < ys.length ∨ zs.length ≠ ys.length ∨ xs.length < 2 * ys.length + 1
  · exact halves_far te pe v u t xs ys zs w hE hv hu ht lx ly lz h
  · exact halves_near te pe v u t xs ys zs w hE hv hu ht (by omega) (by omega) (by omega) (by omega)
end Go.Proofs.YtglhapkclpllfabDoor
