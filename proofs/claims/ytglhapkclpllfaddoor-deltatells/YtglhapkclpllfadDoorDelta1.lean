/-
  Contracts of package delta: Since, Join, Agree, whatever they are asked.
  Conditions: five errors of package api lie as laid (structure QSent).
-/
import Derived.Test.YtglhapkclpllfadDoorDelta0
import Derived.Test.YtglhapkclpllfadDoorCheckC
import Derived.Test.YtglhapkclpllfadDoorDeltaProg
import Derived.BigQuiet
namespace Go.Proofs.YtglhapkclpllfadDoor
open Go.RowKit

/-! ### Since -/
/-- l[h:][:c] -/
theorem ents_cut {w : World} {ad : Option Addr} {n cap cap' : Nat} {l : List Ent} (h : EntsIn w (.slice ad n cap) l) (j c : Nat) (hj : j ≤ l.length) (hc : c = ((l.drop j).take c).length) (hcap : c ≤ cap') (ad' : Option Addr) (ha : ad' = ad.map (fun a => a.add (j * 4)) ∨ c = 0) : EntsIn w (.slice ad' c cap') ((l.drop j).take c) := by
  obtain ⟨ad2, cap2, e, _, h⟩ := h
  cases e
  have hlen : (((l.drop j).take c).map Ent.cells).length = c := by rw [List.length_map]; exact hc.symm
  refine ⟨ad', cap', by rw [hlen], by rw [hlen]; exact hcap, fun k hk => ?_⟩
  rw [hlen] at hk
  rcases ha with rfl | h0
  · have hlt : j + k < l.length := by rw [List.length_take, List.length_drop] at hc; omega
    obtain ⟨b, off, rfl, hh⟩ := h (j + k) (by rw [List.length_map]; exact hlt)
    refine ⟨b, off + j * 4, by simp [Addr.add], fun i u hi => ?_⟩
    have e4 : off + j * 4 + (k * 4 + i) = off + ((j + k) * 4 + i) := by omega
    rw [e4]
    refine hh i u ?_
    rw [← hi, List.getD_eq_getElem?_getD, List.getD_eq_getElem?_getD, List.getElem?_map, List.getElem?_map, List.getElem?_take_of_lt hk, List.getElem?_drop]
  · omega
theorem since_no (e : Nat → TypeId × Value) (v : Value) (l : List Ent) (h most : Int) (w : World) (hv : EntsIn w v l) (hn : ¬ histOk l) (S : QSent e w) :
    Calls Tryd.prog 24 #[v, .int .i64 h, .int .i64 most] w fun r w' => ∃ ad cap ty p, r = .returned (.tuple #[.slice ad 0 cap, .iface ty p]) ∧ HistErr e w' l ty p ∧ Below w.heap.size w w' := by
  have HC := hide (check_no e v l w hv hn S)
  obtain ⟨ad, cap, rfl, _⟩ := EntsIn.at hv
  clear hv hn S
  go_enter Tryd.func24, Tryd.ntmps24
  go_wp2_with fail
  refine (unhide HC).mono ?_
  rintro E w2 ⟨ty, p, rfl, hE, hB⟩
  have HE := hide hE
  have HB := hide hB
  clear hE hB
  go_wp2
  exact bodyPost_ret (v := .tuple #[.slice none 0 0, .iface ty p]) (by simp [results, Tryd.results24, go_sem]) rfl ⟨_, _, _, _, rfl, unhide HE, unhide HB⟩
theorem since_bound (e : Nat → TypeId × Value) (v : Value) (l : List Ent) (h most : Int) (w : World) (hv : EntsIn w v l) (hok : histOk l) (hb : h < 0 ∨ most < 1) (S : QSent e w) :
    Calls Tryd.prog 24 #[v, .int .i64 h, .int .i64 most] w fun r w' => ∃ ad cap, r = .returned (.tuple #[.slice ad 0 cap, .iface (e 1).1 (e 1).2]) ∧ Below w.heap.size w w' := by
  have HC := hide (check_yes e v l w hv hok S)
  have HS := hide S.c1
  obtain ⟨ad, cap, rfl, _⟩ := EntsIn.at hv
  have hb2 : h < 0 ∨ (¬ h < 0 ∧ most < 1) := by omega
  clear hv hok S hb
  rcases hb2 with h1 | ⟨h1, h2⟩
  all_goals
    go_enter Tryd.func24, Tryd.ntmps24
    go_wp2_with fail
    refine (unhide HC).mono ?_
    rintro E w2 ⟨rfl, hB⟩
    have HB := hide hB
    have c1 := below_cell hB (unhide HS)
    clear hB
    go_wp2
    go_quiet (fail)
    go_wp2
    exact bodyPost_ret (v := .tuple #[.slice none 0 0, .iface (e 1).1 (e 1).2]) (by simp [results, Tryd.results24, go_sem]) rfl ⟨_, _, rfl, below_draw (unhide HB) _⟩
theorem since_gap (e : Nat → TypeId × Value) (v : Value) (l : List Ent) (h most : Int) (w : World) (hv : EntsIn w v l) (hok : histOk l) (h0 : 0 ≤ h) (hm : 1 ≤ most) (hg : (l.length : Int) < h) (S : QSent e w) :
    Calls Tryd.prog 24 #[v, .int .i64 h, .int .i64 most] w fun r w' => ∃ ad cap, r = .returned (.tuple #[.slice ad 0 cap, .iface (e 9).1 (e 9).2]) ∧ Below w.heap.size w w' := by
  have HC := hide (check_yes e v l w hv hok S)
  have HS := hide S.c9
  obtain ⟨ad, cap, rfl, _⟩ := EntsIn.at hv
  have h1 : ¬ h < 0 := by omega
  have h2 : ¬ most < 1 := by omega
  clear hv hok S h0 hm
  go_enter Tryd.func24, Tryd.ntmps24
  go_wp2_with fail
  refine (unhide HC).mono ?_
  rintro E w2 ⟨rfl, hB⟩
  have HB := hide hB
  have c1 := below_cell hB (unhide HS)
  clear hB
  go_wp2
  go_quiet (fail)
  go_wp2
  exact bodyPost_ret (v := .tuple #[.slice none 0 0, .iface (e 9).1 (e 9).2]) (by simp [results, Tryd.results24, go_sem]) rfl ⟨_, _, rfl, below_draw (unhide HB) _⟩
theorem since_ok (e : Nat → TypeId × Value) (v : Value) (l : List Ent) (h : Nat) (most : Int) (w : World) (hv : EntsIn w v l) (hok : histOk l) (hm : 1 ≤ most) (hh : h ≤ l.length) (S : QSent e w) :
    Calls Tryd.prog 24 #[v, .int .i64 (h : Int), .int .i64 most] w fun r w' => ∃ o, r = .returned (.tuple #[o, .nilIface]) ∧ EntsIn w' o (sinceL l h most.toNat) ∧ Below w.heap.size w w' := by
  have HC := hide (check_yes e v l w hv hok S)
  have hroom := fun ad n cap (e : v = .slice ad n cap) => EntsIn.room hv e
  have hl200 := hok.1
  have HV := hide hv
  obtain ⟨ad, cap, rfl, _⟩ := EntsIn.at hv
  have hroom := hroom _ _ _ rfl
  have HK := hide (fun (w' : World) (hB : Below w.heap.size w w') (ad' : Option Addr) (c cap' : Nat) (hc : c = ((l.drop h).take c).length) (hcap : c ≤ cap') (ha : ad' = ad.map (fun a => a.add (h * 4)) ∨ c = 0) (he : (l.drop h).take c = sinceL l h most.toNat) =>
    clone_ents (.slice ad' c cap') (sinceL l h most.toNat) w' (by rw [← he]; exact ents_cut ((unhide HV).below hB) h c hh hc hcap ad' ha) (by have := since_len l h most.toNat; omega))
  have h1 : ¬ (h : Int) < 0 := by omega
  have h2 : ¬ most < 1 := by omega
  have h3 : ¬ (l.length : Int) < (h : Int) := by omega
  have HL : Hid (∀ c, ((l.drop h).take c).length = min c (l.length - h)) := fun c => by rw [List.length_take, List.length_drop]
  have HS : Hid (∀ c, c = min most.toNat (l.length - h) → (l.drop h).take c = sinceL l h most.toNat) := fun c hc => by
    unfold sinceL
    rcases Nat.le_total most.toNat (l.length - h) with h1 | h1
    · rw [hc, Nat.min_eq_left h1]
    · rw [hc, Nat.min_eq_right h1, List.take_of_length_le (by rw [List.length_drop]; omega), List.take_of_length_le (by rw [List.length_drop]; omega)]
  generalize sinceL l h most.toNat = ys at *
  obtain ⟨n, hn⟩ : ∃ n, l.length = n := ⟨_, rfl⟩
  rw [hn] at HC hroom hl200 hh h3 HL HS ⊢
  clear hv hok S hn HV
  have hcs : (cap = h ∧ n = h ∧ ((n - h : Nat) : Int) < most) ∨ (¬ cap = h ∧ ((n - h : Nat) : Int) < most) ∨ (¬ cap = h ∧ ¬ ((n - h : Nat) : Int) < most ∧ most ≤ ((n - h : Nat) : Int)) := by omega
  rcases hcs with ⟨rfl, rfl, hc⟩ | ⟨hc1, hc⟩ | ⟨hc1, hc, hc2⟩
  all_goals
    go_enter Tryd.func24, Tryd.ntmps24
    go_wp2_with fail
    refine (unhide HC).mono ?_
    rintro E w2 ⟨rfl, hB⟩
    have HB := hide hB
    clear hB
    go_wp2_with fail
  · refine (unhide HK _ (unhide HB) _ _ _ (by rw [unhide HL]; omega) (Nat.le_refl _) (Or.inr rfl) (unhide HS _ (by omega))).mono ?_
    rintro r w3 ⟨o, rfl, hE, hB⟩
    have HE := hide hE
    have HB3 := hide ((unhide HB).trans (hB.mono (unhide HB).size))
    clear hE hB
    go_wp2
    exact bodyPost_ret (v := .tuple #[o, .nilIface]) (by simp [results, Tryd.results24, go_sem]) rfl ⟨_, rfl, unhide HE, unhide HB3⟩
  · refine (unhide HK _ (unhide HB) _ _ _ (by rw [unhide HL]; omega) (by omega) (Or.inl rfl) (unhide HS _ (by omega))).mono ?_
    rintro r w3 ⟨o, rfl, hE, hB⟩
    have HE := hide hE
    have HB3 := hide ((unhide HB).trans (hB.mono (unhide HB).size))
    clear hE hB
    go_wp2
    exact bodyPost_ret (v := .tuple #[o, .nilIface]) (by simp [results, Tryd.results24, go_sem]) rfl ⟨_, rfl, unhide HE, unhide HB3⟩
  · refine (unhide HK _ (unhide HB) _ _ _ (by rw [unhide HL]; omega) (by omega) (Or.inl rfl) (unhide HS _ (by omega))).mono ?_
    rintro r w3 ⟨o, rfl, hE, hB⟩
    have HE := hide hE
    have HB3 := hide ((unhide HB).trans (hB.mono (unhide HB).size))
    clear hE hB
    go_wp2
    exact bodyPost_ret (v := .tuple #[o, .nilIface]) (by simp [results, Tryd.results24, go_sem]) rfl ⟨_, rfl, unhide HE, unhide HB3⟩
/-! ### Join -/
theorem join_no (e : Nat → TypeId × Value) (v vm : Value) (l m : List Ent) (w : World) (hv : EntsIn w v l) (hm : EntsIn w vm m) (hn : ¬ histOk l) (S : QSent e w) :
    Calls Tryd.prog 25 #[v, vm] w fun r w' => ∃ ad cap ty p, r = .returned (.tuple #[.slice ad 0 cap, .iface ty p]) ∧ HistErr e w' l ty p ∧ Below w.heap.size w w' := by
  have HC := hide (check_no e v l w hv hn S)
  obtain ⟨ad, cap, rfl, _⟩ := EntsIn.at hv
  obtain ⟨adm, capm, rfl, _⟩ := EntsIn.at hm
  clear hv hn S hm
  go_enter Tryd.func25, Tryd.ntmps25
  go_wp2_with fail
  refine (unhide HC).mono ?_
  rintro E w2 ⟨ty, p, rfl, hE, hB⟩
  have HE := hide hE
  have HB := hide hB
  clear hE hB
  go_wp2
  exact bodyPost_ret (v := .tuple #[.slice none 0 0, .iface ty p]) (by simp [results, Tryd.results25, go_sem]) rfl ⟨_, _, _, _, rfl, unhide HE, unhide HB⟩
/-- Whatever Check answers of both. -/
theorem join_walk (e : Nat → TypeId × Value) (v vm : Value) (l m : List Ent) (w : World) (hv : EntsIn w v l) (hm : EntsIn w vm m) (hml : m.length ≤ 1000) (hok : histOk l) (S : QSent e w) (b : Bool) (hb : b = true ↔ histOk (l ++ m)) :
    Calls Tryd.prog 25 #[v, vm] w fun r w' => (b = true → ∃ o, r = .returned (.tuple #[o, .nilIface]) ∧ EntsIn w' o (l ++ m)) ∧ (b = false → ∃ ad cap ty p, r = .returned (.tuple #[.slice ad 0 cap, .iface ty p]) ∧ HistErr e w' (l ++ m) ty p) ∧ Below w.heap.size w w' := by
  have HC := hide (check_yes e v l w hv hok S)
  have HV := hide hv
  have HM := hide hm
  have HS := hide S
  have hl200 := hok.1
  obtain ⟨ad, cap, rfl, _⟩ := EntsIn.at hv
  obtain ⟨adm, capm, rfl, _⟩ := EntsIn.at hm
  have HCC := hide (fun (w' : World) (g : Nat) (hB : Below w.heap.size w w') (c0 : w'.cell? ⟨g, 0, none⟩ = some (.slice ad l.length cap)) (c1 : w'.cell? ⟨g, 0 + 1, none⟩ = some (.slice adm m.length capm)) =>
    concat_ents _ _ l m g w' c0 c1 ((unhide HV).below hB) ((unhide HM).below hB) (by omega))
  clear hv hm S
  go_enter Tryd.func25, Tryd.ntmps25
  go_wp2_with fail
  refine (unhide HC).mono ?_
  rintro E w2 ⟨rfl, hB⟩
  have HB := hide hB
  clear hB
  go_wp2_with fail
  refine (unhide HCC _ _ ((unhide HB).alloc (unhide HB).size _) (by simp) (by simp)).mono ?_
  rintro r w3 ⟨o, rfl, hE, hB⟩
  have hB3 : Below w.heap.size w w3 := ((unhide HB).alloc (unhide HB).size _).trans (hB.mono ((unhide HB).alloc (unhide HB).size _).size)
  have HE := hide hE
  have HB3 := hide hB3
  clear hE hB hB3
  cases b with
  | true =>
    have HD := hide (check_yes e o (l ++ m) w3 (unhide HE) (hb.1 rfl) ((unhide HS).below (unhide HB3)))
    clear hb
    go_wp2_with fail
    refine (unhide HD).mono ?_
    rintro r w4 ⟨rfl, hB⟩
    have HE4 := hide ((unhide HE).below hB)
    have HB4 := hide ((unhide HB3).trans (hB.mono (unhide HB3).size))
    clear hB
    go_wp2
    exact bodyPost_ret (v := .tuple #[o, .nilIface]) (by simp [results, Tryd.results25, go_sem]) rfl ⟨⟨_, rfl, unhide HE4⟩, unhide HB4⟩
  | false =>
    have HD := hide (check_no e o (l ++ m) w3 (unhide HE) (fun h => by have := hb.2 h; cases this) ((unhide HS).below (unhide HB3)))
    clear hb
    go_wp2_with fail
    refine (unhide HD).mono ?_
    rintro r w4 ⟨ty, p, rfl, hR, hB⟩
    have HR := hide hR
    have HB4 := hide ((unhide HB3).trans (hB.mono (unhide HB3).size))
    clear hB hR
    go_wp2
    exact bodyPost_ret (v := .tuple #[.slice none 0 0, .iface ty p]) (by simp [results, Tryd.results25, go_sem]) rfl ⟨⟨_, _, _, _, rfl, unhide HR⟩, unhide HB4⟩
/-! ### Agree -/
set_option maxRecDepth 100000 in
theorem agree_ok (v vm : Value) (l m : List Ent) (w : World) (hv : EntsIn w v l) (hm : EntsIn w vm m) (hl : l.length ≤ 1000) (hml : m.length ≤ 1000) :
    Calls Tryd.prog 23 #[v, vm] w fun r w' => r = .returned (.int .i64 (agreeE l m : Nat)) ∧ Below w.heap.size w w' := by
  have hr1 := fun ad n cap (e : v = .slice ad n cap) => EntsIn.room hv e
  have hr2 := fun ad n cap (e : vm = .slice ad n cap) => EntsIn.room hm e
  obtain ⟨ad, cap, rfl, k1⟩ := EntsIn.far hv
  obtain ⟨adm, capm, rfl, k2⟩ := EntsIn.far hm
  have r1 := hr1 _ _ _ rfl
  have r2 := hr2 _ _ _ rfl
  have HA := hide (agreeE_at l m)
  have H1 := hide k1
  have H2 := hide k2
  have hle := agreeE_le l m
  obtain ⟨n, hn⟩ : ∃ n, l.length = n := ⟨_, rfl⟩
  obtain ⟨k, hk⟩ : ∃ k, m.length = k := ⟨_, rfl⟩
  rw [hn] at H1 HA hl r1 ⊢
  rw [hk] at H2 HA hml r2 ⊢
  clear hv hm k1 k2 hr1 hr2 hn hk hle
  have hcs : (k < n ∧ ∃ c : Nat, c = k) ∨ (¬ k < n ∧ ∃ c : Nat, c = n) := by
    by_cases h : k < n
    · exact Or.inl ⟨h, _, rfl⟩
    · exact Or.inr ⟨h, _, rfl⟩
  rcases hcs with ⟨hkn, c, hc⟩ | ⟨hkn, c, hc⟩
  all_goals
    have Hc1 : Hid (c ≤ n ∧ c ≤ k ∧ (c = n ∨ c = k)) := by show _ ∧ _; omega
    go_enter Tryd.func23, Tryd.ntmps23
    go_wp2_with fail
    have hc1000 : c ≤ 1000 := by omega
    rw [← hc]
    clear hc hkn r1 r2
    go_loopw [20] (fun q wr => ∃ j : Nat, j ≤ c ∧ q = .int .i64 (j : Int) ∧ Hid (∀ i, i < j → l.getD i Ent.zero = m.getD i Ent.zero) ∧ Hid (Below w.heap.size w wr)) (fun q _ => c - (intOf q).toNat)
    case atStart => exact ⟨0, by omega, rfl, fun i hi => absurd hi (by omega), Below.refl _ _⟩
    case round =>
      obtain ⟨j, hj, rfl, HI, HB⟩ := hrel
      by_cases hlt : j < c
      · obtain ⟨b1, o1, rfl, f1, f2, f3, f4⟩ := unhide H1 wr (unhide HB) j (by have := unhide Hc1; omega)
        have HA2 : Hid (Below w.heap.size w (wr.alloc (.cells #[.int .i64 (l.getD j Ent.zero).slot, .int .i64 (l.getD j Ent.zero).src, .bool (l.getD j Ent.zero).heard, .int .i64 (l.getD j Ent.zero).value] 49))) := (unhide HB).alloc (unhide HB).size _
        obtain ⟨b2, o2, rfl, g1, g2, g3, g4⟩ := unhide H2 _ (unhide HA2) j (by have := unhide Hc1; omega)
        have j1 : (j : Int) < (c : Int) := by omega
        have lb := cell_lt f1
        have lb2 := cell_lt g1
        by_cases he : l.getD j Ent.zero = m.getD j Ent.zero
        · have HI2 : Hid (∀ i, i < j + 1 → l.getD i Ent.zero = m.getD i Ent.zero) := fun i hi => by
            rcases Nat.lt_succ_iff_lt_or_eq.1 hi with h | rfl
            · exact unhide HI i h
            · exact he
          rw [← he] at g1 g2 g3 g4
          clear he
          generalize (l.getD j Ent.zero) = x at *
          go_wp2
          go_quiet (fail)
          go_wp2
          go_roundw
          case rel => exact ⟨j + 1, by omega, by go_num, unhide HI2, below_draw (unhide HA2) _⟩
          case measure => simp [intOf]; omega
        · have HR : Hid (agreeE l m = j) := unhide HA j (by have := unhide Hc1; omega) (by have := unhide Hc1; omega) (unhide HI) fun _ _ => he
          clear HI HA
          generalize (l.getD j Ent.zero) = x at *
          generalize (m.getD j Ent.zero) = y at *
          obtain ⟨x0, x1, x2, x3⟩ := x
          obtain ⟨y0, y1, y2, y3⟩ := y
          simp only at f1 f2 f3 f4 g1 g2 g3 g4 HA2
          have hd : ¬ x0 = y0 ∨ (x0 = y0 ∧ ¬ x1 = y1) ∨ (x0 = y0 ∧ x1 = y1 ∧ x2 = true ∧ y2 = false) ∨ (x0 = y0 ∧ x1 = y1 ∧ x2 = false ∧ y2 = true) ∨ (x0 = y0 ∧ x1 = y1 ∧ x2 = y2 ∧ ¬ x3 = y3) := by
            by_cases h0 : x0 = y0
            · by_cases h1 : x1 = y1
              · by_cases h2 : x2 = y2
                · by_cases h3 : x3 = y3
                  · exact absurd (by rw [h0, h1, h2, h3]) he
                  · exact Or.inr (Or.inr (Or.inr (Or.inr ⟨h0, h1, h2, h3⟩)))
                · cases x2 <;> cases y2 <;> simp_all
              · exact Or.inr (Or.inl ⟨h0, h1⟩)
            · exact Or.inl h0
          clear he
          rcases hd with h0 | ⟨rfl, h0⟩ | ⟨rfl, rfl, rfl, rfl⟩ | ⟨rfl, rfl, rfl, rfl⟩ | ⟨rfl, rfl, rfl, h0⟩
          all_goals
            go_wp2
            go_quiet (fail)
            go_wp2
            rw [unhide HR]
            go_ret
            exact ⟨rfl, below_draw (unhide HA2) _⟩
      · have hje : j = c := by omega
        subst hje
        have HR : Hid (agreeE l m = j) := unhide HA j (by have := unhide Hc1; omega) (by have := unhide Hc1; omega) (unhide HI) fun _ _ => by have := unhide Hc1; omega
        clear HI HA
        go_wp2
        rw [unhide HR]
        go_ret
        exact ⟨rfl, unhide HB⟩
/-- What package delta answers. -/
theorem delP (e : Nat → TypeId × Value) : DelP (QSent e) e where
  keep _ _ S hB := S.below hB
  ckY w v l S hv h := check_yes e v l w hv h S
  ckN w v l S hv h := check_no e v l w hv h S
  siN w v l h most S hv hn := since_no e v l h most w hv hn S
  siB w v l h most S hv hok hb := since_bound e v l h most w hv hok hb S
  siG w v l h most S hv hok h0 hm hg := since_gap e v l h most w hv hok h0 hm hg S
  siO w v l h most S hv hok hm hh := since_ok e v l h most w hv hok hm hh S
  joN w v vm l m S hv hm _ hn := join_no e v vm l m w hv hm hn S
  joB w v vm l m S hv hm hml hok hn := (join_walk e v vm l m w hv hm hml hok S false ⟨fun h => absurd h (by decide), fun h => absurd h hn⟩).mono fun _ _ ⟨_, h, hB⟩ => by
    obtain ⟨ad, cap, ty, p, h1, h2⟩ := h rfl
    exact ⟨ad, cap, ty, p, h1, h2, hB⟩
  joO w v vm l m S hv hm hml hok hn := (join_walk e v vm l m w hv hm hml hok S true ⟨fun _ => hn, fun _ => rfl⟩).mono fun _ _ ⟨h, _, hB⟩ => by
    obtain ⟨o, h1, h2⟩ := h rfl
    exact ⟨o, h1, h2, hB⟩
  agO w v vm l m S hv hm hl hml := agree_ok v vm l m w hv hm hl hml
end Go.Proofs.YtglhapkclpllfadDoor
