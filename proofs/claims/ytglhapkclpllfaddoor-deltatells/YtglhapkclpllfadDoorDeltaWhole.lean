/-
  The walk of the law DeltaWhole over what package delta answers (structure DelP) and the closed fact that it begins with.
  Conditions: those of the package's contracts (M).
-/
import Derived.Test.YtglhapkclpllfadDoorDeltaProg
namespace Go.Proofs.YtglhapkclpllfadDoor
open Go.RowKit

def MissedO (M : World → Prop) : Prop := ∀ w, M w → Calls Tryd.prog 22 #[] w fun r w' => r = .returned (.bool true) ∧ Below w.heap.size w w'
theorem ents_takeD {w : World} {ad : Option Addr} {n cap cap' : Nat} {l : List Ent} (h : EntsIn w (.slice ad n cap) l) (c : Nat) (hc : c ≤ l.length) (hcc : c ≤ cap') : EntsIn w (.slice ad c cap') (l.take c) := by
  obtain ⟨ad2, cap2, e, _, h⟩ := h
  cases e
  refine ⟨_, _, by rw [List.length_map, List.length_take, Nat.min_eq_left hc], by rw [List.length_map, List.length_take, Nat.min_eq_left hc]; exact hcc, fun k hk => ?_⟩
  rw [List.length_map, List.length_take, Nat.min_eq_left hc] at hk
  obtain ⟨b, off, e, hh⟩ := h k (by rw [List.length_map]; omega)
  refine ⟨b, off, e, fun j u hj => hh j u ?_⟩
  rw [← hj, List.getD_eq_getElem?_getD, List.getD_eq_getElem?_getD, List.getElem?_map, List.getElem?_map, List.getElem?_take_of_lt hk]
/-- Too long, or too few at a time: nothing is asked. -/
theorem dwhole_far (M : World → Prop) (CM : MissedO M) (vl vm : Value) (l m : List Ent) (most : Int) (w : World) (hM : M w) (hl : EntsIn w vl l) (hm : EntsIn w vm m) (h : 60 < l.length ∨ ¬ 60 < l.length ∧ (60 < m.length ∨ ¬ 60 < m.length ∧ most < 1)) :
    Calls Tryd.prog 5 #[vl, vm, .int .i64 most] w fun r w' => r = .returned (.bool true) ∧ Below w.heap.size w w' := by
  have HF := hide (CM w hM)
  obtain ⟨ad, cap, rfl, _⟩ := EntsIn.at hl
  obtain ⟨adm, capm, rfl, _⟩ := EntsIn.at hm
  clear hl hm hM CM
  generalize l.length = n at *
  generalize m.length = nm at *
  have hh : decide ((60 : Int) < (n : Int)) = true ∨ (decide ((60 : Int) < (n : Int)) = false ∧ decide ((60 : Int) < (nm : Int)) = true) ∨ (decide ((60 : Int) < (n : Int)) = false ∧ decide ((60 : Int) < (nm : Int)) = false ∧ decide (most < 1) = true) := by
    rcases h with h | ⟨h, h1 | ⟨h1, h2⟩⟩
    · exact Or.inl (decide_eq_true (by omega))
    · exact Or.inr (Or.inl ⟨decide_eq_false (by omega), decide_eq_true (by omega)⟩)
    · exact Or.inr (Or.inr ⟨decide_eq_false (by omega), decide_eq_false (by omega), decide_eq_true h2⟩)
  clear h
  rcases hh with h1 | ⟨h1, h2⟩ | ⟨h1, h2, h3⟩
  all_goals
    go_enter Tryd.func5, Tryd.ntmps5
    go_wp2_with fail
    refine (unhide HF).mono ?_
    rintro E w1 ⟨rfl, hB⟩
    have HB := hide hB
    clear hB
    go_wp2
    go_ret
    exact ⟨rfl, unhide HB⟩
/-- A history that is not right: nothing is asked. -/
theorem dwhole_no (M : World → Prop) (e : Nat → TypeId × Value) (P : DelP M e) (CM : MissedO M) (vl vm : Value) (l m : List Ent) (most : Int) (w : World) (hM : M w) (hl : EntsIn w vl l) (hm : EntsIn w vm m) (h1 : l.length ≤ 60) (h2 : m.length ≤ 60) (h3 : 1 ≤ most) (h : ¬ histOk l ∨ histOk l ∧ ¬ histOk m) :
    Calls Tryd.prog 5 #[vl, vm, .int .i64 most] w fun r w' => r = .returned (.bool true) ∧ Below w.heap.size w w' := by
  have HF := hide (CM w hM)
  have HK : Hid (∀ w', Below w.heap.size w w' → M w') := fun w' hB => P.keep w w' hM hB
  have HL := hide (fun w' (hB : Below w.heap.size w w') => hl.below hB)
  have HMm := hide (fun w' (hB : Below w.heap.size w w') => hm.below hB)
  have HY := hide P.ckY
  have HN := hide P.ckN
  obtain ⟨ad, cap, rfl, _⟩ := EntsIn.at hl
  obtain ⟨adm, capm, rfl, _⟩ := EntsIn.at hm
  clear hl hm hM CM P
  have a1 : decide ((60 : Int) < (l.length : Int)) = false := decide_eq_false (by omega)
  have a2 : decide ((60 : Int) < (m.length : Int)) = false := decide_eq_false (by omega)
  have a3 : decide (most < 1) = false := decide_eq_false (by omega)
  rcases h with h | ⟨h, h'⟩
  · have HN' := hide (fun w' m' hv => unhide HN w' (.slice ad l.length cap) l m' hv h)
    generalize l.length = n at *
    generalize m.length = nm at *
    clear h
    go_enter Tryd.func5, Tryd.ntmps5
    go_wp2_with fail
    refine (unhide HF).mono ?_
    rintro E w1 ⟨rfl, hB⟩
    have HB := hide hB
    clear hB
    go_wp2_with fail
    refine (unhide HN' _ (unhide HK _ (unhide HB)) (unhide HL _ (unhide HB))).mono ?_
    rintro E w2 ⟨t, p, rfl, _, hB⟩
    have HB2 := hide ((unhide HB).trans (hB.mono (unhide HB).size))
    clear hB
    go_wp2
    go_ret
    exact ⟨rfl, unhide HB2⟩
  · have HY' := hide (fun w' m' hv => unhide HY w' (.slice ad l.length cap) l m' hv h)
    have HN' := hide (fun w' m' hv => unhide HN w' (.slice adm m.length capm) m m' hv h')
    generalize l.length = n at *
    generalize m.length = nm at *
    clear h h'
    go_enter Tryd.func5, Tryd.ntmps5
    go_wp2_with fail
    refine (unhide HF).mono ?_
    rintro E w1 ⟨rfl, hB⟩
    have HB := hide hB
    clear hB
    go_wp2_with fail
    refine (unhide HY' _ (unhide HK _ (unhide HB)) (unhide HL _ (unhide HB))).mono ?_
    rintro E w2 ⟨rfl, hB⟩
    have HB2 := hide ((unhide HB).trans (hB.mono (unhide HB).size))
    clear hB
    go_wp2_with fail
    refine (unhide HN' _ (unhide HK _ (unhide HB2)) (unhide HMm _ (unhide HB2))).mono ?_
    rintro E w3 ⟨t, p, rfl, _, hB⟩
    have HB3 := hide ((unhide HB2).trans (hB.mono (unhide HB2).size))
    clear hB
    go_wp2
    go_ret
    exact ⟨rfl, unhide HB3⟩
set_option maxRecDepth 100000 in
set_option maxHeartbeats 2000000 in
theorem dwhole_ok (M : World → Prop) (e : Nat → TypeId × Value) (P : DelP M e) (CM : MissedO M) (ad adm : Option Addr) (cap capm : Nat) (l m : List Ent) (most : Int) (w : World) (hM : M w) (hl : EntsIn w (.slice ad l.length cap) l) (hm : EntsIn w (.slice adm m.length capm) m) (hc1 : l.length ≤ cap) (hc2 : m.length ≤ capm) (h1 : l.length ≤ 60) (h2 : m.length ≤ 60) (h3 : 1 ≤ most) (hok : histOk l) (hokm : histOk m) :
    Calls Tryd.prog 5 #[.slice ad l.length cap, .slice adm m.length capm, .int .i64 most] w fun r w' => r = .returned (.bool true) ∧ Below w.heap.size w w' := by
  have HF := hide (CM w hM)
  have HK : Hid (∀ w', Below w.heap.size w w' → M w') := fun w' hB => P.keep w w' hM hB
  have HL := hide (fun w' (hB : Below w.heap.size w w') => hl.below hB)
  have HMm := hide (fun w' (hB : Below w.heap.size w w') => hm.below hB)
  have HY1 := hide (fun w' m' hv => P.ckY w' (.slice ad l.length cap) l m' hv hok)
  have HY2 := hide (fun w' m' hv => P.ckY w' (.slice adm m.length capm) m m' hv hokm)
  have HAg := hide (fun w' m' hv hv2 => P.agO w' (.slice ad l.length cap) (.slice adm m.length capm) l m m' hv hv2 (by omega) (by omega))
  have HSi := hide (fun w' h m' hv hh => P.siO w' (.slice ad l.length cap) l h most m' hv hok h3 hh)
  have HJo : Hid (∀ w' v vx (j : Nat), M w' → EntsIn w' v (l.take j) → EntsIn w' vx (sinceL l j most.toNat) → Calls Tryd.prog 25 #[v, vx] w' fun r w2 => ∃ o, r = .returned (.tuple #[o, .nilIface]) ∧ EntsIn w2 o (l.take (j + most.toNat)) ∧ Below w'.heap.size w' w2) := fun w' v vx j m' hv hvx => by
    have h5 := P.joO w' v vx (l.take j) (sinceL l j most.toNat) m' hv hvx (by rw [since_len]; omega) (histOk_take hok j) (by rw [since_join]; exact histOk_take hok _)
    rw [since_join] at h5
    exact h5
  have HSl := hide (fun j => since_len l j most.toNat)
  have HLe := hide (agreeE_le l m)
  have HTk := hide (agreeE_take l m)
  have HSame := hide (fun v w' hv hv2 => same_ents v (.slice ad l.length cap) l w' hv hv2 (by omega))
  have HMt := hide (fun w' (hB : Below w.heap.size w w') (c : Nat) (hc : c ≤ m.length) => ents_takeD (cap' := capm) (hm.below hB) c hc (by omega))
  have HTl := hide (fun (j : Nat) => (List.length_take (i := j) (l := l)))
  have HAll : Hid (∀ j, l.length ≤ j → l.take j = l) := fun j hj => List.take_of_length_le hj
  have HNil : Hid (∀ j, l.length ≤ j → sinceL l j most.toNat = []) := fun j hj => by
    unfold sinceL
    rw [List.drop_eq_nil_of_le hj]
    simp
  clear hl hm hM CM P hok hokm
  obtain ⟨n, hn⟩ : ∃ n, l.length = n := ⟨_, rfl⟩
  obtain ⟨nm, hnm⟩ : ∃ nm, m.length = nm := ⟨_, rfl⟩
  rw [hn] at HL HY1 HAg HSi HSl HLe HSame HTl HAll HNil h1 hc1 ⊢
  rw [hnm] at HMm HY2 HAg HLe HMt h2 hc2 ⊢
  obtain ⟨k, hk⟩ : ∃ k, agreeE l m = k := ⟨_, rfl⟩
  rw [hk] at HAg HLe HTk
  have hk1 := (unhide HLe).1
  have hk2 := (unhide HLe).2
  obtain ⟨q, hq⟩ : ∃ q, most.toNat = q := ⟨_, rfl⟩
  rw [hq] at HSi HJo HSl HNil
  have hqm : (q : Int) = most := by omega
  clear hn hnm hk hq HLe
  have a1 : decide ((60 : Int) < (n : Int)) = false := decide_eq_false (by omega)
  have a2 : decide ((60 : Int) < (nm : Int)) = false := decide_eq_false (by omega)
  have a3 : decide (most < 1) = false := decide_eq_false (by omega)
  have a4 : decide (n < k) = false := decide_eq_false (by omega)
  have a5 : decide (nm < k) = false := decide_eq_false (by omega)
  have a6 : k ≤ capm := by omega
  go_enter Tryd.func5, Tryd.ntmps5
  go_wp2_with fail
  refine (unhide HF).mono ?_
  rintro E w1 ⟨rfl, hB⟩
  have HB1 := hide hB
  clear hB
  go_wp2_with fail
  refine (unhide HY1 _ (unhide HK _ (unhide HB1)) (unhide HL _ (unhide HB1))).mono ?_
  rintro E w2 ⟨rfl, hB⟩
  have HB2 := hide ((unhide HB1).trans (hB.mono (unhide HB1).size))
  clear hB
  go_wp2_with fail
  refine (unhide HY2 _ (unhide HK _ (unhide HB2)) (unhide HMm _ (unhide HB2))).mono ?_
  rintro E w3 ⟨rfl, hB⟩
  have HB3 := hide ((unhide HB2).trans (hB.mono (unhide HB2).size))
  clear hB
  go_wp2_with fail
  refine (unhide HAg _ (unhide HK _ (unhide HB3)) (unhide HL _ (unhide HB3)) (unhide HMm _ (unhide HB3))).mono ?_
  rintro E w4 ⟨rfl, hB⟩
  have HB4 := hide ((unhide HB3).trans (hB.mono (unhide HB3).size))
  clear hB
  go_wp2_with fail
  have HI : Hid (EntsIn w4 (.slice adm k capm) (l.take k)) := by
    have h5 := unhide HMt _ (unhide HB4) k hk2
    rw [← unhide HTk] at h5
    exact h5
  go_loopw [9, 10] (fun v i wr => ∃ (j r : Nat) (adv : Option Addr) (capv : Nat), j ≤ n ∧ r ≤ j ∧ i = .int .i64 r ∧ v = .slice adv j capv ∧ Hid (EntsIn wr (.slice adv j capv) (l.take j)) ∧ Hid (Below w.heap.size w wr)) (fun _ i _ => n + 1 - (intOf i).toNat)
  case atStart => exact ⟨k, 0, adm, capm, hk1, by omega, rfl, rfl, unhide HI, unhide HB4⟩
  case round =>
    obtain ⟨j, r, adv, capv, hj, hr, rfl, rfl, HV, HB⟩ := hrel
    have b0 : (r : Int) ≤ (n : Int) := by omega
    by_cases hlt : j < n
    · have b1 : (j : Int) < (n : Int) := by omega
      go_wp2_with fail
      refine (unhide HSi _ j (unhide HK _ (unhide HB)) (unhide HL _ (unhide HB)) hj).mono ?_
      rintro E w5 ⟨o, rfl, ho, hB⟩
      have HB5 := hide ((unhide HB).trans (hB.mono (unhide HB).size))
      have HV5 := hide ((unhide HV).below hB)
      have HO5 := hide ho
      obtain ⟨ado, capo, rfl, _⟩ := EntsIn.at ho
      have hs := unhide HSl j
      rw [hs] at HO5 ⊢
      obtain ⟨s, hs'⟩ : ∃ s, min q (n - j) = s := ⟨_, rfl⟩
      rw [hs'] at HO5 ⊢
      have s1 : ¬ (s : Int) = 0 := by omega
      have s2 : ¬ most < (s : Int) := by omega
      have s3 : ((s : Int) == 0) = false := by simp; omega
      have s4 : decide (most < (s : Int)) = false := decide_eq_false s2
      clear hB ho hs
      go_wp2_with fail
      refine (unhide HJo _ _ _ j (unhide HK _ (unhide HB5)) (unhide HV5) (unhide HO5)).mono ?_
      rintro E w6 ⟨y, rfl, hy, hB⟩
      have HB6 := hide ((unhide HB5).trans (hB.mono (unhide HB5).size))
      have HY6 := hide hy
      obtain ⟨ady, capy, rfl, _⟩ := EntsIn.at hy
      have hl2 := unhide HTl (j + q)
      rw [hl2] at HY6 ⊢
      obtain ⟨j', hj'⟩ : ∃ j', min (j + q) n = j' := ⟨_, rfl⟩
      rw [hj'] at HY6 ⊢
      have HY7 : Hid (EntsIn w6 (.slice ady j' capy) (l.take j')) := by
        have e1 : l.take (j + q) = l.take j' := by
          rcases Nat.le_total (j + q) n with h5 | h5
          · rw [show j' = j + q by omega]
          · rw [unhide HAll (j + q) h5, unhide HAll j' (by omega)]
        rw [← e1]
        exact unhide HY6
      have g1 : j' ≤ n := by omega
      have g2 : r + 1 ≤ j' := by omega
      have b3 : ((r + 1 : Nat) : Int) ≤ 1000 := by omega
      clear hB hy hl2 hj'
      go_wp2_with fail
      go_roundw
      case rel => exact ⟨j', r + 1, ady, capy, g1, g2, by go_num, rfl, unhide HY7, unhide HB6⟩
      case measure => simp [intOf]; omega
    · have hjn : j = n := by omega
      subst hjn
      go_wp2_with fail
      refine (unhide HSi _ j (unhide HK _ (unhide HB)) (unhide HL _ (unhide HB)) hj).mono ?_
      rintro E w5 ⟨o, rfl, ho, hB⟩
      have HB5 := hide ((unhide HB).trans (hB.mono (unhide HB).size))
      have HV5 : Hid (EntsIn w5 (.slice adv j capv) l) := by
        have h5 := (unhide HV).below hB
        rw [unhide HAll j (Nat.le_refl _)] at h5
        exact h5
      rw [unhide HNil j (Nat.le_refl _)] at ho
      obtain ⟨ado, capo, rfl, _⟩ := EntsIn.at ho
      have hl0 : ([] : List Ent).length = 0 := rfl
      rw [hl0] at ⊢
      clear hB ho hl0
      go_wp2_with fail
      refine (unhide HSame _ _ (unhide HV5) (unhide HL _ (unhide HB5))).mono ?_
      rintro E w6 ⟨rfl, nd, rfl⟩
      go_wp2
      go_ret
      exact ⟨rfl, below_draw (unhide HB5) _⟩
theorem dwhole_all (M : World → Prop) (e : Nat → TypeId × Value) (P : DelP M e) (CM : MissedO M) (vl vm : Value) (l m : List Ent) (most : Int) (w : World) (hM : M w) (hl : EntsIn w vl l) (hm : EntsIn w vm m) :
    Calls Tryd.prog 5 #[vl, vm, .int .i64 most] w fun r w' => r = .returned (.bool true) ∧ Below w.heap.size w w' := by
  by_cases h1 : 60 < l.length
  · exact dwhole_far M CM vl vm l m most w hM hl hm (Or.inl h1)
  by_cases h2 : 60 < m.length
  · exact dwhole_far M CM vl vm l m most w hM hl hm (Or.inr ⟨h1, Or.inl h2⟩)
  by_cases h3 : most < 1
  · exact dwhole_far M CM vl vm l m most w hM hl hm (Or.inr ⟨h1, Or.inr ⟨h2, h3⟩⟩)
  by_cases hok : histOk l
  · by_cases hokm : histOk m
    · obtain ⟨ad, cap, rfl, _⟩ := EntsIn.at hl
      obtain ⟨adm, capm, rfl, _⟩ := EntsIn.at hm
      exact dwhole_ok M e P CM ad adm cap capm l m most w hM hl hm (EntsIn.room hl rfl) (EntsIn.room hm rfl) (by omega) (by omega) (by omega) hok hokm
    · exact dwhole_no M e P CM vl vm l m most w hM hl hm (by omega) (by omega) (by omega) (Or.inr ⟨hok, hokm⟩)
  · exact dwhole_no M e P CM vl vm l m most w hM hl hm (by omega) (by omega) (by omega) (Or.inl hok)
end Go.Proofs.YtglhapkclpllfadDoor
