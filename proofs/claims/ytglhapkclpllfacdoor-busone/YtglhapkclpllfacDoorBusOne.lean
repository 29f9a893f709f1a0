/-
  The walk of the law BusOne, over what package bus answers: it answers true, and nothing that was in memory has turned.
  Conditions: package api's errors lie as laid (structure GSent).
-/
import Derived.Test.YtglhapkclpllfacDoorBusSent
import Derived.Test.YtglhapkclpllfacDoorBusMath
import Derived.Test.YtglhapkclpllfacDoorTexts
import Derived.Test.YtglhapkclpllfacDoorGuard1
import Derived.Test.YtglhapkclpllfacDoorRef0
namespace Go.Proofs.YtglhapkclpllfacDoor
open Go.RowKit

/-- The closed fact, as the walks want it. -/
def HeardOne (e : Nat → TypeId × Value) : Prop := ∀ w, GSent e w → Calls Tryd.prog 8 #[] w fun r w' => r = .returned (.bool true) ∧ Below w.heap.size w w'
set_option maxRecDepth 100000 in
theorem bone_far (e : Nat → TypeId × Value) (HD : HeardOne e) (v vs vl : Value) (xs lost : List Int) (ss : List Snt) (long slot : Int) (w : World) (S : GSent e w) (hv : IntsIn w v xs) (hs : SntsIn w vs ss) (hso : ∀ s ∈ ss, s.ok) (hl : IntsIn w vl lost) (h : 40 < xs.length ∨ longS ss = true ∨ 40 < lost.length) :
    Calls Tryd.prog 3 #[v, .int .i64 long, .int .i64 slot, vs, vl] w fun r w' => r = .returned (.bool true) ∧ Below w.heap.size w w' := by
  have HK := hide (HD w S)
  have HL : Hid (∀ w', Below w.heap.size w w' → Calls Tryd.prog 9 #[vs] w' fun e w2 => e = .returned (.bool (longS ss)) ∧ w2 = w') := fun w' hB => longSent_ok vs ss w' (hs.below hB) hso
  obtain ⟨ad, cap, rfl, _⟩ := hv
  obtain ⟨ads, caps, rfl, _⟩ := SntsIn.at hs
  obtain ⟨al, capl, rfl, _⟩ := hl
  clear S hs hso
  by_cases h1 : 40 < xs.length
  · have h1' : (40 : Int) < (xs.length : Int) := by omega
    clear h
    go_enter Tryd.func3, Tryd.ntmps3
    go_wp2_with (go_at_call 8; refine (unhide HK).mono ?_; rintro E w1 ⟨rfl, hB1⟩; have HB := hide hB1; clear hB1)
    go_ret
    exact ⟨rfl, unhide HB⟩
  · have h1' : ¬ (40 : Int) < (xs.length : Int) := by omega
    cases hL : longS ss with
    | true =>
      rw [hL] at HL
      clear h hL
      go_enter Tryd.func3, Tryd.ntmps3
      go_wp2_with (first
        | (go_at_call 8; refine (unhide HK).mono ?_; rintro E w1 ⟨rfl, hB1⟩; have HB := hide hB1; clear hB1)
        | (go_at_call 9; refine (unhide HL _ (unhide HB)).mono ?_; rintro E w2 ⟨rfl, rfl⟩))
      go_ret
      exact ⟨rfl, unhide HB⟩
    | false =>
      have h2 : (40 : Int) < (lost.length : Int) := by
        rcases h with h | h | h
        · omega
        · rw [hL] at h; cases h
        · omega
      rw [hL] at HL
      clear h hL
      go_enter Tryd.func3, Tryd.ntmps3
      go_wp2_with (first
        | (go_at_call 8; refine (unhide HK).mono ?_; rintro E w1 ⟨rfl, hB1⟩; have HB := hide hB1; clear hB1)
        | (go_at_call 9; refine (unhide HL _ (unhide HB)).mono ?_; rintro E w2 ⟨rfl, rfl⟩))
      go_ret
      exact ⟨rfl, unhide HB⟩
set_option maxRecDepth 100000 in
theorem bone_err (e : Nat → TypeId × Value) (HD : HeardOne e) (v vs vl : Value) (xs lost : List Int) (ss : List Snt) (long slot : Int) (w : World) (S : GSent e w) (hv : IntsIn w v xs) (hs : SntsIn w vs ss) (hso : ∀ s ∈ ss, s.ok) (hl : IntsIn w vl lost)
    (h1 : xs.length ≤ 40) (h2 : longS ss = false) (h3 : lost.length ≤ 40)
    (T : ∀ w v vs vl, GSent e w → IntsIn w v xs → SntsIn w vs ss → IntsIn w vl lost → Calls Tryd.prog 10 #[v, .int .i64 long, .int .i64 slot, vs, vl] w fun e w' => ∃ x ty p, e = .returned (.tuple #[x, .iface ty p]) ∧ TxtsIn w' x [] ∧ Below w.heap.size w w') :
    Calls Tryd.prog 3 #[v, .int .i64 long, .int .i64 slot, vs, vl] w fun r w' => r = .returned (.bool true) ∧ Below w.heap.size w w' := by
  have HK := hide (HD w S)
  have HL : Hid (∀ w', Below w.heap.size w w' → Calls Tryd.prog 9 #[vs] w' fun e w2 => e = .returned (.bool false) ∧ w2 = w') := fun w' hB => by
    have := longSent_ok vs ss w' (hs.below hB) hso
    rw [h2] at this
    exact this
  have h45 : ss.length ≤ 45 := by
    unfold longS at h2
    have := of_decide_eq_false (Bool.or_eq_false_iff.1 h2).1
    omega
  have HA : Hid (∀ w', Below w.heap.size w w' → Calls Tryd.prog 11 #[vs] w' fun e w2 => ∃ v', e = .returned v' ∧ SntsIn w2 v' ss ∧ Below w'.heap.size w' w2) := fun w' hB => asSent_ok vs ss w' (hs.below hB) h45
  have HT := hide T
  have H45 := hide h45
  have HS := hide S
  have HV := hide hv
  have HSs := hide hs
  have HLo := hide hl
  obtain ⟨ad, cap, rfl, _⟩ := hv
  obtain ⟨ads, caps, rfl, hsc⟩ := SntsIn.at hs
  have HSC := hide hsc
  obtain ⟨al, capl, rfl, _⟩ := hl
  have h1' : ¬ (40 : Int) < (xs.length : Int) := by omega
  have h3' : ¬ (40 : Int) < (lost.length : Int) := by omega
  clear S hs hso T h2 h45 hsc
  go_enter Tryd.func3, Tryd.ntmps3
  go_wp2_with (first
    | (go_at_call 8; refine (unhide HK).mono ?_; rintro E w1 ⟨rfl, hB1⟩; have HB1 := hide hB1; clear hB1)
    | (go_at_call 9; refine (unhide HL _ (unhide HB1)).mono ?_; rintro E w2 ⟨rfl, rfl⟩)
    | (go_at_call 11; refine (unhide HA _ (unhide HB1)).mono ?_; rintro E w3 ⟨va, rfl, hs3, hB3⟩; have HS3 := hide hs3; have HB3 := hide ((unhide HB1).trans (hB3.mono (unhide HB1).size)); clear hs3 hB3)
    | (go_at_call 10; refine (unhide HT _ _ _ _ ((unhide HS).below (unhide HB3)) ((unhide HV).below (unhide HB3)) (unhide HS3) ((unhide HLo).below (unhide HB3))).mono ?_; rintro E w4 ⟨x4, ty4, p4, rfl, ⟨a4, c4, rfl, _⟩, hB4⟩; have HB4 := hide ((unhide HB3).trans (hB4.mono (unhide HB3).size)); clear hB4))
  go_ret
  exact ⟨rfl, unhide HB4⟩
theorem one_if (xs : List Int) (long slot : Nat) (L : ByteArray) (s : Snt) : (cnts xs long slot s && decide (s.text = L)) = decide (0 ≤ s.tick ∧ s.tick ≤ 1000000 ∧ s.node = xs.getD (slot % xs.length) 0 ∧ s.text = L ∧ s.tick.toNat / long = slot) := by
  rw [cnts_who, ← Bool.decide_and]
  congr 1
  apply propext
  constructor
  · rintro ⟨⟨h1, h2, h3, h4⟩, h5⟩; exact ⟨h1, h2, h3, h5, h4⟩
  · rintro ⟨h1, h2, h3, h5, h4⟩; exact ⟨⟨h1, h2, h3, h4⟩, h5⟩
theorem empty_beq {X : ByteArray} (h : X ≠ ⟨#[]⟩) : (X.toList == []) = false := by
  cases e : X.toList == [] with
  | false => rfl
  | true =>
    have e1 := eq_of_beq e
    rw [Lib.toList_data] at e1
    obtain ⟨⟨l⟩⟩ := X
    exact absurd (by simpa using e1) h
set_option maxRecDepth 100000 in
set_option maxHeartbeats 4000000 in
theorem bone_ok (e : Nat → TypeId × Value) (HD : HeardOne e) (v vs vl : Value) (xs lost : List Int) (ss : List Snt) (long slot : Nat) (w : World) (S : GSent e w) (hv : IntsIn w v xs) (hs : SntsIn w vs ss) (hso : ∀ s ∈ ss, s.ok) (hl : IntsIn w vl lost)
    (h1 : xs.length ≤ 40) (h2 : longS ss = false) (h3 : lost.length ≤ 40) (hp : planOk xs) (hlong : 1 ≤ long ∧ long ≤ 1000000) (hslot : slot ≤ 1000000)
    (T : ∀ w v vs vl, GSent e w → IntsIn w v xs → SntsIn w vs ss → IntsIn w vl lost → Calls Tryd.prog 10 #[v, .int .i64 long, .int .i64 slot, vs, vl] w fun e w' => ∃ x, e = .returned (.tuple #[x, .nilIface]) ∧ TxtsIn w' x ((List.range 16).map (hears ss (cnts xs long slot) lost)) ∧ Below w.heap.size w w') :
    Calls Tryd.prog 3 #[v, .int .i64 long, .int .i64 slot, vs, vl] w fun r w' => r = .returned (.bool true) ∧ Below w.heap.size w w' := by
  have HK := hide (HD w S)
  have HL : Hid (∀ w', Below w.heap.size w w' → Calls Tryd.prog 9 #[vs] w' fun e w2 => e = .returned (.bool false) ∧ w2 = w') := fun w' hB => by
    have := longSent_ok vs ss w' (hs.below hB) hso
    rw [h2] at this
    exact this
  have h45 : ss.length ≤ 45 := by
    unfold longS at h2
    have := of_decide_eq_false (Bool.or_eq_false_iff.1 h2).1
    omega
  have HA : Hid (∀ w', Below w.heap.size w w' → Calls Tryd.prog 11 #[vs] w' fun e w2 => ∃ v', e = .returned v' ∧ SntsIn w2 v' ss ∧ Below w'.heap.size w' w2) := fun w' hB => asSent_ok vs ss w' (hs.below hB) h45
  have HT := hide T
  have H45 := hide h45
  have HS := hide S
  have HV := hide hv
  have HSs := hide hs
  have HLo := hide hl
  obtain ⟨ad, cap, rfl, _⟩ := hv
  obtain ⟨ads, caps, rfl, hsc⟩ := SntsIn.at hs
  have HSC := hide hsc
  obtain ⟨al, capl, rfl, _⟩ := hl
  have h1' : ¬ (40 : Int) < (xs.length : Int) := by omega
  have h3' : ¬ (40 : Int) < (lost.length : Int) := by omega
  have HW : Hid (∀ w', Below w.heap.size w w' → Calls Tryd.prog 12 #[.slice ad xs.length cap, .int .i64 (slot : Int)] w' fun r w2 => r = .returned (.tuple #[.int .i64 (xs.getD (slot % xs.length) 0), .nilIface]) ∧ Below w'.heap.size w' w2) := fun w' hB => whoP_yes e _ xs slot w' ((unhide HV).below hB) hp hslot (S.below hB).p
  have HF : Hid (∀ i, hears ss (cnts xs long slot) lost i ≠ ⟨#[]⟩ → (ss.filter (cnts xs long slot)).length = 1 ∧ ¬ ((i : Int) + 1) ∈ lost ∧ hears ss (cnts xs long slot) lost i = lastOf (cnts xs long slot) ss) := fun i h => hears_one h
  have HC1 : Hid ((ss.filter (cnts xs long slot)).length = 1 → (ss.filter fun s => decide (0 ≤ s.tick ∧ s.tick ≤ 1000000 ∧ s.node = xs.getD (slot % xs.length) 0 ∧ s.text = lastOf (cnts xs long slot) ss ∧ s.tick.toNat / long = slot)).length = 1) := fun h => by
    have h4 := one_text (cnts xs long slot) ss h
    rw [show (fun s => cnts xs long slot s && decide (s.text = lastOf (cnts xs long slot) ss)) = (fun s => decide (0 ≤ s.tick ∧ s.tick ≤ 1000000 ∧ s.node = xs.getD (slot % xs.length) 0 ∧ s.text = lastOf (cnts xs long slot) ss ∧ s.tick.toNat / long = slot)) from funext fun s => one_if xs long slot _ s] at h4
    exact h4
  have hl0 : ¬ (long : Int) = 0 := by omega
  clear S hs hso T h2 h45 hsc hp
  obtain ⟨f, hf⟩ : ∃ f, hears ss (cnts xs long slot) lost = f := ⟨_, rfl⟩
  obtain ⟨L, hL⟩ : ∃ L, lastOf (cnts xs long slot) ss = L := ⟨_, rfl⟩
  obtain ⟨who, hwho⟩ : ∃ who, xs.getD (slot % xs.length) 0 = who := ⟨_, rfl⟩
  obtain ⟨q, hq⟩ : ∃ q, (ss.filter (cnts xs long slot)).length = q := ⟨_, rfl⟩
  rw [hf] at HF HT
  have HT2 : Hid (∀ w v vs vl, GSent e w → IntsIn w v xs → SntsIn w vs ss → IntsIn w vl lost → Calls Tryd.prog 10 #[v, .int .i64 long, .int .i64 slot, vs, vl] w fun e w' => ∃ a4 c4, e = .returned (.tuple #[.slice a4 16 c4, .nilIface]) ∧ Hid (∀ k, k < 16 → ∃ b off, a4 = some ⟨b, off, none⟩ ∧ w'.cell? ⟨b, off + k, none⟩ = some (.string (f k))) ∧ Below w.heap.size w w') := fun w v vs vl h1 h2 h3 h4 => (unhide HT w v vs vl h1 h2 h3 h4).mono fun e w' h => by
    obtain ⟨x, rfl, ⟨a4, c4, rfl, hx⟩, hB⟩ := h
    refine ⟨a4, c4, by simp, fun k hk => ?_, hB⟩
    obtain ⟨b, off, e, hc⟩ := hx k (by simpa using hk)
    refine ⟨b, off, e, ?_⟩
    rw [hc, List.getD_eq_getElem?_getD, List.getElem?_map, List.getElem?_range hk]
    rfl
  clear HT
  rw [hL] at HF HC1
  rw [hwho] at HC1 HW
  rw [hq] at HF HC1
  obtain ⟨n, hn⟩ : ∃ n, ss.length = n := ⟨_, rfl⟩
  have Hn : Hid (ss.length = n) := hn
  rw [hn] at HSC HL HA HSs ⊢
  clear hf hL hwho hq hn
  go_enter Tryd.func3, Tryd.ntmps3
  go_wp2_with (first
    | (go_at_call 8; refine (unhide HK).mono ?_; rintro E w1 ⟨rfl, hB1⟩; have HB1 := hide hB1; clear hB1)
    | (go_at_call 9; refine (unhide HL _ (unhide HB1)).mono ?_; rintro E w2 ⟨rfl, rfl⟩)
    | (go_at_call 11; refine (unhide HA _ (unhide HB1)).mono ?_; rintro E w3 ⟨va, rfl, hs3, hB3⟩; have HS3 := hide hs3; have HB3 := hide ((unhide HB1).trans (hB3.mono (unhide HB1).size)); clear hs3 hB3)
    | (go_at_call 10; refine (unhide HT2 _ _ _ _ ((unhide HS).below (unhide HB3)) ((unhide HV).below (unhide HB3)) (unhide HS3) ((unhide HLo).below (unhide HB3))).mono ?_; rintro E w4 ⟨a4, c4, rfl, HX4, hB4⟩; have HB4 := hide ((unhide HB3).trans (hB4.mono (unhide HB3).size)); clear hB4)
    | (go_at_call 12; refine (unhide HW _ (unhide HB4)).mono ?_; rintro E w5 ⟨rfl, hB5⟩; have HX5 : Hid (∀ k, k < 16 → ∃ b off, a4 = some ⟨b, off, none⟩ ∧ w5.cell? ⟨b, off + k, none⟩ = some (.string (f k))) := (fun k hk => by obtain ⟨b, off, e, hc⟩ := unhide HX4 k hk; exact ⟨b, off, e, below_cell hB5 hc⟩); have HB5 := hide ((unhide HB4).trans (hB5.mono (unhide HB4).size)); clear hB5))
  go_loopw [15, 16] (fun t i wr => ∃ (k : Nat) (X : ByteArray), k ≤ 16 ∧ i = .int .i64 (k : Int) ∧ t = .string X ∧ Hid (X = ⟨#[]⟩ ∨ (X = L ∧ X ≠ ⟨#[]⟩ ∧ q = 1)) ∧ wr = w5) (fun _ i _ => 16 - (intOf i).toNat)
  case atStart => exact ⟨0, _, by omega, rfl, rfl, Or.inl rfl, rfl⟩
  case round =>
    obtain ⟨k, X, hk, rfl, rfl, HX, rfl⟩ := hrel
    by_cases hlt : k < 16
    · obtain ⟨b, off, rfl, hc⟩ := unhide HX5 k hlt
      have HFk := hide (unhide HF k)
      obtain ⟨y, hy⟩ : ∃ y, f k = y := ⟨_, rfl⟩
      rw [hy] at HFk hc
      clear hy
      by_cases hye : y = ⟨#[]⟩
      · subst hye
        clear HFk
        go_wp2
        go_roundw
        case rel => exact ⟨k + 1, X, by omega, by go_num, rfl, unhide HX, by trivial⟩
        case measure => simp [intOf]; omega
      · obtain ⟨hq1, hin, hyL⟩ := unhide HFk hye
        have hyb := empty_beq hye
        have HI := hide (inInts_ok ((k : Int) + 1) _ lost _ ((unhide HLo).below (unhide HB5)) (by unfold maxLen; omega))
        have hcon : lost.contains ((k : Int) + 1) = false := by
          cases hx : lost.contains ((k : Int) + 1) with
          | false => rfl
          | true => exact absurd (List.contains_iff_mem.1 hx) hin
        rw [hcon] at HI
        have Hye := hide hye
        have HyL := hide hyL
        have Hq1 := hide hq1
        rcases unhide HX with hX | ⟨hX, hXe, _⟩
        · subst hX
          clear hin hcon hyL hye HFk hq1 HX
          go_wp2_with (go_at_call 13; refine (unhide HI).mono ?_; rintro E w6 ⟨rfl, rfl⟩)
          go_roundw
          case rel => exact ⟨k + 1, y, by omega, by go_num, rfl, Or.inr ⟨unhide HyL, unhide Hye, unhide Hq1⟩, by trivial⟩
          case measure => simp [intOf]; omega
        · have hXy : X = y := hX.trans hyL.symm
          subst hXy
          have hXb := empty_beq hXe
          clear hin hcon hyL hye HFk hq1 HX hX hXe
          go_wp2_with (go_at_call 13; refine (unhide HI).mono ?_; rintro E w6 ⟨rfl, rfl⟩)
          go_roundw
          case rel => exact ⟨k + 1, X, by omega, by go_num, rfl, Or.inr ⟨unhide HyL, unhide Hye, unhide Hq1⟩, by trivial⟩
          case measure => simp [intOf]; omega
    · have hk16 : k = 16 := by omega
      subst hk16
      rcases unhide HX with hX | ⟨hX, hXe, hq1⟩
      · subst hX
        clear HX
        go_wp2
        go_ret
        exact ⟨rfl, unhide HB5⟩
      · have hXb := empty_beq hXe
        have HXL := hide hX
        have HC := hide (unhide HC1 hq1)
        have HSnd : Hid (∀ k, k < n → ∃ b off, ads = some ⟨b, off, none⟩ ∧ wr.cell? ⟨b, off + k * 3, none⟩ = some (.int .i64 (ss.getD k Snt.zero).node) ∧ wr.cell? ⟨b, off + k * 3 + 1, none⟩ = some (.int .i64 (ss.getD k Snt.zero).tick) ∧ wr.cell? ⟨b, off + k * 3 + 2, none⟩ = some (.string (ss.getD k Snt.zero).text)) := fun k hk => by
          obtain ⟨b, off, e, c0, c1, c2⟩ := unhide HSC k hk
          exact ⟨b, off, e, below_cell (unhide HB5) c0, below_cell (unhide HB5) c1, below_cell (unhide HB5) c2⟩
        rw [← unhide HXL] at HC
        obtain ⟨P, hP⟩ : ∃ P : Snt → Bool, (fun s => decide (0 ≤ s.tick ∧ s.tick ≤ 1000000 ∧ s.node = who ∧ s.text = X ∧ s.tick.toNat / long = slot)) = P := ⟨_, rfl⟩
        rw [hP] at HC
        have HPe : Hid (∀ s, P s = decide (0 ≤ s.tick ∧ s.tick ≤ 1000000 ∧ s.node = who ∧ s.text = X ∧ s.tick.toNat / long = slot)) := fun s => by rw [← hP]
        have hn40 : n ≤ 45 := by rw [← unhide Hn]; exact unhide H45
        clear hX hXe hq1 HX HC1 hP HF HW
        go_wp2
        go_loopw [18, 19] (fun c i w' => ∃ j r : Nat, j ≤ n ∧ i = .int .i64 (j : Int) ∧ c = .int .i64 (r : Int) ∧ r ≤ j ∧ Hid (r = ((ss.take j).filter P).length) ∧ Hid (w' = wr)) (fun _ i _ => n - (intOf i).toNat)
        case atStart => exact ⟨0, 0, by omega, rfl, rfl, by omega, by show 0 = _; simp, hide rfl⟩
        case round =>
          obtain ⟨j, r, hj, rfl, rfl, hr, Hr, hwr⟩ := hrel
          have hwr := unhide hwr
          subst hwr
          by_cases hlt : j < n
          · obtain ⟨b, off, rfl, d0, d1, d2⟩ := unhide HSnd j hlt
            have HCn0 := hide (cnt_snoc P ss j (by rw [unhide Hn]; exact hlt))
            rw [← unhide Hr, unhide HPe] at HCn0
            generalize (ss.getD j Snt.zero).node = x0 at *
            generalize (ss.getD j Snt.zero).tick = x1 at *
            generalize (ss.getD j Snt.zero).text = x2 at *
            by_cases t0 : x1 < 0
            · have HCn : Hid (r = ((ss.take (j + 1)).filter P).length) := by
                have h := unhide HCn0
                rw [decide_eq_false (fun h => by omega)] at h
                simp at h
                show r = _
                omega
              go_wp2
              go_roundw
              case rel => exact ⟨j + 1, by omega, by omega, r, rfl, by omega, unhide HCn⟩
              case measure => simp [intOf]; omega
            by_cases t1 : 1000000 < x1
            · have HCn : Hid (r = ((ss.take (j + 1)).filter P).length) := by
                have h := unhide HCn0
                rw [decide_eq_false (fun h => by omega)] at h
                simp at h
                show r = _
                omega
              go_wp2
              go_roundw
              case rel => exact ⟨j + 1, by omega, by omega, r, rfl, by omega, unhide HCn⟩
              case measure => simp [intOf]; omega
            obtain ⟨u, rfl⟩ : ∃ u : Nat, x1 = (u : Int) := ⟨x1.toNat, by omega⟩
            rw [Int.toNat_natCast] at HCn0
            by_cases t2 : x0 = who
            · subst t2
              by_cases t3 : x2 = X
              · subst t3
                have hq : (u : Int).tdiv (long : Int) = ((u / long : Nat) : Int) := by simp
                have hqb : u / long ≤ 1000000 := Nat.le_trans (Nat.div_le_self _ _) (by omega)
                by_cases t4 : u / long = slot
                · have HCn : Hid (r + 1 = ((ss.take (j + 1)).filter P).length) := by
                    have h := unhide HCn0
                    rw [decide_eq_true ⟨by omega, by omega, rfl, rfl, t4⟩] at h
                    simp at h
                    show r + 1 = _
                    omega
                  rw [t4] at hq
                  go_wp2
                  go_roundw
                  case rel => exact ⟨j + 1, by omega, by omega, r + 1, by omega, by omega, unhide HCn⟩
                  case measure => simp [intOf]; omega
                · have HCn : Hid (r = ((ss.take (j + 1)).filter P).length) := by
                    have h := unhide HCn0
                    rw [decide_eq_false (fun h => t4 h.2.2.2.2)] at h
                    simp at h
                    show r = _
                    omega
                  have t4' : ¬ ((u / long : Nat) : Int) = (slot : Int) := by omega
                  generalize u / long = qq at *
                  go_wp2
                  go_roundw
                  case rel => exact ⟨j + 1, by omega, by omega, r, rfl, by omega, unhide HCn⟩
                  case measure => simp [intOf]; omega
              · have t3' := text_ne t3
                have HCn : Hid (r = ((ss.take (j + 1)).filter P).length) := by
                  have h := unhide HCn0
                  rw [decide_eq_false (fun h => t3 h.2.2.2.1)] at h
                  simp at h
                  show r = _
                  omega
                go_wp2
                go_roundw
                case rel => exact ⟨j + 1, by omega, by omega, r, rfl, by omega, unhide HCn⟩
                case measure => simp [intOf]; omega
            · have HCn : Hid (r = ((ss.take (j + 1)).filter P).length) := by
                have h := unhide HCn0
                rw [decide_eq_false (fun h => t2 h.2.2.1)] at h
                simp at h
                show r = _
                omega
              go_wp2
              go_roundw
              case rel => exact ⟨j + 1, by omega, by omega, r, rfl, by omega, unhide HCn⟩
              case measure => simp [intOf]; omega
          · have hjn : j = n := by omega
            subst hjn
            have hr1 : r = 1 := by
              have h := unhide Hr
              rw [List.take_of_length_le (by rw [unhide Hn]; exact Nat.le_refl _)] at h
              exact h.trans (unhide HC)
            subst hr1
            go_wp2
            go_ret
            exact ⟨rfl, unhide HB5⟩
end Go.Proofs.YtglhapkclpllfacDoor
