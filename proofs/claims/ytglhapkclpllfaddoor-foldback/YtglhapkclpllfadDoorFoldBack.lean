/-
  The walk of the law FoldBack over what package fold answers (structure FoldP) and the closed fact that it begins with.
  Conditions: those of the package's contracts (M).
-/
import Derived.Test.YtglhapkclpllfadDoorFoldProg
import Derived.Test.YtglhapkclpllfadDoorSameEnts
import Derived.Test.YtglhapkclpllfadDoorSame
namespace Go.Proofs.YtglhapkclpllfadDoor
open Go.RowKit Go.Shelf

def FoldedO (M : World → Prop) : Prop := ∀ w, M w → Calls Tryd.prog 15 #[] w fun r w' => r = .returned (.bool true) ∧ Below w.heap.size w w'
theorem word_len9 {i : Nat} {e : Ent} (h : entErr i e = 0) : (wordE e).length ≤ 11 := by
  obtain ⟨_, h2, h3, _⟩ := ent_right h
  have a := itoa_short e.src 1 (by omega) (by omega)
  have b := itoa_value e.value h3.1 h3.2
  unfold wordE
  rw [List.length_append]
  split
  · rw [List.length_cons]; omega
  · simp; omega
theorem join_len9 (c : UInt8) (B : Nat) : ∀ ls : List (List UInt8), (∀ x ∈ ls, x.length ≤ B) → (Lib.join ls [c]).length ≤ (B + 1) * ls.length
  | [], _ => by simp [Lib.join, List.intercalate]
  | [x], h => by rw [Lib.join_one]; have := h x (by simp); simp; omega
  | x :: y :: r, h => by
    have ih := join_len9 c B (y :: r) (fun z hz => h z (List.mem_cons_of_mem _ hz))
    have e1 : Lib.join (x :: y :: r) [c] = x ++ c :: Lib.join (y :: r) [c] := by simp [Lib.join, List.intercalate]
    have hx := h x (by simp)
    rw [e1, List.length_append, List.length_cons, List.length_cons, Nat.mul_succ]
    omega
theorem histL_len4 {l : List Ent} (h : histOk l) (h60 : l.length ≤ 60) : (histL l).length ≤ 4000 := by
  by_cases h0 : l.length = 0
  · unfold histL; rw [if_pos h0]; decide
  · unfold histL
    rw [if_neg h0]
    have := join_len9 44 11 (l.map wordE) (fun x hx => by
      obtain ⟨z, hz, rfl⟩ := List.mem_map.1 hx
      obtain ⟨i, hi, rfl⟩ := List.mem_iff_getElem.1 hz
      have h1 := h.2 i hi
      rw [List.getD_eq_getElem?_getD, List.getElem?_eq_getElem hi] at h1
      exact word_len9 h1)
    rw [List.length_map] at this
    omega
/-- Too long, or cut elsewhere: nothing is asked. -/
theorem fback_far (M : World → Prop) (CF : FoldedO M) (vl : Value) (l : List Ent) (cut : Int) (w : World) (m : M w) (hv : EntsIn w vl l) (h : 60 < l.length ∨ ¬ 60 < l.length ∧ (cut < 0 ∨ ¬ cut < 0 ∧ (l.length : Int) < cut)) :
    Calls Tryd.prog 4 #[vl, .int .i64 cut] w fun r w' => r = .returned (.bool true) ∧ Below w.heap.size w w' := by
  have HF := hide (CF w m)
  obtain ⟨ad, cap, rfl, _⟩ := EntsIn.at hv
  clear hv m CF
  obtain ⟨n, hn⟩ : ∃ n, l.length = n := ⟨_, rfl⟩
  rw [hn] at h ⊢
  rcases h with h | ⟨h, h1 | ⟨h1, h2⟩⟩
  · have h' : (60 : Int) < (n : Int) := by omega
    go_enter Tryd.func4, Tryd.ntmps4
    go_wp2_with fail
    refine (unhide HF).mono ?_
    rintro E w1 ⟨rfl, hB⟩
    have HB := hide hB
    clear hB
    go_wp2
    go_ret
    exact ⟨rfl, unhide HB⟩
  · have h' : ¬ (60 : Int) < (n : Int) := by omega
    go_enter Tryd.func4, Tryd.ntmps4
    go_wp2_with fail
    refine (unhide HF).mono ?_
    rintro E w1 ⟨rfl, hB⟩
    have HB := hide hB
    clear hB
    go_wp2
    go_ret
    exact ⟨rfl, unhide HB⟩
  · have h' : ¬ (60 : Int) < (n : Int) := by omega
    go_enter Tryd.func4, Tryd.ntmps4
    go_wp2_with fail
    refine (unhide HF).mono ?_
    rintro E w1 ⟨rfl, hB⟩
    have HB := hide hB
    clear hB
    go_wp2
    go_ret
    exact ⟨rfl, unhide HB⟩
/-- A history that is not right: nothing is asked. -/
theorem fback_no (M : World → Prop) (e : Nat → TypeId × Value) (P : FoldP M e) (CF : FoldedO M) (vl : Value) (l : List Ent) (cut : Int) (w : World) (m : M w) (hv : EntsIn w vl l) (h60 : l.length ≤ 60) (h1 : 0 ≤ cut) (h2 : cut ≤ l.length) (h : ¬ histOk l) :
    Calls Tryd.prog 4 #[vl, .int .i64 cut] w fun r w' => r = .returned (.bool true) ∧ Below w.heap.size w w' := by
  have HF := hide (CF w m)
  have HC := hide (fun w' (hB : Below w.heap.size w w') => P.ckN w' vl l (P.keep w w' m hB) (hv.below hB) h)
  obtain ⟨ad, cap, rfl, _⟩ := EntsIn.at hv
  clear hv m CF h P
  obtain ⟨n, hn⟩ : ∃ n, l.length = n := ⟨_, rfl⟩
  rw [hn] at h60 h2 HC ⊢
  have a1 : ¬ (60 : Int) < (n : Int) := by omega
  have a2 : ¬ cut < 0 := by omega
  have a3 : ¬ (n : Int) < cut := by omega
  clear h1 h2 h60 hn
  go_enter Tryd.func4, Tryd.ntmps4
  go_wp2_with fail
  refine (unhide HF).mono ?_
  rintro E w1 ⟨rfl, hB⟩
  have HB := hide hB
  clear hB
  go_wp2_with fail
  refine (unhide HC _ (unhide HB)).mono ?_
  rintro E w2 ⟨t, p, rfl, _, hB⟩
  have HB2 := hide ((unhide HB).trans (hB.mono (unhide HB).size))
  clear hB
  go_wp2
  go_ret
  exact ⟨rfl, unhide HB2⟩
theorem ents_take {w : World} {ad : Option Addr} {n cap cap' : Nat} {l : List Ent} (h : EntsIn w (.slice ad n cap) l) (c : Nat) (hc : c ≤ l.length) (hcc : c ≤ cap') : EntsIn w (.slice ad c cap') (l.take c) := by
  obtain ⟨ad2, cap2, e, _, h⟩ := h
  cases e
  refine ⟨_, _, by rw [List.length_map, List.length_take, Nat.min_eq_left hc], by rw [List.length_map, List.length_take, Nat.min_eq_left hc]; exact hcc, fun k hk => ?_⟩
  rw [List.length_map, List.length_take, Nat.min_eq_left hc] at hk
  obtain ⟨b, off, e, hh⟩ := h k (by rw [List.length_map]; omega)
  refine ⟨b, off, e, fun j u hj => hh j u ?_⟩
  rw [← hj, List.getD_eq_getElem?_getD, List.getD_eq_getElem?_getD, List.getElem?_map, List.getElem?_map, List.getElem?_take_of_lt hk]
theorem hist_take {l : List Ent} (h : histOk l) (c : Nat) : histOk (l.take c) := ⟨by rw [List.length_take]; have := h.1; omega, fun i hi => by
  rw [List.length_take] at hi
  rw [List.getD_eq_getElem?_getD, List.getElem?_take_of_lt (by omega), ← List.getD_eq_getElem?_getD]
  exact h.2 i (by omega)⟩
set_option maxRecDepth 100000 in
set_option maxHeartbeats 2000000 in
theorem fback_ok (M : World → Prop) (e : Nat → TypeId × Value) (P : FoldP M e) (CF : FoldedO M) (ad : Option Addr) (cap : Nat) (l : List Ent) (c : Nat) (w : World) (m : M w) (hv : EntsIn w (.slice ad l.length cap) l) (hcap : l.length ≤ cap) (h60 : l.length ≤ 60) (h2 : c ≤ l.length) (h : histOk l) :
    Calls Tryd.prog 4 #[.slice ad l.length cap, .int .i64 (c : Int)] w fun r w' => r = .returned (.bool true) ∧ Below w.heap.size w w' := by
  have HK : Hid (∀ w', Below w.heap.size w w' → M w') := fun w' hB => P.keep w w' m hB
  have HV : Hid (∀ w', Below w.heap.size w w' → EntsIn w' (.slice ad l.length cap) l) := fun w' hB => hv.below hB
  have HF := hide (CF w m)
  have HC := hide (fun w' m hv => P.ckY w' (.slice ad l.length cap) l m hv h)
  have HTe := hide (fun w' m hv => P.teO w' (.slice ad l.length cap) l m hv h)
  have hlen := histL_len4 h h60
  have HRe := hide (fun w' m => P.reO w' ⟨(histL l).toArray⟩ l m (by show (histL l).toArray.size ≤ 4000; rw [List.size_toArray]; exact hlen) (by simpa using read_hist l h) h)
  have HLa := hide (fun w' m hv => P.laO w' (.slice ad l.length cap) l m hv h)
  have HLc := hide (fun w' m hv => P.laO w' (.slice ad c cap) (l.take c) m hv (hist_take h c))
  have HTo := hide (fun w' m hv => P.toO w' (.slice ad l.length cap) l m hv h)
  have HSame := hide (fun v1 v2 w' h1 h2 => same_ents v1 v2 l w' h1 h2 (by omega))
  have HTk := hide (fun w' (hB : Below w.heap.size w w') => ents_take (cap' := cap) (hv.below hB) c h2 (by omega))
  have HFar := hide hv.far
  have HOk := hide h
  obtain ⟨n, hn⟩ : ∃ n, l.length = n := ⟨_, rfl⟩
  rw [hn] at HV HC HTe HLa HTo hcap h60 h2 HFar ⊢
  have Hn := hide hn
  generalize histL l = T at *
  clear hn hv m CF P h hlen
  have a1 : ¬ (60 : Int) < (n : Int) := by omega
  have a2 : ¬ (c : Int) < 0 := by omega
  have a3 : ¬ (n : Int) < (c : Int) := by omega
  have a4 : c ≤ cap := by omega
  have a5 : decide ((60 : Int) < (n : Int)) = false := decide_eq_false a1
  have a6 : decide ((c : Int) < 0) = false := decide_eq_false a2
  go_enter Tryd.func4, Tryd.ntmps4
  go_wp2_with fail
  refine (unhide HF).mono ?_
  rintro E w1 ⟨rfl, hB⟩
  have HB1 := hide hB
  clear hB
  go_wp2_with fail
  refine (unhide HC _ (unhide HK _ (unhide HB1)) (unhide HV _ (unhide HB1))).mono ?_
  rintro E w2 ⟨rfl, hB⟩
  have HB2 := hide ((unhide HB1).trans (hB.mono (unhide HB1).size))
  clear hB
  go_wp2_with fail
  refine (unhide HTe _ (unhide HK _ (unhide HB2)) (unhide HV _ (unhide HB2))).mono ?_
  rintro E w3 ⟨rfl, hB⟩
  have HB3 := hide ((unhide HB2).trans (hB.mono (unhide HB2).size))
  clear hB
  go_wp2_with fail
  refine (unhide HRe _ (unhide HK _ (unhide HB3))).mono ?_
  rintro E w4 ⟨v4, rfl, hv4, hB⟩
  have HB4 := hide ((unhide HB3).trans (hB.mono (unhide HB3).size))
  have HV4 := hide hv4
  clear hB hv4
  go_wp2_with fail
  refine (unhide HSame _ _ _ (unhide HV4) (unhide HV _ (unhide HB4))).mono ?_
  rintro E w5 ⟨rfl, nd, rfl⟩
  have HB5 := hide (below_draw (unhide HB4) nd)
  go_wp2_with fail
  refine (unhide HLa _ (unhide HK _ (unhide HB5)) (unhide HV _ (unhide HB5))).mono ?_
  rintro E w6 ⟨ga, oa, ca, rfl, _, hra, hB⟩
  have HB6 := hide ((unhide HB5).trans (hB.mono (unhide HB5).size))
  have HRa := hide hra
  clear hB hra
  go_wp2_with fail
  refine (unhide HLc _ (unhide HK _ (unhide HB6)) (unhide HTk _ (unhide HB6))).mono ?_
  rintro E w7 ⟨gb, ob, cb, rfl, hgb, hrb, hB⟩
  have HB7 := hide ((unhide HB6).trans (hB.mono (unhide HB6).size))
  have HB67 := hide hB
  have HRb := hide hrb
  clear hB hrb
  go_wp2_with fail
  refine (unhide HTo _ (unhide HK _ (unhide HB7)) (unhide HV _ (unhide HB7))).mono ?_
  rintro E w8 ⟨rfl, hB⟩
  have HB8 := hide ((unhide HB67).trans (hB.mono (unhide HB67).size))
  have HRb8 := hide ((unhide HRb).below hB)
  clear hB
  go_wp2_with fail
  go_loopw [16] (fun i wr => ∃ k : Nat, c ≤ k ∧ k ≤ n ∧ i = .int .i64 k ∧ Hid (OwnRow wr gb ob (lastL 16 (l.take k))) ∧ Hid (Below w6.heap.size w6 wr)) (fun i _ => n - (intOf i).toNat)
  case atStart => exact ⟨c, Nat.le_refl _, by omega, rfl, unhide HRb8, unhide HB8⟩
  case round =>
    obtain ⟨k, hck, hk, rfl, HR, HB⟩ := hrel
    by_cases hlt : k < n
    · have HBw := hide ((unhide HB6).trans ((unhide HB).mono (unhide HB6).size))
      obtain ⟨ad', cap', he, hcell⟩ := unhide HFar
      cases he
      obtain ⟨b1, o1, rfl, f0, f1, f2, f3⟩ := hcell wr (unhide HBw) k hlt
      have hb1 : b1 < w.heap.size := by
        obtain ⟨b1', o1', e1, g0, _⟩ := hcell w (Below.refl _ _) k hlt
        cases e1
        exact cell_lt g0
      have hsz := (unhide HB6).size
      have d1 : ¬ b1 = gb := by omega
      have d2 : ¬ gb = b1 := by omega
      have hw := (unhide HOk).2 k (by rw [unhide Hn]; exact hlt)
      have HStay : Hid ((l.getD k Ent.zero).heard = false → lastL 16 (l.take (k + 1)) = lastL 16 (l.take k)) := lastL_stay l k (by rw [unhide Hn]; exact hlt)
      obtain ⟨_, x2, x3, _⟩ := ent_right hw
      obtain ⟨q, hq⟩ : ∃ q : Nat, (l.getD k Ent.zero).src = (q : Int) + 1 := ⟨((l.getD k Ent.zero).src - 1).toNat, by omega⟩
      have hq16 : q < 16 := by omega
      have HNext : Hid ((l.getD k Ent.zero).heard = true → lastL 16 (l.take (k + 1)) = (lastL 16 (l.take k)).set q (l.getD k Ent.zero).value) := fun hh => lastL_next l k q (by rw [unhide Hn]; exact hlt) hh hq
      obtain ⟨r1, r2⟩ := unhide HR q (by rw [lastL_len]; exact hq16)
      have HPut := hide (fun v => (unhide HR).put q (by rw [lastL_len]; exact hq16) v)
      rw [hq] at f1
      generalize l.getD k Ent.zero = x at *
      clear hw x2 hq hcell hb1
      cases hh : x.heard with
      | true =>
        rw [hh] at f2
        have hN := unhide HNext hh
        have HN := hide hN
        clear HStay HNext hN hh
        generalize (lastL 16 (l.take k)).getD q 0 = y at *
        go_wp2_with fail
        go_region
        all_goals (try go_wp2)
        go_roundw
        case rel => exact ⟨k + 1, by omega, by omega, by go_num, by rw [unhide HN]; exact (unhide HPut x.value).below (Below.refl _ _).drew, ((unhide HB).setCell (p := ⟨gb, ob + q, none⟩) hgb _).drew⟩
        case measure => simp [intOf]; omega
      | false =>
        rw [hh] at f2
        have HN := hide (unhide HStay hh)
        clear HStay HNext hh
        go_wp2
        go_roundw
        case rel => exact ⟨k + 1, by omega, by omega, by go_num, by rw [unhide HN]; exact unhide HR, unhide HB⟩
        case measure => simp [intOf]; omega
    · have : k = n := by omega
      subst this
      have HRa9 := hide ((unhide HRa).below (unhide HB))
      have hall : l.take k = l := List.take_of_length_le (by rw [unhide Hn]; exact Nat.le_refl _)
      rw [hall] at HR
      have HBw := hide ((unhide HB6).trans ((unhide HB).mono (unhide HB6).size))
      have HI := hide (same_ints_in _ _ (lastL 16 l) (lastL 16 l) wr (OwnRow.in (cap := ca) (unhide HRa9)) (OwnRow.in (cap := cb) (unhide HR)) (by rw [lastL_len]; unfold maxLen; omega))
      rw [lastL_len, beq_self_eq_true] at HI
      have HS := hide (last_small (unhide HOk))
      clear hall
      go_wp2_with fail
      go_loopw [17, 18] (fun s i w' => ∃ j : Nat, j ≤ 16 ∧ i = .int .i64 j ∧ s = .int .i64 (sumL j (lastL 16 l)) ∧ w' = wr) (fun _ i _ => 16 - (intOf i).toNat)
      case atStart => exact ⟨0, by omega, rfl, rfl, rfl⟩
      case round =>
        obtain ⟨j, hj, rfl, rfl, rfl⟩ := hrel
        by_cases hlt : j < 16
        · have hc := (unhide HRa9 j (by rw [lastL_len]; exact hlt)).1
          have s0 := unhide HS j hj
          have s1 := unhide HS (j + 1) (by omega)
          have hs := sumL_succ j (lastL 16 l) (by rw [lastL_len]; exact hlt)
          rw [hs] at s1
          have Hs := hide hs
          clear hs
          generalize (lastL 16 l).getD j 0 = x at *
          generalize sumL j (lastL 16 l) = y at *
          go_wp2
          go_roundw
          case rel => exact ⟨j + 1, by omega, by go_num, by rw [unhide Hs], trivial⟩
          case measure => simp [intOf]; omega
        · have : j = 16 := by omega
          subst this
          go_wp2_with fail
          refine (unhide HI).mono ?_
          rintro E w9 ⟨rfl, nd2, rfl⟩
          go_wp2
          go_ret
          exact ⟨by simp [totL], below_draw (unhide HBw) _⟩
theorem fback_all (M : World → Prop) (e : Nat → TypeId × Value) (P : FoldP M e) (CF : FoldedO M) (vl : Value) (l : List Ent) (cut : Int) (w : World) (m : M w) (hv : EntsIn w vl l) :
    Calls Tryd.prog 4 #[vl, .int .i64 cut] w fun r w' => r = .returned (.bool true) ∧ Below w.heap.size w w' := by
  by_cases h60 : 60 < l.length
  · exact fback_far M CF vl l cut w m hv (Or.inl h60)
  by_cases h1 : cut < 0
  · exact fback_far M CF vl l cut w m hv (Or.inr ⟨h60, Or.inl h1⟩)
  by_cases h2 : (l.length : Int) < cut
  · exact fback_far M CF vl l cut w m hv (Or.inr ⟨h60, Or.inr ⟨h1, h2⟩⟩)
  by_cases h : histOk l
  · obtain ⟨ad, cap, rfl, _⟩ := EntsIn.at hv
    obtain ⟨c, rfl⟩ : ∃ c : Nat, cut = (c : Int) := ⟨cut.toNat, by omega⟩
    exact fback_ok M e P CF ad cap l c w m hv (EntsIn.room hv rfl) (by omega) (by omega) h
  · exact fback_no M e P CF vl l cut w m hv (by omega) (by omega) (by omega) h
end Go.Proofs.YtglhapkclpllfadDoor
