/-
  Contracts of the document's answer, chapter 3: ViewError, FrameError, SumOf, Signed.
-/
import Derived.Test.YtglhapkclpllfacGreatDoorRef1
import Derived.Test.YtglhapkclpllfacGreatDoorRefDec
import Derived.Test.YtglhapkclpllfacGreatDoorRefSigned
import Derived.Test.YtglhapkclpllfacGreatDoorFrame1
namespace Go.Proofs.YtglhapkclpllfacGreatDoor
open Go.RowKit

def nodeB (n : Int) : Bool := decide (1 ≤ n ∧ n ≤ 16)
def crewB (c : Int) : Bool := decide (0 ≤ c ∧ c ≤ 65535)
def hasB (c n : Int) : Bool := crewB c && nodeB n && c.toNat.testBit (n.toNat - 1)
theorem nodeB_any (n : Int) (w : World) : Calls Tryz.prog 38 #[.int .i64 n] w fun e w' => e = .returned (.bool (nodeB n)) ∧ w' = w := by
  by_cases h : Cm.isNode n
  · rw [show nodeB n = true from decide_eq_true h]; exact isNode_yes n h w
  · rw [show nodeB n = false from decide_eq_false h]; exact isNode_no n h w
theorem crewB_any (c : Int) (w : World) : Calls Tryz.prog 15 #[.int .i64 c] w fun e w' => e = .returned (.bool (crewB c)) ∧ w' = w := by
  by_cases h : okC c
  · obtain ⟨x, rfl, hx⟩ := okC_nat h
    rw [show crewB x = true from decide_eq_true h]; exact isCrew_yes x hx w
  · rw [show crewB c = false from decide_eq_false h]; exact isCrew_no c (not_okC h) w
theorem hasB_any (c n : Int) (w : World) : Calls Tryz.prog 22 #[.int .i64 c, .int .i64 n] w fun e w' => e = .returned (.bool (hasB c n)) ∧ w' = w := by
  by_cases h : okC c ∧ Cm.isNode n
  · obtain ⟨x, rfl, hx⟩ := okC_nat h.1
    obtain ⟨i, rfl⟩ : ∃ i : Nat, n = (i : Int) + 1 := ⟨n.toNat - 1, by have := h.2.1; omega⟩
    have e : hasB x ((i : Int) + 1) = x.testBit i := by
      unfold hasB
      rw [show crewB x = true from decide_eq_true h.1, show nodeB ((i : Int) + 1) = true from decide_eq_true h.2, show ((i : Int) + 1).toNat - 1 = i by omega]
      rfl
    rw [e]
    exact hasN_ok x i hx (by have := h.2.2; omega) w
  · have e : hasB c n = false := by
      unfold hasB
      by_cases hc : okC c
      · rw [show nodeB n = false from decide_eq_false (fun hn => h ⟨hc, hn⟩)]; simp
      · rw [show crewB c = false from decide_eq_false hc]; rfl
    rw [e]
    exact hasN_no c n h w
/-- The number of a view's error; 0: it is right. -/
def vErr (me mo sl : Int) : Nat := if (0 ≤ me ∧ me ≤ 65535) ∧ (0 ≤ mo ∧ mo ≤ 3) ∧ 0 ≤ sl ∧ sl ≤ 1000000 then 0 else 2
set_option maxHeartbeats 1000000 in
theorem viewError_ok (me mo sl : Int) (w : World) : Calls Tryz.prog 7 #[.agg #[.int .i64 me, .int .i64 mo, .int .i64 sl]] w fun e w' => e = .returned (.int .i64 (vErr me mo sl : Nat)) ∧ Below w.heap.size w w' := by
  have hb : Below w.heap.size w (w.alloc (.cells #[.int .i64 me, .int .i64 mo, .int .i64 sl] 24)) := (Below.refl _ _).alloc (Nat.le_refl _) _
  have HB := hide hb
  clear hb
  unfold vErr
  by_cases h0 : 0 ≤ me ∧ me ≤ 65535
  · have g0 : crewB me = true := decide_eq_true h0
    by_cases h1 : 0 ≤ mo
    · by_cases h2 : mo ≤ 3
      · by_cases h3 : 0 ≤ sl
        · by_cases h4 : sl ≤ 1000000
          · rw [if_pos ⟨h0, ⟨h1, h2⟩, h3, h4⟩]
            go_enter Tryz.func7, Tryz.ntmps7
            go_wp2_with (go_at_call 15; refine (crewB_any _ _).mono ?_; rintro E w' ⟨rfl, rfl⟩)
            go_ret
            exact ⟨rfl, unhide HB⟩
          · rw [if_neg (fun h => h4 h.2.2.2)]
            have h4' : 1000000 < sl := by omega
            go_enter Tryz.func7, Tryz.ntmps7
            go_wp2_with (go_at_call 15; refine (crewB_any _ _).mono ?_; rintro E w' ⟨rfl, rfl⟩)
            go_ret
            exact ⟨rfl, unhide HB⟩
        · rw [if_neg (fun h => h3 h.2.2.1)]
          have h3' : sl < 0 := by omega
          go_enter Tryz.func7, Tryz.ntmps7
          go_wp2_with (go_at_call 15; refine (crewB_any _ _).mono ?_; rintro E w' ⟨rfl, rfl⟩)
          go_ret
          exact ⟨rfl, unhide HB⟩
      · rw [if_neg (fun h => h2 h.2.1.2)]
        have h2' : 3 < mo := by omega
        go_enter Tryz.func7, Tryz.ntmps7
        go_wp2_with (go_at_call 15; refine (crewB_any _ _).mono ?_; rintro E w' ⟨rfl, rfl⟩)
        go_ret
        exact ⟨rfl, unhide HB⟩
    · rw [if_neg (fun h => h1 h.2.1.1)]
      have h1' : mo < 0 := by omega
      go_enter Tryz.func7, Tryz.ntmps7
      go_wp2_with (go_at_call 15; refine (crewB_any _ _).mono ?_; rintro E w' ⟨rfl, rfl⟩)
      go_ret
      exact ⟨rfl, unhide HB⟩
  · have g0 : crewB me = false := decide_eq_false h0
    rw [if_neg (fun h => h0 h.1)]
    clear h0
    go_enter Tryz.func7, Tryz.ntmps7
    go_wp2_with (go_at_call 15; refine (crewB_any _ _).mono ?_; rintro E w' ⟨rfl, rfl⟩)
    go_ret
    exact ⟨rfl, unhide HB⟩
set_option maxHeartbeats 1000000 in
theorem frameError_ok (f : Frm) (w : World) : Calls Tryz.prog 44 #[frmV f] w fun e w' => e = .returned (.int .i64 (fErr f : Nat)) ∧ Below w.heap.size w w' := by
  obtain ⟨fr, me, mo, sl, va⟩ := f
  have hb : Below w.heap.size w (w.alloc (.cells #[.int .i64 fr, .int .i64 me, .int .i64 mo, .int .i64 sl, .int .i64 va] 53)) := (Below.refl _ _).alloc (Nat.le_refl _) _
  have HB := hide hb
  clear hb
  unfold frmV
  rcases fErr_cases ⟨fr, me, mo, sl, va⟩ with ⟨h1, h0⟩ | ⟨h1, ⟨h2, h0⟩ | ⟨h2, ⟨h3, h0⟩ | ⟨h3, ⟨h4, h0⟩ | ⟨h4, h0⟩⟩⟩⟩
  · rw [h0]
    have g1 : nodeB fr = false := decide_eq_false h1
    clear h0 h1
    go_enter Tryz.func44, Tryz.ntmps44
    go_wp2_with (first | (go_at_call 38; refine (nodeB_any _ _).mono ?_; rintro E w' ⟨rfl, rfl⟩) | (go_at_call 15; refine (crewB_any _ _).mono ?_; rintro E w' ⟨rfl, rfl⟩) | (go_at_call 22; refine (hasB_any _ _ _).mono ?_; rintro E w' ⟨rfl, rfl⟩))
    go_ret
    exact ⟨rfl, unhide HB⟩
  · rw [h0]
    have g1 : nodeB fr = true := decide_eq_true h1
    have g2 : crewB me = false := decide_eq_false h2
    clear h0 h1 h2
    go_enter Tryz.func44, Tryz.ntmps44
    go_wp2_with (first | (go_at_call 38; refine (nodeB_any _ _).mono ?_; rintro E w' ⟨rfl, rfl⟩) | (go_at_call 15; refine (crewB_any _ _).mono ?_; rintro E w' ⟨rfl, rfl⟩) | (go_at_call 22; refine (hasB_any _ _ _).mono ?_; rintro E w' ⟨rfl, rfl⟩))
    go_ret
    exact ⟨rfl, unhide HB⟩
  · rw [h0]
    have g1 : nodeB fr = true := decide_eq_true h1
    have g2 : crewB me = true := decide_eq_true h2
    have g3 : hasB me fr = false := by unfold hasB; simp only at h3; rw [h3]; simp
    clear h0 h1 h2 h3
    go_enter Tryz.func44, Tryz.ntmps44
    go_wp2_with (first | (go_at_call 38; refine (nodeB_any _ _).mono ?_; rintro E w' ⟨rfl, rfl⟩) | (go_at_call 15; refine (crewB_any _ _).mono ?_; rintro E w' ⟨rfl, rfl⟩) | (go_at_call 22; refine (hasB_any _ _ _).mono ?_; rintro E w' ⟨rfl, rfl⟩))
    go_ret
    exact ⟨rfl, unhide HB⟩
  · rw [h0]
    have g1 : nodeB fr = true := decide_eq_true h1
    have g2 : crewB me = true := decide_eq_true h2
    have g3 : hasB me fr = true := by unfold hasB; simp only at h3; rw [h3, g1, g2]; rfl
    simp only at h2 h4
    have HV := hide (viewError_ok me mo sl)
    by_cases hv : vErr me mo sl = 0
    · rw [hv] at HV
      have hvv : ¬ (-1048576 ≤ va ∧ va ≤ 1048576) := fun h => h4 (by
        unfold vErr at hv
        by_cases hh : (0 ≤ me ∧ me ≤ 65535) ∧ (0 ≤ mo ∧ mo ≤ 3) ∧ 0 ≤ sl ∧ sl ≤ 1000000
        · exact ⟨hh.2.1.1, hh.2.1.2, hh.2.2.1, hh.2.2.2, h.1, h.2⟩
        · rw [if_neg hh] at hv; cases hv)
      clear h0 h1 h2 h3 h4 hv
      by_cases hva : va < -1048576
      · go_enter Tryz.func44, Tryz.ntmps44
        go_wp2_with (first | (go_at_call 38; refine (nodeB_any _ _).mono ?_; rintro E w' ⟨rfl, rfl⟩) | (go_at_call 15; refine (crewB_any _ _).mono ?_; rintro E w' ⟨rfl, rfl⟩) | (go_at_call 22; refine (hasB_any _ _ _).mono ?_; rintro E w' ⟨rfl, rfl⟩))
        refine (unhide HV _).mono ?_
        rintro E w1 ⟨rfl, hB⟩
        have HB1 := hide ((unhide HB).trans (hB.mono (unhide HB).size))
        have q4 := below_cell hB (p := ⟨w.heap.size, 4, none⟩) (v := .int .i64 va) (by simp)
        clear hB
        go_wp2_with fail
        go_ret
        exact ⟨rfl, unhide HB1⟩
      · have hva2 : 1048576 < va := by omega
        go_enter Tryz.func44, Tryz.ntmps44
        go_wp2_with (first | (go_at_call 38; refine (nodeB_any _ _).mono ?_; rintro E w' ⟨rfl, rfl⟩) | (go_at_call 15; refine (crewB_any _ _).mono ?_; rintro E w' ⟨rfl, rfl⟩) | (go_at_call 22; refine (hasB_any _ _ _).mono ?_; rintro E w' ⟨rfl, rfl⟩))
        refine (unhide HV _).mono ?_
        rintro E w1 ⟨rfl, hB⟩
        have HB1 := hide ((unhide HB).trans (hB.mono (unhide HB).size))
        have q4 := below_cell hB (p := ⟨w.heap.size, 4, none⟩) (v := .int .i64 va) (by simp)
        clear hB
        go_wp2_with fail
        go_ret
        exact ⟨rfl, unhide HB1⟩
    · have hv2 : vErr me mo sl = 2 := by
        unfold vErr at hv ⊢
        split
        · rename_i hh; rw [if_pos hh] at hv; exact absurd rfl hv
        · rfl
      rw [hv2] at HV
      clear h0 h1 h2 h3 h4 hv hv2
      go_enter Tryz.func44, Tryz.ntmps44
      go_wp2_with (first | (go_at_call 38; refine (nodeB_any _ _).mono ?_; rintro E w' ⟨rfl, rfl⟩) | (go_at_call 15; refine (crewB_any _ _).mono ?_; rintro E w' ⟨rfl, rfl⟩) | (go_at_call 22; refine (hasB_any _ _ _).mono ?_; rintro E w' ⟨rfl, rfl⟩))
      refine (unhide HV _).mono ?_
      rintro E w1 ⟨rfl, hB⟩
      have HB1 := hide ((unhide HB).trans (hB.mono (unhide HB).size))
      clear hB
      go_wp2_with fail
      go_ret
      exact ⟨rfl, unhide HB1⟩
  · rw [h0]
    have g1 : nodeB fr = true := decide_eq_true h1
    have g2 : crewB me = true := decide_eq_true h2
    have g3 : hasB me fr = true := by unfold hasB; simp only at h3; rw [h3, g1, g2]; rfl
    simp only at h2 h4
    have HV := hide (viewError_ok me mo sl)
    rw [show vErr me mo sl = 0 from if_pos ⟨h2, ⟨h4.1, h4.2.1⟩, h4.2.2.1, h4.2.2.2.1⟩] at HV
    have hva : -1048576 ≤ va := h4.2.2.2.2.1
    have hva2 : va ≤ 1048576 := h4.2.2.2.2.2
    clear h0 h1 h2 h3 h4
    go_enter Tryz.func44, Tryz.ntmps44
    go_wp2_with (first | (go_at_call 38; refine (nodeB_any _ _).mono ?_; rintro E w' ⟨rfl, rfl⟩) | (go_at_call 15; refine (crewB_any _ _).mono ?_; rintro E w' ⟨rfl, rfl⟩) | (go_at_call 22; refine (hasB_any _ _ _).mono ?_; rintro E w' ⟨rfl, rfl⟩))
    refine (unhide HV _).mono ?_
    rintro E w1 ⟨rfl, hB⟩
    have HB1 := hide ((unhide HB).trans (hB.mono (unhide HB).size))
    have q4 := below_cell hB (p := ⟨w.heap.size, 4, none⟩) (v := .int .i64 va) (by simp)
    clear hB
    go_wp2_with fail
    go_ret
    exact ⟨rfl, unhide HB1⟩
theorem drop_byte (t : ByteArray) (k : Nat) (h : k < t.size) : t.data.toList.drop k = t[k] :: t.data.toList.drop (k + 1) := by
  rw [List.drop_eq_getElem_cons (by simpa using h)]
  rfl
theorem sumB_lt (l : List UInt8) : (sumB l).1 < 65521 ∧ (sumB l).2 < 65521 := by
  cases l with
  | nil => exact ⟨by decide, by decide⟩
  | cons b l => exact ⟨Nat.mod_lt _ (by decide), Nat.mod_lt _ (by decide)⟩
set_option maxHeartbeats 1000000 in
theorem sumOf_ok (s : ByteArray) (hs : s.size ≤ maxLen) (w : World) : Calls Tryz.prog 43 #[.string s] w fun e w' => e = .returned (.int .i64 (sumF s.data.toList : Nat)) ∧ w' = w := by
  unfold maxLen at hs
  go_enter Tryz.func43, Tryz.ntmps43
  go_wp2
  go_loop [3, 4, 5] (fun p n i => ∃ k pn nn : Nat, k ≤ s.size ∧ i = .int .i64 ((k : Int) - 1) ∧ p = .int .i64 pn ∧ n = .int .i64 nn ∧ pn < 65521 ∧ nn < 65521 ∧ Hid ((nn, pn) = sumB (s.data.toList.drop k))) (fun _ _ i => (intOf i + 1).toNat)
  case atStart => exact ⟨s.size, 1, 0, Nat.le_refl _, by first | rfl | go_num, rfl, rfl, by omega, by omega, by show _ = _; rw [List.drop_of_length_le (by simp)]; rfl⟩
  case round =>
    obtain ⟨k, pn, nn, hk, rfl, rfl, rfl, hp, hn, HS⟩ := hrel
    by_cases hlt : 0 < k
    · obtain ⟨j, rfl⟩ : ∃ j, k = j + 1 := ⟨k - 1, by omega⟩
      have hj : j < s.size := by omega
      have HS2 : Hid (sumB (s.data.toList.drop j) = ((nn + pn * (s[j].toNat + 1)) % 65521, pn * 257 % 65521)) := by
        show _ = _
        rw [drop_byte s j hj, sumB, ← unhide HS]
      have hb := s[j].toNat_lt
      have hm1 : pn * (s[j].toNat + 1) ≤ 65520 * 256 := Nat.mul_le_mul (by omega) (by omega)
      have hm2 : (pn : Int) * ((s[j].toNat : Int) + 1) = ((pn * (s[j].toNat + 1) : Nat) : Int) := by simp
      have hm3 : 0 ≤ (pn : Int) * ((s[j].toNat : Int) + 1) := by rw [hm2]; omega
      have hm4 : (pn : Int) * ((s[j].toNat : Int) + 1) ≤ 16773120 := by rw [hm2]; omega
      have ej : ((j + 1 : Nat) : Int) - 1 = (j : Int) := by omega
      rw [ej]
      clear hm1 hm2 ej
      go_wp2
      go_round
      case rel =>
        refine ⟨j, pn * 257 % 65521, (nn + pn * (s[j].toNat + 1)) % 65521, by omega, rfl, ?_, ?_, Nat.mod_lt _ (by decide), Nat.mod_lt _ (by decide), (unhide HS2).symm⟩
        · congr 1
        · congr 1
      case measure => simp [intOf]
    · have hk0 : k = 0 := by omega
      subst hk0
      have HE : Hid ((nn + pn) % 65521 = sumF s.data.toList) := by
        show _ = _
        have := sumB_eq s.data.toList
        rw [List.drop_zero] at HS
        rw [← unhide HS] at this
        exact this
      go_wp2
      go_ret
      exact ⟨ret_int (by rw [← unhide HE]; omega), rfl⟩
end Go.Proofs.YtglhapkclpllfacGreatDoor
