/-
  The contract of the document's answer, chapter 9: HistoryText.
-/
import Derived.Test.YtglhapkclpllfadGreatDoorRefFold1
import Derived.Test.YtglhapkclpllfadGreatDoorRefSigned
namespace Go.Proofs.YtglhapkclpllfadGreatDoor
open Go.RowKit Go.Shelf

/-- The text of the first k entries. -/
def preL (l : List Ent) (k : Nat) : List UInt8 := Lib.join ((l.take k).map wordE) [44]
theorem join_snocE (c : UInt8) : ∀ (ws : List (List UInt8)) (x : List UInt8), Lib.join (ws ++ [x]) [c] = Lib.join ws [c] ++ (if ws.length = 0 then [] else [c]) ++ x
  | [], x => by simp [Lib.join, List.intercalate]
  | [w], x => by simp [Lib.join, List.intercalate]
  | w :: y :: ws, x => by
    have ih := join_snocE c (y :: ws) x
    have e1 : Lib.join (w :: y :: ws ++ [x]) [c] = w ++ c :: Lib.join (y :: ws ++ [x]) [c] := by simp [Lib.join, List.intercalate]
    have e2 : Lib.join (w :: y :: ws) [c] = w ++ c :: Lib.join (y :: ws) [c] := by simp [Lib.join, List.intercalate]
    rw [e1, e2, ih]
    simp
theorem preL_zero (l : List Ent) : preL l 0 = [] := rfl
theorem preL_succ (l : List Ent) (k : Nat) (h : k < l.length) : preL l (k + 1) = preL l k ++ (if k = 0 then [] else [44]) ++ wordE (l.getD k Ent.zero) := by
  unfold preL
  rw [List.take_succ_eq_append_getElem h, List.map_append, List.map_cons, List.map_nil, join_snocE, List.getD_eq_getElem?_getD, List.getElem?_eq_getElem h, Option.getD_some, List.length_map, List.length_take, Nat.min_eq_left (Nat.le_of_lt h)]
theorem preL_all (l : List Ent) (h : l.length ≠ 0) : preL l l.length = histL l := by
  unfold preL histL
  rw [if_neg h, List.take_of_length_le (Nat.le_refl _)]
theorem word_len {i : Nat} {e : Ent} (h : entErr i e = 0) : (wordE e).length ≤ 11 := by
  obtain ⟨_, h2, h3, _⟩ := ent_right h
  have a := itoa_short e.src 1 (by omega) (by omega)
  have b := itoa_value e.value h3.1 h3.2
  unfold wordE
  rw [List.length_append]
  split
  · rw [List.length_cons]; omega
  · simp; omega
theorem preL_len {l : List Ent} (h : histOk l) : ∀ k, k ≤ l.length → (preL l k).length ≤ 12 * k
  | 0, _ => by rw [preL_zero]; simp
  | k + 1, hk => by
    have ih := preL_len h k (by omega)
    have hw := word_len (h.2 k (by omega))
    rw [preL_succ l k (by omega), List.length_append, List.length_append]
    have : (if k = 0 then ([] : List UInt8) else [44]).length ≤ 1 := by split <;> simp
    omega
theorem histL_len {l : List Ent} (h : histOk l) : (histL l).length ≤ 12 * l.length + 1 := by
  by_cases h0 : l.length = 0
  · unfold histL; rw [if_pos h0]; simp
  · have := preL_len h l.length (Nat.le_refl _)
    rw [preL_all l h0] at this
    omega
set_option maxRecDepth 100000 in
set_option maxHeartbeats 1000000 in
theorem histText_ok (v : Value) (l : List Ent) (w : World) (hv : EntsIn w v l) (h : histOk l) :
    Calls Tryz.prog 13 #[v] w fun e w' => ∃ s : ByteArray, e = .returned (.string s) ∧ s.data.toList = histL l ∧ Below w.heap.size w w' := by
  obtain ⟨ad, cap, rfl, hc0⟩ := EntsIn.far hv
  have h200 := h.1
  by_cases h0 : l.length = 0
  · have HT : Hid (histL l = [45]) := by unfold histL Hid; rw [if_pos h0]
    rw [h0]
    clear hv hc0 h h200 h0
    go_enter Tryz.func13, Tryz.ntmps13
    go_wp2
    go_ret
    exact ⟨_, rfl, by rw [unhide HT], Below.refl _ _⟩
  · have HC0 := hide hc0
    have HAll := hide (preL_all l h0)
    have HLen := hide (fun k hk => preL_len h k hk)
    have HOk := hide h.2
    have HSucc := hide (fun k hk => preL_succ l k hk)
    obtain ⟨n, hn⟩ : ∃ n, l.length = n := ⟨_, rfl⟩
    rw [hn] at HC0 HAll HLen HOk HSucc h200 h0 ⊢
    have h0' : ¬ (n : Int) = 0 := by omega
    have h0b : ((n : Int) == 0) = false := by simp; omega
    clear hv hc0 h hn
    go_enter Tryz.func13, Tryz.ntmps13
    go_wp2
    go_loopw [3, 4] (fun s i wr => ∃ (k : Nat) (t : ByteArray), k ≤ n ∧ i = .int .i64 k ∧ s = .string t ∧ Hid (t.data.toList = preL l k) ∧ Hid (Below w.heap.size w wr)) (fun _ i _ => n - (intOf i).toNat)
    case atStart => exact ⟨0, _, by omega, rfl, rfl, rfl, Below.refl _ _⟩
    case round =>
      obtain ⟨k, t, hk, rfl, rfl, Ht, HB⟩ := hrel
      by_cases hlt : k < n
      · obtain ⟨b1, o1, rfl, f0, f1, f2, f3⟩ := unhide HC0 wr (unhide HB) k hlt
        have hw := unhide HOk k hlt
        have hs := unhide HSucc k hlt
        have hz := size_of (unhide Ht) (unhide HLen k hk)
        generalize l.getD k Ent.zero = x at *
        obtain ⟨_, x2, x3, _⟩ := ent_right hw
        have HS1 := hide (signed_ok x.src (by omega) (by omega))
        have HS2 := hide (signed_ok x.value (by omega) (by omega))
        have HI1 : Hid ((Lib.itoa x.src).length ≤ 2) := itoa_short x.src 1 (by omega) (by omega)
        have HI2 : Hid ((Lib.itoa x.value).length ≤ 8) := itoa_value x.value x3.1 x3.2
        have HD : Hid (∀ q : ByteArray, q.data.toList = preL l k ++ (if k = 0 then [] else [44]) ++ wordE x → q.data.toList = preL l (k + 1)) := fun q hq => hq.trans hs.symm
        clear hw hs x2 x3
        unfold wordE at HD
        obtain ⟨xs, xsrc, xh, xv⟩ := x
        simp only at f0 f1 f2 f3 HS1 HS2 HI1 HI2 HD
        have HB1 := hide (unhide HB)
        by_cases hk0 : k = 0
        · subst hk0
          rw [if_pos rfl] at HD
          cases xh with
          | true =>
              rw [if_pos rfl] at HD
              go_wp2_with fail
              refine (unhide HS1 _).mono ?_
              rintro E w2 ⟨s1, rfl, hs1, hB2⟩
              have z1 := size_of hs1 (unhide HI1)
              have f2 := below_cell hB2 f2
              have f3 := below_cell hB2 f3
              have HB3 := hide ((unhide HB1).trans (hB2.mono (unhide HB1).size))
              have Hs1 := hide hs1
              clear hs1 hB2
              go_wp2_with fail
              refine (unhide HS2 _).mono ?_
              rintro E w3 ⟨s2, rfl, hs2, hB4⟩
              have z2 := size_of hs2 (unhide HI2)
              have HB5 := hide ((unhide HB3).trans (hB4.mono (unhide HB3).size))
              have Hs2 := hide hs2
              clear hs2 hB4
              go_wp2_with fail
              go_roundw
              case rel => exact ⟨0 + 1, _, by omega, by go_num, rfl, unhide HD _ (by simp only [cat_data, unhide Ht, unhide Hs1, unhide Hs2]; simp), unhide HB5⟩
              case measure => simp [intOf]; omega
          | false =>
              rw [if_neg (by decide)] at HD
              go_wp2_with fail
              refine (unhide HS1 _).mono ?_
              rintro E w2 ⟨s1, rfl, hs1, hB2⟩
              have z1 := size_of hs1 (unhide HI1)
              have f2 := below_cell hB2 f2
              have f3 := below_cell hB2 f3
              have HB3 := hide ((unhide HB1).trans (hB2.mono (unhide HB1).size))
              have Hs1 := hide hs1
              clear hs1 hB2
              go_wp2_with fail
              go_roundw
              case rel => exact ⟨0 + 1, _, by omega, by go_num, rfl, unhide HD _ (by simp only [cat_data, unhide Ht, unhide Hs1]; simp), unhide HB3⟩
              case measure => simp [intOf]; omega
        · rw [if_neg hk0] at HD
          have hk1 : (0 : Int) < (k : Int) := by omega
          cases xh with
          | true =>
              rw [if_pos rfl] at HD
              go_wp2_with fail
              refine (unhide HS1 _).mono ?_
              rintro E w2 ⟨s1, rfl, hs1, hB2⟩
              have z1 := size_of hs1 (unhide HI1)
              have f2 := below_cell hB2 f2
              have f3 := below_cell hB2 f3
              have HB3 := hide ((unhide HB1).trans (hB2.mono (unhide HB1).size))
              have Hs1 := hide hs1
              clear hs1 hB2
              go_wp2_with fail
              refine (unhide HS2 _).mono ?_
              rintro E w3 ⟨s2, rfl, hs2, hB4⟩
              have z2 := size_of hs2 (unhide HI2)
              have HB5 := hide ((unhide HB3).trans (hB4.mono (unhide HB3).size))
              have Hs2 := hide hs2
              clear hs2 hB4
              go_wp2_with fail
              go_roundw
              case rel => exact ⟨k + 1, _, by omega, by go_num, rfl, unhide HD _ (by simp only [cat_data, unhide Ht, unhide Hs1, unhide Hs2]; simp), unhide HB5⟩
              case measure => simp [intOf]; omega
          | false =>
              rw [if_neg (by decide)] at HD
              go_wp2_with fail
              refine (unhide HS1 _).mono ?_
              rintro E w2 ⟨s1, rfl, hs1, hB2⟩
              have z1 := size_of hs1 (unhide HI1)
              have f2 := below_cell hB2 f2
              have f3 := below_cell hB2 f3
              have HB3 := hide ((unhide HB1).trans (hB2.mono (unhide HB1).size))
              have Hs1 := hide hs1
              clear hs1 hB2
              go_wp2_with fail
              go_roundw
              case rel => exact ⟨k + 1, _, by omega, by go_num, rfl, unhide HD _ (by simp only [cat_data, unhide Ht, unhide Hs1]; simp), unhide HB3⟩
              case measure => simp [intOf]; omega
      · have : k = n := by omega
        subst this
        go_wp2
        go_ret
        exact ⟨_, rfl, by rw [unhide Ht, unhide HAll], unhide HB⟩
end Go.Proofs.YtglhapkclpllfadGreatDoor
