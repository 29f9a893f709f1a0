/-
  Contracts of the document's answer: Byte, below, Decimal (the decimal digits of any number), CrewText.
-/
import Derived.Test.YtjghgjkfnhmnkaaGreatDoorRef2
import Derived.Laws.IdiomStrings
namespace Go.Proofs.YtjghgjkfnhmnkaaGreatDoor
open Go.RowKit

theorem byte_ok (b : UInt8) (w : World) : Calls Tryz.prog 71 #[.int .i64 (b.toNat : Int)] w fun e w' => e = .returned (.string ⟨#[b]⟩) ∧ Below w.heap.size w w' := by
  have hlt : b.toNat < 256 := b.toNat_lt
  have hcv := run_convert_bytes_back (P := Tryz.prog) (w.alloc (.cells #[.int .u8 (b.toNat : Int)] 5)) 80 9 5 ⟨w.heap.size, 0, none⟩ 1 [b] Tryz.underlying80 Tryz.underlying5 Tryz.underlying9 (fun j hj => by
    have : j = 0 := by simpa using hj
    subst this
    simp [Addr.add])
  simp only [List.length_cons, List.length_nil, Nat.zero_add] at hcv
  generalize b.toNat = n at *
  go_enter Tryz.func71, Tryz.ntmps71
  go_wp2
  go_ret
  exact ⟨rfl, (Below.refl _ _).alloc (Nat.le_refl _) _⟩
theorem digit_nat (d : Nat) (h : d < 10) : (UInt8.ofNat (48 + d)).toNat = 48 + d := by
  rw [UInt8.toNat_ofNat']; omega
theorem cat_data (a b : ByteArray) : (a ++ b).data.toList = a.data.toList ++ b.data.toList := by
  simp
theorem dec_len : ∀ k m, m < 10 ^ (k + 1) → (Lib.decDigits m).length ≤ k + 1
  | 0, m, h => by rw [dec_small m (by simpa using h)]; simp
  | k + 1, m, h => by
    by_cases h10 : m < 10
    · rw [dec_small m h10]; simp
    · have ih := dec_len k (m / 10) (by rw [Nat.pow_succ] at h; omega)
      rw [Lib.decDigits, dif_neg h10, List.length_append]
      simp; omega
theorem size_of {s : ByteArray} {l : List UInt8} {k : Nat} (h : s.data.toList = l) (hk : l.length ≤ k) : s.size ≤ k := by
  have : s.size = s.data.toList.length := by simp
  rw [this, h]; exact hk
theorem itoa_len (n : Int) (h0 : -9223372036854775808 ≤ n) (h1 : n ≤ 9223372036854775807) : (Lib.itoa n).length ≤ 20 := by
  unfold Lib.itoa
  split
  · have := dec_len 18 n.natAbs (by omega)
    simp; omega
  · have := dec_len 18 n.toNat (by omega)
    omega
set_option maxHeartbeats 1000000 in
theorem below_ok : ∀ (m : Nat), m ≤ 9223372036854775808 → ∀ w : World, Calls Tryz.prog 57 #[.int .i64 (-(m : Int))] w fun e w' => ∃ s : ByteArray, e = .returned (.string s) ∧ s.data.toList = Lib.decDigits m ∧ Below w.heap.size w w' := by
  intro m
  induction m using Nat.strongRecOn with
  | _ m ih =>
    intro hm w
    by_cases h10 : m < 10
    · have h1 : (-10 : Int) < -(m : Int) := by omega
      have HY := hide (byte_ok (UInt8.ofNat (48 + m)))
      rw [digit_nat m h10, show ((48 + m : Nat) : Int) = 48 + (m : Int) by omega] at HY
      have Hd : Hid (Lib.decDigits m = [UInt8.ofNat (48 + m)]) := dec_small m h10
      clear ih
      go_enter Tryz.func57, Tryz.ntmps57
      go_wp2_with (go_at_call 71; refine (unhide HY _).mono ?_; rintro e w' ⟨rfl, hB⟩)
      go_ret
      exact ⟨_, rfl, by rw [unhide Hd]; simp, hB⟩
    · have h1 : ¬ (-10 : Int) < -(m : Int) := by omega
      have HI := hide (ih (m / 10) (by omega) (by omega))
      have HY := hide (byte_ok (UInt8.ofNat (48 + m % 10)))
      rw [digit_nat (m % 10) (by omega), show ((48 + m % 10 : Nat) : Int) = 48 + (m : Int) % 10 by omega] at HY
      rw [show ((m / 10 : Nat) : Int) = (m : Int) / 10 by omega] at HI
      have Hd : Hid (Lib.decDigits m = Lib.decDigits (m / 10) ++ [UInt8.ofNat (48 + m % 10)]) := by
        show _ = _
        rw [Lib.decDigits, dif_neg h10]
      clear ih
      go_enter Tryz.func57, Tryz.ntmps57
      go_wp2_with fail
      refine (unhide HI _).mono ?_
      rintro e w1 ⟨s1, rfl, hs1, hB1⟩
      have HB1 := hide hB1
      have HS1 := hide hs1
      have hz : s1.size ≤ 20 := size_of hs1 (Nat.le_trans (dec_len 18 (m / 10) (by omega)) (by omega))
      clear hB1 hs1
      go_wp2_with fail
      refine (unhide HY _).mono ?_
      rintro e w2 ⟨rfl, hB2⟩
      have HB2 := hide ((unhide HB1).trans (hB2.mono (unhide HB1).size))
      clear hB2
      go_wp2
      go_ret
      exact ⟨_, rfl, by rw [unhide Hd, cat_data, unhide HS1]; simp, unhide HB2⟩
theorem decimal_ok (n : Int) (h0 : -9223372036854775808 ≤ n) (h1 : n ≤ 9223372036854775807) (w : World) : Calls Tryz.prog 38 #[.int .i64 n] w fun e w' => ∃ s : ByteArray, e = .returned (.string s) ∧ s.data.toList = Lib.itoa n ∧ Below w.heap.size w w' := by
  by_cases hn : n < 0
  · have HB := hide (below_ok (-n).toNat (by omega))
    rw [show -(((-n).toNat : Nat) : Int) = n by omega] at HB
    have Hi : Hid (Lib.itoa n = 45 :: Lib.decDigits (-n).toNat) := by
      show _ = _
      unfold Lib.itoa
      rw [if_pos hn, show n.natAbs = (-n).toNat by omega]
    go_enter Tryz.func38, Tryz.ntmps38
    go_wp2_with (go_at_call 57; refine (unhide HB _).mono ?_; rintro e w' ⟨s1, rfl, hs, hB⟩; have HS := hide hs; have hz : s1.size ≤ 20 := size_of hs (Nat.le_trans (dec_len 18 _ (by omega)) (by omega)); clear hs)
    go_ret
    exact ⟨_, rfl, by rw [unhide Hi, cat_data, unhide HS]; rfl, hB⟩
  · have HB := hide (below_ok n.toNat (by omega))
    rw [show -((n.toNat : Nat) : Int) = -n by omega] at HB
    have Hi : Hid (Lib.itoa n = Lib.decDigits n.toNat) := by
      show _ = _
      unfold Lib.itoa
      rw [if_neg hn]
    go_enter Tryz.func38, Tryz.ntmps38
    go_wp2_with (go_at_call 57; refine (unhide HB _).mono ?_; rintro e w' ⟨s1, rfl, hs, hB⟩; have HS := hide hs; clear hs)
    go_ret
    exact ⟨_, rfl, by rw [unhide Hi, unhide HS], hB⟩

theorem joinTail_snoc (l : List (List UInt8)) (x : List UInt8) : Lib.joinTail [44] (l ++ [x]) = Lib.joinTail [44] l ++ 44 :: x := by
  simp [Lib.joinTail]
theorem join_snoc (l : List (List UInt8)) (x : List UInt8) : Lib.join (l ++ [x]) [44] = if l.length = 0 then x else Lib.join l [44] ++ 44 :: x := by
  cases l with
  | nil => simp [Lib.join_one]
  | cons y r =>
    rw [if_neg (by simp), List.cons_append, Lib.join_cons, Lib.join_cons, joinTail_snoc, List.append_assoc]
theorem textOf_itoa (c : Nat) (h : c ≠ 0) : textOf c = Lib.join ((ints (Cm.nodes c)).map Lib.itoa) [44] := by
  rw [textOf_dg c h, ← nodesF_num, List.map_map]
  congr 1
  apply List.map_congr_left
  intro x _
  exact (itoa_dg x).symm
set_option maxHeartbeats 1000000 in
theorem crewText_ok (c : Nat) (hc : c ≤ 65535) (w : World) : Calls Tryz.prog 15 #[.int .i64 c] w fun e w' => ∃ s : ByteArray, e = .returned (.string s) ∧ s.data.toList = textOf c ∧ Below w.heap.size w w' := by
  by_cases h0 : c = 0
  · subst h0
    go_enter Tryz.func15, Tryz.ntmps15
    go_wp2_with (go_at_call 29; refine (isCrew_yes 0 (by omega) _).mono ?_; rintro e w' ⟨rfl, rfl⟩)
    go_ret
    exact ⟨_, rfl, rfl, Below.refl _ _⟩
  · have h0' : ((c : Int) == 0) = false := by simp; omega
    have HT := hide (textOf_itoa c h0)
    have hlen : (ints (Cm.nodes c)).length ≤ 16 := by
      have h1 := Cm.many_le c
      have h2 := Cm.len_nodes c
      simp [ints]; omega
    have Hnode := hide (nodes_isNode c)
    obtain ⟨xs, hxs⟩ : ∃ xs, ints (Cm.nodes c) = xs := ⟨_, rfl⟩
    have HLO := hide (listOf_ok c hc)
    rw [hxs] at HT hlen Hnode HLO
    clear hxs h0
    go_enter Tryz.func15, Tryz.ntmps15
    go_wp2_with fail
    refine (isCrew_yes c hc _).mono ?_
    rintro e w1 ⟨rfl, hw1⟩
    subst hw1
    go_wp2_with fail
    refine (unhide HLO _).mono ?_
    rintro e w2 ⟨v, rfl, hv, hB2⟩
    have s1 : ∃ a c, v = .slice a xs.length c := by
      rcases hv with ⟨rfl, rfl⟩ | ⟨b, o, c, rfl, _⟩
      · exact ⟨_, _, rfl⟩
      · exact ⟨_, _, rfl⟩
    obtain ⟨ad, cap, rfl⟩ := s1
    have hcells : ∀ k, k < xs.length → ∃ b off, ad = some ⟨b, off, none⟩ ∧ w2.cell? ⟨b, off + k, none⟩ = some (.int .i64 (xs.getD k 0)) := fun k hk => by
      rcases hv with ⟨_, rfl⟩ | ⟨b, o, c, e, hc⟩
      · exact absurd hk (by simp)
      · cases e
        exact ⟨b, o, rfl, hc k hk⟩
    have HV := hide hcells
    have HB2 := hide hB2
    obtain ⟨n, hn'⟩ : ∃ n, xs.length = n := ⟨_, rfl⟩
    have Hl : Hid (xs.length = n) := hn'
    rw [hn'] at hlen ⊢
    clear hn' hv hcells hB2
    go_wp2
    go_loopw [4, 6] (fun s i wr => ∃ (k : Nat) (sb : ByteArray), k ≤ n ∧ i = .int .i64 k ∧ s = .string sb ∧ sb.size ≤ 22 * k ∧ Hid (sb.data.toList = Lib.join ((xs.take k).map Lib.itoa) [44]) ∧ Hid (Below w2.heap.size w2 wr)) (fun _ i _ => n - (intOf i).toNat)
    case atStart => exact ⟨0, ⟨#[]⟩, by omega, rfl, rfl, by decide, rfl, Below.refl _ _⟩
    case round =>
      obtain ⟨k, sb, hk, rfl, rfl, hsz, Hs, HBr⟩ := hrel
      by_cases hlt : k < n
      · obtain ⟨b, off, rfl, hc0⟩ := unhide HV k (by rw [unhide Hl]; exact hlt)
        obtain ⟨x, hx⟩ : ∃ x, xs.getD k 0 = x := ⟨_, rfl⟩
        rw [hx] at hc0
        have hc1 := below_cell (unhide HBr) hc0
        have HX := hide hx
        have Hn : Hid (Cm.isNode x) := by
          show Cm.isNode x
          rw [← hx]
          exact unhide Hnode _ (getD_mem xs k (by rw [unhide Hl]; exact hlt))
        have HD := hide (decimal_ok x (by have := (unhide Hn).1; omega) (by have := (unhide Hn).2; omega))
        have Hj : Hid (Lib.join ((xs.take (k + 1)).map Lib.itoa) [44] = if k = 0 then Lib.itoa x else Lib.join ((xs.take k).map Lib.itoa) [44] ++ 44 :: Lib.itoa x) := by
          show _ = _
          rw [take_snoc_getD xs k (by rw [unhide Hl]; exact hlt), hx, List.map_append, List.map_cons, List.map_nil, join_snoc, List.length_map, List.length_take, unhide Hl, Nat.min_eq_left (by omega)]
        have Hil : Hid ((Lib.itoa x).length ≤ 20) := itoa_len x (by have := (unhide Hn).1; omega) (by have := (unhide Hn).2; omega)
        clear hx hc0
        by_cases hk0 : k = 0
        · have hgt : ¬ (0 : Int) < (k : Int) := by omega
          have Hk0 := hide hk0
          clear hk0
          go_wp2_with (go_at_call 38; refine (unhide HD _).mono ?_; rintro e w' ⟨s1, rfl, hs1, hB1⟩; have HS1 := hide hs1; have hz : s1.size ≤ 20 := size_of hs1 (unhide Hil); have HB1 := hide hB1; clear hs1 hB1)
          go_roundw
          case rel => exact ⟨k + 1, sb ++ s1, by omega, by go_num, rfl, by rw [ByteArray.size_append]; omega, by
            show _ = _
            rw [unhide Hj, if_pos (unhide Hk0), cat_data, unhide Hs, unhide HS1, unhide Hk0]; rfl, (unhide HBr).trans ((unhide HB1).mono (unhide HBr).size)⟩
          case measure => simp [intOf]; omega
        · have hgt : (0 : Int) < (k : Int) := by omega
          have Hk0 := hide hk0
          clear hk0
          go_wp2_with (go_at_call 38; refine (unhide HD _).mono ?_; rintro e w' ⟨s1, rfl, hs1, hB1⟩; have HS1 := hide hs1; have hz : s1.size ≤ 20 := size_of hs1 (unhide Hil); have HB1 := hide hB1; clear hs1 hB1)
          go_roundw
          case rel => exact ⟨k + 1, sb ++ ⟨#[44]⟩ ++ s1, by omega, by go_num, rfl, by rw [ByteArray.size_append, ByteArray.size_append]; show sb.size + 1 + s1.size ≤ _; omega, by
            show _ = _
            rw [unhide Hj, if_neg (unhide Hk0), cat_data, cat_data, unhide Hs, unhide HS1]; simp, (unhide HBr).trans ((unhide HB1).mono (unhide HBr).size)⟩
          case measure => simp [intOf]; omega
      · have hkn : k = n := by omega
        subst hkn
        go_wp2
        go_ret
        exact ⟨_, rfl, by rw [unhide Hs, unhide HT, List.take_of_length_le (by rw [unhide Hl]; exact Nat.le_refl _)], (unhide HB2).trans ((unhide HBr).mono (unhide HB2).size)⟩
theorem crewText_no (c : Int) (h : ¬ okC c) (w : World) : Calls Tryz.prog 15 #[.int .i64 c] w fun e w' => e = .returned (.string ⟨#[]⟩) ∧ w' = w := by
  have h' : c < 0 ∨ 65535 < c := by unfold okC at h; omega
  go_enter Tryz.func15, Tryz.ntmps15
  go_wp2_with (go_at_call 29; refine (isCrew_no c h' _).mono ?_; rintro e w' ⟨rfl, rfl⟩)
  go_ret
  exact ⟨rfl, rfl⟩
end Go.Proofs.YtjghgjkfnhmnkaaGreatDoor
