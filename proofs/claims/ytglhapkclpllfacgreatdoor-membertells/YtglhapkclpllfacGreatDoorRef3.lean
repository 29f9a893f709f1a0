/-
  Contracts of the document's answer: CrewText.
-/
import Derived.Test.YtglhapkclpllfacGreatDoorRef1
import Derived.Test.YtglhapkclpllfacGreatDoorRefDec
namespace Go.Proofs.YtglhapkclpllfacGreatDoor
open Go.RowKit

set_option maxHeartbeats 1000000 in
theorem crewText_ok (c : Nat) (hc : c ≤ 65535) (w : World) : Calls Tryz.prog 49 #[.int .i64 c] w fun e w' => ∃ s : ByteArray, e = .returned (.string s) ∧ s.data.toList = textOf c ∧ Below w.heap.size w w' := by
  by_cases h0 : c = 0
  · subst h0
    go_enter Tryz.func49, Tryz.ntmps49
    go_wp2_with (go_at_call 15; refine (isCrew_yes 0 (by omega) _).mono ?_; rintro e w' ⟨rfl, rfl⟩)
    go_ret
    exact ⟨_, rfl, rfl, Below.refl _ _⟩
  · have h0' : ((c : Int) == 0) = false := by simp; omega
    have HT := hide (textOf_itoa c h0)
    have hlen : (ints (Cm.nodes c)).length ≤ 16 := by
      have h1 := Cm.many_le c
      have h2 := Cm.len_nodes c
      simp [ints]; omega
    have Hnode := hide (nodes_isNode c)
    obtain ⟨xs, hxs⟩ : ∃ xs, ints (Cm.nodes c) = xs := ⟨_, rfl⟩
    have HLO := hide (listOf_ok c hc)
    rw [hxs] at HT hlen Hnode HLO
    clear hxs h0
    go_enter Tryz.func49, Tryz.ntmps49
    go_wp2_with fail
    refine (isCrew_yes c hc _).mono ?_
    rintro e w1 ⟨rfl, hw1⟩
    subst hw1
    go_wp2_with fail
    refine (unhide HLO _).mono ?_
    rintro e w2 ⟨v, rfl, hv, hB2⟩
    have s1 : ∃ a c, v = .slice a xs.length c := by
      rcases hv with ⟨rfl, rfl⟩ | ⟨b, o, c, rfl, _⟩
      · exact ⟨_, _, rfl⟩
      · exact ⟨_, _, rfl⟩
    obtain ⟨ad, cap, rfl⟩ := s1
    have hcells : ∀ k, k < xs.length → ∃ b off, ad = some ⟨b, off, none⟩ ∧ w2.cell? ⟨b, off + k, none⟩ = some (.int .i64 (xs.getD k 0)) := fun k hk => by
      rcases hv with ⟨_, rfl⟩ | ⟨b, o, c, e, hc⟩
      · exact absurd hk (by simp)
      · cases e
        exact ⟨b, o, rfl, hc k hk⟩
    have HV := hide hcells
    have HB2 := hide hB2
    obtain ⟨n, hn'⟩ : ∃ n, xs.length = n := ⟨_, rfl⟩
    have Hl : Hid (xs.length = n) := hn'
    rw [hn'] at hlen ⊢
    clear hn' hv hcells hB2
    go_wp2
    go_loopw [4, 6] (fun s i wr => ∃ (k : Nat) (sb : ByteArray), k ≤ n ∧ i = .int .i64 k ∧ s = .string sb ∧ sb.size ≤ 22 * k ∧ Hid (sb.data.toList = Lib.join ((xs.take k).map Lib.itoa) [44]) ∧ Hid (Below w2.heap.size w2 wr)) (fun _ i _ => n - (intOf i).toNat)
    case atStart => exact ⟨0, ⟨#[]⟩, by omega, rfl, rfl, by decide, rfl, Below.refl _ _⟩
    case round =>
      obtain ⟨k, sb, hk, rfl, rfl, hsz, Hs, HBr⟩ := hrel
      by_cases hlt : k < n
      · obtain ⟨b, off, rfl, hc0⟩ := unhide HV k (by rw [unhide Hl]; exact hlt)
        obtain ⟨x, hx⟩ : ∃ x, xs.getD k 0 = x := ⟨_, rfl⟩
        rw [hx] at hc0
        have hc1 := below_cell (unhide HBr) hc0
        have HX := hide hx
        have Hn : Hid (Cm.isNode x) := by
          show Cm.isNode x
          rw [← hx]
          exact unhide Hnode _ (getD_mem xs k (by rw [unhide Hl]; exact hlt))
        have HD := hide (decimal_ok x (by have := (unhide Hn).1; omega) (by have := (unhide Hn).2; omega))
        have Hj : Hid (Lib.join ((xs.take (k + 1)).map Lib.itoa) [44] = if k = 0 then Lib.itoa x else Lib.join ((xs.take k).map Lib.itoa) [44] ++ 44 :: Lib.itoa x) := by
          show _ = _
          rw [take_snoc_getD xs k (by rw [unhide Hl]; exact hlt), hx, List.map_append, List.map_cons, List.map_nil, join_snoc, List.length_map, List.length_take, unhide Hl, Nat.min_eq_left (by omega)]
        have Hil : Hid ((Lib.itoa x).length ≤ 20) := itoa_len x (by have := (unhide Hn).1; omega) (by have := (unhide Hn).2; omega)
        clear hx hc0
        by_cases hk0 : k = 0
        · have hgt : ¬ (0 : Int) < (k : Int) := by omega
          have Hk0 := hide hk0
          clear hk0
          go_wp2_with (go_at_call 48; refine (unhide HD _).mono ?_; rintro e w' ⟨s1, rfl, hs1, hB1⟩; have HS1 := hide hs1; have hz : s1.size ≤ 20 := size_of hs1 (unhide Hil); have HB1 := hide hB1; clear hs1 hB1)
          go_roundw
          case rel => exact ⟨k + 1, sb ++ s1, by omega, by go_num, rfl, by rw [ByteArray.size_append]; omega, by
            show _ = _
            rw [unhide Hj, if_pos (unhide Hk0), cat_data, unhide Hs, unhide HS1, unhide Hk0]; rfl, (unhide HBr).trans ((unhide HB1).mono (unhide HBr).size)⟩
          case measure => simp [intOf]; omega
        · have hgt : (0 : Int) < (k : Int) := by omega
          have Hk0 := hide hk0
          clear hk0
          go_wp2_with (go_at_call 48; refine (unhide HD _).mono ?_; rintro e w' ⟨s1, rfl, hs1, hB1⟩; have HS1 := hide hs1; have hz : s1.size ≤ 20 := size_of hs1 (unhide Hil); have HB1 := hide hB1; clear hs1 hB1)
          go_roundw
          case rel => exact ⟨k + 1, sb ++ ⟨#[44]⟩ ++ s1, by omega, by go_num, rfl, by rw [ByteArray.size_append, ByteArray.size_append]; show sb.size + 1 + s1.size ≤ _; omega, by
            show _ = _
            rw [unhide Hj, if_neg (unhide Hk0), cat_data, cat_data, unhide Hs, unhide HS1]; simp, (unhide HBr).trans ((unhide HB1).mono (unhide HBr).size)⟩
          case measure => simp [intOf]; omega
      · have hkn : k = n := by omega
        subst hkn
        go_wp2
        go_ret
        exact ⟨_, rfl, by rw [unhide Hs, unhide HT, List.take_of_length_le (by rw [unhide Hl]; exact Nat.le_refl _)], (unhide HB2).trans ((unhide HBr).mono (unhide HB2).size)⟩
theorem crewText_no (c : Int) (h : ¬ okC c) (w : World) : Calls Tryz.prog 49 #[.int .i64 c] w fun e w' => e = .returned (.string ⟨#[]⟩) ∧ w' = w := by
  have h' : c < 0 ∨ 65535 < c := by unfold okC at h; omega
  go_enter Tryz.func49, Tryz.ntmps49
  go_wp2_with (go_at_call 15; refine (isCrew_no c h' _).mono ?_; rintro e w' ⟨rfl, rfl⟩)
  go_ret
  exact ⟨rfl, rfl⟩
end Go.Proofs.YtglhapkclpllfacGreatDoor
