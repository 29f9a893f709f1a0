/-
  Contracts of the document's answer: Cut (a text cut by a byte), NumberOf (a number in digits).
-/
import Derived.Test.YtglhapkclpllfadGreatDoorRef3
namespace Go.Proofs.YtglhapkclpllfadGreatDoor
open Go.RowKit

theorem Tryz.infoStr' : (Tryz.prog.info? 9).map (fun i => (i.zero, i.size, i.bytes)) = some (some (.string ⟨#[]⟩), 1, 16) := by kernel_rfl

/-- What the loop of Cut keeps: the words that are cut off, and that the word that has begun has no such byte. -/
def cutInv (c : UInt8) (l : List UInt8) (ss : List ByteArray) (fr i : Nat) : Prop :=
  spl c l = ss.map (·.data.toList) ++ spl c (l.drop fr) ∧ (∀ x ∈ (l.drop fr).take (i - fr), x ≠ c) ∧ ss.length ≤ fr
theorem cutInv_hit {c : UInt8} {l : List UInt8} {ss : List ByteArray} {fr i : Nat} (h : cutInv c l ss fr i) (hf : fr ≤ i) (hi : i < l.length) (hc : l[i] = c) (s : ByteArray) (hs : s.data.toList = (l.drop fr).take (i - fr)) : cutInv c l (ss ++ [s]) (i + 1) (i + 1) := by
  obtain ⟨h1, h2, h3⟩ := h
  refine ⟨?_, ?_, ?_⟩
  · have e : l.drop fr = (l.drop fr).take (i - fr) ++ c :: l.drop (i + 1) := by
      conv => lhs; rw [← List.take_append_drop (i - fr) (l.drop fr)]
      rw [List.drop_drop, show fr + (i - fr) = i by omega, List.drop_eq_getElem_cons hi, hc]
    rw [h1, e, spl_word c _ _ h2, List.map_append, List.append_assoc]
    simp [hs]
  · simp
  · simp; omega
theorem cutInv_miss {c : UInt8} {l : List UInt8} {ss : List ByteArray} {fr i : Nat} (h : cutInv c l ss fr i) (hf : fr ≤ i) (hi : i < l.length) (hc : l[i] ≠ c) : cutInv c l ss fr (i + 1) := by
  obtain ⟨h1, h2, h3⟩ := h
  refine ⟨h1, fun x hx => ?_, h3⟩
  rw [show i + 1 - fr = (i - fr) + 1 by omega, List.take_succ_eq_append_getElem (by simp; omega)] at hx
  rcases List.mem_append.1 hx with hx | hx
  · exact h2 x hx
  · simp at hx
    rw [hx]
    simpa [show fr + (i - fr) = i by omega] using hc
theorem cutInv_end {c : UInt8} {l : List UInt8} {ss : List ByteArray} {fr : Nat} (h : cutInv c l ss fr l.length) (s : ByteArray) (hs : s.data.toList = l.drop fr) : (ss ++ [s]).map (·.data.toList) = spl c l := by
  obtain ⟨h1, h2, h3⟩ := h
  rw [List.take_of_length_le (by simp)] at h2
  rw [h1, spl_last c _ h2, List.map_append]
  simp [hs]

set_option maxHeartbeats 1000000 in
theorem cutAll_ok (s : ByteArray) (c : UInt8) (hs : s.size ≤ 4294967296) (w : World) :
    Calls Tryz.prog 27 #[.string s, .int .u8 (c.toNat : Int)] w fun e w' => ∃ v, e = .returned v ∧ StrsAt w' v (spl c s.data.toList) ∧ Below w.heap.size w w' := by
  obtain ⟨i0, hi, hz0, hz1, hz2⟩ := info_parts Tryz.infoStr'
  go_enter Tryz.func27, Tryz.ntmps27
  go_wp2
  go_loopw [5, 6, 7] (fun v f i wr => ∃ (fr k : Nat) (ss : List ByteArray), fr ≤ k ∧ k ≤ s.size ∧ f = .int .i64 fr ∧ i = .int .i64 k ∧ ss.length ≤ fr ∧ Hid (cutInv c s.data.toList ss fr k) ∧ wr.ownsRow w.heap.size 9 1 v ss.length (ss.map Value.string) ∧ Below w.heap.size w wr) (fun _ _ i _ => s.size - (intOf i).toNat)
  case atStart => exact ⟨0, 0, [], by omega, by omega, rfl, rfl, by simp, ⟨by simp, by simp, by simp⟩, World.ownsRow_nil _ _ _ _, Below.refl _ _⟩
  case round =>
    obtain ⟨fr, k, ss, hfk, hk, rfl, rfl, hss, Hinv, hrow, hB⟩ := hrel
    by_cases hlt : k < s.size
    · by_cases hc : s[k] = c
      · have hc' : ((s[k].toNat : Int) == (c.toNat : Int)) = true := by rw [hc]; simp
        go_wp2_with (at_builtin; refine wpList_append_own _ rfl _ _ 56 rfl w.heap.size 9 i0 (.string ⟨#[]⟩) 1 16 Tryz.underlying56 hi hz0 hz1 hz2 rfl (by decide) _ _ _ rfl (hrow.alloc _) ⟨_, 0, none⟩ 1 1 [.string (s.extract fr k)] rfl rfl (cell_one_new _ _ _) (by simp [Value.oneCell']) (by unfold maxLen; omega) (by omega) (by have := hB.size; simp; omega) ?_; intro v' w1 hown' hgrow _)
        go_roundw
        case rel =>
          exact ⟨k + 1, k + 1, ss ++ [s.extract fr k], by omega, by omega, rfl, rfl, by simp; omega, hide (cutInv_hit (unhide Hinv) hfk (by simpa using hlt) (by simp; exact hc) _ (Lib.extract_data _ _ _)), by simpa using hown', below_append hB hrow hgrow hB.size⟩
        case measure => simp only [intOf]; omega
      · have hc' : ((s[k].toNat : Int) == (c.toNat : Int)) = false := by
          simp only [beq_eq_false_iff_ne, ne_eq]; intro h; exact hc (UInt8.toNat_inj.1 (by omega))
        go_wp2
        go_roundw
        case rel =>
          exact ⟨fr, k + 1, ss, by omega, by omega, rfl, rfl, hss, hide (cutInv_miss (unhide Hinv) hfk (by simpa using hlt) (by simp; exact hc)), hrow, hB⟩
        case measure => simp only [intOf]; omega
    · have hks : k = s.size := by omega
      subst hks
      go_wp2_with (at_builtin; refine wpList_append_own _ rfl _ _ 56 rfl w.heap.size 9 i0 (.string ⟨#[]⟩) 1 16 Tryz.underlying56 hi hz0 hz1 hz2 rfl (by decide) _ _ _ rfl (hrow.alloc _) ⟨_, 0, none⟩ 1 1 [.string (s.extract fr s.size)] rfl rfl (cell_one_new _ _ _) (by simp [Value.oneCell']) (by unfold maxLen; omega) (by omega) (by have := hB.size; simp; omega) ?_; intro v' w1 hown' hgrow _)
      go_ret
      refine ⟨_, rfl, ?_, below_append hB hrow hgrow hB.size⟩
      rw [← cutInv_end (c := c) (l := s.data.toList) (ss := ss) (fr := fr) (by simpa using unhide Hinv) (s.extract fr s.size) (by rw [Lib.extract_data, List.take_of_length_le (by simp)])]
      exact strsAt_of_owns (by simpa using hown')
end Go.Proofs.YtglhapkclpllfadGreatDoor
