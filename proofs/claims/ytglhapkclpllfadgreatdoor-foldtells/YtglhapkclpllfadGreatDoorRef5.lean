/-
  Contracts of the document's answer: NumberOf (a number in digits).
-/
import Derived.Test.YtglhapkclpllfadGreatDoorRef4
namespace Go.Proofs.YtglhapkclpllfadGreatDoor
open Go.RowKit

def numV (o : Option Int) : Value := .tuple #[.int .i64 (o.getD 0), .bool o.isSome]

theorem numNo {s t : ByteArray} {bel : Bool} {r : Value} (hN : numOf s.data.toList = if dOk bel t.data.toList then some (if bel then -(decVal t.data.toList : Int) else (decVal t.data.toList : Int)) else none) (hr : numV (numOf s.data.toList) = r) (h : ¬ dOk bel t.data.toList) : Value.tuple #[.int .i64 0, .bool false] = r := by
  rw [← hr, hN, if_neg h]; rfl

theorem num_step {t : ByteArray} {k m : Nat} (h : k < t.size) (h7 : t.size ≤ 7) (hd : isDg t[k]) (Hk : m < 10 ^ k ∧ m = decVal (t.data.toList.take k) ∧ ∀ b ∈ t.data.toList.take k, isDg b) :
    10 * m + (t[k].toNat - 48) ≤ 9999999 ∧ (10 * m + (t[k].toNat - 48) < 10 ^ (k + 1) ∧ 10 * m + (t[k].toNat - 48) = decVal (t.data.toList.take (k + 1)) ∧ ∀ b ∈ t.data.toList.take (k + 1), isDg b) := by
  obtain ⟨h1, h2, h3⟩ := Hk
  have hd' := hd
  unfold isDg at hd'
  have h4 : 10 * m + (t[k].toNat - 48) < 10 ^ (k + 1) := by rw [Nat.pow_succ]; omega
  have h5 : 10 ^ (k + 1) ≤ 10 ^ 7 := Nat.pow_le_pow_right (by omega) (by omega)
  refine ⟨by omega, h4, ?_, ?_⟩
  · rw [take_byte t k h, decVal_snoc, ← h2]
  · rw [take_byte t k h]
    intro b hb
    rcases List.mem_append.1 hb with hb | hb
    · exact h3 b hb
    · rw [List.mem_singleton.1 hb]; exact hd
theorem num_bad {t : ByteArray} {k : Nat} {bel : Bool} (h : k < t.size) (hd : ¬ isDg t[k]) : ¬ dOk bel t.data.toList := fun hk =>
  hd (hk.2.2.2.2 _ (by
    have : t[k] = t.data.toList[k]'(by simpa using h) := rfl
    rw [this]; exact List.getElem_mem _))

set_option maxHeartbeats 1000000 in
theorem number_below (s : ByteArray) (hs : s.size ≤ 4294967296) (h0 : 0 < s.size) (h45 : s[0] = 45) (w : World) :
    Calls Tryz.prog 28 #[.string s] w fun e w' => e = .returned (numV (numOf s.data.toList)) ∧ w' = w := by
  obtain ⟨r, hr⟩ : ∃ r, numV (numOf s.data.toList) = r := ⟨_, rfl⟩
  have Hr := hide hr
  rw [hr]; clear hr
  have hb : ((s[0].toNat : Int) == 45) = true := by rw [h45]; rfl
  obtain ⟨t, ht⟩ : ∃ t, s.extract 1 s.size = t := ⟨_, rfl⟩
  have htd : t.data.toList = s.data.toList.tail := by
    rw [← ht, Lib.extract_data, List.take_of_length_le (by simp), List.drop_one]
  have HN : Hid (numOf s.data.toList = if dOk true t.data.toList then some (if true then -(decVal t.data.toList : Int) else (decVal t.data.toList : Int)) else none) := by
    show _ = _
    unfold numOf
    rw [if_pos (show s.data.toList.head? = some 45 by rw [head_byte s h0, h45]), htd]; rfl
  clear htd
  have Hsz : Hid (t.size = t.data.toList.length) := by show _ = _; simp
  by_cases h1 : t.size < 1
  · first
    | (exfalso; omega)
    | (go_enter Tryz.func28, Tryz.ntmps28
       go_wp2
       go_ret2
       exact ⟨congrArg Ending.returned (numNo (unhide HN) (unhide Hr) (fun h => by have := h.1; have := unhide Hsz; omega)), rfl⟩)
  by_cases h7 : 7 < t.size
  · go_enter Tryz.func28, Tryz.ntmps28
    go_wp2
    go_ret2
    exact ⟨congrArg Ending.returned (numNo (unhide HN) (unhide Hr) (fun h => by have := h.2.1; have := unhide Hsz; omega)), rfl⟩
  have ht0 : 0 < t.size := by omega
  by_cases hz : 1 < t.size ∧ t[0] = 48
  · have hz1 := hz.1
    have hb2 : ((t[0].toNat : Int) == 48) = true := by rw [hz.2]; rfl
    have HZ := hide hz.2
    clear hz
    go_enter Tryz.func28, Tryz.ntmps28
    go_wp2
    go_ret2
    exact ⟨congrArg Ending.returned (numNo (unhide HN) (unhide Hr) (fun h => h.2.2.1 (by have := unhide Hsz; omega) (by rw [head_byte t ht0, unhide HZ]))), rfl⟩
  by_cases h48 : t.data.toList = [48]
  · have e48 : t = ⟨#[48]⟩ := by
      obtain ⟨⟨l⟩⟩ := t
      simp at h48
      rw [h48]
    clear Hsz h1 h7 ht0 hz
    subst e48
    go_enter Tryz.func28, Tryz.ntmps28
    go_wp2
    go_ret2
    exact ⟨congrArg Ending.returned (numNo (bel := true) (t := ⟨#[48]⟩) (unhide HN) (unhide Hr) (by decide)), rfl⟩
  have hne : (t.toList == [48]) = false := by rw [toList_data]; simpa using h48
  have hlead : Hid (∀ b ∈ t.data.toList, isDg b) → Hid (dOk true t.data.toList) := fun h => ⟨by have := unhide Hsz; omega, by have := unhide Hsz; omega, fun h2 => by
    rw [head_byte t ht0]; intro h3; exact hz ⟨by have := unhide Hsz; omega, by simpa using h3⟩, fun _ => h48, h⟩
  by_cases hz1 : 1 < t.size
  · have hb2 : ((t[0].toNat : Int) == 48) = false := by
      simp only [beq_eq_false_iff_ne, ne_eq]; intro h; exact hz ⟨hz1, UInt8.toNat_inj.1 (by simp; omega)⟩
    clear hz
    go_enter Tryz.func28, Tryz.ntmps28
    go_wp2
    go_loop [2, 3, 5, 6] (fun _ _ n i => ∃ k m : Nat, k ≤ t.size ∧ i = .int .i64 k ∧ n = .int .i64 m ∧ m ≤ 9999999 ∧ Hid (m < 10 ^ k ∧ m = decVal (t.data.toList.take k) ∧ ∀ b ∈ t.data.toList.take k, isDg b)) (fun _ _ _ i => t.size - (intOf i).toNat)
    case atStart => exact ⟨0, 0, by omega, rfl, rfl, by omega, by simp, by simp [decVal], by simp⟩
    case round =>
      obtain ⟨k, m, hk, rfl, rfl, hm, Hk⟩ := hrel
      by_cases hlt : k < t.size
      · by_cases hd : 48 ≤ t[k].toNat ∧ t[k].toNat ≤ 57
        · have hd1 := hd.1
          have hd2 := hd.2
          have HD : Hid (isDg t[k]) := hd
          clear hd
          go_wp2
          have Hst := num_step hlt (by omega) (unhide HD) (unhide Hk)
          refine ⟨⟨k + 1, 10 * m + (t[k].toNat - 48), by omega, by go_num, by go_num, Hst.1, Hst.2⟩, ?_⟩
          simp only [intOf]; omega
        · have HD : Hid (¬ isDg t[k]) := hd
          clear hd
          by_cases hd1 : t[k].toNat < 48
          · go_wp2
            go_ret2
            exact ⟨congrArg Ending.returned (numNo (bel := true) (unhide HN) (unhide Hr) (num_bad hlt (unhide HD))), rfl⟩
          · have hd2 : 57 < t[k].toNat := by
              have := unhide HD
              unfold isDg at this
              omega
            go_wp2
            go_ret2
            exact ⟨congrArg Ending.returned (numNo (bel := true) (unhide HN) (unhide Hr) (num_bad hlt (unhide HD))), rfl⟩
      · have hks : k = t.size := by omega
        subst hks
        have Hz := unhide Hk
        rw [List.take_of_length_le (by simp)] at Hz
        have Hf := hide Hz
        clear Hz
        go_wp2
        go_ret2
        refine ⟨?_, rfl⟩
        have h1 := unhide HN
        rw [if_pos (unhide (hlead (unhide Hf).2.2)), ← (unhide Hf).2.1] at h1
        rw [← unhide Hr, h1]
        rfl
  · clear hz
    go_enter Tryz.func28, Tryz.ntmps28
    go_wp2
    go_loop [2, 3, 5, 6] (fun _ _ n i => ∃ k m : Nat, k ≤ t.size ∧ i = .int .i64 k ∧ n = .int .i64 m ∧ m ≤ 9999999 ∧ Hid (m < 10 ^ k ∧ m = decVal (t.data.toList.take k) ∧ ∀ b ∈ t.data.toList.take k, isDg b)) (fun _ _ _ i => t.size - (intOf i).toNat)
    case atStart => exact ⟨0, 0, by omega, rfl, rfl, by omega, by simp, by simp [decVal], by simp⟩
    case round =>
      obtain ⟨k, m, hk, rfl, rfl, hm, Hk⟩ := hrel
      by_cases hlt : k < t.size
      · by_cases hd : 48 ≤ t[k].toNat ∧ t[k].toNat ≤ 57
        · have hd1 := hd.1
          have hd2 := hd.2
          have HD : Hid (isDg t[k]) := hd
          clear hd
          go_wp2
          have Hst := num_step hlt (by omega) (unhide HD) (unhide Hk)
          refine ⟨⟨k + 1, 10 * m + (t[k].toNat - 48), by omega, by go_num, by go_num, Hst.1, Hst.2⟩, ?_⟩
          simp only [intOf]; omega
        · have HD : Hid (¬ isDg t[k]) := hd
          clear hd
          by_cases hd1 : t[k].toNat < 48
          · go_wp2
            go_ret2
            exact ⟨congrArg Ending.returned (numNo (bel := true) (unhide HN) (unhide Hr) (num_bad hlt (unhide HD))), rfl⟩
          · have hd2 : 57 < t[k].toNat := by
              have := unhide HD
              unfold isDg at this
              omega
            go_wp2
            go_ret2
            exact ⟨congrArg Ending.returned (numNo (bel := true) (unhide HN) (unhide Hr) (num_bad hlt (unhide HD))), rfl⟩
      · have hks : k = t.size := by omega
        subst hks
        have Hz := unhide Hk
        rw [List.take_of_length_le (by simp)] at Hz
        have Hf := hide Hz
        clear Hz
        go_wp2
        go_ret2
        refine ⟨?_, rfl⟩
        have h1 := unhide HN
        rw [if_pos (unhide (hlead (unhide Hf).2.2)), ← (unhide Hf).2.1] at h1
        rw [← unhide Hr, h1]
        rfl
set_option maxHeartbeats 1000000 in
theorem number_not (t : ByteArray) (hs : t.size ≤ 4294967296) (h45 : t.data.toList.head? ≠ some 45) (w : World) :
    Calls Tryz.prog 28 #[.string t] w fun e w' => e = .returned (numV (numOf t.data.toList)) ∧ w' = w := by
  obtain ⟨r, hr⟩ : ∃ r, numV (numOf t.data.toList) = r := ⟨_, rfl⟩
  have Hr := hide hr
  rw [hr]; clear hr
  have HN : Hid (numOf t.data.toList = if dOk false t.data.toList then some (if false then -(decVal t.data.toList : Int) else (decVal t.data.toList : Int)) else none) := by
    show _ = _
    unfold numOf
    rw [if_neg h45]; rfl
  by_cases h0 : t.size = 0
  · have e0 : t = ⟨#[]⟩ := by
      obtain ⟨⟨l⟩⟩ := t
      have : l = [] := by simpa [ByteArray.size] using h0
      rw [this]
    subst e0
    clear h45 h0 hs
    go_enter Tryz.func28, Tryz.ntmps28
    go_wp2
    go_ret2
    exact ⟨congrArg Ending.returned (unhide Hr), rfl⟩
  have h0' : 0 < t.size := by omega
  have hb : ((t[0].toNat : Int) == 45) = false := by
    rw [head_byte t h0'] at h45
    simp only [beq_eq_false_iff_ne, ne_eq]; intro h; exact h45 (congrArg some (UInt8.toNat_inj.1 (by simp; omega)))
  clear h45
  have Hsz : Hid (t.size = t.data.toList.length) := by show _ = _; simp
  by_cases h1 : t.size < 1
  · first
    | (exfalso; omega)
    | (go_enter Tryz.func28, Tryz.ntmps28
       go_wp2
       go_ret2
       exact ⟨congrArg Ending.returned (numNo (unhide HN) (unhide Hr) (fun h => by have := h.1; have := unhide Hsz; omega)), rfl⟩)
  by_cases h7 : 7 < t.size
  · go_enter Tryz.func28, Tryz.ntmps28
    go_wp2
    go_ret2
    exact ⟨congrArg Ending.returned (numNo (unhide HN) (unhide Hr) (fun h => by have := h.2.1; have := unhide Hsz; omega)), rfl⟩
  have ht0 : 0 < t.size := by omega
  by_cases hz : 1 < t.size ∧ t[0] = 48
  · have hz1 := hz.1
    have hb2 : ((t[0].toNat : Int) == 48) = true := by rw [hz.2]; rfl
    have HZ := hide hz.2
    clear hz
    go_enter Tryz.func28, Tryz.ntmps28
    go_wp2
    go_ret2
    exact ⟨congrArg Ending.returned (numNo (unhide HN) (unhide Hr) (fun h => h.2.2.1 (by have := unhide Hsz; omega) (by rw [head_byte t ht0, unhide HZ]))), rfl⟩
  have hlead : Hid (∀ b ∈ t.data.toList, isDg b) → Hid (dOk false t.data.toList) := fun h => ⟨by have := unhide Hsz; omega, by have := unhide Hsz; omega, fun h2 => by
    rw [head_byte t ht0]; intro h3; exact hz ⟨by have := unhide Hsz; omega, by simpa using h3⟩, (fun h => by cases h), h⟩
  by_cases hz1 : 1 < t.size
  · have hb2 : ((t[0].toNat : Int) == 48) = false := by
      simp only [beq_eq_false_iff_ne, ne_eq]; intro h; exact hz ⟨hz1, UInt8.toNat_inj.1 (by simp; omega)⟩
    clear hz
    go_enter Tryz.func28, Tryz.ntmps28
    go_wp2
    go_loop [2, 3, 5, 6] (fun _ _ n i => ∃ k m : Nat, k ≤ t.size ∧ i = .int .i64 k ∧ n = .int .i64 m ∧ m ≤ 9999999 ∧ Hid (m < 10 ^ k ∧ m = decVal (t.data.toList.take k) ∧ ∀ b ∈ t.data.toList.take k, isDg b)) (fun _ _ _ i => t.size - (intOf i).toNat)
    case atStart => exact ⟨0, 0, by omega, rfl, rfl, by omega, by simp, by simp [decVal], by simp⟩
    case round =>
      obtain ⟨k, m, hk, rfl, rfl, hm, Hk⟩ := hrel
      by_cases hlt : k < t.size
      · by_cases hd : 48 ≤ t[k].toNat ∧ t[k].toNat ≤ 57
        · have hd1 := hd.1
          have hd2 := hd.2
          have HD : Hid (isDg t[k]) := hd
          clear hd
          go_wp2
          have Hst := num_step hlt (by omega) (unhide HD) (unhide Hk)
          refine ⟨⟨k + 1, 10 * m + (t[k].toNat - 48), by omega, by go_num, by go_num, Hst.1, Hst.2⟩, ?_⟩
          simp only [intOf]; omega
        · have HD : Hid (¬ isDg t[k]) := hd
          clear hd
          by_cases hd1 : t[k].toNat < 48
          · go_wp2
            go_ret2
            exact ⟨congrArg Ending.returned (numNo (bel := false) (unhide HN) (unhide Hr) (num_bad hlt (unhide HD))), rfl⟩
          · have hd2 : 57 < t[k].toNat := by
              have := unhide HD
              unfold isDg at this
              omega
            go_wp2
            go_ret2
            exact ⟨congrArg Ending.returned (numNo (bel := false) (unhide HN) (unhide Hr) (num_bad hlt (unhide HD))), rfl⟩
      · have hks : k = t.size := by omega
        subst hks
        have Hz := unhide Hk
        rw [List.take_of_length_le (by simp)] at Hz
        have Hf := hide Hz
        clear Hz
        go_wp2
        go_ret2
        refine ⟨?_, rfl⟩
        have h1 := unhide HN
        rw [if_pos (unhide (hlead (unhide Hf).2.2)), ← (unhide Hf).2.1] at h1
        rw [← unhide Hr, h1]
        rfl
  · clear hz
    go_enter Tryz.func28, Tryz.ntmps28
    go_wp2
    go_loop [2, 3, 5, 6] (fun _ _ n i => ∃ k m : Nat, k ≤ t.size ∧ i = .int .i64 k ∧ n = .int .i64 m ∧ m ≤ 9999999 ∧ Hid (m < 10 ^ k ∧ m = decVal (t.data.toList.take k) ∧ ∀ b ∈ t.data.toList.take k, isDg b)) (fun _ _ _ i => t.size - (intOf i).toNat)
    case atStart => exact ⟨0, 0, by omega, rfl, rfl, by omega, by simp, by simp [decVal], by simp⟩
    case round =>
      obtain ⟨k, m, hk, rfl, rfl, hm, Hk⟩ := hrel
      by_cases hlt : k < t.size
      · by_cases hd : 48 ≤ t[k].toNat ∧ t[k].toNat ≤ 57
        · have hd1 := hd.1
          have hd2 := hd.2
          have HD : Hid (isDg t[k]) := hd
          clear hd
          go_wp2
          have Hst := num_step hlt (by omega) (unhide HD) (unhide Hk)
          refine ⟨⟨k + 1, 10 * m + (t[k].toNat - 48), by omega, by go_num, by go_num, Hst.1, Hst.2⟩, ?_⟩
          simp only [intOf]; omega
        · have HD : Hid (¬ isDg t[k]) := hd
          clear hd
          by_cases hd1 : t[k].toNat < 48
          · go_wp2
            go_ret2
            exact ⟨congrArg Ending.returned (numNo (bel := false) (unhide HN) (unhide Hr) (num_bad hlt (unhide HD))), rfl⟩
          · have hd2 : 57 < t[k].toNat := by
              have := unhide HD
              unfold isDg at this
              omega
            go_wp2
            go_ret2
            exact ⟨congrArg Ending.returned (numNo (bel := false) (unhide HN) (unhide Hr) (num_bad hlt (unhide HD))), rfl⟩
      · have hks : k = t.size := by omega
        subst hks
        have Hz := unhide Hk
        rw [List.take_of_length_le (by simp)] at Hz
        have Hf := hide Hz
        clear Hz
        go_wp2
        go_ret2
        refine ⟨?_, rfl⟩
        have h1 := unhide HN
        rw [if_pos (unhide (hlead (unhide Hf).2.2)), ← (unhide Hf).2.1] at h1
        rw [← unhide Hr, h1]
        rfl
theorem number_ok (s : ByteArray) (hs : s.size ≤ 4294967296) (w : World) :
    Calls Tryz.prog 28 #[.string s] w fun e w' => e = .returned (numV (numOf s.data.toList)) ∧ w' = w := by
  by_cases h45 : s.data.toList.head? = some 45
  · have h0 : 0 < s.size := by
      rcases Nat.eq_zero_or_pos s.size with h | h
      · have : s.data.toList = [] := List.eq_nil_of_length_eq_zero (by simpa using h)
        rw [this] at h45; cases h45
      · exact h
    exact number_below s hs h0 (by rw [head_byte s h0] at h45; exact Option.some.inj h45) w
  · exact number_not s hs h45 w
end Go.Proofs.YtglhapkclpllfadGreatDoor
