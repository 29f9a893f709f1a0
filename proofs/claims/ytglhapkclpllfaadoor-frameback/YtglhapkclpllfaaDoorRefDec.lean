/-
  Contracts of the document's answer: Byte, below, Decimal (the decimal digits of any number).
-/
import Derived.Test.YtglhapkclpllfaaDoorWordMath
namespace Go.Proofs.YtglhapkclpllfaaDoor
open Go.RowKit

theorem byte_ok (b : UInt8) (w : World) : Calls Tryd.prog 94 #[.int .i64 (b.toNat : Int)] w fun e w' => e = .returned (.string ⟨#[b]⟩) ∧ Below w.heap.size w w' := by
  have hlt : b.toNat < 256 := b.toNat_lt
  have hcv := run_convert_bytes_back (P := Tryd.prog) (w.alloc (.cells #[.int .u8 (b.toNat : Int)] 5)) 68 9 5 ⟨w.heap.size, 0, none⟩ 1 [b] Tryd.underlying68 Tryd.underlying5 Tryd.underlying9 (fun j hj => by
    have : j = 0 := by simpa using hj
    subst this
    simp [Addr.add])
  simp only [List.length_cons, List.length_nil, Nat.zero_add] at hcv
  generalize b.toNat = n at *
  go_enter Tryd.func94, Tryd.ntmps94
  go_wp2
  go_ret
  exact ⟨rfl, (Below.refl _ _).alloc (Nat.le_refl _) _⟩
set_option maxHeartbeats 1000000 in
theorem below_ok : ∀ (m : Nat), m ≤ 9223372036854775808 → ∀ w : World, Calls Tryd.prog 77 #[.int .i64 (-(m : Int))] w fun e w' => ∃ s : ByteArray, e = .returned (.string s) ∧ s.data.toList = Lib.decDigits m ∧ Below w.heap.size w w' := by
  intro m
  induction m using Nat.strongRecOn with
  | _ m ih =>
    intro hm w
    by_cases h10 : m < 10
    · have h1 : (-10 : Int) < -(m : Int) := by omega
      have HY := hide (byte_ok (UInt8.ofNat (48 + m)))
      rw [digit_nat m h10, show ((48 + m : Nat) : Int) = 48 + (m : Int) by omega] at HY
      have Hd : Hid (Lib.decDigits m = [UInt8.ofNat (48 + m)]) := dec_small m h10
      clear ih
      go_enter Tryd.func77, Tryd.ntmps77
      go_wp2_with (go_at_call 94; refine (unhide HY _).mono ?_; rintro e w' ⟨rfl, hB⟩)
      go_ret
      exact ⟨_, rfl, by rw [unhide Hd]; simp, hB⟩
    · have h1 : ¬ (-10 : Int) < -(m : Int) := by omega
      have HI := hide (ih (m / 10) (by omega) (by omega))
      have HY := hide (byte_ok (UInt8.ofNat (48 + m % 10)))
      rw [digit_nat (m % 10) (by omega), show ((48 + m % 10 : Nat) : Int) = 48 + (m : Int) % 10 by omega] at HY
      rw [show ((m / 10 : Nat) : Int) = (m : Int) / 10 by omega] at HI
      have Hd : Hid (Lib.decDigits m = Lib.decDigits (m / 10) ++ [UInt8.ofNat (48 + m % 10)]) := by
        show _ = _
        rw [Lib.decDigits, dif_neg h10]
      clear ih
      go_enter Tryd.func77, Tryd.ntmps77
      go_wp2_with fail
      refine (unhide HI _).mono ?_
      rintro e w1 ⟨s1, rfl, hs1, hB1⟩
      have HB1 := hide hB1
      have HS1 := hide hs1
      have hz : s1.size ≤ 20 := size_of hs1 (Nat.le_trans (dec_len 18 (m / 10) (by omega)) (by omega))
      clear hB1 hs1
      go_wp2_with fail
      refine (unhide HY _).mono ?_
      rintro e w2 ⟨rfl, hB2⟩
      have HB2 := hide ((unhide HB1).trans (hB2.mono (unhide HB1).size))
      clear hB2
      go_wp2
      go_ret
      exact ⟨_, rfl, by rw [unhide Hd, cat_data, unhide HS1]; simp, unhide HB2⟩
theorem decimal_ok (n : Int) (h0 : -9223372036854775808 ≤ n) (h1 : n ≤ 9223372036854775807) (w : World) : Calls Tryd.prog 55 #[.int .i64 n] w fun e w' => ∃ s : ByteArray, e = .returned (.string s) ∧ s.data.toList = Lib.itoa n ∧ Below w.heap.size w w' := by
  by_cases hn : n < 0
  · have HB := hide (below_ok (-n).toNat (by omega))
    rw [show -(((-n).toNat : Nat) : Int) = n by omega] at HB
    have Hi : Hid (Lib.itoa n = 45 :: Lib.decDigits (-n).toNat) := by
      show _ = _
      unfold Lib.itoa
      rw [if_pos hn, show n.natAbs = (-n).toNat by omega]
    go_enter Tryd.func55, Tryd.ntmps55
    go_wp2_with (go_at_call 77; refine (unhide HB _).mono ?_; rintro e w' ⟨s1, rfl, hs, hB⟩; have HS := hide hs; have hz : s1.size ≤ 20 := size_of hs (Nat.le_trans (dec_len 18 _ (by omega)) (by omega)); clear hs)
    go_ret
    exact ⟨_, rfl, by rw [unhide Hi, cat_data, unhide HS]; rfl, hB⟩
  · have HB := hide (below_ok n.toNat (by omega))
    rw [show -((n.toNat : Nat) : Int) = -n by omega] at HB
    have Hi : Hid (Lib.itoa n = Lib.decDigits n.toNat) := by
      show _ = _
      unfold Lib.itoa
      rw [if_neg hn]
    go_enter Tryd.func55, Tryd.ntmps55
    go_wp2_with (go_at_call 77; refine (unhide HB _).mono ?_; rintro e w' ⟨s1, rfl, hs, hB⟩; have HS := hide hs; clear hs)
    go_ret
    exact ⟨_, rfl, by rw [unhide Hi, unhide HS], hB⟩
end Go.Proofs.YtglhapkclpllfaaDoor
