/-
  Contracts of package crew: Check, checkTwo, bit, Has, Both, Either, Less, Many, at crews that are right.
-/
import Derived.Test.YtmblonlmjbbkiaaGreatDoorProg
import Derived.Test.YtmblonlmjbbkiaaGreatDoorBase
import Derived.Test.YtmblonlmjbbkiaaGreatDoorCrewOnes
import Derived.Laws.Bits64b
import Derived.Laws.BitsLemmas
import Derived.Outline
namespace Go.Proofs.YtmblonlmjbbkiaaGreatDoor
open Go.RowKit

theorem i64_and (a b : Nat) (ha : a ≤ 65535) (hb : b ≤ 65535) : bits .and .i64 (a : Int) (b : Int) = ((a &&& b : Nat) : Int) :=
  (bits_nat .i64 16 (by decide) (fun n h0 h1 => by rw [IntKind.wrap_i64]; omega) a b (by omega) (by omega)).1
theorem i64_or (a b : Nat) (ha : a ≤ 65535) (hb : b ≤ 65535) : bits .or .i64 (a : Int) (b : Int) = ((a ||| b : Nat) : Int) :=
  (bits_nat .i64 16 (by decide) (fun n h0 h1 => by rw [IntKind.wrap_i64]; omega) a b (by omega) (by omega)).2

theorem i64_andNot (a b : Nat) (ha : a ≤ 65535) (hb : b ≤ 65535) : bits .andNot .i64 (a : Int) (b : Int) = ((a &&& (65535 - b) : Nat) : Int) := by
  show IntKind.i64.wrap ((BitVec.ofInt 64 (a : Int) &&& ~~~BitVec.ofInt 64 (b : Int)).toNat : Int) = _
  have e1 : ∀ n : Nat, n ≤ 65535 → (BitVec.ofInt 64 (n : Int)).toNat = n := fun n hn => by
    rw [BitVec.ofInt_natCast, BitVec.toNat_ofNat]; exact Nat.mod_eq_of_lt (by omega)
  rw [BitVec.toNat_and, BitVec.toNat_not, e1 a ha, e1 b hb]
  have e2 : a &&& (2 ^ 64 - 1 - b) = a &&& (65535 - b) := by
    apply Nat.eq_of_testBit_eq
    intro i
    rw [Nat.testBit_and, Nat.testBit_and, show 2 ^ 64 - 1 - b = 2 ^ 64 - (b + 1) by omega, show 65535 - b = 2 ^ 16 - (b + 1) by omega, Nat.testBit_two_pow_sub_succ (by omega), Nat.testBit_two_pow_sub_succ (by omega)]
    by_cases hi : i < 16
    · have : i < 64 := by omega
      simp [hi, this]
    · have : a.testBit i = false := Nat.testBit_lt_two_pow (Nat.lt_of_lt_of_le (show a < 2 ^ 16 by omega) (Nat.pow_le_pow_right (by omega) (by omega)))
      simp [this]
  rw [e2, IntKind.wrap_i64]
  have := Cm.and_le a (65535 - b) ha
  omega

theorem pow_wrap (n : Nat) (h : n ≤ 16) : wrap64 (2 ^ (n - 1)) = ((2 ^ (n - 1) : Nat) : Int) := by
  have h1 : 2 ^ (n - 1) ≤ 2 ^ 15 := Nat.pow_le_pow_right (by omega) (by omega)
  have h2 : ((2 ^ (n - 1) : Nat) : Int) = (2 : Int) ^ (n - 1) := by simp
  rw [← h2]
  generalize 2 ^ (n - 1) = k at h1
  unfold wrap64
  omega
theorem check_ok (c : Nat) (hc : c ≤ 65535) (w : World) : Calls Tryz.prog 9 #[.int .i64 c] w fun e w' => e = .returned .nilIface ∧ w' = w := by
  have h1 : ¬ ((c : Int) < 0) := by omega
  have h2 : ¬ ((65535 : Int) < c) := by omega
  go_enter Tryz.func9, Tryz.ntmps9
  go_wp2
  go_ret
  exact ⟨rfl, rfl⟩
theorem check_bad (c : Int) (hc : c < 0 ∨ 65535 < c) (ev : Value) (w : World) (h : w.cell? ⟨0, 0, none⟩ = some ev) : Calls Tryz.prog 9 #[.int .i64 c] w fun e w' => e = .returned ev ∧ w' = w := by
  by_cases h1 : c < 0
  · go_enter Tryz.func9, Tryz.ntmps9
    go_wp2
    go_ret
    exact ⟨rfl, rfl⟩
  · have h2 : 65535 < c := by omega
    go_enter Tryz.func9, Tryz.ntmps9
    go_wp2
    go_ret
    exact ⟨rfl, rfl⟩
theorem checkTwo_ok (a b : Nat) (ha : a ≤ 65535) (hb : b ≤ 65535) (w : World) : Calls Tryz.prog 39 #[.int .i64 a, .int .i64 b] w fun e w' => e = .returned .nilIface ∧ w' = w := by
  go_enter Tryz.func39, Tryz.ntmps39
  go_wp2_with fail
  refine (check_ok a ha _).mono ?_
  rintro e w' ⟨rfl, rfl⟩
  go_wp2_with fail
  refine (check_ok b hb _).mono ?_
  rintro e w' ⟨rfl, rfl⟩
  go_wp2
  go_ret
  exact ⟨rfl, rfl⟩
theorem both_ok (a b : Nat) (ha : a ≤ 65535) (hb : b ≤ 65535) (w : World) : Calls Tryz.prog 16 #[.int .i64 a, .int .i64 b] w fun e w' => e = .returned (.tuple #[.int .i64 ((a &&& b : Nat) : Int), .nilIface]) ∧ w' = w := by
  have hk := i64_and a b ha hb
  go_enter Tryz.func16, Tryz.ntmps16
  go_wp2_with (go_at_call 39; refine (checkTwo_ok a b ha hb _).mono ?_; rintro e w' ⟨rfl, rfl⟩)
  go_ret2
  exact ⟨rfl, rfl⟩
theorem either_ok (a b : Nat) (ha : a ≤ 65535) (hb : b ≤ 65535) (w : World) : Calls Tryz.prog 18 #[.int .i64 a, .int .i64 b] w fun e w' => e = .returned (.tuple #[.int .i64 ((a ||| b : Nat) : Int), .nilIface]) ∧ w' = w := by
  have hk := i64_or a b ha hb
  go_enter Tryz.func18, Tryz.ntmps18
  go_wp2_with (go_at_call 39; refine (checkTwo_ok a b ha hb _).mono ?_; rintro e w' ⟨rfl, rfl⟩)
  go_ret2
  exact ⟨rfl, rfl⟩
theorem less_ok (a b : Nat) (ha : a ≤ 65535) (hb : b ≤ 65535) (w : World) : Calls Tryz.prog 20 #[.int .i64 a, .int .i64 b] w fun e w' => e = .returned (.tuple #[.int .i64 ((a &&& (65535 - b) : Nat) : Int), .nilIface]) ∧ w' = w := by
  have hk := i64_andNot a b ha hb
  go_enter Tryz.func20, Tryz.ntmps20
  go_wp2_with (go_at_call 39; refine (checkTwo_ok a b ha hb _).mono ?_; rintro e w' ⟨rfl, rfl⟩)
  go_ret2
  exact ⟨rfl, rfl⟩
theorem bit_ok (n : Nat) (h1 : 1 ≤ n) (h2 : n ≤ 16) (w : World) : Calls Tryz.prog 35 #[.int .i64 n] w fun e w' => e = .returned (.int .i64 ((2 ^ (n - 1) : Nat) : Int)) ∧ w' = w := by
  have h3 : ¬ ((n : Int) < 1) := by omega
  have h4 : ¬ ((16 : Int) < n) := by omega
  have h5 : ¬ ((n : Int) - 1 < 0) := by omega
  go_enter Tryz.func35, Tryz.ntmps35
  go_wp2
  go_ret
  exact ⟨ret_int (pow_wrap n h2), rfl⟩
theorem bit_bad (n : Int) (h : n < 1 ∨ 16 < n) (w : World) : Calls Tryz.prog 35 #[.int .i64 n] w fun e w' => e = .returned (.int .i64 0) ∧ w' = w := by
  by_cases h1 : n < 1
  · go_enter Tryz.func35, Tryz.ntmps35
    go_wp2
    go_ret
    exact ⟨rfl, rfl⟩
  · have h2 : 16 < n := by omega
    go_enter Tryz.func35, Tryz.ntmps35
    go_wp2
    go_ret
    exact ⟨rfl, rfl⟩
set_option maxHeartbeats 1000000 in
theorem oc_core (x y1 y2 y3 y4 y5 y6 y7 : Int) (w : World) (k1 : IntKind.u64.wrap (bits .and .u64 (x / 2) 6148914691236517205 + bits .and .u64 x 6148914691236517205) = y1)
    (k2 : IntKind.u64.wrap (bits .and .u64 (y1 / 4) 3689348814741910323 + bits .and .u64 y1 3689348814741910323) = y2) (k3 : bits .and .u64 (IntKind.u64.wrap (y2 / 16 + y2)) 1085102592571150095 = y3)
    (k4 : IntKind.u64.wrap (y3 + y3 / 256) = y4) (k5 : IntKind.u64.wrap (y4 + y4 / 65536) = y5) (k6 : IntKind.u64.wrap (y5 + y5 / 4294967296) = y6) (k7 : bits .and .i64 (wrap64 y6) 127 = y7) :
    Calls Tryz.prog 52 #[.int .u64 x] w fun e w' => e = .returned (.int .i64 y7) ∧ w' = w := by
  go_enter Tryz.func52, Tryz.ntmps52
  go_wp2
  go_ret
  exact ⟨rfl, rfl⟩
theorem u64_and (a b : Nat) (ha : a < 18446744073709551616) (hb : b < 18446744073709551616) : bits .and .u64 (a : Int) (b : Int) = ((a &&& b : Nat) : Int) := bits_and_u64_nat a b ha hb
theorem u64_wrap (a : Nat) (ha : a < 18446744073709551616) : IntKind.u64.wrap (a : Int) = (a : Int) := by rw [IntKind.wrap_u64]; omega
theorem oc64 (x : Nat) (hx : x ≤ 65535) (w : World) : Calls Tryz.prog 52 #[.int .u64 x] w fun e w' => e = .returned (.int .i64 (Cm.many x)) ∧ w' = w := by
  rw [← Cm.oc_many x hx]
  have b1 : x / 2 &&& 6148914691236517205 ≤ x / 2 := Nat.and_le_left
  have b2 : x &&& 6148914691236517205 ≤ x := Nat.and_le_left
  have hy1 := Nat.add_le_add b1 b2
  have e1 : IntKind.u64.wrap (bits .and .u64 ((x : Int) / 2) 6148914691236517205 + bits .and .u64 (x : Int) 6148914691236517205) = (((x / 2 &&& 6148914691236517205) + (x &&& 6148914691236517205) : Nat) : Int) := by
    rw [show ((x : Int) / 2) = ((x / 2 : Nat) : Int) by omega, show (6148914691236517205 : Int) = ((6148914691236517205 : Nat) : Int) from rfl, u64_and _ _ (by omega) (by omega), u64_and _ _ (by omega) (by omega), ← Int.natCast_add, u64_wrap _ (by omega)]
  unfold Cm.oc
  simp only
  generalize (x / 2 &&& 6148914691236517205) + (x &&& 6148914691236517205) = y1 at hy1 e1 ⊢
  have b3 : y1 / 4 &&& 3689348814741910323 ≤ y1 / 4 := Nat.and_le_left
  have b4 : y1 &&& 3689348814741910323 ≤ y1 := Nat.and_le_left
  have hy2 := Nat.add_le_add b3 b4
  have e2 : IntKind.u64.wrap (bits .and .u64 ((y1 : Int) / 4) 3689348814741910323 + bits .and .u64 (y1 : Int) 3689348814741910323) = (((y1 / 4 &&& 3689348814741910323) + (y1 &&& 3689348814741910323) : Nat) : Int) := by
    rw [show ((y1 : Int) / 4) = ((y1 / 4 : Nat) : Int) by omega, show (3689348814741910323 : Int) = ((3689348814741910323 : Nat) : Int) from rfl, u64_and _ _ (by omega) (by omega), u64_and _ _ (by omega) (by omega), ← Int.natCast_add, u64_wrap _ (by omega)]
  generalize (y1 / 4 &&& 3689348814741910323) + (y1 &&& 3689348814741910323) = y2 at hy2 e2 ⊢
  have hy3 : (y2 / 16 + y2) &&& 1085102592571150095 ≤ y2 / 16 + y2 := Nat.and_le_left
  have e3 : bits .and .u64 (IntKind.u64.wrap ((y2 : Int) / 16 + y2)) 1085102592571150095 = (((y2 / 16 + y2) &&& 1085102592571150095 : Nat) : Int) := by
    rw [show ((y2 : Int) / 16 + y2) = ((y2 / 16 + y2 : Nat) : Int) by omega, u64_wrap _ (by omega), show (1085102592571150095 : Int) = ((1085102592571150095 : Nat) : Int) from rfl, u64_and _ _ (by omega) (by omega)]
  generalize (y2 / 16 + y2) &&& 1085102592571150095 = y3 at hy3 e3 ⊢
  have e4 : IntKind.u64.wrap ((y3 : Int) + y3 / 256) = ((y3 + y3 / 256 : Nat) : Int) := by
    rw [show ((y3 : Int) + y3 / 256) = ((y3 + y3 / 256 : Nat) : Int) by omega, u64_wrap _ (by omega)]
  generalize hy4 : y3 + y3 / 256 = y4 at e4 ⊢
  have e5 : IntKind.u64.wrap ((y4 : Int) + y4 / 65536) = ((y4 + y4 / 65536 : Nat) : Int) := by
    rw [show ((y4 : Int) + y4 / 65536) = ((y4 + y4 / 65536 : Nat) : Int) by omega, u64_wrap _ (by omega)]
  generalize hy5 : y4 + y4 / 65536 = y5 at e5 ⊢
  have e6 : IntKind.u64.wrap ((y5 : Int) + y5 / 4294967296) = ((y5 + y5 / 4294967296 : Nat) : Int) := by
    rw [show ((y5 : Int) + y5 / 4294967296) = ((y5 + y5 / 4294967296 : Nat) : Int) by omega, u64_wrap _ (by omega)]
  generalize hy6 : y5 + y5 / 4294967296 = y6 at e6 ⊢
  have e7 : bits .and .i64 (wrap64 (y6 : Int)) 127 = ((y6 &&& 127 : Nat) : Int) := by
    rw [show wrap64 (y6 : Int) = (y6 : Int) by unfold wrap64; omega, show (127 : Int) = ((127 : Nat) : Int) from rfl]
    exact (bits_nat .i64 32 (by decide) (fun n h0 h1 => by rw [IntKind.wrap_i64]; omega) y6 127 (by omega) (by omega)).1
  exact oc_core x y1 y2 y3 y4 y5 y6 _ w e1 e2 e3 e4 e5 e6 e7
theorem oc_ok (x : Nat) (hx : x ≤ 65535) (w : World) : Calls Tryz.prog 34 #[.int .u64 x] w fun e w' => e = .returned (.int .i64 (Cm.many x)) ∧ w' = w := by
  go_enter Tryz.func34, Tryz.ntmps34
  go_wp2_with (go_at_call 52; refine (oc64 x hx _).mono ?_; rintro e w' ⟨rfl, rfl⟩)
  go_ret
  exact ⟨rfl, rfl⟩
theorem many_ok (c : Nat) (hc : c ≤ 65535) (w : World) : Calls Tryz.prog 12 #[.int .i64 c] w fun e w' => e = .returned (.int .i64 (Cm.many c)) ∧ w' = w := by
  go_enter Tryz.func12, Tryz.ntmps12
  go_wp2_with (first | (go_at_call 9; refine (check_ok c hc _).mono ?_; rintro e w' ⟨rfl, rfl⟩) | (go_at_call 34; refine (oc_ok c hc _).mono ?_; rintro e w' ⟨rfl, rfl⟩))
  go_ret
  exact ⟨rfl, rfl⟩
theorem bit_key (c k : Nat) (hk : bits .and .i64 (c : Int) ((2 ^ k : Nat) : Int) = ((c &&& 2 ^ k : Nat) : Int)) : (bits .and .i64 (c : Int) (2 ^ k) != 0) = c.testBit k := by
  have e : ((2 ^ k : Nat) : Int) = (2 : Int) ^ k := by simp
  rw [← e, hk]
  cases hb : c.testBit k with
  | false =>
    have : c &&& 2 ^ k = 0 := by
      apply Nat.eq_of_testBit_eq
      intro i
      rw [Nat.testBit_and, Nat.testBit_two_pow, Nat.zero_testBit]
      by_cases h : k = i
      · subst h; simp [hb]
      · simp [h]
    rw [this]; rfl
  | true =>
    have : c &&& 2 ^ k ≠ 0 := fun h0 => by
      have h1 : (c &&& 2 ^ k).testBit k = true := by rw [Nat.testBit_and, Nat.testBit_two_pow, hb]; simp
      rw [h0] at h1
      simp at h1
    simp; omega
theorem has_ok (c n : Nat) (hc : c ≤ 65535) (h1 : 1 ≤ n) (h2 : n ≤ 16) (w : World) : Calls Tryz.prog 13 #[.int .i64 c, .int .i64 n] w fun e w' => e = .returned (.bool (c.testBit (n - 1))) ∧ w' = w := by
  have hp : 2 ^ (n - 1) ≤ 65535 := Nat.le_trans (Nat.pow_le_pow_right (by omega) (show n - 1 ≤ 15 by omega)) (by decide)
  have hk := i64_and c (2 ^ (n - 1)) hc hp
  go_enter Tryz.func13, Tryz.ntmps13
  go_wp2_with (first | (go_at_call 9; refine (check_ok c hc _).mono ?_; rintro e w' ⟨rfl, rfl⟩) | (go_at_call 35; refine (bit_ok n h1 h2 _).mono ?_; rintro e w' ⟨rfl, rfl⟩))
  go_ret
  exact ⟨ret_bool (bit_key c (n - 1) hk), rfl⟩
end Go.Proofs.YtmblonlmjbbkiaaGreatDoor
