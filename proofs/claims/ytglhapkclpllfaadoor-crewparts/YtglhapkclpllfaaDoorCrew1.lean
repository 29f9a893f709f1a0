/-
  Contracts of package crew: checkTwo, Both, Either, Less, Many, at crews that are right.
-/
import Derived.Test.YtglhapkclpllfaaDoorCrewNums
import Derived.Test.YtglhapkclpllfaaDoorCrewOnes
namespace Go.Proofs.YtglhapkclpllfaaDoor
open Go.RowKit

theorem i64_andNot (a b : Nat) (ha : a ≤ 65535) (hb : b ≤ 65535) : bits .andNot .i64 (a : Int) (b : Int) = ((a &&& (65535 - b) : Nat) : Int) := by
  show IntKind.i64.wrap ((BitVec.ofInt 64 (a : Int) &&& ~~~BitVec.ofInt 64 (b : Int)).toNat : Int) = _
  have e1 : ∀ n : Nat, n ≤ 65535 → (BitVec.ofInt 64 (n : Int)).toNat = n := fun n hn => by
    rw [BitVec.ofInt_natCast, BitVec.toNat_ofNat]; exact Nat.mod_eq_of_lt (by omega)
  rw [BitVec.toNat_and, BitVec.toNat_not, e1 a ha, e1 b hb]
  have e2 : a &&& (2 ^ 64 - 1 - b) = a &&& (65535 - b) := by
    apply Nat.eq_of_testBit_eq
    intro i
    rw [Nat.testBit_and, Nat.testBit_and, show 2 ^ 64 - 1 - b = 2 ^ 64 - (b + 1) by omega, show 65535 - b = 2 ^ 16 - (b + 1) by omega, Nat.testBit_two_pow_sub_succ (by omega), Nat.testBit_two_pow_sub_succ (by omega)]
    by_cases hi : i < 16
    · have : i < 64 := by omega
      simp [hi, this]
    · have : a.testBit i = false := Nat.testBit_lt_two_pow (Nat.lt_of_lt_of_le (show a < 2 ^ 16 by omega) (Nat.pow_le_pow_right (by omega) (by omega)))
      simp [this]
  rw [e2, IntKind.wrap_i64]
  have := Cm.and_le a (65535 - b) ha
  omega

theorem checkTwo_ok (a b : Nat) (ha : a ≤ 65535) (hb : b ≤ 65535) (w : World) : Calls Tryd.prog 40 #[.int .i64 a, .int .i64 b] w fun e w' => e = .returned .nilIface ∧ w' = w := by
  go_enter Tryd.func40, Tryd.ntmps40
  go_wp2_with fail
  refine (check_ok a ha _).mono ?_
  rintro e w' ⟨rfl, rfl⟩
  go_wp2_with fail
  refine (check_ok b hb _).mono ?_
  rintro e w' ⟨rfl, rfl⟩
  go_wp2
  go_ret
  exact ⟨rfl, rfl⟩
theorem both_ok (a b : Nat) (ha : a ≤ 65535) (hb : b ≤ 65535) (w : World) : Calls Tryd.prog 14 #[.int .i64 a, .int .i64 b] w fun e w' => e = .returned (.tuple #[.int .i64 ((a &&& b : Nat) : Int), .nilIface]) ∧ w' = w := by
  have hk := i64_and a b ha hb
  go_enter Tryd.func14, Tryd.ntmps14
  go_wp2_with (go_at_call 40; refine (checkTwo_ok a b ha hb _).mono ?_; rintro e w' ⟨rfl, rfl⟩)
  go_ret2
  exact ⟨rfl, rfl⟩
theorem either_ok (a b : Nat) (ha : a ≤ 65535) (hb : b ≤ 65535) (w : World) : Calls Tryd.prog 16 #[.int .i64 a, .int .i64 b] w fun e w' => e = .returned (.tuple #[.int .i64 ((a ||| b : Nat) : Int), .nilIface]) ∧ w' = w := by
  have hk := i64_or a b ha hb
  go_enter Tryd.func16, Tryd.ntmps16
  go_wp2_with (go_at_call 40; refine (checkTwo_ok a b ha hb _).mono ?_; rintro e w' ⟨rfl, rfl⟩)
  go_ret2
  exact ⟨rfl, rfl⟩
theorem less_ok (a b : Nat) (ha : a ≤ 65535) (hb : b ≤ 65535) (w : World) : Calls Tryd.prog 15 #[.int .i64 a, .int .i64 b] w fun e w' => e = .returned (.tuple #[.int .i64 ((a &&& (65535 - b) : Nat) : Int), .nilIface]) ∧ w' = w := by
  have hk := i64_andNot a b ha hb
  go_enter Tryd.func15, Tryd.ntmps15
  go_wp2_with (go_at_call 40; refine (checkTwo_ok a b ha hb _).mono ?_; rintro e w' ⟨rfl, rfl⟩)
  go_ret2
  exact ⟨rfl, rfl⟩
set_option maxHeartbeats 1000000 in
theorem oc_core (x y1 y2 y3 y4 y5 y6 y7 : Int) (w : World) (k1 : IntKind.u64.wrap (bits .and .u64 (x / 2) 6148914691236517205 + bits .and .u64 x 6148914691236517205) = y1)
    (k2 : IntKind.u64.wrap (bits .and .u64 (y1 / 4) 3689348814741910323 + bits .and .u64 y1 3689348814741910323) = y2) (k3 : bits .and .u64 (IntKind.u64.wrap (y2 / 16 + y2)) 1085102592571150095 = y3)
    (k4 : IntKind.u64.wrap (y3 + y3 / 256) = y4) (k5 : IntKind.u64.wrap (y4 + y4 / 65536) = y5) (k6 : IntKind.u64.wrap (y5 + y5 / 4294967296) = y6) (k7 : bits .and .i64 (wrap64 y6) 127 = y7) :
    Calls Tryd.prog 76 #[.int .u64 x] w fun e w' => e = .returned (.int .i64 y7) ∧ w' = w := by
  go_enter Tryd.func76, Tryd.ntmps76
  go_wp2
  go_ret
  exact ⟨rfl, rfl⟩
theorem oc64 (x : Nat) (hx : x ≤ 65535) (w : World) : Calls Tryd.prog 76 #[.int .u64 x] w fun e w' => e = .returned (.int .i64 (Cm.many x)) ∧ w' = w := by
  rw [← Cm.oc_many x hx]
  have b1 : x / 2 &&& 6148914691236517205 ≤ x / 2 := Nat.and_le_left
  have b2 : x &&& 6148914691236517205 ≤ x := Nat.and_le_left
  have hy1 := Nat.add_le_add b1 b2
  have e1 : IntKind.u64.wrap (bits .and .u64 ((x : Int) / 2) 6148914691236517205 + bits .and .u64 (x : Int) 6148914691236517205) = (((x / 2 &&& 6148914691236517205) + (x &&& 6148914691236517205) : Nat) : Int) := by
    rw [show ((x : Int) / 2) = ((x / 2 : Nat) : Int) by omega, show (6148914691236517205 : Int) = ((6148914691236517205 : Nat) : Int) from rfl, u64_and _ _ (by omega) (by omega), u64_and _ _ (by omega) (by omega), ← Int.natCast_add, u64_wrap _ (by omega)]
  unfold Cm.oc
  simp only
  generalize (x / 2 &&& 6148914691236517205) + (x &&& 6148914691236517205) = y1 at hy1 e1 ⊢
  have b3 : y1 / 4 &&& 3689348814741910323 ≤ y1 / 4 := Nat.and_le_left
  have b4 : y1 &&& 3689348814741910323 ≤ y1 := Nat.and_le_left
  have hy2 := Nat.add_le_add b3 b4
  have e2 : IntKind.u64.wrap (bits .and .u64 ((y1 : Int) / 4) 3689348814741910323 + bits .and .u64 (y1 : Int) 3689348814741910323) = (((y1 / 4 &&& 3689348814741910323) + (y1 &&& 3689348814741910323) : Nat) : Int) := by
    rw [show ((y1 : Int) / 4) = ((y1 / 4 : Nat) : Int) by omega, show (3689348814741910323 : Int) = ((3689348814741910323 : Nat) : Int) from rfl, u64_and _ _ (by omega) (by omega), u64_and _ _ (by omega) (by omega), ← Int.natCast_add, u64_wrap _ (by omega)]
  generalize (y1 / 4 &&& 3689348814741910323) + (y1 &&& 3689348814741910323) = y2 at hy2 e2 ⊢
  have hy3 : (y2 / 16 + y2) &&& 1085102592571150095 ≤ y2 / 16 + y2 := Nat.and_le_left
  have e3 : bits .and .u64 (IntKind.u64.wrap ((y2 : Int) / 16 + y2)) 1085102592571150095 = (((y2 / 16 + y2) &&& 1085102592571150095 : Nat) : Int) := by
    rw [show ((y2 : Int) / 16 + y2) = ((y2 / 16 + y2 : Nat) : Int) by omega, u64_wrap _ (by omega), show (1085102592571150095 : Int) = ((1085102592571150095 : Nat) : Int) from rfl, u64_and _ _ (by omega) (by omega)]
  generalize (y2 / 16 + y2) &&& 1085102592571150095 = y3 at hy3 e3 ⊢
  have e4 : IntKind.u64.wrap ((y3 : Int) + y3 / 256) = ((y3 + y3 / 256 : Nat) : Int) := by
    rw [show ((y3 : Int) + y3 / 256) = ((y3 + y3 / 256 : Nat) : Int) by omega, u64_wrap _ (by omega)]
  generalize hy4 : y3 + y3 / 256 = y4 at e4 ⊢
  have e5 : IntKind.u64.wrap ((y4 : Int) + y4 / 65536) = ((y4 + y4 / 65536 : Nat) : Int) := by
    rw [show ((y4 : Int) + y4 / 65536) = ((y4 + y4 / 65536 : Nat) : Int) by omega, u64_wrap _ (by omega)]
  generalize hy5 : y4 + y4 / 65536 = y5 at e5 ⊢
  have e6 : IntKind.u64.wrap ((y5 : Int) + y5 / 4294967296) = ((y5 + y5 / 4294967296 : Nat) : Int) := by
    rw [show ((y5 : Int) + y5 / 4294967296) = ((y5 + y5 / 4294967296 : Nat) : Int) by omega, u64_wrap _ (by omega)]
  generalize hy6 : y5 + y5 / 4294967296 = y6 at e6 ⊢
  have e7 : bits .and .i64 (wrap64 (y6 : Int)) 127 = ((y6 &&& 127 : Nat) : Int) := by
    rw [show wrap64 (y6 : Int) = (y6 : Int) by unfold wrap64; omega, show (127 : Int) = ((127 : Nat) : Int) from rfl]
    exact (bits_nat .i64 32 (by decide) (fun n h0 h1 => by rw [IntKind.wrap_i64]; omega) y6 127 (by omega) (by omega)).1
  exact oc_core x y1 y2 y3 y4 y5 y6 _ w e1 e2 e3 e4 e5 e6 e7
theorem oc_ok (x : Nat) (hx : x ≤ 65535) (w : World) : Calls Tryd.prog 47 #[.int .u64 x] w fun e w' => e = .returned (.int .i64 (Cm.many x)) ∧ w' = w := by
  go_enter Tryd.func47, Tryd.ntmps47
  go_wp2_with (go_at_call 76; refine (oc64 x hx _).mono ?_; rintro e w' ⟨rfl, rfl⟩)
  go_ret
  exact ⟨rfl, rfl⟩
theorem many_ok (c : Nat) (hc : c ≤ 65535) (w : World) : Calls Tryd.prog 21 #[.int .i64 c] w fun e w' => e = .returned (.int .i64 (Cm.many c)) ∧ w' = w := by
  go_enter Tryd.func21, Tryd.ntmps21
  go_wp2_with (first | (go_at_call 13; refine (check_ok c hc _).mono ?_; rintro e w' ⟨rfl, rfl⟩) | (go_at_call 47; refine (oc_ok c hc _).mono ?_; rintro e w' ⟨rfl, rfl⟩))
  go_ret
  exact ⟨rfl, rfl⟩
end Go.Proofs.YtglhapkclpllfaaDoor
