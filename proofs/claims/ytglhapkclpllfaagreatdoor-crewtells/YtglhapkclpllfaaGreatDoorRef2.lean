/-
  Contracts of the document's answer, chapter 1: TwoError, BothOf, EitherOf, LessOf.
-/
import Derived.Test.YtglhapkclpllfaaGreatDoorRefSift
import Derived.Test.YtglhapkclpllfaaGreatDoorRefOf
namespace Go.Proofs.YtglhapkclpllfaaGreatDoor
open Go.RowKit

theorem twoError_yes (a b : Int) (ha : okC a) (hb : okC b) (w : World) : Calls Tryz.prog 5 #[.int .i64 a, .int .i64 b] w fun e w' => e = .returned (.int .i64 0) ∧ w' = w := by
  obtain ⟨x, hx, HX⟩ := isCrew_any a
  obtain ⟨y, hy, HY⟩ := isCrew_any b
  have hx1 := hx.2 ha
  have hy1 := hy.2 hb
  subst hx1 hy1
  have HX := hide HX
  have HY := hide HY
  clear hx hy
  go_enter Tryz.func5, Tryz.ntmps5
  go_wp2_with fail
  refine (unhide HX _).mono ?_
  rintro e w' ⟨rfl, rfl⟩
  go_wp2_with fail
  refine (unhide HY _).mono ?_
  rintro e w' ⟨rfl, rfl⟩
  go_wp2
  go_ret
  exact ⟨rfl, rfl⟩
theorem twoError_no (a b : Int) (h : ¬ (okC a ∧ okC b)) (w : World) : Calls Tryz.prog 5 #[.int .i64 a, .int .i64 b] w fun e w' => e = .returned (.int .i64 2) ∧ w' = w := by
  obtain ⟨x, hx, HX⟩ := isCrew_any a
  obtain ⟨y, hy, HY⟩ := isCrew_any b
  have hxy : ¬ (x = true ∧ y = true) := fun h2 => h ⟨hx.1 h2.1, hy.1 h2.2⟩
  have HX := hide HX
  have HY := hide HY
  clear hx hy h
  cases x with
  | false =>
    clear hxy
    go_enter Tryz.func5, Tryz.ntmps5
    go_wp2_with fail
    refine (unhide HX _).mono ?_
    rintro e w' ⟨rfl, rfl⟩
    go_wp2_with fail
    refine (unhide HY _).mono ?_
    rintro e w' ⟨rfl, rfl⟩
    go_wp2
    go_ret
    exact ⟨rfl, rfl⟩
  | true =>
    cases y with
    | true => exact absurd ⟨rfl, rfl⟩ hxy
    | false =>
      clear hxy
      go_enter Tryz.func5, Tryz.ntmps5
      go_wp2_with fail
      refine (unhide HX _).mono ?_
      rintro e w' ⟨rfl, rfl⟩
      go_wp2_with fail
      refine (unhide HY _).mono ?_
      rintro e w' ⟨rfl, rfl⟩
      go_wp2
      go_ret
      exact ⟨rfl, rfl⟩
theorem bothOf_yes (a b : Nat) (ha : a ≤ 65535) (hb : b ≤ 65535) (w : World) : Calls Tryz.prog 17 #[.int .i64 a, .int .i64 b] w fun e w' => e = .returned (.tuple #[.int .i64 ((a &&& b : Nat) : Int), .int .i64 0]) ∧ w' = w := by
  have HS := hide (sift_ok a b ha hb true)
  rw [bsum_and a b ha] at HS
  go_enter Tryz.func17, Tryz.ntmps17
  go_wp2_with fail
  refine (twoError_yes a b ⟨by omega, by omega⟩ ⟨by omega, by omega⟩ _).mono ?_
  rintro e w' ⟨rfl, rfl⟩
  go_wp2_with fail
  refine (unhide HS _).mono ?_
  rintro e w' ⟨rfl, rfl⟩
  go_wp2
  go_ret2
  exact ⟨rfl, rfl⟩
theorem lessOf_yes (a b : Nat) (ha : a ≤ 65535) (hb : b ≤ 65535) (w : World) : Calls Tryz.prog 21 #[.int .i64 a, .int .i64 b] w fun e w' => e = .returned (.tuple #[.int .i64 ((a &&& (65535 - b) : Nat) : Int), .int .i64 0]) ∧ w' = w := by
  have HS := hide (sift_ok a b ha hb false)
  rw [bsum_less a b ha hb] at HS
  go_enter Tryz.func21, Tryz.ntmps21
  go_wp2_with fail
  refine (twoError_yes a b ⟨by omega, by omega⟩ ⟨by omega, by omega⟩ _).mono ?_
  rintro e w' ⟨rfl, rfl⟩
  go_wp2_with fail
  refine (unhide HS _).mono ?_
  rintro e w' ⟨rfl, rfl⟩
  go_wp2
  go_ret2
  exact ⟨rfl, rfl⟩
theorem eitherOf_yes (a b : Nat) (ha : a ≤ 65535) (hb : b ≤ 65535) (w : World) : Calls Tryz.prog 19 #[.int .i64 a, .int .i64 b] w fun e w' => e = .returned (.tuple #[.int .i64 ((a ||| b : Nat) : Int), .int .i64 0]) ∧ w' = w := by
  have HS := hide (sift_ok a b ha hb false)
  rw [bsum_less a b ha hb] at HS
  have hor := bsum_or a b ha hb
  have hle := Cm.and_le a (65535 - b) ha
  generalize a &&& (65535 - b) = q at *
  rw [← hor]
  clear hor
  go_enter Tryz.func19, Tryz.ntmps19
  go_wp2_with fail
  refine (twoError_yes a b ⟨by omega, by omega⟩ ⟨by omega, by omega⟩ _).mono ?_
  rintro e w' ⟨rfl, rfl⟩
  go_wp2_with fail
  refine (unhide HS _).mono ?_
  rintro e w' ⟨rfl, rfl⟩
  go_wp2
  go_ret2
  exact ⟨rfl, rfl⟩
theorem bothOf_no (a b : Int) (h : ¬ (okC a ∧ okC b)) (w : World) : Calls Tryz.prog 17 #[.int .i64 a, .int .i64 b] w fun e w' => e = .returned (.tuple #[.int .i64 0, .int .i64 2]) ∧ w' = w := by
  go_enter Tryz.func17, Tryz.ntmps17
  go_wp2_with (go_at_call 5; refine (twoError_no a b h _).mono ?_; rintro e w' ⟨rfl, rfl⟩)
  go_ret2
  exact ⟨rfl, rfl⟩
theorem lessOf_no (a b : Int) (h : ¬ (okC a ∧ okC b)) (w : World) : Calls Tryz.prog 21 #[.int .i64 a, .int .i64 b] w fun e w' => e = .returned (.tuple #[.int .i64 0, .int .i64 2]) ∧ w' = w := by
  go_enter Tryz.func21, Tryz.ntmps21
  go_wp2_with (go_at_call 5; refine (twoError_no a b h _).mono ?_; rintro e w' ⟨rfl, rfl⟩)
  go_ret2
  exact ⟨rfl, rfl⟩
theorem eitherOf_no (a b : Int) (h : ¬ (okC a ∧ okC b)) (w : World) : Calls Tryz.prog 19 #[.int .i64 a, .int .i64 b] w fun e w' => e = .returned (.tuple #[.int .i64 0, .int .i64 2]) ∧ w' = w := by
  go_enter Tryz.func19, Tryz.ntmps19
  go_wp2_with (go_at_call 5; refine (twoError_no a b h _).mono ?_; rintro e w' ⟨rfl, rfl⟩)
  go_ret2
  exact ⟨rfl, rfl⟩

end Go.Proofs.YtglhapkclpllfaaGreatDoor
