/-
  The contract of the document's answer, chapter 1: sift.
-/
import Derived.Test.YtglhapkclpllfaaGreatDoorRef1
namespace Go.Proofs.YtglhapkclpllfaaGreatDoor
open Go.RowKit

theorem sift_ok (a b : Nat) (ha : a ≤ 65535) (hb : b ≤ 65535) (g : Bool) (w : World) :
    Calls Tryz.prog 40 #[.int .i64 a, .int .i64 b, .bool g] w fun e w' => e = .returned (.int .i64 (bsum 16 (fun i => a.testBit i && (b.testBit i == g)) : Nat)) ∧ w' = w := by
  go_enter Tryz.func40, Tryz.ntmps40
  go_wp2
  go_loop [7, 8] (fun c n => ∃ k s : Nat, k ≤ 16 ∧ n = .int .i64 ((k : Int) + 1) ∧ c = .int .i64 s ∧ s ≤ 65535 ∧ Hid (s = bsum k (fun i => a.testBit i && (b.testBit i == g)))) (fun _ n => 17 - (intOf n).toNat)
  case atStart => exact ⟨0, 0, by omega, by simp, rfl, by omega, rfl⟩
  case round =>
    obtain ⟨k, s, hk, rfl, rfl, hs, Hs⟩ := hrel
    by_cases hlt : k < 16
    · have hlt' : (k : Int) + 1 ≤ 16 := by omega
      have HA := hide (hasN_ok a k ha (by omega))
      have HB := hide (hasN_ok b k hb (by omega))
      have HP := hide (powerOf_ok k (by omega))
      obtain ⟨_, hp⟩ := pow_small k (by omega)
      have Hlt := hide (bsum_lt (k + 1) (fun i => a.testBit i && (b.testBit i == g)))
      have Hpow : Hid (2 ^ (k + 1) ≤ 65536) := Nat.le_trans (Nat.pow_le_pow_right (by omega) (show k + 1 ≤ 16 by omega)) (by decide)
      have Hn : Hid (bsum (k + 1) (fun i => a.testBit i && (b.testBit i == g)) = s + (if a.testBit k && (b.testBit k == g) then 2 ^ k else 0)) := by
        show _ = _
        rw [unhide Hs]; rfl
      generalize 2 ^ k = p at *
      generalize a.testBit k = x at *
      generalize b.testBit k = y at *
      cases hx : x && (y == g) with
      | true =>
        rw [hx] at Hn
        have hx1 : x = true := by cases x <;> simp_all
        subst hx1
        have hy : (y == g) = true := by simpa using hx
        have hy1 : y = g := by simpa using hy
        subst hy1
        clear hx hy
        go_wp2_with fail
        refine (unhide HA _).mono ?_
        rintro e w' ⟨rfl, rfl⟩
        go_wp2_with fail
        refine (unhide HB _).mono ?_
        rintro e w' ⟨rfl, rfl⟩
        go_wp2_with fail
        refine (unhide HP _).mono ?_
        rintro e w' ⟨rfl, rfl⟩
        go_wp2
        go_round
        case rel => exact ⟨k + 1, s + p, by omega, by go_num, by go_num, by have h1 := unhide Hlt; have h2 := unhide Hpow; have h3 := unhide Hn; simp at h3; omega, by show s + p = _; rw [unhide Hn]; simp⟩
        case measure => simp [intOf]; omega
      | false =>
        rw [hx] at Hn
        have Hx := hide hx
        clear hx
        go_wp2_with fail
        refine (unhide HA _).mono ?_
        rintro e w' ⟨rfl, rfl⟩
        go_wp2_with fail
        refine (unhide HB _).mono ?_
        rintro e w' ⟨rfl, rfl⟩
        cases x with
        | false =>
          go_wp2
          go_round
          case rel => exact ⟨k + 1, s, by omega, by go_num, rfl, hs, by show s = _; rw [unhide Hn]; simp⟩
          case measure => simp [intOf]; omega
        | true =>
          have hy : (y == g) = false := by simpa using unhide Hx
          go_wp2
          go_round
          case rel => exact ⟨k + 1, s, by omega, by go_num, rfl, hs, by show s = _; rw [unhide Hn]; simp⟩
          case measure => simp [intOf]; omega
    · have hk16 : k = 16 := by omega
      subst hk16
      have hlt' : ¬ ((16 : Nat) : Int) + 1 ≤ 16 := by omega
      go_wp2
      go_ret
      exact ⟨ret_int (by rw [unhide Hs]), rfl⟩
end Go.Proofs.YtglhapkclpllfaaGreatDoor
