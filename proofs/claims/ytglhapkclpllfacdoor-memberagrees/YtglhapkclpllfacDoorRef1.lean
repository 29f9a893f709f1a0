/-
  Contracts of the document's answer, chapter 1: IsCrew, HasNode, ListOf.
-/
import Derived.Test.YtglhapkclpllfacDoorRefMath
import Derived.Test.YtglhapkclpllfacDoorRef0
namespace Go.Proofs.YtglhapkclpllfacDoor
open Go.RowKit

theorem isCrew_yes (c : Nat) (h : c ≤ 65535) (w : World) : Calls Tryd.prog 42 #[.int .i64 c] w fun e w' => e = .returned (.bool true) ∧ w' = w := by
  have h1 : (0 : Int) ≤ (c : Int) := by omega
  have h2 : (c : Int) < 65536 := by omega
  go_enter Tryd.func42, Tryd.ntmps42
  go_wp2
  go_ret
  exact ⟨rfl, rfl⟩
theorem isCrew_no (c : Int) (h : c < 0 ∨ 65535 < c) (w : World) : Calls Tryd.prog 42 #[.int .i64 c] w fun e w' => e = .returned (.bool false) ∧ w' = w := by
  by_cases h1 : c < 0
  · have h1' : ¬ (0 : Int) ≤ c := by omega
    go_enter Tryd.func42, Tryd.ntmps42
    go_wp2
    go_ret
    exact ⟨rfl, rfl⟩
  · have h1' : (0 : Int) ≤ c := by omega
    have h2' : ¬ c < 65536 := by omega
    go_enter Tryd.func42, Tryd.ntmps42
    go_wp2
    go_ret
    exact ⟨rfl, rfl⟩
theorem div_bit (c i : Nat) : (((c / 2 ^ i % 2 : Nat) : Int) == 1) = c.testBit i := by
  rw [Nat.testBit_eq_decide_div_mod_eq]
  by_cases h : c / 2 ^ i % 2 = 1
  · simp [h]
  · have : ¬ ((c / 2 ^ i % 2 : Nat) : Int) = 1 := by omega
    rw [decide_eq_false h, beq_eq_false_iff_ne]; exact this
theorem quo_small (c p : Nat) (hc : c ≤ 65535) : (wrap64 ((c : Int) / (p : Int))).tmod 2 = ((c / p % 2 : Nat) : Int) := by
  have h1 : (c : Int) / (p : Int) = ((c / p : Nat) : Int) := by simp
  have h2 : c / p ≤ c := Nat.div_le_self _ _
  rw [h1]
  generalize c / p = q at *
  rw [show wrap64 (q : Int) = (q : Int) by unfold wrap64; omega, Int.tmod_eq_emod_of_nonneg (by omega)]
  omega
theorem hasN_ok (c i : Nat) (hc : c ≤ 65535) (h : i ≤ 15) (w : World) : Calls Tryd.prog 22 #[.int .i64 c, .int .i64 ((i : Int) + 1)] w fun e w' => e = .returned (.bool (c.testBit i)) ∧ w' = w := by
  have hn : Cm.isNode ((i : Int) + 1) := ⟨by omega, by omega⟩
  have hb := div_bit c i
  have HP := hide (powerOf_ok i h)
  obtain ⟨_, hp⟩ := pow_small i h
  have hpos := Nat.two_pow_pos i
  generalize 2 ^ i = p at *
  go_enter Tryd.func22, Tryd.ntmps22
  go_wp2_with (first | (go_at_call 42; refine (isCrew_yes c hc _).mono ?_; rintro e w' ⟨rfl, rfl⟩) | (go_at_call 43; refine (isNode_yes _ hn _).mono ?_; rintro e w' ⟨rfl, rfl⟩) | (go_at_call 44; refine (unhide HP _).mono ?_; rintro e w' ⟨rfl, rfl⟩))
  go_ret
  exact ⟨ret_bool (by rw [quo_small c p hc]; exact hb), rfl⟩
theorem hasN_no (c n : Int) (h : ¬ ((0 ≤ c ∧ c ≤ 65535) ∧ Cm.isNode n)) (w : World) : Calls Tryd.prog 22 #[.int .i64 c, .int .i64 n] w fun e w' => e = .returned (.bool false) ∧ w' = w := by
  have HI : ∃ b, Hid (∀ w, Calls Tryd.prog 43 #[.int .i64 n] w fun e w' => e = .returned (.bool b) ∧ w' = w) ∧ (b = true → Cm.isNode n) := by
    by_cases hn : Cm.isNode n
    · exact ⟨true, fun w => isNode_yes n hn w, fun _ => hn⟩
    · exact ⟨false, fun w => isNode_no n hn w, fun h => by cases h⟩
  obtain ⟨b, HB, hb⟩ := HI
  by_cases hc : 0 ≤ c ∧ c ≤ 65535
  · obtain ⟨x, rfl⟩ : ∃ x : Nat, c = (x : Int) := ⟨c.toNat, by omega⟩
    have hx : x ≤ 65535 := by omega
    cases b with
    | true => exact absurd ⟨hc, hb rfl⟩ h
    | false =>
      clear h hc hb
      go_enter Tryd.func22, Tryd.ntmps22
      go_wp2_with (first | (go_at_call 42; refine (isCrew_yes x hx _).mono ?_; rintro e w' ⟨rfl, rfl⟩) | (go_at_call 43; refine (unhide HB _).mono ?_; rintro e w' ⟨rfl, rfl⟩))
      go_ret
      exact ⟨rfl, rfl⟩
  · have hc' : c < 0 ∨ 65535 < c := by omega
    clear h hc hb
    go_enter Tryd.func22, Tryd.ntmps22
    go_wp2_with (first | (go_at_call 42; refine (isCrew_no c hc' _).mono ?_; rintro e w' ⟨rfl, rfl⟩) | (go_at_call 43; refine (unhide HB _).mono ?_; rintro e w' ⟨rfl, rfl⟩))
    go_ret
    exact ⟨rfl, rfl⟩

theorem isCrew_any (c : Int) : ∃ b : Bool, (b = true ↔ okC c) ∧ ∀ w, Calls Tryd.prog 42 #[.int .i64 c] w fun e w' => e = .returned (.bool b) ∧ w' = w := by
  by_cases h : okC c
  · obtain ⟨x, rfl⟩ : ∃ x : Nat, c = (x : Int) := ⟨c.toNat, by have := h.1; omega⟩
    exact ⟨true, by simp [h], fun w => isCrew_yes x (by have := h.2; omega) w⟩
  · exact ⟨false, by simp [h], fun w => isCrew_no c (by unfold okC at h; omega) w⟩
end Go.Proofs.YtglhapkclpllfacDoor
