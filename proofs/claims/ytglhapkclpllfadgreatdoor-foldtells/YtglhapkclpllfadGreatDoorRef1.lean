/-
  Contracts of the document's answer, chapter 1: IsCrew, HasNode, ListOf.
-/
import Derived.Test.YtglhapkclpllfadGreatDoorRefMath
import Derived.Test.YtglhapkclpllfadGreatDoorRef0
namespace Go.Proofs.YtglhapkclpllfadGreatDoor
open Go.RowKit

theorem div_bit (c i : Nat) : (((c / 2 ^ i % 2 : Nat) : Int) == 1) = c.testBit i := by
  rw [Nat.testBit_eq_decide_div_mod_eq]
  by_cases h : c / 2 ^ i % 2 = 1
  · simp [h]
  · have : ¬ ((c / 2 ^ i % 2 : Nat) : Int) = 1 := by omega
    rw [decide_eq_false h, beq_eq_false_iff_ne]; exact this
theorem quo_small (c p : Nat) (hc : c ≤ 65535) : (wrap64 ((c : Int) / (p : Int))).tmod 2 = ((c / p % 2 : Nat) : Int) := by
  have h1 : (c : Int) / (p : Int) = ((c / p : Nat) : Int) := by simp
  have h2 : c / p ≤ c := Nat.div_le_self _ _
  rw [h1]
  generalize c / p = q at *
  rw [show wrap64 (q : Int) = (q : Int) by unfold wrap64; omega, Int.tmod_eq_emod_of_nonneg (by omega)]
  omega
end Go.Proofs.YtglhapkclpllfadGreatDoor
