/-
  Contracts of package crew: Check, bit, Has, whatever the numbers are.
-/
import Derived.Test.YtglhapkclpllfadDoorProg
import Derived.Test.YtglhapkclpllfadDoorBase
import Derived.Test.YtglhapkclpllfadDoorCrewMath
import Derived.Laws.Bits64b
import Derived.Laws.BitsLemmas
import Derived.Outline
namespace Go.Proofs.YtglhapkclpllfadDoor
open Go.RowKit

def Cm.isNode (x : Int) : Prop := 1 ≤ x ∧ x ≤ 16
theorem i64_and (a b : Nat) (ha : a ≤ 65535) (hb : b ≤ 65535) : bits .and .i64 (a : Int) (b : Int) = ((a &&& b : Nat) : Int) :=
  (bits_nat .i64 16 (by decide) (fun n h0 h1 => by rw [IntKind.wrap_i64]; omega) a b (by omega) (by omega)).1
theorem i64_or (a b : Nat) (ha : a ≤ 65535) (hb : b ≤ 65535) : bits .or .i64 (a : Int) (b : Int) = ((a ||| b : Nat) : Int) :=
  (bits_nat .i64 16 (by decide) (fun n h0 h1 => by rw [IntKind.wrap_i64]; omega) a b (by omega) (by omega)).2
theorem pow_wrap (n : Nat) (h : n ≤ 16) : wrap64 (2 ^ (n - 1)) = ((2 ^ (n - 1) : Nat) : Int) := by
  have h1 : 2 ^ (n - 1) ≤ 2 ^ 15 := Nat.pow_le_pow_right (by omega) (by omega)
  have h2 : ((2 ^ (n - 1) : Nat) : Int) = (2 : Int) ^ (n - 1) := by simp
  rw [← h2]
  generalize 2 ^ (n - 1) = k at h1
  unfold wrap64
  omega
theorem bit_key (c k : Nat) (hk : bits .and .i64 (c : Int) ((2 ^ k : Nat) : Int) = ((c &&& 2 ^ k : Nat) : Int)) : (bits .and .i64 (c : Int) (2 ^ k) != 0) = c.testBit k := by
  have e : ((2 ^ k : Nat) : Int) = (2 : Int) ^ k := by simp
  rw [← e, hk]
  cases hb : c.testBit k with
  | false =>
    have : c &&& 2 ^ k = 0 := by
      apply Nat.eq_of_testBit_eq
      intro i
      rw [Nat.testBit_and, Nat.testBit_two_pow, Nat.zero_testBit]
      by_cases h : k = i
      · subst h; simp [hb]
      · simp [h]
    rw [this]; rfl
  | true =>
    have : c &&& 2 ^ k ≠ 0 := fun h0 => by
      have h1 : (c &&& 2 ^ k).testBit k = true := by rw [Nat.testBit_and, Nat.testBit_two_pow, hb]; simp
      rw [h0] at h1
      simp at h1
    simp; omega
def okC (c : Int) : Prop := 0 ≤ c ∧ c ≤ 65535
theorem not_okC {c : Int} (h : ¬ okC c) : c < 0 ∨ 65535 < c := by unfold okC at h; omega
theorem okC_nat {c : Int} (h : okC c) : ∃ n : Nat, c = n ∧ n ≤ 65535 := ⟨c.toNat, by unfold okC at h; omega, by unfold okC at h; omega⟩
end Go.Proofs.YtglhapkclpllfadDoor
