/-
  Plain mathematics of membership: one node put into a crew, or taken out of it; which two crews are the same but for one node.
-/
import Derived.Test.YtglhapkclpllfacDoorRefMath0
namespace Go.Proofs.YtglhapkclpllfacDoor
open Go.RowKit

/-- A crew with the node of place k. -/
def withN (m k : Nat) : Nat := m ||| 2 ^ k
/-- A crew without it. -/
def lessN (m k : Nat) : Nat := m &&& (65535 - 2 ^ k)
theorem pow_16 (k : Nat) (h : k < 16) : 2 ^ k ≤ 65535 := Nat.le_trans (Nat.pow_le_pow_right (by omega) (show k ≤ 15 by omega)) (by decide)
theorem bits_16 {a b : Nat} (ha : a ≤ 65535) (hb : b ≤ 65535) (h : ∀ i, i < 16 → a.testBit i = b.testBit i) : a = b := by
  refine Nat.eq_of_testBit_eq fun i => ?_
  by_cases hi : i < 16
  · exact h i hi
  · have hp : 2 ^ 16 ≤ 2 ^ i := Nat.pow_le_pow_right (by omega) (by omega)
    rw [Nat.testBit_lt_two_pow (by omega), Nat.testBit_lt_two_pow (by omega)]
theorem with_le (m k : Nat) (hm : m ≤ 65535) (hk : k < 16) : withN m k ≤ 65535 := Cm.or_le m _ hm (pow_16 k hk)
theorem less_le (m k : Nat) (hm : m ≤ 65535) : lessN m k ≤ 65535 := Cm.and_le m _ hm
theorem with_bit (m k i : Nat) : (withN m k).testBit i = (m.testBit i || decide (k = i)) := by
  unfold withN
  rw [Nat.testBit_or, Nat.testBit_two_pow]
theorem less_bit (m k i : Nat) (hk : k < 16) (hi : i < 16) : (lessN m k).testBit i = (m.testBit i && !decide (k = i)) := by
  unfold lessN
  rw [Nat.testBit_and, bit_inv _ i (pow_16 k hk) hi, Nat.testBit_two_pow]
theorem with_has (m k : Nat) (h : m.testBit k = true) : withN m k = m := by
  refine Nat.eq_of_testBit_eq fun i => ?_
  rw [with_bit]
  by_cases e : k = i
  · subst e; rw [h]; rfl
  · rw [decide_eq_false e, Bool.or_false]
theorem less_has (m k : Nat) (hm : m ≤ 65535) (hk : k < 16) (h : m.testBit k = false) : lessN m k = m := by
  refine bits_16 (less_le m k hm) hm fun i hi => ?_
  rw [less_bit m k i hk hi]
  by_cases e : k = i
  · subst e; rw [h]; rfl
  · rw [decide_eq_false e]; simp
/-- One that is not there, added. -/
theorem with_add (m k : Nat) (hm : m ≤ 65535) (hk : k < 16) (h : m.testBit k = false) : m + 2 ^ k = withN m k := by
  have h1 := bsum_or (2 ^ k) m (pow_16 k hk) hm
  have h2 : 2 ^ k &&& (65535 - m) = 2 ^ k := by
    refine bits_16 (Cm.and_le _ _ (pow_16 k hk)) (pow_16 k hk) fun i hi => ?_
    rw [Nat.testBit_and, bit_inv m i hm hi, Nat.testBit_two_pow]
    by_cases e : k = i
    · subst e; rw [h]; simp
    · simp [e]
  rw [h2] at h1
  rw [h1]
  exact Nat.or_comm _ _
/-- One that is there, taken away. -/
theorem less_sub (m k : Nat) (hm : m ≤ 65535) (hk : k < 16) (h : m.testBit k = true) : m - 2 ^ k = lessN m k ∧ 2 ^ k ≤ m := by
  have h1 := bsum_or m (2 ^ k) hm (pow_16 k hk)
  have h2 := with_has m k h
  unfold withN at h2
  unfold lessN
  rw [h2] at h1
  omega
/-- With the node both the same: the others are the same. -/
theorem with_same (u v k : Nat) (hu : u ≤ 65535) (hv : v ≤ 65535) (hk : k < 16) : withN u k = withN v k ↔ ∀ i, i < 16 → i ≠ k → u.testBit i = v.testBit i := by
  constructor
  · intro h i _ hik
    have h1 := with_bit u k i
    rw [h, with_bit v k i] at h1
    have hd : decide (k = i) = false := decide_eq_false (fun e => hik e.symm)
    rw [hd, Bool.or_false, Bool.or_false] at h1
    exact h1.symm
  · intro h
    refine bits_16 (with_le u k hu hk) (with_le v k hv hk) fun i hi => ?_
    rw [with_bit, with_bit]
    by_cases e : k = i
    · rw [decide_eq_true e, Bool.or_true, Bool.or_true]
    · rw [h i hi (fun e' => e e'.symm)]
theorem with_twice (m k : Nat) : withN (withN m k) k = withN m k := by
  unfold withN
  rw [Nat.or_assoc, Nat.or_self]
theorem with_less (m k : Nat) (hm : m ≤ 65535) (hk : k < 16) : withN (lessN m k) k = withN m k :=
  (with_same _ _ k (less_le m k hm) hm hk).2 fun i hi hik => by
    rw [less_bit m k i hk hi, decide_eq_false (fun e => hik e.symm)]; simp
end Go.Proofs.YtglhapkclpllfacDoor
