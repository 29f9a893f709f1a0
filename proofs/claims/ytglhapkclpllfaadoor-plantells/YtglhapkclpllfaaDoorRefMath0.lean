/-
  Plain mathematics of the document's answer: a number as the sum of its bits.
-/
import Derived.Test.YtglhapkclpllfaaDoorCrewOfM
namespace Go.Proofs.YtglhapkclpllfaaDoor
open Go.RowKit

/-- The sum of the powers of 2 below the k-th for which it is so. -/
def bsum : Nat → (Nat → Bool) → Nat
  | 0, _ => 0
  | k + 1, p => bsum k p + (if p k then 2 ^ k else 0)
theorem bsum_lt : ∀ k p, bsum k p < 2 ^ k
  | 0, _ => by simp [bsum]
  | k + 1, p => by
    have ih := bsum_lt k p
    have hp : 2 ^ (k + 1) = 2 * 2 ^ k := by rw [Nat.pow_succ]; omega
    simp only [bsum]
    split <;> omega
theorem bsum_bit : ∀ k p i, (bsum k p).testBit i = (decide (i < k) && p i)
  | 0, p, i => by simp [bsum]
  | k + 1, p, i => by
    have ih := bsum_bit k p i
    have hlt := bsum_lt k p
    simp only [bsum]
    by_cases hk : p k = true
    · rw [if_pos hk, Nat.add_comm, show 2 ^ k + bsum k p = 2 ^ k * 1 + bsum k p by omega, Nat.two_pow_add_eq_or_of_lt hlt 1, Nat.testBit_or, ih, Nat.mul_one, Nat.testBit_two_pow]
      by_cases h1 : i = k
      · subst h1; simp [hk]
      · by_cases h2 : i < k
        · have : i < k + 1 := by omega
          have h3 : ¬ k = i := by omega
          simp [h2, this, h3]
        · have : ¬ i < k + 1 := by omega
          have h3 : ¬ k = i := by omega
          simp [h2, this, h3]
    · rw [if_neg hk, Nat.add_zero, ih]
      by_cases h1 : i = k
      · subst h1; simp [hk]
      · by_cases h2 : i < k
        · have : i < k + 1 := by omega
          simp [h2, this]
        · have : ¬ i < k + 1 := by omega
          simp [h2, this]
theorem bsum_eq {c : Nat} (h : c ≤ 65535) {p : Nat → Bool} (hp : ∀ i, i < 16 → p i = c.testBit i) : bsum 16 p = c := by
  apply Nat.eq_of_testBit_eq
  intro i
  rw [bsum_bit]
  by_cases hi : i < 16
  · simp [hi, hp i hi]
  · have : c.testBit i = false := Nat.testBit_lt_two_pow (Nat.lt_of_lt_of_le (show c < 2 ^ 16 by omega) (Nat.pow_le_pow_right (by omega) (by omega)))
    simp [hi, this]
theorem bsum_add : ∀ k p q r, (∀ i, i < k → (p i && q i) = false) → (∀ i, i < k → r i = (p i || q i)) → bsum k p + bsum k q = bsum k r
  | 0, _, _, _, _, _ => rfl
  | k + 1, p, q, r, h, hr => by
    have ih := bsum_add k p q r (fun i hi => h i (by omega)) (fun i hi => hr i (by omega))
    have h1 := h k (by omega)
    have h2 := hr k (by omega)
    simp only [bsum]
    cases hp : p k <;> cases hq : q k <;> simp [hp, hq] at h1 h2 <;> simp [h2] <;> omega
theorem bit_inv (b i : Nat) (hb : b ≤ 65535) (hi : i < 16) : (65535 - b).testBit i = !b.testBit i := by
  rw [show 65535 - b = 2 ^ 16 - (b + 1) by omega, Nat.testBit_two_pow_sub_succ (by omega)]
  simp [hi]
theorem bsum_and (a b : Nat) (ha : a ≤ 65535) : bsum 16 (fun i => a.testBit i && (b.testBit i == true)) = a &&& b :=
  bsum_eq (Cm.and_le a b ha) fun i _ => by rw [Nat.testBit_and]; cases b.testBit i <;> simp
theorem bsum_less (a b : Nat) (ha : a ≤ 65535) (hb : b ≤ 65535) : bsum 16 (fun i => a.testBit i && (b.testBit i == false)) = a &&& (65535 - b) :=
  bsum_eq (Cm.and_le a _ ha) fun i hi => by rw [Nat.testBit_and, bit_inv b i hb hi]; cases b.testBit i <;> simp
theorem bsum_or (a b : Nat) (ha : a ≤ 65535) (hb : b ≤ 65535) : b + (a &&& (65535 - b)) = a ||| b := by
  have e1 : bsum 16 b.testBit = b := bsum_eq hb fun _ _ => rfl
  have e2 := bsum_less a b ha hb
  have e3 : bsum 16 (fun i => a.testBit i || b.testBit i) = a ||| b := bsum_eq (Cm.or_le a b ha hb) fun i _ => by rw [Nat.testBit_or]
  rw [← e3, ← e2]
  conv => lhs; lhs; rw [← e1]
  exact bsum_add 16 _ _ _ (fun i _ => by cases a.testBit i <;> cases b.testBit i <;> rfl) (fun i _ => by cases a.testBit i <;> cases b.testBit i <;> rfl)
/-- The crew of nodes, as a sum. -/
theorem fold_bit : ∀ (xs : List Int) (c i : Nat), (∀ x ∈ xs, Cm.isNode x) → (xs.foldl (fun c x => c ||| 2 ^ (x.toNat - 1)) c).testBit i = (c.testBit i || xs.contains ((i : Int) + 1))
  | [], c, i, _ => by simp
  | x :: r, c, i, h => by
    have hx := h x List.mem_cons_self
    have ih := fold_bit r (c ||| 2 ^ (x.toNat - 1)) i (fun y hy => h y (List.mem_cons_of_mem _ hy))
    rw [List.foldl_cons, ih, Nat.testBit_or, Nat.testBit_two_pow]
    have h1 := hx.1
    have h2 := hx.2
    have e : decide (x.toNat - 1 = i) = (((i : Int) + 1) == x) := by
      by_cases hh : x.toNat - 1 = i
      · have : (i : Int) + 1 = x := by omega
        simp [hh, this]
      · have : ¬ (i : Int) + 1 = x := by omega
        simp [hh, this]
    rw [e, List.contains_cons]
    cases c.testBit i <;> cases (((i : Int) + 1) == x) <;> simp
theorem ofN_sum (xs : List Int) (h : ∀ x ∈ xs, Cm.isNode x) : bsum 16 (fun i => xs.contains ((i : Int) + 1)) = Cm.ofN xs :=
  bsum_eq (Cm.ofN_le xs h) fun i _ => by
    unfold Cm.ofN
    rw [fold_bit xs 0 i h]; simp
end Go.Proofs.YtglhapkclpllfaaDoor
