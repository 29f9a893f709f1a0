/-
  The plain mathematics of crews, as numbers below 65536: how many bits, which ones, and, or, less.
-/
import Derived.WalkKit
import Derived.Lib.TrailingZeros
namespace Go.Proofs.YtglhapkclpllfaaDoor
namespace Cm

/-- How many of the lowest f bits of c are set. -/
def pc : Nat → Nat → Nat
  | 0, _ => 0
  | f + 1, c => c % 2 + pc f (c / 2)
/-- The places (from p + 1 on) of the set bits among the lowest f, rising. -/
def nl : Nat → Nat → Nat → List Nat
  | 0, _, _ => []
  | f + 1, p, c => if c % 2 = 1 then (p + 1) :: nl f (p + 1) (c / 2) else nl f (p + 1) (c / 2)
def nodes (c : Nat) : List Nat := nl 16 0 c
def many (c : Nat) : Nat := pc 16 c

theorem and_mod2 (a b : Nat) : (a &&& b) % 2 = (a % 2) * (b % 2) := by
  have h := Nat.and_mod_two_pow (a := a) (b := b) (n := 1)
  simp only [Nat.pow_one] at h
  rw [h]
  rcases Nat.mod_two_eq_zero_or_one a with ha | ha <;> rcases Nat.mod_two_eq_zero_or_one b with hb | hb <;> simp [ha, hb]
theorem pc_le : ∀ f c, pc f c ≤ f
  | 0, _ => Nat.le_refl _
  | f + 1, c => by have := pc_le f (c / 2); have := Nat.mod_lt c (show 0 < 2 by omega); simp only [pc]; omega
theorem many_le (c : Nat) : many c ≤ 16 := pc_le 16 c
theorem len_nl : ∀ f p c, (nl f p c).length = pc f c
  | 0, _, _ => rfl
  | f + 1, p, c => by
    have ih := len_nl f (p + 1) (c / 2)
    rcases Nat.mod_two_eq_zero_or_one c with h | h <;> simp [nl, pc, h, ih] <;> omega
theorem len_nodes (c : Nat) : (nodes c).length = many c := len_nl 16 0 c

/-- a without b, and what both have, make a. -/
theorem pc_split : ∀ f a b, b < 2 ^ f → pc f (a &&& (2 ^ f - 1 - b)) + pc f (a &&& b) = pc f a
  | 0, _, _, _ => rfl
  | f + 1, a, b, hb => by
    have hp : 2 ^ (f + 1) = 2 * 2 ^ f := by rw [Nat.pow_succ]; omega
    have ih := pc_split f (a / 2) (b / 2) (by omega)
    have e1 : (2 ^ (f + 1) - 1 - b) / 2 = 2 ^ f - 1 - b / 2 := by omega
    have e2 : (2 ^ (f + 1) - 1 - b) % 2 = 1 - b % 2 := by omega
    simp only [pc, Nat.and_div_two, and_mod2, e1, e2]
    rcases Nat.mod_two_eq_zero_or_one b with h | h <;> simp only [h] <;> omega
theorem many_split (a b : Nat) (hb : b ≤ 65535) : many (a &&& (65535 - b)) + many (a &&& b) = many a := pc_split 16 a b (by omega)
/-- Two that have nothing together have no more of a third one than it has. -/
theorem pc_apart : ∀ f a b c, a &&& b = 0 → pc f (a &&& c) + pc f (b &&& c) ≤ pc f c
  | 0, _, _, _, _ => Nat.le_refl _
  | f + 1, a, b, c, h => by
    have h2 : a / 2 &&& b / 2 = 0 := by rw [← Nat.and_div_two, h]
    have h0 : (a % 2) * (b % 2) = 0 := by rw [← and_mod2, h]
    have ih := pc_apart f (a / 2) (b / 2) (c / 2) h2
    simp only [pc, Nat.and_div_two, and_mod2]
    have : (a % 2) * (c % 2) + (b % 2) * (c % 2) ≤ c % 2 := by
      rcases Nat.mod_two_eq_zero_or_one a with ha | ha <;> rcases Nat.mod_two_eq_zero_or_one b with hb | hb <;> rcases Nat.mod_two_eq_zero_or_one c with hc | hc <;> simp [ha, hb, hc] at h0 ⊢
    omega
theorem many_apart (a b c : Nat) : 2 * many (a &&& c) ≤ many c ∨ 2 * many (b &&& c) ≤ many c ∨ a &&& b ≠ 0 := by
  by_cases h : a &&& b = 0
  · have : many (a &&& c) + many (b &&& c) ≤ many c := pc_apart 16 a b c h
    omega
  · exact Or.inr (Or.inr h)
theorem whole (a b : Nat) (ha : a ≤ 65535) (hb : b ≤ 65535) : (a &&& (65535 - b)) ||| (a &&& b) = a := by
  apply Nat.eq_of_testBit_eq
  intro i
  have e : 65535 - b = 2 ^ 16 - (b + 1) := by omega
  rw [Nat.testBit_or, Nat.testBit_and, Nat.testBit_and, e, Nat.testBit_two_pow_sub_succ (by omega)]
  by_cases hi : i < 16
  · cases a.testBit i <;> cases b.testBit i <;> simp [hi]
  · have : a.testBit i = false := Nat.testBit_lt_two_pow (Nat.lt_of_lt_of_le (show a < 2 ^ 16 by omega) (Nat.pow_le_pow_right (by omega) (by omega)))
    simp [this]
theorem and_le (a b : Nat) (ha : a ≤ 65535) : a &&& b ≤ 65535 := Nat.le_trans Nat.and_le_left ha
theorem or_le (a b : Nat) (ha : a ≤ 65535) (hb : b ≤ 65535) : a ||| b ≤ 65535 := by
  have := Nat.or_lt_two_pow (n := 16) (x := a) (y := b) (by omega) (by omega)
  omega

/-! ### the lowest bit goes -/
theorem low_odd (c : Nat) (h : c % 2 = 1) : c &&& (c - 1) = c - 1 := by
  have e1 : (c &&& (c - 1)) / 2 = (c - 1) / 2 := by
    rw [Nat.and_div_two, show (c - 1) / 2 = c / 2 by omega, Nat.and_self]
  have e2 : (c &&& (c - 1)) % 2 = (c - 1) % 2 := by rw [and_mod2, h]; omega
  omega
theorem low_even (c : Nat) (h : c % 2 = 0) (h0 : 0 < c) : (c &&& (c - 1)) % 2 = 0 ∧ (c &&& (c - 1)) / 2 = (c / 2) &&& (c / 2 - 1) := by
  refine ⟨by rw [and_mod2, h]; simp, ?_⟩
  rw [Nat.and_div_two, show (c - 1) / 2 = c / 2 - 1 by omega]
theorem nl_step : ∀ f p c, 0 < c → c < 2 ^ f → nl f p c = (p + Lib.ctzFrom f c + 1) :: nl f p (c &&& (c - 1))
  | 0, _, c, h0, h => by simp at h; omega
  | f + 1, p, c, h0, h => by
    have hp : 2 ^ (f + 1) = 2 * 2 ^ f := by rw [Nat.pow_succ]; omega
    rcases Nat.mod_two_eq_zero_or_one c with hc | hc
    · obtain ⟨l1, l2⟩ := low_even c hc h0
      have ih := nl_step f (p + 1) (c / 2) (by omega) (by omega)
      simp only [nl, hc, l1, l2, Lib.ctzFrom]
      simp only [Nat.zero_ne_one, if_false, ih]
      congr 1
      omega
    · have e := low_odd c hc
      rw [e]
      have e1 : (c - 1) % 2 = 0 := by omega
      have e2 : (c - 1) / 2 = c / 2 := by omega
      simp [nl, hc, e1, e2, Lib.ctzFrom]
theorem low_lt (c : Nat) (h : 0 < c) : c &&& (c - 1) < c := Nat.lt_of_le_of_lt Nat.and_le_right (by omega)
end Cm
end Go.Proofs.YtglhapkclpllfaaDoor
