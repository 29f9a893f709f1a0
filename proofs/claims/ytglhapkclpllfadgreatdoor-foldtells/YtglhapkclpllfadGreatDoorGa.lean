/-
  The plain mathematics of crews, as numbers below 65536: how many bits, which ones, and, or, less.
-/
import Derived.WalkKit
import Derived.Lib.TrailingZeros
import Derived.Test.YtglhapkclpllfadGreatDoorProg
import Derived.Test.YtglhapkclpllfadGreatDoorBase
import Derived.Laws.Bits64b
import Derived.Laws.BitsLemmas
import Derived.Outline
namespace Go.Proofs.YtglhapkclpllfadGreatDoor
namespace Cm

/-- How many of the lowest f bits of c are set. -/
def pc : Nat → Nat → Nat
  | 0, _ => 0
  | f + 1, c => c % 2 + pc f (c / 2)
/-- The places (from p + 1 on) of the set bits among the lowest f, rising. -/
def nl : Nat → Nat → Nat → List Nat
  | 0, _, _ => []
  | f + 1, p, c => if c % 2 = 1 then (p + 1) :: nl f (p + 1) (c / 2) else nl f (p + 1) (c / 2)
def nodes (c : Nat) : List Nat := nl 16 0 c
def many (c : Nat) : Nat := pc 16 c

theorem and_mod2 (a b : Nat) : (a &&& b) % 2 = (a % 2) * (b % 2) := by
  have h := Nat.and_mod_two_pow (a := a) (b := b) (n := 1)
  simp only [Nat.pow_one] at h
  rw [h]
  rcases Nat.mod_two_eq_zero_or_one a with ha | ha <;> rcases Nat.mod_two_eq_zero_or_one b with hb | hb <;> simp [ha, hb]
theorem pc_le : ∀ f c, pc f c ≤ f
  | 0, _ => Nat.le_refl _
  | f + 1, c => by have := pc_le f (c / 2); have := Nat.mod_lt c (show 0 < 2 by omega); simp only [pc]; omega
theorem many_le (c : Nat) : many c ≤ 16 := pc_le 16 c
theorem len_nl : ∀ f p c, (nl f p c).length = pc f c
  | 0, _, _ => rfl
  | f + 1, p, c => by
    have ih := len_nl f (p + 1) (c / 2)
    rcases Nat.mod_two_eq_zero_or_one c with h | h <;> simp [nl, pc, h, ih] <;> omega
theorem len_nodes (c : Nat) : (nodes c).length = many c := len_nl 16 0 c

/-- a without b, and what both have, make a. -/
theorem pc_split : ∀ f a b, b < 2 ^ f → pc f (a &&& (2 ^ f - 1 - b)) + pc f (a &&& b) = pc f a
  | 0, _, _, _ => rfl
  | f + 1, a, b, hb => by
    have hp : 2 ^ (f + 1) = 2 * 2 ^ f := by rw [Nat.pow_succ]; omega
    have ih := pc_split f (a / 2) (b / 2) (by omega)
    have e1 : (2 ^ (f + 1) - 1 - b) / 2 = 2 ^ f - 1 - b / 2 := by omega
    have e2 : (2 ^ (f + 1) - 1 - b) % 2 = 1 - b % 2 := by omega
    simp only [pc, Nat.and_div_two, and_mod2, e1, e2]
    rcases Nat.mod_two_eq_zero_or_one b with h | h <;> simp only [h] <;> omega
theorem many_split (a b : Nat) (hb : b ≤ 65535) : many (a &&& (65535 - b)) + many (a &&& b) = many a := pc_split 16 a b (by omega)
/-- Two that have nothing together have no more of a third one than it has. -/
theorem pc_apart : ∀ f a b c, a &&& b = 0 → pc f (a &&& c) + pc f (b &&& c) ≤ pc f c
  | 0, _, _, _, _ => Nat.le_refl _
  | f + 1, a, b, c, h => by
    have h2 : a / 2 &&& b / 2 = 0 := by rw [← Nat.and_div_two, h]
    have h0 : (a % 2) * (b % 2) = 0 := by rw [← and_mod2, h]
    have ih := pc_apart f (a / 2) (b / 2) (c / 2) h2
    simp only [pc, Nat.and_div_two, and_mod2]
    have : (a % 2) * (c % 2) + (b % 2) * (c % 2) ≤ c % 2 := by
      rcases Nat.mod_two_eq_zero_or_one a with ha | ha <;> rcases Nat.mod_two_eq_zero_or_one b with hb | hb <;> rcases Nat.mod_two_eq_zero_or_one c with hc | hc <;> simp [ha, hb, hc] at h0 ⊢
    omega
theorem many_apart (a b c : Nat) : 2 * many (a &&& c) ≤ many c ∨ 2 * many (b &&& c) ≤ many c ∨ a &&& b ≠ 0 := by
  by_cases h : a &&& b = 0
  · have : many (a &&& c) + many (b &&& c) ≤ many c := pc_apart 16 a b c h
    omega
  · exact Or.inr (Or.inr h)
theorem whole (a b : Nat) (ha : a ≤ 65535) (hb : b ≤ 65535) : (a &&& (65535 - b)) ||| (a &&& b) = a := by
  apply Nat.eq_of_testBit_eq
  intro i
  have e : 65535 - b = 2 ^ 16 - (b + 1) := by omega
  rw [Nat.testBit_or, Nat.testBit_and, Nat.testBit_and, e, Nat.testBit_two_pow_sub_succ (by omega)]
  by_cases hi : i < 16
  · cases a.testBit i <;> cases b.testBit i <;> simp [hi]
  · have : a.testBit i = false := Nat.testBit_lt_two_pow (Nat.lt_of_lt_of_le (show a < 2 ^ 16 by omega) (Nat.pow_le_pow_right (by omega) (by omega)))
    simp [this]
theorem and_le (a b : Nat) (ha : a ≤ 65535) : a &&& b ≤ 65535 := Nat.le_trans Nat.and_le_left ha
theorem or_le (a b : Nat) (ha : a ≤ 65535) (hb : b ≤ 65535) : a ||| b ≤ 65535 := by
  have := Nat.or_lt_two_pow (n := 16) (x := a) (y := b) (by omega) (by omega)
  omega

/-! ### the lowest bit goes -/
theorem low_odd (c : Nat) (h : c % 2 = 1) : c &&& (c - 1) = c - 1 := by
  have e1 : (c &&& (c - 1)) / 2 = (c - 1) / 2 := by
    rw [Nat.and_div_two, show (c - 1) / 2 = c / 2 by omega, Nat.and_self]
  have e2 : (c &&& (c - 1)) % 2 = (c - 1) % 2 := by rw [and_mod2, h]; omega
  omega
theorem low_even (c : Nat) (h : c % 2 = 0) (h0 : 0 < c) : (c &&& (c - 1)) % 2 = 0 ∧ (c &&& (c - 1)) / 2 = (c / 2) &&& (c / 2 - 1) := by
  refine ⟨by rw [and_mod2, h]; simp, ?_⟩
  rw [Nat.and_div_two, show (c - 1) / 2 = c / 2 - 1 by omega]
theorem nl_step : ∀ f p c, 0 < c → c < 2 ^ f → nl f p c = (p + Lib.ctzFrom f c + 1) :: nl f p (c &&& (c - 1))
  | 0, _, c, h0, h => by simp at h; omega
  | f + 1, p, c, h0, h => by
    have hp : 2 ^ (f + 1) = 2 * 2 ^ f := by rw [Nat.pow_succ]; omega
    rcases Nat.mod_two_eq_zero_or_one c with hc | hc
    · obtain ⟨l1, l2⟩ := low_even c hc h0
      have ih := nl_step f (p + 1) (c / 2) (by omega) (by omega)
      simp only [nl, hc, l1, l2, Lib.ctzFrom]
      simp only [Nat.zero_ne_one, if_false, ih]
      congr 1
      omega
    · have e := low_odd c hc
      rw [e]
      have e1 : (c - 1) % 2 = 0 := by omega
      have e2 : (c - 1) / 2 = c / 2 := by omega
      simp [nl, hc, e1, e2, Lib.ctzFrom]
theorem low_lt (c : Nat) (h : 0 < c) : c &&& (c - 1) < c := Nat.lt_of_le_of_lt Nat.and_le_right (by omega)
end Cm
end Go.Proofs.YtglhapkclpllfadGreatDoor
/-
  Contracts of package crew: Check, bit, Has, whatever the numbers are.
-/
namespace Go.Proofs.YtglhapkclpllfadGreatDoor
open Go.RowKit

def Cm.isNode (x : Int) : Prop := 1 ≤ x ∧ x ≤ 16
theorem i64_and (a b : Nat) (ha : a ≤ 65535) (hb : b ≤ 65535) : bits .and .i64 (a : Int) (b : Int) = ((a &&& b : Nat) : Int) :=
  (bits_nat .i64 16 (by decide) (fun n h0 h1 => by rw [IntKind.wrap_i64]; omega) a b (by omega) (by omega)).1
theorem i64_or (a b : Nat) (ha : a ≤ 65535) (hb : b ≤ 65535) : bits .or .i64 (a : Int) (b : Int) = ((a ||| b : Nat) : Int) :=
  (bits_nat .i64 16 (by decide) (fun n h0 h1 => by rw [IntKind.wrap_i64]; omega) a b (by omega) (by omega)).2
theorem pow_wrap (n : Nat) (h : n ≤ 16) : wrap64 (2 ^ (n - 1)) = ((2 ^ (n - 1) : Nat) : Int) := by
  have h1 : 2 ^ (n - 1) ≤ 2 ^ 15 := Nat.pow_le_pow_right (by omega) (by omega)
  have h2 : ((2 ^ (n - 1) : Nat) : Int) = (2 : Int) ^ (n - 1) := by simp
  rw [← h2]
  generalize 2 ^ (n - 1) = k at h1
  unfold wrap64
  omega
theorem bit_key (c k : Nat) (hk : bits .and .i64 (c : Int) ((2 ^ k : Nat) : Int) = ((c &&& 2 ^ k : Nat) : Int)) : (bits .and .i64 (c : Int) (2 ^ k) != 0) = c.testBit k := by
  have e : ((2 ^ k : Nat) : Int) = (2 : Int) ^ k := by simp
  rw [← e, hk]
  cases hb : c.testBit k with
  | false =>
    have : c &&& 2 ^ k = 0 := by
      apply Nat.eq_of_testBit_eq
      intro i
      rw [Nat.testBit_and, Nat.testBit_two_pow, Nat.zero_testBit]
      by_cases h : k = i
      · subst h; simp [hb]
      · simp [h]
    rw [this]; rfl
  | true =>
    have : c &&& 2 ^ k ≠ 0 := fun h0 => by
      have h1 : (c &&& 2 ^ k).testBit k = true := by rw [Nat.testBit_and, Nat.testBit_two_pow, hb]; simp
      rw [h0] at h1
      simp at h1
    simp; omega
def okC (c : Int) : Prop := 0 ≤ c ∧ c ≤ 65535
theorem not_okC {c : Int} (h : ¬ okC c) : c < 0 ∨ 65535 < c := by unfold okC at h; omega
theorem okC_nat {c : Int} (h : okC c) : ∃ n : Nat, c = n ∧ n ≤ 65535 := ⟨c.toNat, by unfold okC at h; omega, by unfold okC at h; omega⟩
end Go.Proofs.YtglhapkclpllfadGreatDoor
/-
  Numbers of 64 bits without a sign, as plain ones.
-/
namespace Go.Proofs.YtglhapkclpllfadGreatDoor
open Go.RowKit

theorem u64_and (a b : Nat) (ha : a < 18446744073709551616) (hb : b < 18446744073709551616) : bits .and .u64 (a : Int) (b : Int) = ((a &&& b : Nat) : Int) := bits_and_u64_nat a b ha hb
theorem u64_wrap (a : Nat) (ha : a < 18446744073709551616) : IntKind.u64.wrap (a : Int) = (a : Int) := by rw [IntKind.wrap_u64]; omega
end Go.Proofs.YtglhapkclpllfadGreatDoor
/-
  Plain mathematics of the crew of nodes.
-/
namespace Go.Proofs.YtglhapkclpllfadGreatDoor
open Go.RowKit
namespace Cm
/-- The crew of nodes. -/
def ofN (xs : List Int) : Nat := xs.foldl (fun c x => c ||| 2 ^ (x.toNat - 1)) 0
theorem ofN_snoc (xs : List Int) (x : Int) : ofN (xs ++ [x]) = ofN xs ||| 2 ^ (x.toNat - 1) := by simp [ofN]
theorem pow_le (x : Int) (h : isNode x) : 2 ^ (x.toNat - 1) ≤ 65535 := Nat.le_trans (Nat.pow_le_pow_right (by omega) (show x.toNat - 1 ≤ 15 by have := h.2; omega)) (by decide)
theorem fold_le : ∀ (xs : List Int) (c : Nat), c ≤ 65535 → (∀ x ∈ xs, isNode x) → xs.foldl (fun c x => c ||| 2 ^ (x.toNat - 1)) c ≤ 65535
  | [], _, hc, _ => hc
  | x :: r, _, hc, h => fold_le r _ (or_le _ _ hc (pow_le x (h x List.mem_cons_self))) fun y hy => h y (List.mem_cons_of_mem _ hy)
theorem ofN_le (xs : List Int) (h : ∀ x ∈ xs, isNode x) : ofN xs ≤ 65535 := fold_le xs 0 (by omega) h
end Cm
theorem take_snoc_getD (xs : List Int) (k : Nat) (h : k < xs.length) : xs.take (k + 1) = xs.take k ++ [xs.getD k 0] := by
  rw [List.take_succ_eq_append_getElem h, List.getD_eq_getElem?_getD, List.getElem?_eq_getElem h]; rfl
theorem getD_mem (xs : List Int) (k : Nat) (h : k < xs.length) : xs.getD k 0 ∈ xs := by
  rw [List.getD_eq_getElem?_getD, List.getElem?_eq_getElem h]; exact List.getElem_mem h

theorem i64_or_pow (a k : Nat) (ha : a ≤ 65535) (hb : 2 ^ k ≤ 65535) : bits .or .i64 (a : Int) (2 ^ k) = ((a ||| 2 ^ k : Nat) : Int) := by
  rw [← i64_or a (2 ^ k) ha hb]; simp
theorem pow_ne (k : Nat) : (((2 : Int) ^ k) == 0) = false := by
  have : (2 : Int) ^ k = ((2 ^ k : Nat) : Int) := by simp
  rw [this]
  have h := Nat.two_pow_pos k
  generalize 2 ^ k = n at h
  simp; omega
theorem ret_pair {a b : Int} {v : Value} (h : a = b) : Ending.returned (.tuple #[.int .i64 a, v]) = .returned (.tuple #[.int .i64 b, v]) := by rw [h]
/-- The first number that is no node, or the end. -/
theorem first_bad : ∀ xs : List Int, ∃ m, m ≤ xs.length ∧ (∀ i, i < m → Cm.isNode (xs.getD i 0)) ∧ (m < xs.length → ¬ Cm.isNode (xs.getD m 0))
  | [] => ⟨0, by simp, fun i hi => absurd hi (by omega), by simp⟩
  | x :: xs => by
    by_cases hx : Cm.isNode x
    · obtain ⟨m, h1, h2, h3⟩ := first_bad xs
      refine ⟨m + 1, by simp; omega, fun i hi => ?_, fun h => ?_⟩
      · cases i with
        | zero => simpa using hx
        | succ i => simpa using h2 i (by omega)
      · simpa using h3 (by simpa using h)
    · exact ⟨0, by simp, fun i hi => absurd hi (by omega), fun _ => by simpa using hx⟩
end Go.Proofs.YtglhapkclpllfadGreatDoor
