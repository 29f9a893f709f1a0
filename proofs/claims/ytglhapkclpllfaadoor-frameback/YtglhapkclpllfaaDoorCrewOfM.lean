/-
  Plain mathematics of the crew of nodes.
-/
import Derived.Test.YtglhapkclpllfaaDoorCrew0
namespace Go.Proofs.YtglhapkclpllfaaDoor
open Go.RowKit
namespace Cm
/-- The crew of nodes. -/
def ofN (xs : List Int) : Nat := xs.foldl (fun c x => c ||| 2 ^ (x.toNat - 1)) 0
theorem ofN_snoc (xs : List Int) (x : Int) : ofN (xs ++ [x]) = ofN xs ||| 2 ^ (x.toNat - 1) := by simp [ofN]
theorem pow_le (x : Int) (h : isNode x) : 2 ^ (x.toNat - 1) ≤ 65535 := Nat.le_trans (Nat.pow_le_pow_right (by omega) (show x.toNat - 1 ≤ 15 by have := h.2; omega)) (by decide)
theorem fold_le : ∀ (xs : List Int) (c : Nat), c ≤ 65535 → (∀ x ∈ xs, isNode x) → xs.foldl (fun c x => c ||| 2 ^ (x.toNat - 1)) c ≤ 65535
  | [], _, hc, _ => hc
  | x :: r, _, hc, h => fold_le r _ (or_le _ _ hc (pow_le x (h x List.mem_cons_self))) fun y hy => h y (List.mem_cons_of_mem _ hy)
theorem ofN_le (xs : List Int) (h : ∀ x ∈ xs, isNode x) : ofN xs ≤ 65535 := fold_le xs 0 (by omega) h
end Cm
theorem take_snoc_getD (xs : List Int) (k : Nat) (h : k < xs.length) : xs.take (k + 1) = xs.take k ++ [xs.getD k 0] := by
  rw [List.take_succ_eq_append_getElem h, List.getD_eq_getElem?_getD, List.getElem?_eq_getElem h]; rfl
theorem getD_mem (xs : List Int) (k : Nat) (h : k < xs.length) : xs.getD k 0 ∈ xs := by
  rw [List.getD_eq_getElem?_getD, List.getElem?_eq_getElem h]; exact List.getElem_mem h

theorem i64_or_pow (a k : Nat) (ha : a ≤ 65535) (hb : 2 ^ k ≤ 65535) : bits .or .i64 (a : Int) (2 ^ k) = ((a ||| 2 ^ k : Nat) : Int) := by
  rw [← i64_or a (2 ^ k) ha hb]; simp
theorem pow_ne (k : Nat) : (((2 : Int) ^ k) == 0) = false := by
  have : (2 : Int) ^ k = ((2 ^ k : Nat) : Int) := by simp
  rw [this]
  have h := Nat.two_pow_pos k
  generalize 2 ^ k = n at h
  simp; omega
theorem ret_pair {a b : Int} {v : Value} (h : a = b) : Ending.returned (.tuple #[.int .i64 a, v]) = .returned (.tuple #[.int .i64 b, v]) := by rw [h]
/-- The first number that is no node, or the end. -/
theorem first_bad : ∀ xs : List Int, ∃ m, m ≤ xs.length ∧ (∀ i, i < m → Cm.isNode (xs.getD i 0)) ∧ (m < xs.length → ¬ Cm.isNode (xs.getD m 0))
  | [] => ⟨0, by simp, fun i hi => absurd hi (by omega), by simp⟩
  | x :: xs => by
    by_cases hx : Cm.isNode x
    · obtain ⟨m, h1, h2, h3⟩ := first_bad xs
      refine ⟨m + 1, by simp; omega, fun i hi => ?_, fun h => ?_⟩
      · cases i with
        | zero => simpa using hx
        | succ i => simpa using h2 i (by omega)
      · simpa using h3 (by simpa using h)
    · exact ⟨0, by simp, fun i hi => absurd hi (by omega), fun _ => by simpa using hx⟩
end Go.Proofs.YtglhapkclpllfaaDoor
