/-
  Plain mathematics of plans: a round from one of its slots on, how often a node is there, where it is first.
-/
import Derived.Test.YtglhapkclpllfaaDoorCrew2
namespace Go.Proofs.YtglhapkclpllfaaDoor
open Go.RowKit

/-- A plan that is right. -/
def planOk (xs : List Int) : Prop := xs.length ≠ 0 ∧ xs.length ≤ 32 ∧ ∀ x ∈ xs, Cm.isNode x
/-- A round from its r-th slot on. -/
def rot (xs : List Int) (r : Nat) : List Int := xs.drop r ++ xs.take r
theorem rot_len (xs : List Int) (r : Nat) : (rot xs r).length = xs.length := by
  simp [rot]; omega
theorem rot_count (xs : List Int) (r : Nat) (a : Int) : (rot xs r).count a = xs.count a := by
  rw [rot, List.count_append, Nat.add_comm, ← List.count_append, List.take_append_drop]
theorem rot_mem (xs : List Int) (r : Nat) (a : Int) : a ∈ rot xs r ↔ a ∈ xs := by
  rw [← List.count_pos_iff, ← List.count_pos_iff, rot_count]
theorem rot_getD (xs : List Int) (r k : Nat) (hr : r < xs.length) (hk : k < xs.length) : (rot xs r).getD k 0 = xs.getD ((r + k) % xs.length) 0 := by
  rw [rot, List.getD_eq_getElem?_getD, List.getD_eq_getElem?_getD]
  by_cases h : k < xs.length - r
  · rw [List.getElem?_append_left (by rw [List.length_drop]; exact h), List.getElem?_drop, Nat.mod_eq_of_lt (by omega)]
  · rw [List.getElem?_append_right (by rw [List.length_drop]; omega), List.length_drop, List.getElem?_take_of_lt (by omega)]
    have e : (r + k) % xs.length = k - (xs.length - r) := by
      rw [show r + k = (k - (xs.length - r)) + xs.length by omega, Nat.add_mod_right, Nat.mod_eq_of_lt (by omega)]
    rw [e]
theorem getD_mod (xs : List Int) (s k : Nat) (hk : k < xs.length) : xs.getD ((s + k) % xs.length) 0 = (rot xs (s % xs.length)).getD k 0 := by
  rw [rot_getD xs _ k (Nat.mod_lt _ (by omega)) hk, Nat.add_mod, Nat.mod_eq_of_lt hk, Nat.mod_add_mod, Nat.add_mod, Nat.mod_eq_of_lt hk]
theorem count_snoc (ys : List Int) (k : Nat) (a : Int) (h : k < ys.length) : (ys.take (k + 1)).count a = (ys.take k).count a + (if ys.getD k 0 = a then 1 else 0) := by
  rw [take_snoc_getD ys k h, List.count_append, List.count_singleton]
  simp
theorem count_len (ys : List Int) (k : Nat) (a : Int) : (ys.take k).count a ≤ k := Nat.le_trans List.count_le_length (by rw [List.length_take]; omega)
/-- Where a number is first, or the length. -/
theorem first_at (a : Int) : ∀ ys : List Int, ∃ m, m ≤ ys.length ∧ (∀ i, i < m → ys.getD i 0 ≠ a) ∧ (m < ys.length → ys.getD m 0 = a) ∧ (m < ys.length ↔ a ∈ ys)
  | [] => ⟨0, by simp, fun i hi => absurd hi (by omega), by simp, by simp⟩
  | x :: ys => by
    by_cases hx : x = a
    · subst hx
      exact ⟨0, by simp, fun i hi => absurd hi (by omega), fun _ => by simp, by simp⟩
    · obtain ⟨m, h1, h2, h3, h4⟩ := first_at a ys
      refine ⟨m + 1, by simp; omega, fun i hi => ?_, fun h => ?_, ?_⟩
      · cases i with
        | zero => simpa using hx
        | succ i => simpa using h2 i (by omega)
      · simpa using h3 (by simpa using h)
      · have : ¬ a = x := fun e => hx e.symm
        simp [this, h4]
/-- The crew of a plan has just its nodes. -/
theorem ofN_bit (xs : List Int) (n : Nat) (h : ∀ x ∈ xs, Cm.isNode x) (hn : 1 ≤ n) : (Cm.ofN xs).testBit (n - 1) = xs.contains (n : Int) := by
  unfold Cm.ofN
  have key : ∀ (ys : List Int) (c : Nat), (∀ x ∈ ys, Cm.isNode x) → (ys.foldl (fun c x => c ||| 2 ^ (x.toNat - 1)) c).testBit (n - 1) = (c.testBit (n - 1) || ys.contains (n : Int)) := by
    intro ys
    induction ys with
    | nil => intro c _; simp
    | cons x r ih =>
      intro c h
      have hx := h x List.mem_cons_self
      rw [List.foldl_cons, ih _ (fun y hy => h y (List.mem_cons_of_mem _ hy)), Nat.testBit_or, Nat.testBit_two_pow, List.contains_cons]
      have h1 := hx.1
      have e : decide (x.toNat - 1 = n - 1) = ((n : Int) == x) := by
        by_cases hh : (n : Int) = x
        · have : x.toNat - 1 = n - 1 := by omega
          simp [hh, this]
        · have : ¬ x.toNat - 1 = n - 1 := by omega
          simp [hh, this]
      rw [e]
      cases c.testBit (n - 1) <;> cases ((n : Int) == x) <;> simp
  rw [key xs 0 h]; simp
end Go.Proofs.YtglhapkclpllfaaDoor
