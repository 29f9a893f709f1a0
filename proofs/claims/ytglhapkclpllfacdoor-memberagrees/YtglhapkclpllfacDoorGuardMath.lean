/-
  Plain mathematics of a guard: in which slot a tick is, whose it is, and the first tick from one on at which a node may send.
-/
import Derived.Test.YtglhapkclpllfacDoorPlanMath
namespace Go.Proofs.YtglhapkclpllfacDoor
open Go.RowKit

/-- Whose tick it is, if slots are so many ticks long. -/
def ownerAt (xs : List Int) (long t : Nat) : Int := xs.getD (t / long % xs.length) 0
/-- The first tick from t on in the slot that comes m slots behind t's own. -/
def waitAt (long t m : Nat) : Nat := max t ((t / long + m) * long)
theorem owner_rot (xs : List Int) (long t : Nat) (h : 0 < xs.length) : ownerAt xs long t = (rot xs (t / long % xs.length)).getD 0 0 := by
  unfold ownerAt
  have := getD_mod xs (t / long) 0 h
  rw [Nat.add_zero] at this
  exact this
theorem owner_node {xs : List Int} (h : planOk xs) (long t : Nat) : Cm.isNode (ownerAt xs long t) := by
  have h0 : 0 < xs.length := by have := h.1; omega
  have hm := Nat.mod_lt (t / long) h0
  unfold ownerAt
  rw [List.getD_eq_getElem?_getD, List.getElem?_eq_getElem hm]
  exact h.2.2 _ (List.getElem_mem hm)
theorem wait_zero (long t : Nat) : waitAt long t 0 = t := by
  unfold waitAt
  rw [Nat.add_zero]
  exact Nat.max_eq_left (Nat.div_mul_le_self t long)
theorem wait_succ (long t m : Nat) (hl : 0 < long) (hm : 0 < m) : waitAt long t m = (t / long + m) * long ∧ t < waitAt long t m ∧ waitAt long t m / long = t / long + m ∧ (waitAt long t m - 1) / long = t / long + m - 1 := by
  have h1 : t < (t / long + m) * long := by
    have h2 := Nat.lt_div_mul_add hl (a := t)
    have h3 : (t / long + 1) * long ≤ (t / long + m) * long := Nat.mul_le_mul_right _ (by omega)
    rw [Nat.add_mul, Nat.one_mul] at h3
    omega
  have e : waitAt long t m = (t / long + m) * long := by unfold waitAt; exact Nat.max_eq_right (by omega)
  refine ⟨e, by rw [e]; exact h1, by rw [e]; exact Nat.mul_div_cancel _ hl, ?_⟩
  rw [e]
  obtain ⟨q, hq⟩ : ∃ q, t / long + m = q + 1 := by
    generalize t / long = s at *
    exact ⟨s + m - 1, by omega⟩
  rw [hq, Nat.add_sub_cancel, Nat.add_mul, Nat.one_mul]
  have h4 : q * long + long - 1 = q * long + (long - 1) := by omega
  rw [h4, Nat.mul_comm, Nat.mul_add_div hl, Nat.div_eq_of_lt (by omega), Nat.add_zero]
/-- Whose slot it is, m slots behind. -/
theorem owner_behind (xs : List Int) (long t u m : Nat) (hm : m < xs.length) (hu : u / long = t / long + m) : ownerAt xs long u = (rot xs (t / long % xs.length)).getD m 0 := by
  unfold ownerAt
  rw [hu]
  exact getD_mod xs (t / long) m hm
/-- The first slot from t's own on that is the node's: then it may send, and nobody of it between. -/
theorem wait_first {xs : List Int} {node : Int} {long t m : Nat} (hl : 0 < long) (hm : m < xs.length) (hno : ∀ i, i < m → (rot xs (t / long % xs.length)).getD i 0 ≠ node) (hat : (rot xs (t / long % xs.length)).getD m 0 = node) :
    t ≤ waitAt long t m ∧ ownerAt xs long (waitAt long t m) = node ∧ (waitAt long t m = t ∨ (0 < waitAt long t m ∧ ownerAt xs long t ≠ node ∧ ownerAt xs long (waitAt long t m - 1) ≠ node)) := by
  rcases Nat.eq_zero_or_pos m with rfl | h
  · rw [wait_zero]
    exact ⟨Nat.le_refl _, by rw [owner_rot xs long t (by omega)]; exact hat, Or.inl rfl⟩
  · obtain ⟨_, h2, h3, h4⟩ := wait_succ long t m hl h
    refine ⟨Nat.le_of_lt h2, by rw [owner_behind xs long t _ m hm h3]; exact hat, Or.inr ⟨by omega, ?_, ?_⟩⟩
    · rw [owner_rot xs long t (by omega)]
      exact hno 0 h
    · rw [owner_behind xs long t _ (m - 1) (by omega) (by rw [h4]; generalize t / long = s at *; omega)]
      exact hno (m - 1) (by omega)
/-- If the first slot of the node's begins behind the last tick, or there is none, it isn't its tick now. -/
theorem wait_far {xs : List Int} {node : Int} {long t m : Nat} (hm : m < xs.length) (hno : ∀ i, i < m → (rot xs (t / long % xs.length)).getD i 0 ≠ node) (h : t < waitAt long t m) : ownerAt xs long t ≠ node := by
  rcases Nat.eq_zero_or_pos m with rfl | h0
  · rw [wait_zero] at h; omega
  · rw [owner_rot xs long t (by omega)]
    exact hno 0 h0
theorem wait_none {xs : List Int} {node : Int} (long t : Nat) (h0 : 0 < xs.length) (hno : node ∉ xs) : ownerAt xs long t ≠ node := fun e => hno (by
  have hm := Nat.mod_lt (t / long) h0
  unfold ownerAt at e
  rw [List.getD_eq_getElem?_getD, List.getElem?_eq_getElem hm] at e
  rw [← e]
  exact List.getElem_mem hm)
/-- How many of the numbers from -1 on are the owner: one. -/
def oneUpto (x : Int) (k : Nat) : Nat := if x < (k : Int) - 1 then 1 else 0
theorem one_step (x : Int) (k : Nat) : oneUpto x (k + 1) = oneUpto x k + if x = (k : Int) - 1 then 1 else 0 := by
  unfold oneUpto
  by_cases h1 : x < (k : Int) - 1
  · rw [if_pos (by omega), if_pos h1, if_neg (by omega)]
  · by_cases h2 : x = (k : Int) - 1
    · rw [if_pos (by omega), if_neg h1, if_pos h2]
    · rw [if_neg (by omega), if_neg h1, if_neg h2]
theorem one_all (x : Int) (h : Cm.isNode x) : oneUpto x 19 = 1 := by
  unfold oneUpto
  have := h.2
  rw [if_pos (by omega)]
end Go.Proofs.YtglhapkclpllfacDoor
