/-
  Plain mathematics of what is missing: how many are the same in front, what is behind the first so many, and that piece by piece it becomes all.
-/
import Derived.Test.YtglhapkclpllfadDoorCliqueMath
namespace Go.Proofs.YtglhapkclpllfadDoor
open Go.RowKit

/-- How many there are in front that are the same in both. -/
def agreeN {α : Type} [DecidableEq α] : List α → List α → Nat
  | x :: a, y :: b => if x = y then agreeN a b + 1 else 0
  | _, _ => 0
theorem agree_le {α : Type} [DecidableEq α] : ∀ a b : List α, agreeN a b ≤ a.length ∧ agreeN a b ≤ b.length
  | [], b => by simp [agreeN]
  | x :: a, [] => by simp [agreeN]
  | x :: a, y :: b => by
    have ih := agree_le a b
    unfold agreeN
    split <;> simp <;> omega
theorem agree_take {α : Type} [DecidableEq α] : ∀ a b : List α, a.take (agreeN a b) = b.take (agreeN a b)
  | [], b => by simp [agreeN]
  | x :: a, [] => by simp [agreeN]
  | x :: a, y :: b => by
    have ih := agree_take a b
    unfold agreeN
    by_cases h : x = y
    · rw [if_pos h, List.take_succ_cons, List.take_succ_cons, h, ih]
    · rw [if_neg h]; rfl
theorem agree_comm {α : Type} [DecidableEq α] : ∀ a b : List α, agreeN a b = agreeN b a
  | [], [] => rfl
  | [], _ :: _ => rfl
  | _ :: _, [] => rfl
  | x :: a, y :: b => by
    unfold agreeN
    by_cases h : x = y
    · rw [if_pos h, if_pos h.symm, agree_comm a b]
    · rw [if_neg h, if_neg (fun e => h e.symm)]
/-- Where it ends: all ahead are the same, and there is no next one in both that is. -/
theorem agree_at {α : Type} [DecidableEq α] (z : α) : ∀ (a b : List α) (k : Nat), k ≤ a.length → k ≤ b.length → (∀ i, i < k → a.getD i z = b.getD i z) → (k < a.length → k < b.length → a.getD k z ≠ b.getD k z) → agreeN a b = k
  | [], b, k, h1, _, _, _ => by simp at h1; subst h1; simp [agreeN]
  | x :: a, [], k, _, h2, _, _ => by simp at h2; subst h2; simp [agreeN]
  | x :: a, y :: b, 0, _, _, _, h4 => by
    have : x ≠ y := by simpa using h4 (by simp) (by simp)
    unfold agreeN
    rw [if_neg this]
  | x :: a, y :: b, k + 1, h1, h2, h3, h4 => by
    have hxy : x = y := by simpa using h3 0 (by omega)
    unfold agreeN
    rw [if_pos hxy, agree_at z a b k (by simpa using h1) (by simpa using h2) (fun i hi => by simpa using h3 (i + 1) (by omega)) (fun ha hb => by simpa using h4 (by simpa using ha) (by simpa using hb))]
/-- What is behind the first so many, and no more than so many of it. -/
def sinceL {α : Type} (l : List α) (have' most : Nat) : List α := (l.drop have').take most
theorem since_join {α : Type} (l : List α) (j most : Nat) : l.take j ++ sinceL l j most = l.take (j + most) := by
  unfold sinceL
  rw [List.take_add]
theorem since_len {α : Type} (l : List α) (j most : Nat) : (sinceL l j most).length = min most (l.length - j) := by
  unfold sinceL
  rw [List.length_take, List.length_drop]
/-- A beginning of a right history is right. -/
theorem histOk_take {l : List Ent} (h : histOk l) (k : Nat) : histOk (l.take k) := by
  refine ⟨by rw [List.length_take]; have := h.1; omega, fun i hi => ?_⟩
  rw [List.length_take] at hi
  have := h.2 i (by omega)
  rw [List.getD_eq_getElem?_getD] at this ⊢
  rw [List.getElem?_take_of_lt (by omega)]
  exact this
end Go.Proofs.YtglhapkclpllfadDoor
