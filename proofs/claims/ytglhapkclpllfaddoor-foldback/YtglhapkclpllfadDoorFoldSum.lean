/-
  Plain mathematics of histories: what each of the nodes said last, as a list; what that makes together.
-/
import Derived.Test.YtglhapkclpllfadDoorFoldMath
namespace Go.Proofs.YtglhapkclpllfadDoor
open Go.RowKit Go.Shelf

/-- What the first k nodes said last. -/
def lastL (k : Nat) (l : List Ent) : List Int := (List.range k).map fun (i : Nat) => lastV l ((i : Int) + 1)
theorem lastL_len (k : Nat) (l : List Ent) : (lastL k l).length = k := by simp [lastL]
theorem lastL_succ (k : Nat) (l : List Ent) : lastL (k + 1) l = lastL k l ++ [lastV l ((k : Int) + 1)] := by
  unfold lastL
  rw [List.range_succ, List.map_append]
  rfl
theorem lastL_at (k i : Nat) (l : List Ent) (h : i < k) : (lastL k l).getD i 0 = lastV l ((i : Int) + 1) := by
  unfold lastL
  rw [List.getD_eq_getElem?_getD, List.getElem?_map, List.getElem?_range h]
  rfl
/-- What the first k of them make together. -/
def sumL (k : Nat) (l : List Int) : Int := (l.take k).foldl (· + ·) 0
theorem sumL_zero (l : List Int) : sumL 0 l = 0 := rfl
theorem sumL_succ (k : Nat) (l : List Int) (h : k < l.length) : sumL (k + 1) l = sumL k l + l.getD k 0 := by
  unfold sumL
  rw [List.take_succ_eq_append_getElem h, List.foldl_append, List.getD_eq_getElem?_getD, List.getElem?_eq_getElem h]
  rfl
theorem sumL_bound (l : List Int) (B : Nat) (h : ∀ i, i < l.length → -(B : Int) ≤ l.getD i 0 ∧ l.getD i 0 ≤ B) : ∀ k, k ≤ l.length → -((k * B : Nat) : Int) ≤ sumL k l ∧ sumL k l ≤ ((k * B : Nat) : Int)
  | 0, _ => by rw [sumL_zero]; simp
  | k + 1, hk => by
    have ih := sumL_bound l B h k (by omega)
    have h1 := h k (by omega)
    rw [sumL_succ k l (by omega), Nat.add_mul, Nat.one_mul]
    omega
def totL (l : List Ent) : Int := sumL 16 (lastL 16 l)
/-- One entry more: who was heard has its value there, nobody else turns. -/
theorem lastL_step (l : List Ent) (k : Nat) (h : k < l.length) :
    ((l.getD k Ent.zero).heard = false → ∀ i, lastV (l.take (k + 1)) i = lastV (l.take k) i) ∧
    ((l.getD k Ent.zero).heard = true → ∀ i : Int, lastV (l.take (k + 1)) i = if i = (l.getD k Ent.zero).src then (l.getD k Ent.zero).value else lastV (l.take k) i) := by
  constructor
  · intro hh i
    rw [lastV_snoc l k i h, hh, Bool.false_and, if_neg (by decide)]
  · intro hh i
    rw [lastV_snoc l k i h, hh, Bool.true_and]
    by_cases e : i = (l.getD k Ent.zero).src
    · rw [if_pos e, if_pos (by rw [e]; exact beq_self_eq_true _)]
    · rw [if_neg e, if_neg (by simp; exact fun e' => e e'.symm)]
theorem last_small {l : List Ent} (h : histOk l) : ∀ k, k ≤ 16 → -16777216 ≤ sumL k (lastL 16 l) ∧ sumL k (lastL 16 l) ≤ 16777216 := fun k hk => by
  have hb : ∀ e ∈ l, -1048576 ≤ e.value ∧ e.value ≤ 1048576 := fun e he => by
    obtain ⟨i, hi, rfl⟩ := List.mem_iff_getElem.1 he
    have h2 := (ent_right (h.2 i hi)).2.2.1
    rw [List.getD_eq_getElem?_getD, List.getElem?_eq_getElem hi] at h2
    exact h2
  have h1 := sumL_bound (lastL 16 l) 1048576 (fun i hi => by
    rw [lastL_len] at hi
    rw [lastL_at 16 i l hi]
    exact lastV_bound l _ hb) k (by rw [lastL_len]; exact hk)
  have h2 : k * 1048576 ≤ 16 * 1048576 := Nat.mul_le_mul_right _ hk
  omega
end Go.Proofs.YtglhapkclpllfadDoor
