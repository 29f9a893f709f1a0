/-
  Plain mathematics of clocks, more of it: numbers that are times, the first that is none; one number put in where it belongs; the greatest less the least.
-/
import Derived.Test.YtglhapkclpllfabDoorClockMath
import Derived.Lib.Slices
namespace Go.Proofs.YtglhapkclpllfabDoor
open Go.RowKit

/-- A time. -/
abbrev isT (x : Int) : Prop := -1000000 ≤ x ∧ x ≤ 1000000
theorem first_far : ∀ xs : List Int, ∃ m, m ≤ xs.length ∧ (∀ i, i < m → isT (xs.getD i 0)) ∧ (m < xs.length → ¬ isT (xs.getD m 0))
  | [] => ⟨0, Nat.le_refl _, fun i h => absurd h (Nat.not_lt_zero _), fun h => absurd h (Nat.lt_irrefl _)⟩
  | x :: xs => by
    by_cases h : isT x
    · obtain ⟨m, h1, h2, h3⟩ := first_far xs
      refine ⟨m + 1, by simpa using h1, fun i hi => ?_, fun hm => by simpa using h3 (by simpa using hm)⟩
      cases i with
      | zero => simpa using h
      | succ i => simpa using h2 i (by omega)
    · exact ⟨0, Nat.zero_le _, fun i h => absurd h (Nat.not_lt_zero _), fun _ => by simpa using h⟩
theorem getD_in (xs : List Int) (i : Nat) (h : i < xs.length) : xs.getD i 0 ∈ xs := by
  rw [List.getD_eq_getElem?_getD, List.getElem?_eq_getElem h]
  exact List.getElem_mem h
theorem in_getD {xs : List Int} {x : Int} (h : x ∈ xs) : ∃ i, i < xs.length ∧ xs.getD i 0 = x := by
  obtain ⟨i, hi, rfl⟩ := List.mem_iff_getElem.1 h
  exact ⟨i, hi, by rw [List.getD_eq_getElem?_getD, List.getElem?_eq_getElem hi]; rfl⟩
theorem times_all {xs : List Int} : (∀ i, i < xs.length → isT (xs.getD i 0)) ↔ ∀ x ∈ xs, isT x :=
  ⟨fun h x hx => by obtain ⟨i, hi, rfl⟩ := in_getD hx; exact h i hi, fun h i hi => h _ (getD_in xs i hi)⟩

/-! ### one number put in where it belongs -/
theorem ins_rising {zs : List Int} {n : Int} {j : Nat} (hz : Rising zs) (hj : j ≤ zs.length) (h1 : ∀ i, j ≤ i → i < zs.length → n < zs.getD i 0) (h2 : j = 0 ∨ zs.getD (j - 1) 0 ≤ n) : Rising (zs.take j ++ n :: zs.drop j) := by
  have hd : ∀ b ∈ zs.drop j, n < b := fun b hb => by
    obtain ⟨i, hi, rfl⟩ := List.mem_iff_getElem.1 hb
    have hi' : j + i < zs.length := by simp at hi; omega
    have := h1 (j + i) (by omega) hi'
    rw [List.getD_eq_getElem?_getD, List.getElem?_eq_getElem hi'] at this
    rw [List.getElem_drop]
    exact this
  have ht : ∀ a ∈ zs.take j, a ≤ n := fun a ha => by
    obtain ⟨i, hi, rfl⟩ := List.mem_iff_getElem.1 ha
    have hi' : i < j ∧ i < zs.length := by simp at hi; omega
    have h3 := rising_mono hz (i := i) (j := j - 1) (by omega) (by omega)
    rw [List.getD_eq_getElem?_getD, List.getElem?_eq_getElem hi'.2] at h3
    rw [List.getElem_take]
    rcases h2 with h2 | h2
    · omega
    · exact Int.le_trans h3 h2
  refine List.pairwise_append.2 ⟨hz.sublist (List.take_sublist _ _), List.pairwise_cons.2 ⟨fun b hb => Int.le_of_lt (hd b hb), hz.sublist (List.drop_sublist _ _)⟩, fun a ha b hb => ?_⟩
  rcases List.mem_cons.1 hb with rfl | hb
  · exact ht a ha
  · have := ht a ha
    have := hd b hb
    omega
theorem take_snocD (xs : List Int) (k : Nat) (h : k < xs.length) : xs.take (k + 1) = xs.take k ++ [xs.getD k 0] := by
  rw [List.take_succ_eq_append_getElem h, List.getD_eq_getElem?_getD, List.getElem?_eq_getElem h]; rfl
theorem ins_srt (xs : List Int) (k j : Nat) (hk : k < xs.length) (hj : j ≤ k) (h1 : ∀ i, j ≤ i → i < k → xs.getD k 0 < (srt (xs.take k)).getD i 0) (h2 : j = 0 ∨ (srt (xs.take k)).getD (j - 1) 0 ≤ xs.getD k 0) :
    (srt (xs.take k)).take j ++ xs.getD k 0 :: (srt (xs.take k)).drop j = srt (xs.take (k + 1)) := by
  have hl : (srt (xs.take k)).length = k := by rw [srt_len, List.length_take]; omega
  refine srt_unique (ins_rising (srt_rising _) (by omega) (fun i a b => h1 i a (by omega)) h2) ?_
  rw [take_snocD xs k hk]
  refine List.perm_middle.trans ?_
  rw [List.take_append_drop]
  exact ((srt_perm _).cons _).trans (List.perm_append_comm (l₁ := [xs.getD k 0]) (l₂ := xs.take k))
theorem mid_of (s : Int) : (if s < 0 then -((1 - s) / 2) else s / 2) = s / 2 := by
  split <;> omega

/-! ### the greatest less the least -/
theorem foldl_max (l : List Int) : ∀ z : Int, z ≤ l.foldl max z ∧ (∀ x ∈ l, x ≤ l.foldl max z) ∧ (l.foldl max z = z ∨ l.foldl max z ∈ l) := by
  induction l with
  | nil => exact fun z => ⟨Int.le_refl _, (fun x h => absurd h List.not_mem_nil), Or.inl rfl⟩
  | cons a l ih =>
    intro z
    obtain ⟨h1, h2, h3⟩ := ih (max z a)
    refine ⟨Int.le_trans (Int.le_max_left _ _) h1, fun x hx => ?_, ?_⟩
    · rcases List.mem_cons.1 hx with rfl | hx
      · exact Int.le_trans (Int.le_max_right _ _) h1
      · exact h2 x hx
    · rw [List.foldl_cons]
      rcases h3 with h3 | h3
      · rw [h3]
        rcases Int.le_total z a with h | h
        · rw [Int.max_eq_right h]; exact Or.inr List.mem_cons_self
        · rw [Int.max_eq_left h]; exact Or.inl rfl
      · exact Or.inr (List.mem_cons_of_mem _ h3)
theorem foldl_min (l : List Int) : ∀ z : Int, l.foldl min z ≤ z ∧ (∀ x ∈ l, l.foldl min z ≤ x) ∧ (l.foldl min z = z ∨ l.foldl min z ∈ l) := by
  induction l with
  | nil => exact fun z => ⟨Int.le_refl _, (fun x h => absurd h List.not_mem_nil), Or.inl rfl⟩
  | cons a l ih =>
    intro z
    obtain ⟨h1, h2, h3⟩ := ih (min z a)
    refine ⟨Int.le_trans h1 (Int.min_le_left _ _), fun x hx => ?_, ?_⟩
    · rcases List.mem_cons.1 hx with rfl | hx
      · exact Int.le_trans h1 (Int.min_le_right _ _)
      · exact h2 x hx
    · rw [List.foldl_cons]
      rcases h3 with h3 | h3
      · rw [h3]
        rcases Int.le_total z a with h | h
        · rw [Int.min_eq_left h]; exact Or.inl rfl
        · rw [Int.min_eq_right h]; exact Or.inr List.mem_cons_self
      · exact Or.inr (List.mem_cons_of_mem _ h3)
theorem maxOf_spec {l : List Int} (h : l ≠ []) : (∀ x ∈ l, x ≤ Lib.maxOf l) ∧ Lib.maxOf l ∈ l := by
  cases l with
  | nil => exact absurd rfl h
  | cons a l =>
    obtain ⟨h1, h2, h3⟩ := foldl_max (a :: l) a
    refine ⟨h2, ?_⟩
    rcases h3 with h3 | h3
    · show List.foldl max a (a :: l) ∈ a :: l
      rw [h3]; exact List.mem_cons_self
    · exact h3
theorem minOf_spec {l : List Int} (h : l ≠ []) : (∀ x ∈ l, Lib.minOf l ≤ x) ∧ Lib.minOf l ∈ l := by
  cases l with
  | nil => exact absurd rfl h
  | cons a l =>
    obtain ⟨h1, h2, h3⟩ := foldl_min (a :: l) a
    refine ⟨h2, ?_⟩
    rcases h3 with h3 | h3
    · show List.foldl min a (a :: l) ∈ a :: l
      rw [h3]; exact List.mem_cons_self
    · exact h3
/-- The greatest less the least; of none: 0. -/
def spr (l : List Int) : Int := if l = [] then 0 else Lib.maxOf l - Lib.minOf l
/-- Whatever is as great as each difference, and is one of them (or none), is the spread. -/
theorem spr_unique {l : List Int} {m : Int} (h0 : 0 ≤ m) (h1 : ∀ x ∈ l, ∀ y ∈ l, x - y ≤ m) (h2 : m = 0 ∨ ∃ x ∈ l, ∃ y ∈ l, m = x - y) : m = spr l := by
  unfold spr
  by_cases h : l = []
  · rw [if_pos h]
    subst h
    rcases h2 with h2 | ⟨x, hx, _⟩
    · exact h2
    · cases hx
  · rw [if_neg h]
    obtain ⟨a1, a2⟩ := maxOf_spec h
    obtain ⟨b1, b2⟩ := minOf_spec h
    have c1 := h1 _ a2 _ b2
    have c2 := a1 _ b2
    rcases h2 with rfl | ⟨x, hx, y, hy, rfl⟩
    · omega
    · have := a1 x hx
      have := b1 y hy
      omega
theorem spr_bound {l : List Int} (h : ∀ x ∈ l, isT x) : 0 ≤ spr l ∧ spr l ≤ 2000000 := by
  unfold spr
  by_cases h0 : l = []
  · rw [if_pos h0]; omega
  · rw [if_neg h0]
    have a := maxOf_spec h0
    have b := minOf_spec h0
    have := h _ a.2
    have := h _ b.2
    have := a.1 _ b.2
    unfold isT at *
    omega
/-- From the least and the greatest that are found to the spread. -/
theorem spr_of {l : List Int} {low high : Int} (h1 : ∀ x ∈ l, low ≤ x) (h2 : ∀ x ∈ l, x ≤ high) (h3 : low ∈ l) (h4 : high ∈ l) : spr l = high - low :=
  (spr_unique (by have := h2 _ h3; omega) (fun x hx y hy => by have := h2 x hx; have := h1 y hy; omega) (Or.inr ⟨high, h4, low, h3, rfl⟩)).symm
/-- The middle of times is one. -/
theorem mid_time {l : List Int} {k : Nat} (h : ∀ x ∈ l, isT x) (hk : 2 * k + 1 ≤ l.length) : isT (mid l k) := by
  have a := h _ (srt_getD_mem l k (by omega))
  have b := h _ (srt_getD_mem l (l.length - 1 - k) (by omega))
  unfold mid
  unfold isT at *
  omega
end Go.Proofs.YtglhapkclpllfabDoor
