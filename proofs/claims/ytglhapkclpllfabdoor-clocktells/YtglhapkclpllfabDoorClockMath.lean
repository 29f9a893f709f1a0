/-
  Plain mathematics of clocks: numbers put in order, the middle of them without the k least and the k greatest; whatever the wrong ones are, it is among those that are right; two who see the right ones alike come nearer by half.
-/
import Derived.Test.YtglhapkclpllfabDoorBase
namespace Go.Proofs.YtglhapkclpllfabDoor
open Go.RowKit

/-- How many are v at most. -/
def cle (l : List Int) (v : Int) : Nat := l.countP fun x => decide (x ≤ v)
/-- The numbers, put in order. -/
def srt (l : List Int) : List Int := l.mergeSort fun a b => decide (a ≤ b)
def Rising (x : List Int) : Prop := x.Pairwise (· ≤ ·)
theorem srt_rising (l : List Int) : Rising (srt l) := by
  have h := List.pairwise_mergeSort (le := fun (a b : Int) => decide (a ≤ b)) (fun a b c h1 h2 => by simp at *; omega) (fun a b => by simp; omega) l
  exact h.imp fun h => by simpa using h
theorem srt_perm (l : List Int) : (srt l).Perm l := List.mergeSort_perm l _
theorem srt_len (l : List Int) : (srt l).length = l.length := (srt_perm l).length_eq
theorem cle_cons (a : Int) (l : List Int) (v : Int) : cle (a :: l) v = cle l v + if a ≤ v then 1 else 0 := by
  unfold cle
  rw [List.countP_cons]
  simp
theorem cle_append (a b : List Int) (v : Int) : cle (a ++ b) v = cle a v + cle b v := List.countP_append
theorem cle_le (l : List Int) (v : Int) : cle l v ≤ l.length := List.countP_le_length
theorem cle_perm {x l : List Int} (h : x.Perm l) (v : Int) : cle x v = cle l v := h.countP_eq _
theorem cle_zero {l : List Int} {v : Int} (h : ∀ x ∈ l, v < x) : cle l v = 0 := List.countP_eq_zero.2 fun x hx => by
  have := h x hx
  simp; omega
theorem cle_all {l : List Int} {v : Int} (h : ∀ x ∈ l, x ≤ v) : cle l v = l.length := List.countP_eq_length.2 fun x hx => by simpa using h x hx
/-- The j-th of rising numbers is v at most just if more than j are. -/
theorem os_le : ∀ (x : List Int) (j : Nat) (v : Int), Rising x → j < x.length → (x.getD j 0 ≤ v ↔ j < cle x v)
  | [], _, _, _, h => absurd h (by simp)
  | a :: r, 0, v, hr, _ => by
    rw [cle_cons]
    have hr2 := List.pairwise_cons.1 hr
    constructor
    · intro h
      have h2 : a ≤ v := by simpa using h
      rw [if_pos h2]; omega
    · intro h
      show a ≤ v
      by_cases h2 : a ≤ v
      · exact h2
      · rw [if_neg h2, cle_zero (fun x hx => by have := hr2.1 x hx; omega)] at h
        omega
  | a :: r, j + 1, v, hr, hj => by
    have hr2 := List.pairwise_cons.1 hr
    have hj2 : j < r.length := by simpa using hj
    have ih := os_le r j v hr2.2 hj2
    rw [cle_cons]
    have e : (a :: r).getD (j + 1) 0 = r.getD j 0 := by simp
    rw [e]
    by_cases h2 : a ≤ v
    · rw [if_pos h2, ih]; omega
    · rw [if_neg h2]
      have hz : cle r v = 0 := cle_zero (fun x hx => by have := hr2.1 x hx; omega)
      rw [hz] at ih ⊢
      rw [ih]; omega
theorem rising_mono {x : List Int} (h : Rising x) {i j : Nat} (hij : i ≤ j) (hj : j < x.length) : x.getD i 0 ≤ x.getD j 0 :=
  (os_le x i _ h (by omega)).2 (Nat.lt_of_le_of_lt hij ((os_le x j _ h hj).1 (Int.le_refl _)))
/-- Whatever puts them in order, it is one list. -/
theorem srt_unique {x l : List Int} (h : Rising x) (hp : x.Perm l) : x = srt l := by
  have hl : x.length = (srt l).length := by rw [srt_len, hp.length_eq]
  have hc : ∀ v, cle x v = cle (srt l) v := fun v => by rw [cle_perm hp, cle_perm (srt_perm l)]
  refine List.ext_getElem hl fun j h1 h2 => ?_
  have a1 := os_le x j ((srt l).getD j 0) h h1
  have a2 := os_le (srt l) j (x.getD j 0) (srt_rising l) h2
  have b1 := (os_le (srt l) j _ (srt_rising l) h2).1 (Int.le_refl _)
  have b2 := (os_le x j _ h h1).1 (Int.le_refl _)
  rw [hc] at a1 b2
  have e1 := a1.2 b1
  have e2 := a2.2 b2
  rw [List.getD_eq_getElem?_getD, List.getD_eq_getElem?_getD, List.getElem?_eq_getElem h1, List.getElem?_eq_getElem h2] at e1 e2
  exact Int.le_antisymm e1 e2
theorem srt_getD_mem (l : List Int) (j : Nat) (h : j < l.length) : (srt l).getD j 0 ∈ l := by
  have h2 : j < (srt l).length := by rw [srt_len]; exact h
  rw [List.getD_eq_getElem?_getD, List.getElem?_eq_getElem h2]
  exact (srt_perm l).mem_iff.1 (List.getElem_mem h2)
/-- The middle, rounded down. -/
def mid (l : List Int) (k : Nat) : Int := ((srt l).getD k 0 + (srt l).getD (l.length - 1 - k) 0) / 2

/-! ### whatever the wrong ones are -/
/-- The j-th of all, where k of them are wrong. -/
theorem os_low {l right wrong : List Int} (hp : l.Perm (right ++ wrong)) {j : Nat} (hj : wrong.length ≤ j) (hl : j < l.length) {low : Int} (h : ∀ x ∈ right, low ≤ x) : low ≤ (srt l).getD j 0 := by
  by_cases hge : low ≤ (srt l).getD j 0
  · exact hge
  · have h1 := (os_le (srt l) j (low - 1) (srt_rising l) (by rw [srt_len]; exact hl)).1 (by omega)
    rw [cle_perm (srt_perm l), cle_perm hp, cle_append, cle_zero (l := right) (fun x hx => by have := h x hx; omega)] at h1
    have := cle_le wrong (low - 1)
    omega
theorem os_high {l right wrong : List Int} (hp : l.Perm (right ++ wrong)) {j : Nat} (hj : j < right.length) {high : Int} (h : ∀ x ∈ right, x ≤ high) : (srt l).getD j 0 ≤ high := by
  have hl : l.length = right.length + wrong.length := by rw [hp.length_eq, List.length_append]
  refine (os_le (srt l) j high (srt_rising l) (by rw [srt_len]; omega)).2 ?_
  rw [cle_perm (srt_perm l), cle_perm hp, cle_append, cle_all h]
  omega
theorem mid_between {l right wrong : List Int} (hp : l.Perm (right ++ wrong)) (hl : 2 * wrong.length + 1 ≤ l.length) {low high : Int} (h1 : ∀ x ∈ right, low ≤ x) (h2 : ∀ x ∈ right, x ≤ high) : low ≤ mid l wrong.length ∧ mid l wrong.length ≤ high := by
  have hn : l.length = right.length + wrong.length := by rw [hp.length_eq, List.length_append]
  have a1 := os_low hp (Nat.le_refl _) (by omega) h1
  have a2 := os_low hp (j := l.length - 1 - wrong.length) (by omega) (by omega) h1
  have b1 := os_high hp (j := wrong.length) (by omega) h2
  have b2 := os_high hp (j := l.length - 1 - wrong.length) (by omega) h2
  unfold mid
  omega

/-! ### two who see the right ones alike -/
/-- The j-th of all lies between the j - k-th and the j-th of those that are right. -/
theorem os_up {l right wrong : List Int} (hp : l.Perm (right ++ wrong)) {j : Nat} (hj : j < right.length) : (srt l).getD j 0 ≤ (srt right).getD j 0 := by
  have hl : l.length = right.length + wrong.length := by rw [hp.length_eq, List.length_append]
  refine (os_le (srt l) j _ (srt_rising l) (by rw [srt_len]; omega)).2 ?_
  have := (os_le (srt right) j _ (srt_rising right) (by rw [srt_len]; exact hj)).1 (Int.le_refl _)
  rw [cle_perm (srt_perm right)] at this
  rw [cle_perm (srt_perm l), cle_perm hp, cle_append]
  omega
theorem os_down {l right wrong : List Int} (hp : l.Perm (right ++ wrong)) {j : Nat} (hj : j < right.length) : (srt right).getD j 0 ≤ (srt l).getD (j + wrong.length) 0 := by
  have hl : l.length = right.length + wrong.length := by rw [hp.length_eq, List.length_append]
  by_cases hge : (srt right).getD j 0 ≤ (srt l).getD (j + wrong.length) 0
  · exact hge
  · have h1 := (os_le (srt l) (j + wrong.length) ((srt right).getD j 0 - 1) (srt_rising l) (by rw [srt_len]; omega)).1 (by omega)
    rw [cle_perm (srt_perm l), cle_perm hp, cle_append] at h1
    have h2 := cle_le wrong ((srt right).getD j 0 - 1)
    have h3 : j < cle right ((srt right).getD j 0 - 1) := by omega
    rw [← cle_perm (srt_perm right)] at h3
    have := (os_le (srt right) j ((srt right).getD j 0 - 1) (srt_rising right) (by rw [srt_len]; exact hj)).2 h3
    omega
theorem mid_halves {x y right a b : List Int} (k : Nat) (ha : a.length = k) (hb : b.length = k) (hx : x.Perm (right ++ a)) (hy : y.Perm (right ++ b)) (hr : 2 * k + 1 ≤ right.length) {low high : Int} (h1 : ∀ z ∈ right, low ≤ z) (h2 : ∀ z ∈ right, z ≤ high) :
    2 * (mid x k - mid y k) ≤ high - low + 2 ∧ 2 * (mid y k - mid x k) ≤ high - low + 2 := by
  have nx : x.length = right.length + k := by rw [hx.length_eq, List.length_append, ha]
  have ny : y.length = right.length + k := by rw [hy.length_eq, List.length_append, hb]
  have e1 : x.length - 1 - k = right.length - 1 := by omega
  have e2 : y.length - 1 - k = right.length - 1 := by omega
  have e3 : right.length - 1 - k + a.length = right.length - 1 := by omega
  have e4 : right.length - 1 - k + b.length = right.length - 1 := by omega
  have x1 := os_low hx (j := k) (by omega) (by omega) h1
  have x2 := os_up hx (j := k) (by omega)
  have x3 := os_high hx (j := right.length - 1) (by omega) h2
  have x4 := os_down hx (j := right.length - 1 - k) (by omega)
  have y1 := os_low hy (j := k) (by omega) (by omega) h1
  have y2 := os_up hy (j := k) (by omega)
  have y3 := os_high hy (j := right.length - 1) (by omega) h2
  have y4 := os_down hy (j := right.length - 1 - k) (by omega)
  rw [e3] at x4
  rw [e4] at y4
  have hm := rising_mono (srt_rising right) (i := k) (j := right.length - 1 - k) (by omega) (by rw [srt_len]; omega)
  unfold mid
  rw [e1, e2]
  omega
end Go.Proofs.YtglhapkclpllfabDoor
