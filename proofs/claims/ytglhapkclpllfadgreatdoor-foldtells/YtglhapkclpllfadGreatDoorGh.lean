/-
  Plain mathematics of histories: which are right, how many of the last entries were heard, and that of two who heard nothing in common one at most stays.
-/
import Derived.Test.YtglhapkclpllfadGreatDoorGa
import Derived.Test.YtglhapkclpllfadGreatDoorGr
namespace Go.Proofs.YtglhapkclpllfadGreatDoor
open Go.RowKit

/-- The error's number of an entry at its place: 0: it is right. -/
def entErr (i : Nat) (e : Ent) : Nat := if e.slot ≠ (i : Int) then 10 else if ¬ (1 ≤ e.src ∧ e.src ≤ 16) then 4 else if e.value < -1048576 ∨ 1048576 < e.value then 2 else if e.heard = false ∧ e.value ≠ 0 then 3 else 0
/-- A history that is right. -/
def histOk (l : List Ent) : Prop := l.length ≤ 200 ∧ ∀ i, i < l.length → entErr i (l.getD i Ent.zero) = 0
/-- Where the first entry is that is not right, or the length. -/
theorem first_ent (l : List Ent) : ∀ n, n ≤ l.length → ∃ m, m ≤ n ∧ (∀ i, i < m → entErr i (l.getD i Ent.zero) = 0) ∧ (m < n → entErr m (l.getD m Ent.zero) ≠ 0)
  | 0, _ => ⟨0, by omega, fun i hi => absurd hi (by omega), fun h => absurd h (by omega)⟩
  | n + 1, h => by
    obtain ⟨m, h1, h2, h3⟩ := first_ent l n (by omega)
    by_cases hm : m < n
    · exact ⟨m, by omega, h2, fun _ => h3 hm⟩
    · have hmn : m = n := by omega
      subst hmn
      by_cases he : entErr m (l.getD m Ent.zero) = 0
      · exact ⟨m + 1, by omega, fun i hi => by
          rcases Nat.lt_succ_iff_lt_or_eq.1 hi with h | rfl
          · exact h2 i h
          · exact he, fun h => absurd h (by omega)⟩
      · exact ⟨m, by omega, h2, fun _ => he⟩
theorem ent_right {i : Nat} {e : Ent} (h : entErr i e = 0) : e.slot = (i : Int) ∧ (1 ≤ e.src ∧ e.src ≤ 16) ∧ (-1048576 ≤ e.value ∧ e.value ≤ 1048576) ∧ (e.heard = false → e.value = 0) := by
  unfold entErr at h
  by_cases h1 : e.slot ≠ (i : Int)
  · rw [if_pos h1] at h; cases h
  rw [if_neg h1] at h
  by_cases h2 : ¬ (1 ≤ e.src ∧ e.src ≤ 16)
  · rw [if_pos h2] at h; cases h
  rw [if_neg h2] at h
  by_cases h3 : e.value < -1048576 ∨ 1048576 < e.value
  · rw [if_pos h3] at h; cases h
  rw [if_neg h3] at h
  by_cases h4 : e.heard = false ∧ e.value ≠ 0
  · rw [if_pos h4] at h; cases h
  exact ⟨Decidable.not_not.1 h1, Decidable.not_not.1 h2, by omega, fun hh => Decidable.byContradiction fun hv => h4 ⟨hh, hv⟩⟩
theorem ent_ok {i : Nat} {e : Ent} (h1 : e.slot = (i : Int)) (h2 : 1 ≤ e.src ∧ e.src ≤ 16) (h3 : -1048576 ≤ e.value ∧ e.value ≤ 1048576) (h4 : e.heard = false → e.value = 0) : entErr i e = 0 := by
  unfold entErr
  rw [if_neg (not_not_intro h1), if_neg (not_not_intro h2), if_neg (by omega), if_neg (fun h => h.2 (h4 h.1))]
/-- How many of these were heard. -/
def heardN (l : List Ent) : Nat := (l.filter fun e => e.heard).length
/-- The last so many. -/
def lastN (l : List Ent) (r : Nat) : List Ent := l.drop (l.length - r)
theorem heard_snoc (l : List Ent) (k : Nat) (h : k < l.length) : heardN (l.take (k + 1)) = heardN (l.take k) + if (l.getD k Ent.zero).heard then 1 else 0 := by
  unfold heardN
  rw [List.take_succ_eq_append_getElem h, List.filter_append, List.length_append, List.getD_eq_getElem?_getD, List.getElem?_eq_getElem h, Option.getD_some]
  cases hx : l[k].heard <;> simp [hx]
theorem heard_le (l : List Ent) : heardN l ≤ l.length := List.length_filter_le _ _
/-- Two who heard nothing in common. -/
theorem heard_apart : ∀ a b : List Ent, a.length = b.length → (∀ i, i < a.length → ((a.getD i Ent.zero).heard && (b.getD i Ent.zero).heard) = false) → heardN a + heardN b ≤ a.length
  | [], [], _, _ => by simp [heardN]
  | x :: a, y :: b, hl, h => by
    have ih := heard_apart a b (by simpa using hl) (fun i hi => by simpa using h (i + 1) (by simpa using hi))
    have h0 : (x.heard && y.heard) = false := by simpa using h 0 (by simp)
    unfold heardN at *
    rw [List.filter_cons, List.filter_cons]
    cases hx : x.heard <;> cases hy : y.heard <;> simp [hx, hy] at h0 ⊢ <;> omega
theorem last_len (l : List Ent) (r : Nat) : (lastN l r).length = min r l.length := by
  unfold lastN
  rw [List.length_drop]; omega
theorem last_getD (l : List Ent) (r i : Nat) : (lastN l r).getD i Ent.zero = l.getD (l.length - r + i) Ent.zero := by
  unfold lastN
  rw [List.getD_eq_getElem?_getD, List.getElem?_drop, List.getD_eq_getElem?_getD]
/-- Were more heard than not? -/
def staysB (l : List Ent) (r : Nat) : Bool := decide ((lastN l r).length - heardN (lastN l r) < heardN (lastN l r))
/-- Of two who heard nothing in common one at most stays. -/
theorem stays_one (a b : List Ent) (r : Nat) (hl : a.length = b.length) (h : ∀ i, i < a.length → ((a.getD i Ent.zero).heard && (b.getD i Ent.zero).heard) = false) : (staysB a r && staysB b r) = false := by
  have h1 := heard_apart (lastN a r) (lastN b r) (by rw [last_len, last_len, hl]) (fun i hi => by
    rw [last_len] at hi
    rw [last_getD, last_getD, ← hl]
    exact h _ (by omega))
  have h2 := last_len a r
  have h3 := last_len b r
  have h4 := heard_le (lastN a r)
  have h5 := heard_le (lastN b r)
  unfold staysB
  rw [← hl] at h3
  cases hx : decide ((lastN a r).length - heardN (lastN a r) < heardN (lastN a r)) with
  | false => rfl
  | true =>
    have hx' := of_decide_eq_true hx
    have : ¬ ((lastN b r).length - heardN (lastN b r) < heardN (lastN b r)) := by omega
    rw [decide_eq_false this]; rfl
end Go.Proofs.YtglhapkclpllfadGreatDoor
/-
  The error that goes with a history that is not right.
-/
namespace Go.Proofs.YtglhapkclpllfadGreatDoor
open Go.RowKit

/-- The error of a history that is not right. -/
def HistErr (e : Nat → TypeId × Value) (w : World) (l : List Ent) (t : TypeId) (p : Value) : Prop :=
  (200 < l.length ∧ t = (e 6).1 ∧ p = (e 6).2) ∨
    ∃ m c pb : Nat, l.length ≤ 200 ∧ m < l.length ∧ (∀ i, i < m → entErr i (l.getD i Ent.zero) = 0) ∧ entErr m (l.getD m Ent.zero) = c + 1 ∧ t = 68 ∧ p = .pointer (some ⟨pb, 0, none⟩) ∧ w.cell? ⟨pb, 0, none⟩ = some (.int .i64 m) ∧ w.cell? ⟨pb, 0 + 1, none⟩ = some (.iface (e c).1 (e c).2)
end Go.Proofs.YtglhapkclpllfadGreatDoor
