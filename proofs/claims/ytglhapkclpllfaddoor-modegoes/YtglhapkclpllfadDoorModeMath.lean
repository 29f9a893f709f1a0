/-
  Plain mathematics of a board of modes: which pairs are right, what is told when a mode is asked for, what a turn does.
-/
import Derived.Test.YtglhapkclpllfadDoorRecTypes
namespace Go.Proofs.YtglhapkclpllfadDoor

def prOk (p : Pr) : Prop := (0 ≤ p.src ∧ p.src ≤ 3) ∧ 0 ≤ p.dst ∧ p.dst ≤ 3
/-- Pairs that a board takes. -/
def prsOk (l : List Pr) : Prop := l.length ≤ 16 ∧ ∀ i, i < l.length → prOk (l.getD i Pr.zero)
/-- Is the pair allowed? -/
def allowB (l : List Pr) (n to : Int) : Bool := l.any fun p => decide (p.src = n ∧ p.dst = to)
/-- The error's number when a mode is asked for: 0: none. -/
def askC (l : List Pr) (n a to : Int) : Nat := if to < 0 ∨ 3 < to then 2 else if 0 ≤ a then 6 else if allowB l n to then 0 else 3
/-- What is asked for then. -/
def askA (l : List Pr) (n a to : Int) : Int := if askC l n a to = 0 then to else a
/-- The mode behind a turn. -/
def turnN (n a : Int) : Int := if 0 ≤ a then a else n
/-- What a board's two numbers may be. -/
def boardOk (n a : Int) : Prop := (0 ≤ n ∧ n ≤ 3) ∧ -1 ≤ a ∧ a ≤ 3
theorem askC_le (l : List Pr) (n a to : Int) : askC l n a to = 0 ∨ askC l n a to = 2 ∨ askC l n a to = 3 ∨ askC l n a to = 6 := by
  unfold askC
  split
  · simp
  · split
    · simp
    · split <;> simp
theorem ask_yes {l : List Pr} {n a to : Int} (h : askC l n a to = 0) : (0 ≤ to ∧ to ≤ 3) ∧ a < 0 ∧ allowB l n to = true := by
  unfold askC at h
  by_cases h1 : to < 0 ∨ 3 < to
  · rw [if_pos h1] at h; cases h
  rw [if_neg h1] at h
  by_cases h2 : 0 ≤ a
  · rw [if_pos h2] at h; cases h
  rw [if_neg h2] at h
  cases h3 : allowB l n to with
  | false => rw [h3] at h; cases h
  | true => exact ⟨by omega, by omega, rfl⟩
theorem ask_board {l : List Pr} {n a to : Int} (h : boardOk n a) : boardOk n (askA l n a to) := by
  unfold askA
  by_cases hc : askC l n a to = 0
  · rw [if_pos hc]
    obtain ⟨h1, _⟩ := ask_yes hc
    exact ⟨h.1, by omega, h1.2⟩
  · rw [if_neg hc]; exact h
theorem turn_board {n a : Int} (h : boardOk n a) : boardOk (turnN n a) (-1) := by
  obtain ⟨⟨h1, h2⟩, h3, h4⟩ := h
  unfold turnN boardOk
  by_cases ha : 0 ≤ a
  · rw [if_pos ha]; exact ⟨⟨ha, h4⟩, by decide⟩
  · rw [if_neg ha]; exact ⟨⟨h1, h2⟩, by decide⟩
theorem board_zero : boardOk 0 (-1) := ⟨⟨by decide, by decide⟩, by decide, by decide⟩
/-- The first pair that is not right, or the end. -/
theorem first_pr (l : List Pr) : ∃ m, m ≤ l.length ∧ (∀ i, i < m → prOk (l.getD i Pr.zero)) ∧ (m < l.length → ¬ prOk (l.getD m Pr.zero)) := by
  obtain ⟨m, h1, h2, h3⟩ := first_idx (fun i => !decide ((0 ≤ (l.getD i Pr.zero).src ∧ (l.getD i Pr.zero).src ≤ 3) ∧ 0 ≤ (l.getD i Pr.zero).dst ∧ (l.getD i Pr.zero).dst ≤ 3)) l.length
  refine ⟨m, h1, fun i hi => ?_, fun hm hp => ?_⟩
  · have := h2 i hi
    simpa [prOk] using this
  · have := h3 hm
    unfold prOk at hp
    simp only [Bool.not_eq_true', decide_eq_false_iff_not] at this
    exact this hp
end Go.Proofs.YtglhapkclpllfadDoor
