/-
  Plain mathematics of the document's answer: the nodes of a crew.
-/
import Derived.Test.YtglhapkclpllfadGreatDoorCrewBack
import Derived.Test.YtglhapkclpllfadGreatDoorRefMath0
namespace Go.Proofs.YtglhapkclpllfadGreatDoor
open Go.RowKit Go.Shelf

/-- The nodes among the first k. -/
def lst (k c : Nat) : List Int := ((List.range k).filter fun i => c.testBit i).map fun (i : Nat) => (i : Int) + 1
theorem lst_succ (k c : Nat) : lst (k + 1) c = lst k c ++ (if c.testBit k then [(k : Int) + 1] else []) := by
  unfold lst
  rw [List.range_succ, List.filter_append, List.map_append]
  cases h : c.testBit k <;> simp [List.filter, h]
theorem lst_len (k c : Nat) : (lst k c).length ≤ k := by
  unfold lst
  rw [List.length_map]
  exact Nat.le_trans (List.length_filter_le _ _) (by simp)
theorem nl_lst : ∀ f p c, Cm.nl f p c = ((List.range f).filter fun i => c.testBit i).map fun i => i + p + 1
  | 0, _, _ => rfl
  | f + 1, p, c => by
    have ih := nl_lst f (p + 1) (c / 2)
    rw [List.range_succ_eq_map, List.filter_cons, List.filter_map, Cm.nl, ih]
    have e : (fun i => Nat.testBit (c / 2) i) = ((fun i => Nat.testBit c i) ∘ Nat.succ) := by
      funext i
      simp [Nat.testBit_succ]
    have e2 : c.testBit 0 = decide (c % 2 = 1) := by simp [Nat.testBit_zero]
    rw [e, e2]
    by_cases h : c % 2 = 1
    · simp only [h, if_true, decide_true, List.map_cons, List.map_map]
      congr 1
      · omega
      · apply List.map_congr_left
        intro i _
        simp only [Function.comp]
        omega
    · simp only [h, if_false, decide_false, Bool.false_eq_true, List.map_map]
      apply List.map_congr_left
      intro i _
      simp only [Function.comp]
      omega
theorem lst_nodes (c : Nat) : lst 16 c = ints (Cm.nodes c) := by
  unfold lst ints Cm.nodes
  rw [nl_lst, List.map_map]
  apply List.map_congr_left
  intro i _
  simp only [Function.comp]
  omega
end Go.Proofs.YtglhapkclpllfadGreatDoor
