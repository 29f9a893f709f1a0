/-
  Blocks of four cells of a call's own: one cell written.
-/
import Derived.Test.YtglhapkclpllfadDoorOwns
namespace Go.Proofs.YtglhapkclpllfadDoor
open Go.RowKit

theorem Own4.put1 {w : World} {b : Nat} {x y z u : Value} (h : Own4 w b x y z u) (y' : Value) : Own4 (w.setCell ⟨b, 1, none⟩ y') b x y' z u := by
  obtain ⟨c0, c1, c2, c3, f0, f1, f2, f3⟩ := h
  refine ⟨?_, World.cell?_setCell_same _ _ _ c1, ?_, ?_, by simp [f0], by simp [f1], by simp [f2], by simp [f3]⟩
  · rw [World.cell?_setCell_other _ _ _ _ (by simp)]; exact c0
  · rw [World.cell?_setCell_other _ _ _ _ (by simp)]; exact c2
  · rw [World.cell?_setCell_other _ _ _ _ (by simp)]; exact c3
theorem Own4.put2 {w : World} {b : Nat} {x y z u : Value} (h : Own4 w b x y z u) (z' : Value) : Own4 (w.setCell ⟨b, 2, none⟩ z') b x y z' u := by
  obtain ⟨c0, c1, c2, c3, f0, f1, f2, f3⟩ := h
  refine ⟨?_, ?_, World.cell?_setCell_same _ _ _ c2, ?_, by simp [f0], by simp [f1], by simp [f2], by simp [f3]⟩
  · rw [World.cell?_setCell_other _ _ _ _ (by simp)]; exact c0
  · rw [World.cell?_setCell_other _ _ _ _ (by simp)]; exact c1
  · rw [World.cell?_setCell_other _ _ _ _ (by simp)]; exact c3
theorem Own4.put3 {w : World} {b : Nat} {x y z u : Value} (h : Own4 w b x y z u) (u' : Value) : Own4 (w.setCell ⟨b, 3, none⟩ u') b x y z u' := by
  obtain ⟨c0, c1, c2, c3, f0, f1, f2, f3⟩ := h
  refine ⟨?_, ?_, ?_, World.cell?_setCell_same _ _ _ c3, by simp [f0], by simp [f1], by simp [f2], by simp [f3]⟩
  · rw [World.cell?_setCell_other _ _ _ _ (by simp)]; exact c0
  · rw [World.cell?_setCell_other _ _ _ _ (by simp)]; exact c1
  · rw [World.cell?_setCell_other _ _ _ _ (by simp)]; exact c2
end Go.Proofs.YtglhapkclpllfadDoor
