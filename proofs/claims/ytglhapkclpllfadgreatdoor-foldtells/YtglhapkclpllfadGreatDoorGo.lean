/-
  Blocks of two, three and four cells of a call's own; old cells behind new blocks.
-/
import Derived.Test.YtglhapkclpllfadGreatDoorBase
namespace Go.Proofs.YtglhapkclpllfadGreatDoor
open Go.RowKit

/-- A block of the call's own that holds these cells, none of them frozen. -/
structure Own3 (w : World) (b : Nat) (x y z : Value) : Prop where
  c0 : w.cell? ⟨b, 0, none⟩ = some x
  c1 : w.cell? ⟨b, 1, none⟩ = some y
  c2 : w.cell? ⟨b, 2, none⟩ = some z
  f0 : w.frozen? ⟨b, 0, none⟩ = false
  f1 : w.frozen? ⟨b, 1, none⟩ = false
  f2 : w.frozen? ⟨b, 2, none⟩ = false
theorem Own3.below {w w' : World} {b : Nat} {x y z : Value} (h : Own3 w b x y z) (hB : Below w.heap.size w w') : Own3 w' b x y z :=
  ⟨below_cell hB h.c0, below_cell hB h.c1, below_cell hB h.c2, (hB.frozen (cell_lt h.c0)).trans h.f0, (hB.frozen (cell_lt h.c1)).trans h.f1, (hB.frozen (cell_lt h.c2)).trans h.f2⟩
theorem Own3.new (w : World) (t : TypeId) (x y z : Value) : Own3 (w.alloc (.cells #[x, y, z] t)) w.heap.size x y z := ⟨by simp, by simp, by simp, by simp, by simp, by simp⟩
structure Own4 (w : World) (b : Nat) (x y z u : Value) : Prop where
  c0 : w.cell? ⟨b, 0, none⟩ = some x
  c1 : w.cell? ⟨b, 1, none⟩ = some y
  c2 : w.cell? ⟨b, 2, none⟩ = some z
  c3 : w.cell? ⟨b, 3, none⟩ = some u
  f0 : w.frozen? ⟨b, 0, none⟩ = false
  f1 : w.frozen? ⟨b, 1, none⟩ = false
  f2 : w.frozen? ⟨b, 2, none⟩ = false
  f3 : w.frozen? ⟨b, 3, none⟩ = false
theorem Own4.below {w w' : World} {b : Nat} {x y z u : Value} (h : Own4 w b x y z u) (hB : Below w.heap.size w w') : Own4 w' b x y z u :=
  ⟨below_cell hB h.c0, below_cell hB h.c1, below_cell hB h.c2, below_cell hB h.c3, (hB.frozen (cell_lt h.c0)).trans h.f0, (hB.frozen (cell_lt h.c1)).trans h.f1, (hB.frozen (cell_lt h.c2)).trans h.f2, (hB.frozen (cell_lt h.c3)).trans h.f3⟩
theorem Own4.new (w : World) (t : TypeId) (x y z u : Value) : Own4 (w.alloc (.cells #[x, y, z, u] t)) w.heap.size x y z u := ⟨by simp, by simp, by simp, by simp, by simp, by simp, by simp, by simp⟩
structure Own2 (w : World) (b : Nat) (x y : Value) : Prop where
  c0 : w.cell? ⟨b, 0, none⟩ = some x
  c1 : w.cell? ⟨b, 1, none⟩ = some y
  f0 : w.frozen? ⟨b, 0, none⟩ = false
  f1 : w.frozen? ⟨b, 1, none⟩ = false
theorem Own2.below {w w' : World} {b : Nat} {x y : Value} (h : Own2 w b x y) (hB : Below w.heap.size w w') : Own2 w' b x y :=
  ⟨below_cell hB h.c0, below_cell hB h.c1, (hB.frozen (cell_lt h.c0)).trans h.f0, (hB.frozen (cell_lt h.c1)).trans h.f1⟩
theorem Own2.new (w : World) (t : TypeId) (x y : Value) : Own2 (w.alloc (.cells #[x, y] t)) w.heap.size x y := ⟨by simp, by simp, by simp, by simp⟩
theorem Own3.other {w : World} {b b' : Nat} {x y z : Value} (h : Own3 w b x y z) (hne : b ≠ b') (i : Nat) (u : Value) : Own3 (w.setCell ⟨b', i, none⟩ u) b x y z :=
  ⟨by rw [World.cell?_setCell_other _ _ _ _ (fun e => hne (by injection e with e1; exact e1.symm))]; exact h.c0, by rw [World.cell?_setCell_other _ _ _ _ (fun e => hne (by injection e with e1; exact e1.symm))]; exact h.c1, by rw [World.cell?_setCell_other _ _ _ _ (fun e => hne (by injection e with e1; exact e1.symm))]; exact h.c2, by simpa using h.f0, by simpa using h.f1, by simpa using h.f2⟩
theorem Own4.other {w : World} {b b' : Nat} {x y z v : Value} (h : Own4 w b x y z v) (hne : b ≠ b') (i : Nat) (u : Value) : Own4 (w.setCell ⟨b', i, none⟩ u) b x y z v :=
  ⟨by rw [World.cell?_setCell_other _ _ _ _ (fun e => hne (by injection e with e1; exact e1.symm))]; exact h.c0, by rw [World.cell?_setCell_other _ _ _ _ (fun e => hne (by injection e with e1; exact e1.symm))]; exact h.c1, by rw [World.cell?_setCell_other _ _ _ _ (fun e => hne (by injection e with e1; exact e1.symm))]; exact h.c2, by rw [World.cell?_setCell_other _ _ _ _ (fun e => hne (by injection e with e1; exact e1.symm))]; exact h.c3, by simpa using h.f0, by simpa using h.f1, by simpa using h.f2, by simpa using h.f3⟩
theorem Own2.other {w : World} {b b' : Nat} {x y : Value} (h : Own2 w b x y) (hne : b ≠ b') (i : Nat) (u : Value) : Own2 (w.setCell ⟨b', i, none⟩ u) b x y :=
  ⟨by rw [World.cell?_setCell_other _ _ _ _ (fun e => hne (by injection e with e1; exact e1.symm))]; exact h.c0, by rw [World.cell?_setCell_other _ _ _ _ (fun e => hne (by injection e with e1; exact e1.symm))]; exact h.c1, by simpa using h.f0, by simpa using h.f1⟩
theorem Own2.set {w : World} {b : Nat} {x y : Value} (h : Own2 w b x y) (x' y' : Value) : Own2 ((w.setCell ⟨b, 0, none⟩ x').setCell ⟨b, 1, none⟩ y') b x' y' := by
  obtain ⟨c0, c1, f0, f1⟩ := h
  refine ⟨?_, ?_, by simp [f0], by simpa using f1⟩
  · rw [World.cell?_setCell_other _ _ _ _ (by simp)]
    exact World.cell?_setCell_same _ _ _ c0
  · exact World.cell?_setCell_same _ _ _ (u := y) (by rw [World.cell?_setCell_other _ _ _ _ (by simp)]; exact c1)
theorem Own3.put {w : World} {b : Nat} {x y z : Value} (h : Own3 w b x y z) (x' y' z' : Value) : Own3 (((w.setCell ⟨b, 0, none⟩ x').setCell ⟨b, 1, none⟩ y').setCell ⟨b, 2, none⟩ z') b x' y' z' := by
  obtain ⟨c0, c1, c2, f0, f1, f2⟩ := h
  refine ⟨?_, ?_, ?_, by simp [f0], by simp [f1], by simp [f2]⟩
  · rw [World.cell?_setCell_other _ _ _ _ (by simp), World.cell?_setCell_other _ _ _ _ (by simp)]
    exact World.cell?_setCell_same _ _ _ c0
  · rw [World.cell?_setCell_other _ _ _ _ (by simp)]
    exact World.cell?_setCell_same _ _ _ (u := y) (by rw [World.cell?_setCell_other _ _ _ _ (by simp)]; exact c1)
  · exact World.cell?_setCell_same _ _ _ (u := z) (by rw [World.cell?_setCell_other _ _ _ _ (by simp), World.cell?_setCell_other _ _ _ _ (by simp)]; exact c2)
theorem Own3.put2 {w : World} {b : Nat} {x y z : Value} (h : Own3 w b x y z) (z' : Value) : Own3 (w.setCell ⟨b, 2, none⟩ z') b x y z' := by
  obtain ⟨c0, c1, c2, f0, f1, f2⟩ := h
  refine ⟨?_, ?_, World.cell?_setCell_same _ _ _ c2, by simp [f0], by simp [f1], by simp [f2]⟩
  · rw [World.cell?_setCell_other _ _ _ _ (by simp)]; exact c0
  · rw [World.cell?_setCell_other _ _ _ _ (by simp)]; exact c1
theorem Own4.put23 {w : World} {b : Nat} {x y z u : Value} (h : Own4 w b x y z u) (z' u' : Value) : Own4 ((w.setCell ⟨b, 2, none⟩ z').setCell ⟨b, 3, none⟩ u') b x y z' u' := by
  obtain ⟨c0, c1, c2, c3, f0, f1, f2, f3⟩ := h
  refine ⟨?_, ?_, ?_, ?_, by simp [f0], by simp [f1], by simp [f2], by simp [f3]⟩
  · rw [World.cell?_setCell_other _ _ _ _ (by simp), World.cell?_setCell_other _ _ _ _ (by simp)]; exact c0
  · rw [World.cell?_setCell_other _ _ _ _ (by simp), World.cell?_setCell_other _ _ _ _ (by simp)]; exact c1
  · rw [World.cell?_setCell_other _ _ _ _ (by simp)]; exact World.cell?_setCell_same _ _ _ c2
  · exact World.cell?_setCell_same _ _ _ (u := u) (by rw [World.cell?_setCell_other _ _ _ _ (by simp)]; exact c3)
theorem below_three {w w8 : World} (h : Below w.heap.size w w8) (o o' o'' : Obj) : Below w.heap.size w (((w8.alloc o).alloc o').alloc o'') := by
  have hs := h.size
  exact ((h.alloc hs o).alloc (by simp; omega) o').alloc (by simp; omega) o''
/-- Old cells behind three new blocks. -/
theorem old3 {w : World} {p : Addr} {v : Value} (h : w.cell? p = some v) (o o' o'' : Obj) : (((w.alloc o).alloc o').alloc o'').cell? p = some v := by
  have hl := cell_lt h
  rw [World.cell?_alloc_lt _ _ _ (by simp; omega), World.cell?_alloc_lt _ _ _ (by simp; omega), World.cell?_alloc_lt _ _ _ hl]
  exact h
theorem old2 {w : World} {p : Addr} {v : Value} (h : w.cell? p = some v) (o o' : Obj) : ((w.alloc o).alloc o').cell? p = some v := by
  have hl := cell_lt h
  rw [World.cell?_alloc_lt _ _ _ (by simp; omega), World.cell?_alloc_lt _ _ _ hl]
  exact h
theorem old1 {w : World} {p : Addr} {v : Value} (h : w.cell? p = some v) (o : Obj) : (w.alloc o).cell? p = some v := by
  rw [World.cell?_alloc_lt _ _ _ (cell_lt h)]
  exact h
theorem fro3 {w : World} {p : Addr} {v : Value} (h : w.cell? p = some v) (hf : w.frozen? p = false) (o o' o'' : Obj) : (((w.alloc o).alloc o').alloc o'').frozen? p = false := by
  have hB : Below w.heap.size w (((w.alloc o).alloc o').alloc o'') := (((Below.refl _ _).alloc (Nat.le_refl _) _).alloc (by simp) _).alloc (by simp; omega) _
  exact (hB.frozen (cell_lt h)).trans hf
end Go.Proofs.YtglhapkclpllfadGreatDoor
/-
  Blocks of four cells of a call's own: one cell written.
-/
namespace Go.Proofs.YtglhapkclpllfadGreatDoor
open Go.RowKit

theorem Own4.put1 {w : World} {b : Nat} {x y z u : Value} (h : Own4 w b x y z u) (y' : Value) : Own4 (w.setCell ⟨b, 1, none⟩ y') b x y' z u := by
  obtain ⟨c0, c1, c2, c3, f0, f1, f2, f3⟩ := h
  refine ⟨?_, World.cell?_setCell_same _ _ _ c1, ?_, ?_, by simp [f0], by simp [f1], by simp [f2], by simp [f3]⟩
  · rw [World.cell?_setCell_other _ _ _ _ (by simp)]; exact c0
  · rw [World.cell?_setCell_other _ _ _ _ (by simp)]; exact c2
  · rw [World.cell?_setCell_other _ _ _ _ (by simp)]; exact c3
theorem Own4.put2 {w : World} {b : Nat} {x y z u : Value} (h : Own4 w b x y z u) (z' : Value) : Own4 (w.setCell ⟨b, 2, none⟩ z') b x y z' u := by
  obtain ⟨c0, c1, c2, c3, f0, f1, f2, f3⟩ := h
  refine ⟨?_, ?_, World.cell?_setCell_same _ _ _ c2, ?_, by simp [f0], by simp [f1], by simp [f2], by simp [f3]⟩
  · rw [World.cell?_setCell_other _ _ _ _ (by simp)]; exact c0
  · rw [World.cell?_setCell_other _ _ _ _ (by simp)]; exact c1
  · rw [World.cell?_setCell_other _ _ _ _ (by simp)]; exact c3
theorem Own4.put3 {w : World} {b : Nat} {x y z u : Value} (h : Own4 w b x y z u) (u' : Value) : Own4 (w.setCell ⟨b, 3, none⟩ u') b x y z u' := by
  obtain ⟨c0, c1, c2, c3, f0, f1, f2, f3⟩ := h
  refine ⟨?_, ?_, ?_, World.cell?_setCell_same _ _ _ c3, by simp [f0], by simp [f1], by simp [f2], by simp [f3]⟩
  · rw [World.cell?_setCell_other _ _ _ _ (by simp)]; exact c0
  · rw [World.cell?_setCell_other _ _ _ _ (by simp)]; exact c1
  · rw [World.cell?_setCell_other _ _ _ _ (by simp)]; exact c2
end Go.Proofs.YtglhapkclpllfadGreatDoor
