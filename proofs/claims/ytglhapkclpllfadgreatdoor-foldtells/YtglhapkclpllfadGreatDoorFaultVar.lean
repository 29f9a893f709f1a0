/-
  A fault variable of a law in memory of the call's own, which is written anew; an error keeps its number through it.
-/
import Derived.Test.YtglhapkclpllfadGreatDoorFits
namespace Go.Proofs.YtglhapkclpllfadGreatDoor
open Go.RowKit

/-- A fault in memory of the call's own. -/
structure FAt (w : World) (b : Nat) (c n : Int) : Prop where
  c0 : w.cell? ⟨b, 0, none⟩ = some (.int .i64 c)
  c1 : w.cell? ⟨b, 0 + 1, none⟩ = some (.int .i64 n)
  f0 : w.frozen? ⟨b, 0, none⟩ = false
  f1 : w.frozen? ⟨b, 0 + 1, none⟩ = false
theorem FAt.below {w w' : World} {b : Nat} {c n : Int} (h : FAt w b c n) (hB : Below w.heap.size w w') : FAt w' b c n :=
  ⟨below_cell hB h.c0, below_cell hB h.c1, (hB.frozen (cell_lt h.c0)).trans h.f0, (hB.frozen (cell_lt h.c1)).trans h.f1⟩
theorem FAt.new (w : World) (c n : Int) : FAt (w.alloc (.cells #[.int .i64 c, .int .i64 n] 25)) w.heap.size c n := ⟨by simp, by simp, by simp, by simp⟩
theorem FAt.set {w : World} {b : Nat} {c n : Int} (h : FAt w b c n) (c' n' : Int) : FAt ((w.setCell ⟨b, 0, none⟩ (.int .i64 c')).setCell ⟨b, 1, none⟩ (.int .i64 n')) b c' n' := by
  obtain ⟨c0, c1, f0, f1⟩ := h
  refine ⟨?_, ?_, by simp [f0], by simpa using f1⟩
  · rw [World.cell?_setCell_other _ _ _ _ (by simp)]
    exact World.cell?_setCell_same _ _ _ c0
  · exact World.cell?_setCell_same _ _ _ (u := .int .i64 n) (by rw [World.cell?_setCell_other _ _ _ _ (by simp)]; exact c1)
theorem ErrFits.set {a : Nat → Addr} {w : World} {ev : Value} {c n : Int} {b : Nat} {c' n' : Int} (h : ErrFits a w ev c n) (F : FAt w b c' n') (x y : Value) : ErrFits a ((w.setCell ⟨b, 0, none⟩ x).setCell ⟨b, 1, none⟩ y) ev c n := by
  rcases h with h | ⟨pb, k, h1, h2, h3, h4, h5⟩ | h
  · exact Or.inl h
  · have hne : b ≠ pb := fun e => by
      subst e
      have := F.c1.symm.trans h5
      cases this
    have hne2 : ∀ i j, (⟨b, i, none⟩ : Addr) ≠ ⟨pb, j, none⟩ := fun i j e => hne (by injection e)
    exact Or.inr (Or.inl ⟨pb, k, h1, h2, h3, by rw [World.cell?_setCell_other _ _ _ _ (hne2 _ _), World.cell?_setCell_other _ _ _ _ (hne2 _ _)]; exact h4, by rw [World.cell?_setCell_other _ _ _ _ (hne2 _ _), World.cell?_setCell_other _ _ _ _ (hne2 _ _)]; exact h5⟩)
  · exact Or.inr (Or.inr h)
theorem below_set {w0 w : World} (hB : Below w0.heap.size w0 w) (x y : Value) : Below w0.heap.size w0 ((w.setCell ⟨w0.heap.size, 0, none⟩ x).setCell ⟨w0.heap.size, 1, none⟩ y) :=
  (hB.setCell (p := ⟨w0.heap.size, 0, none⟩) (Nat.le_refl _) _).setCell (p := ⟨w0.heap.size, 1, none⟩) (Nat.le_refl _) _
end Go.Proofs.YtglhapkclpllfadGreatDoor
