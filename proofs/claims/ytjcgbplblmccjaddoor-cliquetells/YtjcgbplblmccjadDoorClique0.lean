/-
  What package clique's calls need of the world: five errors of package api (structure QSent).
-/
import Derived.Test.YtjcgbplblmccjadDoorCliqueProg
namespace Go.Proofs.YtjcgbplblmccjadDoor
open Go.RowKit

/-- Five errors of package api, each something: e 1 is ErrBound, e 2 ErrShape, e 3 ErrNode, e 6 ErrFull, e 9 ErrGap. -/
structure QSent (e : Nat → TypeId × Value) (w : World) : Prop where
  c1 : w.cell? ⟨1, 0, none⟩ = some (.iface (e 1).1 (e 1).2)
  c2 : w.cell? ⟨3, 0, none⟩ = some (.iface (e 2).1 (e 2).2)
  c3 : w.cell? ⟨4, 0, none⟩ = some (.iface (e 3).1 (e 3).2)
  c6 : w.cell? ⟨0, 0, none⟩ = some (.iface (e 6).1 (e 6).2)
  c9 : w.cell? ⟨9, 0, none⟩ = some (.iface (e 9).1 (e 9).2)
theorem QSent.below {e : Nat → TypeId × Value} {w w' : World} (S : QSent e w) (hb : Below w.heap.size w w') : QSent e w' := ⟨below_cell hb S.c1, below_cell hb S.c2, below_cell hb S.c3, below_cell hb S.c6, below_cell hb S.c9⟩
theorem QProg.mono {M M' : World → Prop} {e : Nat → TypeId × Value} (P : QProg M e) (h : ∀ w, M' w → M w) (hk : ∀ w w', M' w → Below w.heap.size w w' → M' w') : QProg M' e where
  keep := hk
  ckY w v l m := P.ckY w v l (h w m)
  ckN w v l m := P.ckN w v l (h w m)
  taN w v l round m := P.taN w v l round (h w m)
  taR w v l round m := P.taR w v l round (h w m)
  taO w v l r m := P.taO w v l r (h w m)
  stN w v l round m := P.stN w v l round (h w m)
  stR w v l round m := P.stR w v l round (h w m)
  stO w v l r m := P.stO w v l r (h w m)
end Go.Proofs.YtjcgbplblmccjadDoor
