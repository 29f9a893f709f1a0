/-
  Package clique's answers, for other conditions of the world.
-/
import Derived.Test.YtglhapkclpllfacDoorCliqueProg
import Derived.Test.YtglhapkclpllfacDoorCheckC
namespace Go.Proofs.YtglhapkclpllfacDoor
open Go.RowKit

theorem QProg.mono {M M' : World → Prop} {e : Nat → TypeId × Value} (P : QProg M e) (h : ∀ w, M' w → M w) (hk : ∀ w w', M' w → Below w.heap.size w w' → M' w') : QProg M' e where
  keep := hk
  ckY w v l m := P.ckY w v l (h w m)
  ckN w v l m := P.ckN w v l (h w m)
  taN w v l round m := P.taN w v l round (h w m)
  taR w v l round m := P.taR w v l round (h w m)
  taO w v l r m := P.taO w v l r (h w m)
  stN w v l round m := P.stN w v l round (h w m)
  stR w v l round m := P.stR w v l round (h w m)
  stO w v l r m := P.stO w v l r (h w m)
end Go.Proofs.YtglhapkclpllfacDoor
