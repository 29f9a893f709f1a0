/-
  What package member's calls need of the world: what packages frame and guard's errors need (structure MOk).
-/
import Derived.Test.YtglhapkclpllfacDoorFrame5
import Derived.Test.YtglhapkclpllfacDoorGuard1
import Derived.Test.YtglhapkclpllfacDoorMemberProg
namespace Go.Proofs.YtglhapkclpllfacDoor
open Go.RowKit

/-- The errors by their numbers, as package frame's contracts name them. -/
def shE (e : Nat → TypeId × Value) : Nat → TypeId × Value := fun k => e (k - 1)
structure MOk (e : Nat → TypeId × Value) (w : World) : Prop where
  fr : FrOk (shE e) w
  g : GSent e w
theorem MOk.below {e : Nat → TypeId × Value} {w w' : World} (h : MOk e w) (hb : Below w.heap.size w w') : MOk e w' := ⟨h.fr.below hb, h.g.below hb⟩
theorem MProg.mono {M M' : World → Prop} {e : Nat → TypeId × Value} (P : MProg M e) (h : ∀ w, M' w → M w) (hk : ∀ w w', M' w → Below w.heap.size w w' → M' w') : MProg M' e where
  keep := hk
  plan w m := P.plan w (h w m)
  yes w x m := P.yes w x (h w m)
  no w x m := P.no w x (h w m)
  stP w vl xs v s m := P.stP w vl xs v s (h w m)
  stV w vl xs v s m := P.stV w vl xs v s (h w m)
  stF w vl xs v s m := P.stF w vl xs v s (h w m)
  stO w vl xs v s m := P.stO w vl xs v s (h w m)
  seP w vl xs v node value m := P.seP w vl xs v node value (h w m)
  seV w vl xs v node value m := P.seV w vl xs v node value (h w m)
  seL w vl xs v node value m := P.seL w vl xs v node value (h w m)
  seB w vl xs v value m := P.seB w vl xs v value (h w m)
  seO w vl xs v value m := P.seO w vl xs v value (h w m)
end Go.Proofs.YtglhapkclpllfacDoor
