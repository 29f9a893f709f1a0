/-
  The error that goes with a history that is not right.
-/
import Derived.Test.YtglhapkclpllfadDoorCliqueMath
namespace Go.Proofs.YtglhapkclpllfadDoor
open Go.RowKit

/-- The error of a history that is not right. -/
def HistErr (e : Nat → TypeId × Value) (w : World) (l : List Ent) (t : TypeId) (p : Value) : Prop :=
  (200 < l.length ∧ t = (e 6).1 ∧ p = (e 6).2) ∨
    ∃ m c pb : Nat, l.length ≤ 200 ∧ m < l.length ∧ (∀ i, i < m → entErr i (l.getD i Ent.zero) = 0) ∧ entErr m (l.getD m Ent.zero) = c + 1 ∧ t = 73 ∧ p = .pointer (some ⟨pb, 0, none⟩) ∧ w.cell? ⟨pb, 0, none⟩ = some (.int .i64 m) ∧ w.cell? ⟨pb, 0 + 1, none⟩ = some (.iface (e c).1 (e c).2)
end Go.Proofs.YtglhapkclpllfadDoor
