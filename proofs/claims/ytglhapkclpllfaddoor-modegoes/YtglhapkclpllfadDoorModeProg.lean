/-
  What package mode answers, whatever it is asked (structure ModeP), over plain mathematics: a board lies in blocks of a footprint; what is done to it turns nothing else.
  Conditions: those of the package's contracts (M).
-/
import Derived.Test.YtglhapkclpllfadDoorProg
import Derived.Test.YtglhapkclpllfadDoorModeMath
import Derived.Test.YtglhapkclpllfadDoorOnly
namespace Go.Proofs.YtglhapkclpllfadDoor
open Go.RowKit

/-- The error of pairs that are not right. -/
def PrErr (e : Nat → TypeId × Value) (w : World) (l : List Pr) (t : TypeId) (p : Value) : Prop :=
  (16 < l.length ∧ t = (e 6).1 ∧ p = (e 6).2) ∨
    ∃ m pb : Nat, l.length ≤ 16 ∧ m < l.length ∧ (∀ i, i < m → prOk (l.getD i Pr.zero)) ∧ ¬ prOk (l.getD m Pr.zero) ∧ t = 73 ∧ p = .pointer (some ⟨pb, 0, none⟩) ∧ w.cell? ⟨pb, 0, none⟩ = some (.int .i64 m) ∧ w.cell? ⟨pb, 0 + 1, none⟩ = some (.iface (e 1).1 (e 1).2)
/-- An error by its number. -/
def errC (e : Nat → TypeId × Value) (c : Nat) : Value := if c = 0 then .nilIface else .iface (e (c - 1)).1 (e (c - 1)).2
/-- Package mode's answers. B w F v l n a: v is a board of the pairs l, with the mode n and what is asked for, a, in blocks of F. -/
structure ModeP (M : World → Prop) (e : Nat → TypeId × Value) (B : World → (Nat → Prop) → Value → List Pr → Int → Int → Prop) : Prop where
  keep : ∀ w w', M w → Below w.heap.size w w' → M w'
  ptr : ∀ w F v l n a, B w F v l n a → ∃ p, v = .pointer (some p)
  lt : ∀ w F v l n a, B w F v l n a → ∀ k, F k → k < w.heap.size
  stay : ∀ w w' F v l n a, B w F v l n a → w.heap.size ≤ w'.heap.size → (∀ k, F k → w'.heap[k]? = w.heap[k]?) → B w' F v l n a
  neN : ∀ w v l, M w → PrsIn w v l → ¬ prsOk l → Calls Tryd.prog 29 #[v] w fun r w' => ∃ ty p, r = .returned (.tuple #[.pointer none, .iface ty p]) ∧ PrErr e w' l ty p ∧ Below w.heap.size w w'
  neO : ∀ w v l, M w → PrsIn w v l → prsOk l → Calls Tryd.prog 29 #[v] w fun r w' => ∃ p F, r = .returned (.tuple #[.pointer (some p), .nilIface]) ∧ B w' F (.pointer (some p)) l 0 (-1) ∧ (∀ k, F k → w.heap.size ≤ k) ∧ Below w.heap.size w w'
  ask : ∀ w F v l n a to, M w → B w F v l n a → boardOk n a → Calls Tryd.prog 33 #[v, .int .i64 to] w fun r w' => ∃ F', r = .returned (errC e (askC l n a to)) ∧ B w' F' v l n (askA l n a to) ∧ (∀ k, F' k → F k ∨ w.heap.size ≤ k) ∧ Only F w w'
  turn : ∀ w F v l n a, M w → B w F v l n a → boardOk n a → Calls Tryd.prog 34 #[v] w fun r w' => ∃ F', r = .returned (.int .i64 (turnN n a)) ∧ B w' F' v l (turnN n a) (-1) ∧ (∀ k, F' k → F k ∨ w.heap.size ≤ k) ∧ Only F w w'
  now : ∀ w F v l n a, M w → B w F v l n a → Calls Tryd.prog 31 #[v] w fun r w' => r = .returned (.int .i64 n) ∧ w' = w
  asked : ∀ w F v l n a, M w → B w F v l n a → Calls Tryd.prog 32 #[v] w fun r w' => r = .returned (.int .i64 a) ∧ w' = w
section
variable {M : World → Prop} {e : Nat → TypeId × Value} {B : World → (Nat → Prop) → Value → List Pr → Int → Int → Prop}
theorem ModeP.below (P : ModeP M e B) {w w' : World} {F : Nat → Prop} {v : Value} {l : List Pr} {n a : Int} (h : B w F v l n a) (hB : Below w.heap.size w w') : B w' F v l n a :=
  P.stay _ _ _ _ _ _ _ h hB.size fun k hk => hB.block k (P.lt _ _ _ _ _ _ h k hk)
theorem ModeP.nowB (P : ModeP M e B) (w : World) (F : Nat → Prop) (v : Value) (l : List Pr) (n a : Int) (m : M w) (h : B w F v l n a) : Calls Tryd.prog 31 #[v] w fun r w' => r = .returned (.int .i64 n) ∧ Below w.heap.size w w' :=
  (P.now w F v l n a m h).mono fun _ _ h => ⟨h.1, by rw [h.2]; exact Below.refl _ _⟩
theorem ModeP.askedB (P : ModeP M e B) (w : World) (F : Nat → Prop) (v : Value) (l : List Pr) (n a : Int) (m : M w) (h : B w F v l n a) : Calls Tryd.prog 32 #[v] w fun r w' => r = .returned (.int .i64 a) ∧ Below w.heap.size w w' :=
  (P.asked w F v l n a m h).mono fun _ _ h => ⟨h.1, by rw [h.2]; exact Below.refl _ _⟩
end
end Go.Proofs.YtglhapkclpllfadDoor
