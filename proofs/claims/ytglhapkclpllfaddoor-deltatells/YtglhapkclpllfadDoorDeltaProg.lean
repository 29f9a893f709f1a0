/-
  What package delta answers, whatever it is asked (structure DelP): over plain mathematics.
  Conditions: those of the package's contracts (M).
-/
import Derived.Test.YtglhapkclpllfadDoorProg
import Derived.Test.YtglhapkclpllfadDoorDeltaMath
import Derived.Test.YtglhapkclpllfadDoorHistErr
import Derived.Test.YtglhapkclpllfadDoorSameEnts
namespace Go.Proofs.YtglhapkclpllfadDoor
open Go.RowKit

def keyE (e : Ent) : Int × Int × Bool × Int := (e.slot, e.src, e.heard, e.value)
theorem keyE_inj {a b : Ent} (h : keyE a = keyE b) : a = b := by
  obtain ⟨a0, a1, a2, a3⟩ := a
  obtain ⟨b0, b1, b2, b3⟩ := b
  simp only [keyE, Prod.mk.injEq] at h
  obtain ⟨rfl, rfl, rfl, rfl⟩ := h
  rfl
theorem map_keyE : ∀ {l m : List Ent}, l.map keyE = m.map keyE → l = m
  | [], [], _ => rfl
  | [], _ :: _, h => by simp at h
  | _ :: _, [], h => by simp at h
  | a :: l, b :: m, h => by
    simp only [List.map_cons, List.cons.injEq] at h
    rw [keyE_inj h.1, map_keyE h.2]
/-- How many entries there are in front that are the same in both. -/
def agreeE (l m : List Ent) : Nat := agreeN (l.map keyE) (m.map keyE)
theorem agreeE_le (l m : List Ent) : agreeE l m ≤ l.length ∧ agreeE l m ≤ m.length := by
  have := agree_le (l.map keyE) (m.map keyE)
  rw [List.length_map, List.length_map] at this
  exact this
theorem agreeE_take (l m : List Ent) : l.take (agreeE l m) = m.take (agreeE l m) := map_keyE (by
  rw [List.map_take, List.map_take]
  exact agree_take _ _)
theorem agreeE_comm (l m : List Ent) : agreeE l m = agreeE m l := agree_comm _ _
theorem getD_keyE (l : List Ent) (i : Nat) : (l.map keyE).getD i (keyE Ent.zero) = keyE (l.getD i Ent.zero) := by
  rw [List.getD_eq_getElem?_getD, List.getElem?_map, List.getD_eq_getElem?_getD]
  cases l[i]? <;> rfl
theorem agreeE_at (l m : List Ent) (k : Nat) (h1 : k ≤ l.length) (h2 : k ≤ m.length) (h3 : ∀ i, i < k → l.getD i Ent.zero = m.getD i Ent.zero) (h4 : k < l.length → k < m.length → l.getD k Ent.zero ≠ m.getD k Ent.zero) : agreeE l m = k :=
  agree_at (keyE Ent.zero) _ _ k (by rw [List.length_map]; exact h1) (by rw [List.length_map]; exact h2) (fun i hi => by rw [getD_keyE, getD_keyE, h3 i hi]) (fun ha hb e => by
    rw [getD_keyE, getD_keyE] at e
    rw [List.length_map] at ha hb
    exact h4 ha hb (keyE_inj e))
/-- Package delta's answers, and clique.Check's: e 1 is ErrBound, e 9 ErrGap. -/
structure DelP (M : World → Prop) (e : Nat → TypeId × Value) : Prop where
  keep : ∀ w w', M w → Below w.heap.size w w' → M w'
  ckY : ∀ w v l, M w → EntsIn w v l → histOk l → Calls Tryd.prog 10 #[v] w fun r w' => r = .returned .nilIface ∧ Below w.heap.size w w'
  ckN : ∀ w v l, M w → EntsIn w v l → ¬ histOk l → Calls Tryd.prog 10 #[v] w fun r w' => ∃ ty p, r = .returned (.iface ty p) ∧ HistErr e w' l ty p ∧ Below w.heap.size w w'
  siN : ∀ w v l h most, M w → EntsIn w v l → ¬ histOk l → Calls Tryd.prog 24 #[v, .int .i64 h, .int .i64 most] w fun r w' => ∃ ad cap ty p, r = .returned (.tuple #[.slice ad 0 cap, .iface ty p]) ∧ HistErr e w' l ty p ∧ Below w.heap.size w w'
  siB : ∀ w v l h most, M w → EntsIn w v l → histOk l → h < 0 ∨ most < 1 → Calls Tryd.prog 24 #[v, .int .i64 h, .int .i64 most] w fun r w' => ∃ ad cap, r = .returned (.tuple #[.slice ad 0 cap, .iface (e 1).1 (e 1).2]) ∧ Below w.heap.size w w'
  siG : ∀ w v l h most, M w → EntsIn w v l → histOk l → 0 ≤ h → 1 ≤ most → (l.length : Int) < h → Calls Tryd.prog 24 #[v, .int .i64 h, .int .i64 most] w fun r w' => ∃ ad cap, r = .returned (.tuple #[.slice ad 0 cap, .iface (e 9).1 (e 9).2]) ∧ Below w.heap.size w w'
  siO : ∀ w v l (h : Nat) (most : Int), M w → EntsIn w v l → histOk l → 1 ≤ most → h ≤ l.length → Calls Tryd.prog 24 #[v, .int .i64 (h : Int), .int .i64 most] w fun r w' => ∃ o, r = .returned (.tuple #[o, .nilIface]) ∧ EntsIn w' o (sinceL l h most.toNat) ∧ Below w.heap.size w w'
  joN : ∀ w v vm l m, M w → EntsIn w v l → EntsIn w vm m → m.length ≤ 1000 → ¬ histOk l → Calls Tryd.prog 25 #[v, vm] w fun r w' => ∃ ad cap ty p, r = .returned (.tuple #[.slice ad 0 cap, .iface ty p]) ∧ HistErr e w' l ty p ∧ Below w.heap.size w w'
  joB : ∀ w v vm l m, M w → EntsIn w v l → EntsIn w vm m → m.length ≤ 1000 → histOk l → ¬ histOk (l ++ m) → Calls Tryd.prog 25 #[v, vm] w fun r w' => ∃ ad cap ty p, r = .returned (.tuple #[.slice ad 0 cap, .iface ty p]) ∧ HistErr e w' (l ++ m) ty p ∧ Below w.heap.size w w'
  joO : ∀ w v vm l m, M w → EntsIn w v l → EntsIn w vm m → m.length ≤ 1000 → histOk l → histOk (l ++ m) → Calls Tryd.prog 25 #[v, vm] w fun r w' => ∃ o, r = .returned (.tuple #[o, .nilIface]) ∧ EntsIn w' o (l ++ m) ∧ Below w.heap.size w w'
  agO : ∀ w v vm l m, M w → EntsIn w v l → EntsIn w vm m → l.length ≤ 1000 → m.length ≤ 1000 → Calls Tryd.prog 23 #[v, vm] w fun r w' => r = .returned (.int .i64 (agreeE l m : Nat)) ∧ Below w.heap.size w w'
theorem DelP.mono {M M' : World → Prop} {e : Nat → TypeId × Value} (P : DelP M e) (h : ∀ w, M' w → M w) (hk : ∀ w w', M' w → Below w.heap.size w w' → M' w') : DelP M' e where
  keep := hk
  ckY w v l m := P.ckY w v l (h w m)
  ckN w v l m := P.ckN w v l (h w m)
  siN w v l a b m := P.siN w v l a b (h w m)
  siB w v l a b m := P.siB w v l a b (h w m)
  siG w v l a b m := P.siG w v l a b (h w m)
  siO w v l a b m := P.siO w v l a b (h w m)
  joN w v vm l m k := P.joN w v vm l m (h w k)
  joB w v vm l m k := P.joB w v vm l m (h w k)
  joO w v vm l m k := P.joO w v vm l m (h w k)
  agO w v vm l m k := P.agO w v vm l m (h w k)
end Go.Proofs.YtglhapkclpllfadDoor
