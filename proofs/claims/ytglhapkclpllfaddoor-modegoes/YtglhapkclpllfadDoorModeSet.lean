/-
  A set of pairs of numbers (a map whose values are empty): which pairs are there (AllowsS), what a look-up tells, what is there behind a store.
-/
import Derived.Test.YtglhapkclpllfadDoorModeMath
import Derived.Test.YtglhapkclpllfadDoorProg
import Derived.Maps.OwnSet
import Derived.Maps.Views
import Derived.DeepKeys4
import Derived.WideKeyArgs2
import Derived.KernelRfl
namespace Go.Proofs.YtglhapkclpllfadDoor
open Go.RowKit Go.Maps Go.WideMaps

theorem Tryd.mpLaid : laidOutB Tryd.prog = true := by kernel_rfl
theorem Tryd.mpRow : (89 : TypeId) < Tryd.prog.types.size := of_decide_eq_true (by kernel_rfl)
theorem Tryd.mpType : Tryd.prog.keyType 89 = true := by kernel_rfl
theorem keyLawP : Keyed Tryd.prog 89 := Keyed.of_law (deep_law_laid Tryd.mpLaid (m := 2) (by omega) Tryd.mpRow (by kernel_rfl) (by kernel_rfl))
/-- What a pair reads as, as a key. -/
def keyP (x y : Int) : Lit := .string (keyBytes [.int .i64 x, .int .i64 y])
theorem keyP_some (x y : Int) (hx : (Lit.int .i64 x).wf = true) (hy : (Lit.int .i64 y).wf = true) : keyOf Tryd.prog 89 (.agg #[.int .i64 x, .int .i64 y]) = some (keyP x y) := by
  obtain ⟨m, hm⟩ : ∃ m, Tryd.prog.types.size = m + 1 := ⟨Tryd.prog.types.size - 1, by kernel_rfl⟩
  unfold keyOf keyP
  have hc : Tryd.prog.cellsOf 89 = 2 := by kernel_rfl
  have hi : Tryd.prog.cellsOf 3 = 1 := by kernel_rfl
  simp only [Tryd.underlying89]
  rw [if_pos (by simp [Tryd.mpType, Value.formed, Tryd.underlying89, hc]), hm]
  unfold Program.keyLits
  simp [Tryd.underlying89, Value.cells, hc, hi, Program.keyLits, Tryd.underlying3, hx, hy]
theorem keyP_inj {x y x' y' : Int} (hx : (Lit.int .i64 x).wf = true) (hy : (Lit.int .i64 y).wf = true) (hx' : (Lit.int .i64 x').wf = true) (hy' : (Lit.int .i64 y').wf = true) (h : keyP x y = keyP x' y') : x = x' ∧ y = y' := by
  have h1 := keyP_some x y hx hy
  rw [h] at h1
  have h2 := keyLawP.inj h1 (keyP_some x' y' hx' hy')
  injection h2 with h3
  simp at h3
  exact h3
/-- The datum of the set tells which pairs are there. -/
def AllowsS (l : List Pr) (D : DataW Unit) : Prop := IsMap D ∧ ∀ x y : Int, (Lit.int .i64 x).wf = true → (Lit.int .i64 y).wf = true → has D (keyP x y) = allowB l x y
theorem allowsS_nil : AllowsS [] (.map []) := ⟨isMap_empty, fun _ _ _ _ => rfl⟩
theorem allowsS_step {l : List Pr} {D : DataW Unit} (h : AllowsS l D) (p : Pr) (h1 : (Lit.int .i64 p.src).wf = true) (h2 : (Lit.int .i64 p.dst).wf = true) (d : DataW Unit) : AllowsS (l ++ [p]) (D.put (keyP p.src p.dst) d) := by
  refine ⟨h.1.put _ _, fun x y hx hy => ?_⟩
  have ha : allowB (l ++ [p]) x y = (allowB l x y || decide (p.src = x ∧ p.dst = y)) := by
    unfold allowB
    rw [List.any_append]
    simp
  rw [ha]
  by_cases e : p.src = x ∧ p.dst = y
  · obtain ⟨rfl, rfl⟩ := e
    rw [has_put_same h.1 (by simp [WideAt.IsKeyLit, keyP]), decide_eq_true ⟨rfl, rfl⟩, Bool.or_true]
  · rw [has_put_other (fun e2 => e (by
      obtain ⟨a, b⟩ := keyP_inj hx hy h1 h2 e2
      exact ⟨a.symm, b.symm⟩)), h.2 x y hx hy, decide_eq_false e, Bool.or_false]
theorem zeroUnit (w : World) : (zeroValue 92).run Tryd.prog w = .ok (.agg #[]) w := by kernel_rfl
theorem lookS {W : World} {bm n : Nat} {l : List Pr} {D : DataW Unit} (own : W.ownsMap Tryd.prog 89 unitElem bm n D) (h : AllowsS l D) (x y : Int) (hx : (Lit.int .i64 x).wf = true) (hy : (Lit.int .i64 y).wf = true) :
    (Instr.lookup 91 (.map (some bm)) (.agg #[.int .i64 x, .int .i64 y]) true).run Tryd.prog W = .ok (.tuple #[.agg #[], .bool (allowB l x y)]) W := by
  obtain ⟨v, ps, hrun, hv⟩ := own.look_ok keyLawP Tryd.underlying91 (zeroUnit W) unitElem_mk (keyP_some x y hx hy)
  obtain ⟨rfl, _⟩ := unitElem_inv hv
  rw [hrun, h.2 x y hx hy]
end Go.Proofs.YtglhapkclpllfadDoor
