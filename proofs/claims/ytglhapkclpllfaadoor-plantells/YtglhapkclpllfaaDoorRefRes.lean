/-
  Contracts of the document's answer: Fine, Bare; a fault as a result, in cells of the call's own.
-/
import Derived.Test.YtglhapkclpllfaaDoorProg
import Derived.Test.YtglhapkclpllfaaDoorBase
namespace Go.Proofs.YtglhapkclpllfaaDoor
open Go.RowKit

theorem fine_ok (w : World) : Calls Tryd.prog 52 #[] w fun e w' => e = .returned (.agg #[.int .i64 0, .int .i64 (-1)]) ∧ Below w.heap.size w w' := by
  go_enter Tryd.func52, Tryd.ntmps52
  go_wp2
  exact bodyPost_ret (v := .agg #[.int .i64 0, .int .i64 (-1)]) (by simp [results, Tryd.results52, go_sem]) rfl ⟨rfl, (Below.refl _ _).alloc (Nat.le_refl _) _⟩
theorem bare_ok (c : Int) (w : World) : Calls Tryd.prog 50 #[.int .i64 c] w fun e w' => e = .returned (.agg #[.int .i64 c, .int .i64 (-1)]) ∧ Below w.heap.size w w' := by
  go_enter Tryd.func50, Tryd.ntmps50
  go_wp2
  exact bodyPost_ret (v := .agg #[.int .i64 c, .int .i64 (-1)]) (by simp [results, Tryd.results50, go_sem]) rfl ⟨rfl, (Below.refl _ _).alloc (Nat.le_refl _) _⟩
/-- The result's own cells, as a callee leaves them. -/
theorem res_cells {w w2 : World} (hB : Below (w.alloc (.cells #[.int .i64 0, .int .i64 0] 51)).heap.size (w.alloc (.cells #[.int .i64 0, .int .i64 0] 51)) w2) :
    w2.cell? ⟨w.heap.size, 0, none⟩ = some (.int .i64 0) ∧ w2.cell? ⟨w.heap.size, 0 + 1, none⟩ = some (.int .i64 0) ∧ w2.frozen? ⟨w.heap.size, 0, none⟩ = false ∧ w2.frozen? ⟨w.heap.size, 0 + 1, none⟩ = false ∧ Below w.heap.size w w2 :=
  ⟨below_cell hB (by simp), below_cell hB (by simp), (hB.frozen (p := ⟨w.heap.size, 0, none⟩) (by simp)).trans (by simp), (hB.frozen (p := ⟨w.heap.size, 0 + 1, none⟩) (by simp)).trans (by simp),
    ((Below.refl _ _).alloc (Nat.le_refl _) _).trans (hB.mono (by simp))⟩
theorem below_res {w w2 : World} (hB : Below w.heap.size w w2) (x y : Value) : Below w.heap.size w ((w2.setCell ⟨w.heap.size, 0, none⟩ x).setCell ⟨w.heap.size, 1, none⟩ y) :=
  (hB.setCell (p := ⟨w.heap.size, 0, none⟩) (Nat.le_refl _) _).setCell (p := ⟨w.heap.size, 1, none⟩) (Nat.le_refl _) _
theorem res_alloc {w w2 : World} (hB : Below (w.alloc (.cells #[.int .i64 0, .int .i64 0] 51)).heap.size (w.alloc (.cells #[.int .i64 0, .int .i64 0] 51)) w2) (o : Obj) :
    (w2.alloc o).cell? ⟨w.heap.size, 0, none⟩ = some (.int .i64 0) ∧ (w2.alloc o).cell? ⟨w.heap.size, 0 + 1, none⟩ = some (.int .i64 0) ∧ (w2.alloc o).frozen? ⟨w.heap.size, 0, none⟩ = false ∧ (w2.alloc o).frozen? ⟨w.heap.size, 0 + 1, none⟩ = false ∧ Below w.heap.size w (w2.alloc o) :=
  res_cells (hB.alloc hB.size o)
end Go.Proofs.YtglhapkclpllfaaDoor
