/-
  Small lemmas that the other texts share: facts kept from the walk, old cells and rows behind Below, endings.
-/
import Derived.WalkKit
import Derived.BigQuiet
namespace Go.Proofs.YtmblonlmjbbkiaaGreatDoor
open Go.RowKit

theorem hide {p : Prop} (h : p) : Hid p := h
theorem unhide {p : Prop} (h : Hid p) : p := h
theorem blk_lt {w : World} {k : Nat} {o : Obj} (h : w.heap[k]? = some o) : k < w.heap.size := by
  rcases Nat.lt_or_ge k w.heap.size with h' | h'
  · exact h'
  · simp [Array.getElem?_eq_none h'] at h
theorem cell_lt {w : World} {p : Addr} {v : Value} (h : w.cell? p = some v) : p.block < w.heap.size := by
  rcases Nat.lt_or_ge p.block w.heap.size with h' | h'
  · exact h'
  · simp [World.cell?, Array.getElem?_eq_none h'] at h
theorem below_cell {w w' : World} (hb : Below w.heap.size w w') {p : Addr} {v : Value} (h : w.cell? p = some v) : w'.cell? p = some v := by
  rw [hb.cell (cell_lt h)]; exact h
theorem below_row {w w' : World} (hb : Below w.heap.size w w') {k : Nat} {o : Obj} (h : w.heap[k]? = some o) : w'.heap[k]? = some o := by
  rw [hb.block k (blk_lt h)]; exact h
theorem below_draw {B : Nat} {a w : World} (h : Below B a w) (n : Nat) : Below B a (w.drewN n) := h.trans ⟨rfl, rfl, rfl, Nat.le_refl _, fun _ _ => rfl⟩
theorem ret_bool {a b : Bool} (h : a = b) : Ending.returned (.bool a) = .returned (.bool b) := by rw [h]
theorem ret_int {k : IntKind} {a b : Int} (h : a = b) : Ending.returned (.int k a) = .returned (.int k b) := by rw [h]

/-- The slice v holds the numbers xs. -/
def IntsAt (w : World) (v : Value) (xs : List Int) : Prop :=
  (v = .slice none 0 0 ∧ xs = []) ∨ ∃ b off cap, v = .slice (some ⟨b, off, none⟩) xs.length cap ∧ ∀ i, i < xs.length → w.cell? ⟨b, off + i, none⟩ = some (.int .i64 (xs.getD i 0))
theorem IntsAt.below {w w' : World} {v : Value} {xs : List Int} (h : IntsAt w v xs) (hb : Below w.heap.size w w') : IntsAt w' v xs := by
  rcases h with h | ⟨b, o, c, rfl, h⟩
  · exact Or.inl h
  · exact Or.inr ⟨b, o, c, rfl, fun i hi => below_cell hb (h i hi)⟩
/-- A row of numbers that was just laid. -/
theorem ints_new (W : World) (xs : List Int) (t : TypeId) (cs : Array Value) (g : Nat) (h : cs = (xs.map (Value.int .i64)).toArray) (hg : g = W.heap.size) (i : Nat) (hi : i < xs.length) :
    (W.alloc (.cells cs t)).cell? ⟨g, 0 + i, none⟩ = some (.int .i64 (xs.getD i 0)) := by
  subst h
  subst hg
  rw [World.cell?_alloc_at _ _ _ _ rfl, Nat.zero_add]
  simp [hi]
end Go.Proofs.YtmblonlmjbbkiaaGreatDoor
