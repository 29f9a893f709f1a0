/-
  Slices of records (structs of one-cell fields): where their cells lie, whatever program it is; from an argument's reading, from a row of the call's own.
-/
import Derived.Test.YtglhapkclpllfadDoorBase
import Derived.Deep.Slices
import Derived.Deep.Strs
import Derived.Lib.SmallJoins
import Derived.ProofKit
import Derived.OpenShut
namespace Go.Proofs.YtglhapkclpllfadDoor
open Go.RowKit Go.ChangeShapes Go.WideShapes Go.Deep

/-- The slice v holds records of so many cells each; an empty one may lie anywhere; it has room for them. -/
def RecsIn (w : World) (size : Nat) (v : Value) (xs : List (List Value)) : Prop :=
  ∃ ad cap, v = .slice ad xs.length cap ∧ xs.length ≤ cap ∧ ∀ k, k < xs.length → ∃ b off, ad = some ⟨b, off, none⟩ ∧ ∀ j u, (xs.getD k [])[j]? = some u → w.cell? ⟨b, off + (k * size + j), none⟩ = some u
theorem RecsIn.below {w w' : World} {size : Nat} {v : Value} {xs : List (List Value)} (h : RecsIn w size v xs) (hb : Below w.heap.size w w') : RecsIn w' size v xs := by
  obtain ⟨ad, cap, rfl, hr, h⟩ := h
  exact ⟨ad, cap, rfl, hr, fun k hk => by obtain ⟨b, o, e, hc⟩ := h k hk; exact ⟨b, o, e, fun j u hj => below_cell hb (hc j u hj)⟩⟩
theorem flat_at (size : Nat) : ∀ (xs : List (List Value)) (k j : Nat), (∀ x ∈ xs, x.length = size) → k < xs.length → j < size → xs.flatten[k * size + j]? = (xs.getD k [])[j]?
  | [], k, j, _, hk, _ => absurd hk (by simp)
  | x :: xs, 0, j, h, _, hj => by
    have hx := h x (by simp)
    rw [List.flatten_cons, Nat.zero_mul, Nat.zero_add, List.getElem?_append_left (by omega)]
    simp
  | x :: xs, k + 1, j, h, hk, hj => by
    have hx := h x (by simp)
    have e : (k + 1) * size + j = size + (k * size + j) := by rw [Nat.add_mul]; omega
    rw [List.flatten_cons, e, List.getElem?_append_right (by omega), hx, Nat.add_sub_cancel_left, flat_at size xs k j (fun y hy => h y (List.mem_cons_of_mem _ hy)) (by simpa using hk) hj]
    simp
theorem RecsIn.of_owns {W : World} {base : Nat} {e : TypeId} {size : Nat} {v : Value} {xs : List (List Value)} (hs : ∀ x ∈ xs, x.length = size) (h : W.ownsRow base e size v xs.length xs.flatten) : RecsIn W size v xs := by
  obtain ⟨_, h⟩ := h
  rcases h with ⟨rfl, h0⟩ | ⟨g, cap, cur, rfl, _, hb, hr, _, _, hx⟩
  · exact ⟨none, 0, by rw [h0], by omega, fun k hk => absurd hk (by omega)⟩
  · refine ⟨_, _, rfl, hr, fun k hk => ⟨g, 0, rfl, fun j u hj => ?_⟩⟩
    have hlen : (xs.getD k []).length = size := by
      rw [List.getD_eq_getElem?_getD, List.getElem?_eq_getElem hk]
      exact hs _ (List.getElem_mem hk)
    have hjs : j < size := by
      rcases Nat.lt_or_ge j size with h | h
      · exact h
      · rw [List.getElem?_eq_none (by omega)] at hj; cases hj
    have e1 : (cur.toList.take (xs.length * size))[k * size + j]? = some u := by rw [hx, flat_at size xs k j hs hk hjs]; exact hj
    have hlt : k * size + j < xs.length * size := by
      have : (k + 1) * size ≤ xs.length * size := Nat.mul_le_mul_right _ hk
      rw [Nat.add_mul, Nat.one_mul] at this
      omega
    rw [List.getElem?_take_of_lt hlt] at e1
    simp only [World.cell?, hb, Nat.zero_add]
    rw [← e1]; simp
/-- What came in as a slice of records. -/
theorem recs_in {H : Type} {enc : TypeId × Value → H} {P : Program} {W : World} {base : Nat} {t e : TypeId} {size : Nat} {v : Value} {d : DataW H} {p : List MemPlace} (good : List Value → Prop) (ht : P.underlying t = some (.slice e)) (hc : P.cellsOf e = size) (h0 : 0 < size)
    (he : ∀ n cs y, DataW.trod enc P W 0 (fun _ => true) true n e cs = some y → good cs) (hval : Value.okWide P W .any base t v) (h : DataW.Trod enc P W 0 (fun _ => true) true t v d p) :
    ∃ xs : List (List Value), RecsIn W size v xs ∧ ∀ x ∈ xs, x.length = size ∧ good x := by
  obtain ⟨a0, len, cap, rfl⟩ := okWide_slice ht hval
  obtain ⟨fuel, hf⟩ := h
  rcases open_slice ht hf with ⟨hcs, _⟩ | ⟨a, len', cap', m, n, D, Pl, hcs, _, hl, hm, hmm, _, hx⟩
  · simp [Value.cells] at hcs
    obtain ⟨rfl, rfl, rfl⟩ := hcs
    exact ⟨[], ⟨_, _, rfl, Nat.le_refl _, fun k hk => absurd hk (Nat.not_lt_zero _)⟩, fun x hx => by cases hx⟩
  · simp [Value.cells] at hcs
    obtain ⟨rfl, rfl, rfl⟩ := hcs
    simp only [if_true] at hmm
    rw [hc] at hx
    obtain ⟨q, hq⟩ := choose_lt hx
    refine ⟨(List.range len).map q, ⟨some a, cap, by simp, by simp; exact hl, fun k hk => ?_⟩, fun x hx => ?_⟩
    · rw [List.length_map, List.length_range] at hk
      obtain ⟨h1, _⟩ := hq k (by omega)
      obtain ⟨_, hlen, hcell⟩ := World.cells?_some h1
      obtain ⟨b, off, spot⟩ := a
      obtain ⟨_, hlen0, hcell0⟩ := World.cells?_some (hq 0 (by omega)).1
      have hspot : spot = none := by simpa [Addr.add] using World.cell?_spot ((hcell0 0 h0).trans (List.getElem?_eq_getElem (by omega)))
      subst hspot
      refine ⟨b, off, rfl, fun j u hj => ?_⟩
      rw [List.getD_eq_getElem?_getD, List.getElem?_map, List.getElem?_range hk] at hj
      simp only [Option.map_some, Option.getD_some] at hj
      have hjs : j < size := by
        rcases Nat.lt_or_ge j size with h | h
        · exact h
        · rw [List.getElem?_eq_none (by omega)] at hj; cases hj
      have := hcell j hjs
      rw [add_add, add_plain] at this
      rw [this]
      exact hj
    · obtain ⟨k, hk, rfl⟩ := List.mem_map.1 hx
      obtain ⟨h1, h2⟩ := hq k (by have := List.mem_range.1 hk; omega)
      exact ⟨(World.cells?_some h1).2.1, he _ _ _ h2⟩
end Go.Proofs.YtglhapkclpllfadDoor
