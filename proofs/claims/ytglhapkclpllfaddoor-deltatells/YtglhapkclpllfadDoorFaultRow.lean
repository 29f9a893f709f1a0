/-
  A fault variable of a law in a block of its own; entries that lie elsewhere stay as they are when it is written anew.
-/
import Derived.Test.YtglhapkclpllfadDoorFaultVar
import Derived.Test.YtglhapkclpllfadDoorRecTypes
namespace Go.Proofs.YtglhapkclpllfadDoor
open Go.RowKit

/-- A fault variable of the call's own: its block holds nothing else. -/
structure FAtR (w : World) (b : Nat) (c n : Int) : Prop where
  f : FAt w b c n
  o : w.heap[b]? = some (.cells #[.int .i64 c, .int .i64 n] 29)
theorem FAtR.below {w w' : World} {b : Nat} {c n : Int} (h : FAtR w b c n) (hB : Below w.heap.size w w') : FAtR w' b c n := ⟨h.f.below hB, below_row hB h.o⟩
theorem FAtR.new (w : World) (c n : Int) : FAtR (w.alloc (.cells #[.int .i64 c, .int .i64 n] 29)) w.heap.size c n := ⟨FAt.new w c n, heap_alloc_new _ _⟩
theorem ents_set {w : World} {v : Value} {ys : List Ent} {b : Nat} {c n : Int} (h : EntsIn w v ys) (F : FAtR w b c n) (x y : Value) : EntsIn ((w.setCell ⟨b, 0, none⟩ x).setCell ⟨b, 1, none⟩ y) v ys := by
  obtain ⟨ad2, cap2, e1, hc⟩ := EntsIn.at h
  obtain ⟨ad, cap, rfl, hr, h⟩ := h
  obtain ⟨rfl, _⟩ : ad = ad2 ∧ cap = cap2 := by
    injection e1 with e3 _ e4
    exact ⟨e3, e4⟩
  refine ⟨ad, cap, rfl, hr, fun k hk => ?_⟩
  obtain ⟨b', off, rfl, hk'⟩ := h k hk
  refine ⟨b', off, rfl, fun j u hj => ?_⟩
  have h1 := hk' j u hj
  by_cases hb : b = b'
  · subst hb
    have h2 : ∀ i, 2 ≤ i → w.cell? ⟨b, i, none⟩ = none := fun i hi => by
      simp only [World.cell?, F.o]
      exact Array.getElem?_eq_none (by simpa using hi)
    have hlt : off + (k * 4 + j) < 2 := by
      rcases Nat.lt_or_ge (off + (k * 4 + j)) 2 with h3 | h3
      · exact h3
      · rw [h2 _ h3] at h1
        cases h1
    rw [List.length_map] at hk
    obtain ⟨b2, off2, e2, _, _, c2, _⟩ := hc 0 (by omega)
    cases e2
    rw [h2 _ (by omega)] at c2
    cases c2
  · rw [World.cell?_setCell_other _ _ _ _ (fun e => hb (by injection e)), World.cell?_setCell_other _ _ _ _ (fun e => hb (by injection e))]
    exact h1
end Go.Proofs.YtglhapkclpllfadDoor
