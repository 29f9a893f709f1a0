/-
  The walk of the law CliqueOne, over what package clique answers: it answers true, and nothing that was in memory has turned.
  Conditions: those of the package's contracts (M).
-/
import Derived.Test.YtglhapkclpllfadDoorCliqueMath
import Derived.Test.YtglhapkclpllfadDoorRef0
import Derived.Deep.AppendLies
import Derived.OwnWalk
import Derived.KernelRfl
namespace Go.Proofs.YtglhapkclpllfadDoor
open Go.RowKit

theorem Tryd.infoEN : (Tryd.prog.info? 49).map (fun i => (i.zero, i.size, i.bytes)) = some (some (.agg #[.int .i64 0, .int .i64 0, .bool false, .int .i64 0]), 4, 32) := by kernel_rfl
/-- What one heard of the history, and what the other one did. -/
def oneE (l : List Ent) (which : List Int) (i : Nat) : Ent := if which.contains (i : Int) then l.getD i Ent.zero else ⟨i, (l.getD i Ent.zero).src, false, 0⟩
def otherE (l : List Ent) (which : List Int) (i : Nat) : Ent := if which.contains (i : Int) then ⟨i, (l.getD i Ent.zero).src, false, 0⟩ else l.getD i Ent.zero
def rowE (f : Nat → Ent) (k : Nat) : List Value := (((List.range k).map f).map Ent.cells).flatten
theorem rowE_snoc (f : Nat → Ent) (k : Nat) : rowE f (k + 1) = rowE f k ++ [.int .i64 (f k).slot, .int .i64 (f k).src, .bool (f k).heard, .int .i64 (f k).value] := by
  unfold rowE
  rw [List.range_succ, List.map_append, List.map_append, List.flatten_append]
  simp [Ent.cells]
theorem ents_of_row {W : World} {base : Nat} {v : Value} {f : Nat → Ent} {n : Nat} (h : W.ownsRow base 49 4 v n (rowE f n)) : EntsIn W v ((List.range n).map f) := by
  refine RecsIn.of_owns (base := base) (e := 49) (size := 4) (fun x hx => ?_) ?_
  · obtain ⟨s, _, rfl⟩ := List.mem_map.1 hx
    rfl
  · rw [List.length_map, List.length_map, List.length_range]
    exact h
/-- Two rows of the call's own, apart. -/
def apartV (a b : Value) : Prop := ∀ g, a.ownBlock = some g → b.ownBlock ≠ some g
theorem hist_one {l : List Ent} (h : histOk l) (which : List Int) : histOk ((List.range l.length).map (oneE l which)) ∧ histOk ((List.range l.length).map (otherE l which)) := by
  have key : ∀ f : Nat → Ent, (∀ i, f i = l.getD i Ent.zero ∨ f i = ⟨i, (l.getD i Ent.zero).src, false, 0⟩) → histOk ((List.range l.length).map f) := fun f hf => by
    refine ⟨by rw [List.length_map, List.length_range]; exact h.1, fun i hi => ?_⟩
    rw [List.length_map, List.length_range] at hi
    rw [List.getD_eq_getElem?_getD, List.getElem?_map, List.getElem?_range hi]
    simp only [Option.map_some, Option.getD_some]
    rcases hf i with e | e
    · rw [e]; exact h.2 i hi
    · rw [e]
      obtain ⟨_, h2, _, _⟩ := ent_right (h.2 i hi)
      exact ent_ok rfl h2 ⟨by simp, by simp⟩ (fun _ => rfl)
  constructor
  · refine key _ fun i => ?_
    unfold oneE
    split
    · exact Or.inl rfl
    · exact Or.inr rfl
  · refine key _ fun i => ?_
    unfold otherE
    split
    · exact Or.inr rfl
    · exact Or.inl rfl
theorem one_other (l : List Ent) (which : List Int) (r : Nat) : (staysB ((List.range l.length).map (oneE l which)) r && staysB ((List.range l.length).map (otherE l which)) r) = false := by
  refine stays_one _ _ r (by simp) fun i hi => ?_
  rw [List.length_map, List.length_range] at hi
  have e : ∀ f : Nat → Ent, ((List.range l.length).map f).getD i Ent.zero = f i := fun f => by
    rw [List.getD_eq_getElem?_getD, List.getElem?_map, List.getElem?_range hi]; rfl
  rw [e, e]
  unfold oneE otherE
  cases which.contains (i : Int) <;> simp
theorem apart_ne {a b : Value} (h : apartV a b) : b.ownBlock = none ∨ b.ownBlock ≠ a.ownBlock := by
  cases hb : b.ownBlock with
  | none => exact Or.inl rfl
  | some g => exact Or.inr fun e => h g e.symm hb
theorem cells4 {W : World} {B : Nat} {x0 x1 x2 x3 : Value} {t : TypeId} (h : W.heap[B]? = some (.cells #[x0, x1, x2, x3] t (0, 0))) : W.cell? ⟨B, 0, none⟩ = some x0 ∧ W.cell? ⟨B, 1, none⟩ = some x1 ∧ W.cell? ⟨B, 2, none⟩ = some x2 ∧ W.cell? ⟨B, 3, none⟩ = some x3 := by
  refine ⟨?_, ?_, ?_, ?_⟩ <;> simp [World.cell?, h]
/-- What stands behind two appends, one to each row. -/
theorem two_rows {V2 w7 w8 : World} {B h0 k g1 c1 g2 c2 : Nat} {av bv : Value} {oA oB : Obj} {A1 : List Value} (hs : h0 ≤ V2.heap.size) (hB : B ≤ h0) (ltA : ∀ k, av.ownBlock = some k → B ≤ k ∧ k < h0) (ltB : ∀ k, bv.ownBlock = some k → B ≤ k ∧ k < h0) (hap : apartV av bv)
    (own1 : w7.ownsRow B 49 4 (.slice (some ⟨g1, 0, none⟩) (k + 1) c1) (k + 1) A1) (grow1 : (V2.alloc oA).grownBy w7 av.ownBlock) (at1 : av.ownBlock = some g1 ∨ g1 = V2.heap.size + 1) (lt1 : g1 < w7.heap.size)
    (grow2 : (w7.alloc oB).grownBy w8 bv.ownBlock) (at2 : bv.ownBlock = some g2 ∨ g2 = w7.heap.size + 1) (hBV : Below B V2 V2) :
    w8.ownsRow B 49 4 (.slice (some ⟨g1, 0, none⟩) (k + 1) c1) (k + 1) A1 ∧ apartV (.slice (some ⟨g1, 0, none⟩) (k + 1) c1) (.slice (some ⟨g2, 0, none⟩) (k + 1) c2) ∧ Below B V2 w8 := by
  have hne : bv.ownBlock ≠ some g1 := fun e => by
    rcases at1 with h | h
    · exact hap g1 h e
    · have := (ltB g1 e).2; omega
  have b1 : Below B V2 w7 := (hBV.alloc (by omega) oA).grown grow1 (by simp; omega) fun q e => (ltA q e).1
  have hs7 := b1.size
  refine ⟨(own1.alloc oB).kept grow2 (Or.inr fun e => hne (by rw [← e]; rfl)), fun g e1 e2 => ?_, (b1.alloc (by omega) oB).grown grow2 (by simp; omega) fun q e => (ltB q e).1⟩
  have h1 : g1 = g := by simpa [Value.ownBlock] using e1
  have h2 : g2 = g := by simpa [Value.ownBlock] using e2
  rw [← h1] at h2
  rcases at2 with h | h
  · exact hne (by rw [h, h2])
  · omega
/-- The closed fact, as the walk wants it. -/
def CliquedO (M : World → Prop) : Prop := ∀ w, M w → Calls Tryd.prog 8 #[] w fun r w' => r = .returned (.bool true) ∧ Below w.heap.size w w'
end Go.Proofs.YtglhapkclpllfadDoor
