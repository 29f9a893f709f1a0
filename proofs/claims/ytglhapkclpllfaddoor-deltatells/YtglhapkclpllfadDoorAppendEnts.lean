/-
  append(own, l...), where own is a row of entries of the call's own (nil, or not) and l any entries, as a law for the walk: a row of the call's own with both.
-/
import Derived.Test.YtglhapkclpllfadDoorRecTypes
namespace Go.Proofs.YtglhapkclpllfadDoor
open Go.RowKit

def entZero : Value := .agg #[.int .i64 0, .int .i64 0, .bool false, .int .i64 0]
theorem ents_one (xs : List Ent) : ∀ u ∈ (xs.map Ent.cells).flatten, u.oneCell' = true := fun u hu => by
  obtain ⟨c, hc, hu⟩ := List.mem_flatten.1 hu
  obtain ⟨e, _, rfl⟩ := List.mem_map.1 hc
  simp [Ent.cells] at hu
  rcases hu with rfl | rfl | rfl | rfl <;> rfl
theorem ents_flat_len (xs : List Ent) : (xs.map Ent.cells).flatten.length = xs.length * 4 := by
  induction xs with
  | nil => rfl
  | cons x xs ih => rw [List.map_cons, List.flatten_cons, List.length_append, ih]; simp [Ent.cells, Nat.add_mul]; omega
theorem ents_news {w : World} {b off cap n : Nat} {xs : List Ent} (h : EntsIn w (.slice (some ⟨b, off, none⟩) n cap) xs) : ∀ j u, (xs.map Ent.cells).flatten[j]? = some u → w.cell? ⟨b, off + j, none⟩ = some u := fun j u hj => by
  have hlt : j < xs.length * 4 := by
    rw [← ents_flat_len]
    exact (List.getElem?_eq_some_iff.1 hj).1
  obtain ⟨ad, cap', e, _, hc⟩ := h
  have hk : j / 4 < (xs.map Ent.cells).length := by rw [List.length_map]; omega
  obtain ⟨b', off', e2, hcell⟩ := hc (j / 4) hk
  rw [e2] at e
  injection e with e3 _ _
  injection e3 with e4
  injection e4 with e5 e6
  subst e5 e6
  have hf := flat_at 4 (xs.map Ent.cells) (j / 4) (j % 4) (fun x hx => by
    obtain ⟨z, _, rfl⟩ := List.mem_map.1 hx
    rfl) hk (Nat.mod_lt _ (by omega))
  have ej : j / 4 * 4 + j % 4 = j := by omega
  rw [ej, hj] at hf
  have := hcell (j % 4) u hf.symm
  rw [ej] at this
  exact this
theorem wpList_append_ents {P : Program} {w : World} {ops : Array Oper} {rest : List Oper} {o : Oper} {a : Act} {Q : Exit → Act → World → Prop} (hgd : o.guard = none) (s x : Operand) (t : TypeId)
    (ho : o.op = .call { callee := .builtin .append, args := #[s, x], argTypes := #[t, t] })
    (e : TypeId) (i : TypeInfo) (ht : P.underlying t = some (.slice e)) (hi : P.info? e = some i) (hz : i.zero = some entZero) (hsize : i.size = 4) (hby : i.bytes = 32)
    (B : Nat) (hB : B ≤ w.heap.size) (vs : Value) (ys : List Ent) (hs : a.eval s = vs) (hown : w.ownsRow B e 4 vs ys.length (ys.map Ent.cells).flatten)
    (v : Value) (xs : List Ent) (hx : a.eval x = v) (hv : EntsIn w v xs) (hl : ys.length + xs.length ≤ 1000000)
    (h : ∀ v' w', w'.ownsRow B e 4 v' (ys ++ xs).length ((ys ++ xs).map Ent.cells).flatten → Below B w w' → wpList P ops Q rest (a.put o.dst v') w') : wpList P ops Q (o :: rest) a w := by
  have hv0 := hv
  obtain ⟨ad, cap, rfl, hc⟩ := EntsIn.at hv
  cases ad with
  | none =>
    have hx0 : xs = [] := by
      cases xs with
      | nil => rfl
      | cons x xs => obtain ⟨b, o, e, _⟩ := hc 0 (by simp); cases e
    subst hx0
    refine wpList_plain hgd fun K hK => ?_
    unfold Oper.wp
    have hrun : (Builtin.append_ #[t, t] o.type #[vs, .slice none 0 cap]).run P w = .ok vs w := by
      rcases hown.2 with ⟨rfl, h0⟩ | ⟨g, cap', cur, rfl, _, _, hnc, _⟩
      · simp [Builtin.append_, run_underlying ht, sizeOf, typeInfo, hi, Builtin.lenOf, Builtin.firstCells]
      · simp [Builtin.append_, run_underlying ht, sizeOf, typeInfo, hi, Builtin.lenOf, Builtin.firstCells, hnc, storeCells]
    simp [execOp, ho, resolve, invoke, builtin, hs, hx, hrun, Result.andThen]
    exact hK _ _ (h _ _ (by simpa using hown) (Below.refl _ _))
  | some ad1 =>
    refine wpList_append_own w hgd s x t ho B e i entZero 4 32 ht hi hz hsize hby rfl (by decide) _ ys.length (ys.map Ent.cells).flatten hs hown ad1 xs.length cap (xs.map Ent.cells).flatten hx (ents_flat_len xs)
      (fun j u hj => by
        have hlt : j < xs.length * 4 := by
          rw [← ents_flat_len]
          exact (List.getElem?_eq_some_iff.1 hj).1
        obtain ⟨b, off, e2, _⟩ := hc 0 (by omega)
        injection e2 with e3
        subst e3
        have e1 : (⟨b, off, none⟩ : Addr).add j = ⟨b, off + j, none⟩ := by unfold Addr.add; split <;> simp_all
        rw [e1]
        exact ents_news hv0 j u hj) (ents_one xs) (by unfold maxLen; omega) (by omega) hB ?_
    intro v' w' hown' hgrow _
    refine h v' w' ?_ ((Below.refl _ w).grown hgrow hB fun k e => (hown.lt k e).1)
    rw [List.map_append, List.flatten_append, List.length_append]
    exact hown'
end Go.Proofs.YtglhapkclpllfadDoor
