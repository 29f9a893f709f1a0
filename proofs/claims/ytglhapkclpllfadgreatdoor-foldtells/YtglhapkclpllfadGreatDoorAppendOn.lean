/-
  append(own, l...), where own is a row of the call's own (nil, or not) and l any list of numbers, as a law for the walk: a row of the call's own with both.
-/
import Derived.Test.YtglhapkclpllfadGreatDoorBase
namespace Go.Proofs.YtglhapkclpllfadGreatDoor
open Go.RowKit

theorem ints_one (xs : List Int) : ∀ u ∈ xs.map (Value.int .i64), u.oneCell' = true := by simp [Value.oneCell']
theorem wpList_append_on2 {P : Program} {w : World} {ops : Array Oper} {rest : List Oper} {o : Oper} {a : Act} {Q : Exit → Act → World → Prop} (hgd : o.guard = none) (s x : Operand) (t : TypeId)
    (ho : o.op = .call { callee := .builtin .append, args := #[s, x], argTypes := #[t, t] })
    (e : TypeId) (i : TypeInfo) (ht : P.underlying t = some (.slice e)) (hi : P.info? e = some i) (hz : i.zero = some (.int .i64 0)) (hsize : i.size = 1) (hby : i.bytes = 8)
    (B : Nat) (hB : B ≤ w.heap.size) (vs : Value) (ys : List Int) (hs : a.eval s = vs) (hown : w.ownsRow B e 1 vs ys.length (ys.map (Value.int .i64)))
    (v : Value) (xs : List Int) (hx : a.eval x = v) (hv : IntsIn w v xs) (hl : ys.length + xs.length ≤ 1000000)
    (h : ∀ v' w', w'.ownsRow B e 1 v' (ys ++ xs).length ((ys ++ xs).map (Value.int .i64)) → Below B w w' → w.grownBy w' vs.ownBlock → wpList P ops Q rest (a.put o.dst v') w') : wpList P ops Q (o :: rest) a w := by
  obtain ⟨ad, cap, rfl, hc⟩ := hv
  cases ad with
  | none =>
    have hx0 : xs = [] := by
      cases xs with
      | nil => rfl
      | cons x xs => obtain ⟨b, o, e, _⟩ := hc 0 (by simp); cases e
    subst hx0
    refine wpList_plain hgd fun K hK => ?_
    unfold Oper.wp
    have hrun : (Builtin.append_ #[t, t] o.type #[vs, .slice none 0 cap]).run P w = .ok vs w := by
      rcases hown.2 with ⟨rfl, h0⟩ | ⟨g, cap', cur, rfl, _, _, hnc, _⟩
      · simp [Builtin.append_, run_underlying ht, sizeOf, typeInfo, hi, Builtin.lenOf, Builtin.firstCells]
      · simp [Builtin.append_, run_underlying ht, sizeOf, typeInfo, hi, Builtin.lenOf, Builtin.firstCells, hnc, storeCells]
    simp [execOp, ho, resolve, invoke, builtin, hs, hx, hrun, Result.andThen]
    exact hK _ _ (h _ _ (by simpa using hown) (Below.refl _ _) ⟨rfl, rfl, rfl, Nat.le_refl _, fun _ _ _ => rfl⟩)
  | some ad1 =>
    refine wpList_append_own w hgd s x t ho B e i (.int .i64 0) 1 8 ht hi hz hsize hby rfl (by decide) _ ys.length (ys.map (Value.int .i64)) hs hown ad1 xs.length cap (xs.map (Value.int .i64)) hx (by simp)
      (row_cells fun k hk => by
        obtain ⟨b, o, e, hc⟩ := hc k hk
        exact ⟨b, o, Option.some.inj e, hc⟩) (ints_one xs) (by unfold maxLen; omega) (by omega) hB ?_
    intro v' w' hown' hgrow _
    exact h v' w' (by simpa using hown') ((Below.refl _ w).grown hgrow hB fun k e => (hown.lt k e).1) hgrow
theorem owns_below {w w' : World} {B : Nat} {e : TypeId} {s : Nat} {v : Value} {n : Nat} {xs : List Value} (h : w.ownsRow B e s v n xs) (hB : Below w.heap.size w w') : w'.ownsRow B e s v n xs := by
  refine ⟨h.1, ?_⟩
  rcases h.2 with h | ⟨g, cap, cur, hv, hb, hg, r⟩
  · exact Or.inl h
  · exact Or.inr ⟨g, cap, cur, hv, hb, below_row hB hg, r⟩
theorem wpList_append_on {P : Program} {w : World} {ops : Array Oper} {rest : List Oper} {o : Oper} {a : Act} {Q : Exit → Act → World → Prop} (hgd : o.guard = none) (s x : Operand) (t : TypeId)
    (ho : o.op = .call { callee := .builtin .append, args := #[s, x], argTypes := #[t, t] })
    (e : TypeId) (i : TypeInfo) (ht : P.underlying t = some (.slice e)) (hi : P.info? e = some i) (hz : i.zero = some (.int .i64 0)) (hsize : i.size = 1) (hby : i.bytes = 8)
    (B : Nat) (hB : B ≤ w.heap.size) (vs : Value) (ys : List Int) (hs : a.eval s = vs) (hown : w.ownsRow B e 1 vs ys.length (ys.map (Value.int .i64)))
    (v : Value) (xs : List Int) (hx : a.eval x = v) (hv : IntsIn w v xs) (hl : ys.length + xs.length ≤ 1000000)
    (h : ∀ v' w', w'.ownsRow B e 1 v' (ys ++ xs).length ((ys ++ xs).map (Value.int .i64)) → Below B w w' → wpList P ops Q rest (a.put o.dst v') w') : wpList P ops Q (o :: rest) a w :=
  wpList_append_on2 hgd s x t ho e i ht hi hz hsize hby B hB vs ys hs hown v xs hx hv hl fun v' w' h1 h2 _ => h v' w' h1 h2
/-- The slice v holds the numbers xs, and has room for them. -/
def IntsCap (w : World) (v : Value) (xs : List Int) : Prop :=
  ∃ ad cap, v = .slice ad xs.length cap ∧ xs.length ≤ cap ∧ ∀ k, k < xs.length → ∃ b off, ad = some ⟨b, off, none⟩ ∧ w.cell? ⟨b, off + k, none⟩ = some (.int .i64 (xs.getD k 0))
theorem IntsCap.in' {w : World} {v : Value} {xs : List Int} (h : IntsCap w v xs) : IntsIn w v xs := by
  obtain ⟨ad, cap, rfl, _, h⟩ := h
  exact ⟨ad, cap, rfl, h⟩
theorem IntsCap.below {w w' : World} {v : Value} {xs : List Int} (h : IntsCap w v xs) (hb : Below w.heap.size w w') : IntsCap w' v xs := by
  obtain ⟨ad, cap, rfl, hc, h⟩ := h
  exact ⟨ad, cap, rfl, hc, fun k hk => by obtain ⟨b, o, e, hc⟩ := h k hk; exact ⟨b, o, e, below_cell hb hc⟩⟩
theorem IntsCap.of_owns {W : World} {base : Nat} {e : TypeId} {v : Value} {xs : List Int} (h : W.ownsRow base e 1 v xs.length (xs.map (Value.int .i64))) : IntsCap W v xs := by
  have h1 := intsAt_of_owns h
  rcases h.2 with ⟨rfl, h0⟩ | ⟨g, cap, cur, rfl, _, _, hc, _⟩
  · exact ⟨none, 0, by rw [h0], by omega, fun k hk => by omega⟩
  · rcases h1 with ⟨h1, _⟩ | ⟨b, off, cap', h1, h2⟩
    · cases h1
    · cases h1
      exact ⟨_, _, rfl, hc, fun k hk => ⟨_, _, rfl, h2 k hk⟩⟩
theorem getD_take (xs : List Int) (j k : Nat) (h : k < j) : (xs.take j).getD k 0 = xs.getD k 0 := by
  rw [List.getD_eq_getElem?_getD, List.getD_eq_getElem?_getD, List.getElem?_take_of_lt h]
theorem getD_drop (xs : List Int) (j k : Nat) : (xs.drop j).getD k 0 = xs.getD (j + k) 0 := by
  rw [List.getD_eq_getElem?_getD, List.getD_eq_getElem?_getD, List.getElem?_drop]
/-- xs[:j] -/
theorem ints_take {w : World} {ad : Option Addr} {xs : List Int} {n cap : Nat} (h : ∀ k, k < xs.length → ∃ b off, ad = some ⟨b, off, none⟩ ∧ w.cell? ⟨b, off + k, none⟩ = some (.int .i64 (xs.getD k 0))) (j : Nat) (hj : j ≤ xs.length) (hn : n = j) (ad' : Option Addr) (ha : ad' = ad) : IntsIn w (.slice ad' n cap) (xs.take j) := by
  subst ha hn
  have hl : (xs.take n).length = n := by rw [List.length_take]; omega
  refine ⟨ad', cap, by rw [hl], fun k hk => ?_⟩
  rw [hl] at hk
  obtain ⟨b, off, e, hc⟩ := h k (by omega)
  exact ⟨b, off, e, by rw [getD_take _ _ _ hk]; exact hc⟩
/-- xs[j:] -/
theorem ints_drop {w : World} {ad : Option Addr} {xs : List Int} {n cap cap' : Nat} (h : ∀ k, k < xs.length → ∃ b off, ad = some ⟨b, off, none⟩ ∧ w.cell? ⟨b, off + k, none⟩ = some (.int .i64 (xs.getD k 0))) (j : Nat) (hn : n = xs.length - j) (hcap : xs.length ≤ cap) (ad' : Option Addr) (ha : ad' = if cap = j then ad else ad.map fun a => a.add j) : IntsIn w (.slice ad' n cap') (xs.drop j) := by
  subst ha hn
  have hl : (xs.drop j).length = xs.length - j := List.length_drop
  refine ⟨_, cap', by rw [hl], fun k hk => ?_⟩
  rw [hl] at hk
  obtain ⟨b, off, e, hc⟩ := h (j + k) (by omega)
  subst e
  refine ⟨b, off + j, ?_, by rw [getD_drop, Nat.add_assoc]; exact hc⟩
  rw [if_neg (by omega)]
  have e : (⟨b, off, none⟩ : Addr).add j = ⟨b, off + j, none⟩ := by unfold Addr.add; split <;> simp_all
  rw [← e]; rfl
theorem cap_take {w : World} {ad : Option Addr} {xs : List Int} {n cap : Nat} (h : IntsCap w (.slice ad n cap) xs) (j : Nat) (hj : j ≤ n) : IntsIn w (.slice ad j cap) (xs.take j) := by
  obtain ⟨ad', cap', e, _, h⟩ := h
  cases e
  exact ints_take h j hj rfl _ rfl
theorem cap_drop {w : World} {ad : Option Addr} {xs : List Int} {n cap cap' n' : Nat} (h : IntsCap w (.slice ad n cap) xs) (j : Nat) (hn : n' = n - j) (ad' : Option Addr) (ha : ad' = if cap = j then ad else ad.map fun a => a.add j) : IntsIn w (.slice ad' n' cap') (xs.drop j) := by
  obtain ⟨_, _, e, hc, h⟩ := h
  cases e
  exact ints_drop h j hn hc _ ha
end Go.Proofs.YtglhapkclpllfadGreatDoor
