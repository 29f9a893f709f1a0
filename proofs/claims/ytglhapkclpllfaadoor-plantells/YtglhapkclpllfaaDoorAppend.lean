/-
  append(own, l...), where own is nil and l came in, as a law for the walk: a row of the call's own with the same numbers.
-/
import Derived.Test.YtglhapkclpllfaaDoorBase
import Derived.Laws.AppendOwnNone
namespace Go.Proofs.YtglhapkclpllfaaDoor
open Go.RowKit

theorem wpList_append_ints {P : Program} {w : World} {ops : Array Oper} {rest : List Oper} {o : Oper} {a : Act} {Q : Exit → Act → World → Prop} (hgd : o.guard = none) (s x : Operand) (t : TypeId)
    (ho : o.op = .call { callee := .builtin .append, args := #[s, x], argTypes := #[t, t] })
    (e : TypeId) (i : TypeInfo) (ht : P.underlying t = some (.slice e)) (hi : P.info? e = some i) (hz : i.zero = some (.int .i64 0)) (hsize : i.size = 1) (hby : i.bytes = 8)
    (hs : a.eval s = .slice none 0 0) (v : Value) (xs : List Int) (hx : a.eval x = v) (hv : IntsIn w v xs) (hl : xs.length ≤ 1000000)
    (h : ∀ v' w', IntsAt w' v' xs → Below w.heap.size w w' → wpList P ops Q rest (a.put o.dst v') w') : wpList P ops Q (o :: rest) a w := by
  obtain ⟨ad, cap, rfl, hc⟩ := hv
  cases ad with
  | none =>
    have hx0 : xs = [] := by
      cases xs with
      | nil => rfl
      | cons x xs => obtain ⟨b, o, e, _⟩ := hc 0 (by simp); cases e
    subst hx0
    refine wpList_plain hgd fun K hK => ?_
    unfold Oper.wp
    have hrun : (Builtin.append_ #[t, t] o.type #[.slice none 0 0, .slice none 0 cap]).run P w = .ok (.slice none 0 0) w := by
      simp [Builtin.append_, run_underlying ht, sizeOf, typeInfo, hi, Builtin.lenOf, Builtin.firstCells]
    simp [execOp, ho, resolve, invoke, builtin, hs, hx, hrun, Result.andThen]
    exact hK _ _ (h _ _ (Or.inl ⟨rfl, rfl⟩) (Below.refl _ _))
  | some ad1 =>
    refine wpList_append_own w hgd s x t ho w.heap.size e i (.int .i64 0) 1 8 ht hi hz hsize hby rfl (by decide) _ 0 [] hs (World.ownsRow_nil _ _ _ _) ad1 xs.length cap (xs.map (Value.int .i64)) hx (by simp)
      (row_cells fun k hk => by
        obtain ⟨b, o, e, hc⟩ := hc k hk
        exact ⟨b, o, Option.some.inj e, hc⟩) (by simp [Value.oneCell']) (by unfold maxLen; omega) (by omega) (Nat.le_refl _) ?_
    intro v' w' hown hgrow _
    exact h v' w' (intsAt_of_owns (by simpa using hown)) ((Below.refl _ w).grown hgrow (Nat.le_refl _) (fun k e => by cases e))
end Go.Proofs.YtglhapkclpllfaaDoor
