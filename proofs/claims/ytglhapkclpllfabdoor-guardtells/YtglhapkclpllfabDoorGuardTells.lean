/-
  What package guard and the document's answer tell of a plan, a slot's length, a node and a tick, side by side (structure GTold).
  Conditions: package api's errors lie as laid (structure Sent).
-/
import Derived.Test.YtglhapkclpllfabDoorRefGuard
import Derived.Test.YtglhapkclpllfabDoorGuarded
import Derived.Test.YtglhapkclpllfabDoorFits
namespace Go.Proofs.YtglhapkclpllfabDoor
open Go.RowKit

/-- Two answers that go together, call by call. -/
structure GTold (a : Nat → Addr) (xs : List Int) (long node t cP nP nx cW nW : Int) : Prop where
  pa : ∀ w v, Sent a w → IntsIn w v xs → Calls Tryd.prog 20 #[v, .int .i64 long, .int .i64 node, .int .i64 t] w fun r w' => ∃ ev, r = .returned ev ∧ ErrFits a w' ev cP nP ∧ Below w.heap.size w w'
  pf : ∀ w v, IntsIn w v xs → Calls Tryd.prog 24 #[v, .int .i64 long, .int .i64 node, .int .i64 t] w fun r w' => r = .returned (.agg #[.int .i64 cP, .int .i64 nP]) ∧ Below w.heap.size w w'
  wa : ∀ w v, Sent a w → IntsIn w v xs → Calls Tryd.prog 21 #[v, .int .i64 long, .int .i64 node, .int .i64 t] w fun r w' => ∃ ev, r = .returned (.tuple #[.int .i64 nx, ev]) ∧ ErrFits a w' ev cW nW ∧ Below w.heap.size w w'
  wo : ∀ w v, IntsIn w v xs → Calls Tryd.prog 25 #[v, .int .i64 long, .int .i64 node, .int .i64 t] w fun r w' => r = .returned (.tuple #[.int .i64 nx, .agg #[.int .i64 cW, .int .i64 nW]]) ∧ Below w.heap.size w w'
theorem fits_nilG (a : Nat → Addr) (w : World) : ErrFits a w .nilIface 0 (-1) := Or.inl ⟨rfl, rfl, rfl⟩
theorem fits_esG (a : Nat → Addr) (w : World) (k : Nat) (hk : k < 11) (c : Int) (hc : c = (k : Int) + 1) : ErrFits a w (.iface (eG a k).1 (eG a k).2) c (-1) := Or.inr (Or.inr ⟨k, hk, rfl, hc, rfl⟩)
theorem gtold_tick (a : Nat → Addr) (xs : List Int) (long node t : Int) (h : ¬ tickOk long t) : GTold a xs long node t 2 (-1) 0 2 (-1) where
  pa w v S hv := (passG_tick (eG a) v xs long node t w hv h S.guard).mono fun _ _ h => ⟨_, h.1, fits_esG a _ 1 (by omega) 2 rfl, h.2⟩
  pf w v hv := passFault_tick v xs long node t w hv h
  wa w v S hv := (waitG_tick (eG a) v xs long node t w hv h S.guard).mono fun _ _ h => ⟨_, h.1, fits_esG a _ 1 (by omega) 2 rfl, h.2⟩
  wo w v hv := waitOf_tick v xs long node t w hv h
theorem gtold_plan (a : Nat → Addr) (xs : List Int) (long t : Nat) (node : Int) (h : tickOk long t) (hp : ¬ planOk xs) : ∃ c n : Int, GTold a xs long node t c n 0 c n := by
  obtain ⟨c, n, hc, hF, hE⟩ := planFault_no xs hp
  have fit : ∀ w ty p, PlanErr (eG a) w xs ty p → ErrFits a w (.iface ty p) c n := fun w ty p hp => by
    rcases hE (eG a) w ty p hp with ⟨k, hk, rfl, rfl, rfl, rfl⟩ | ⟨pb, rfl, rfl, rfl, c0, c1⟩
    · exact fits_esG a w k (by omega) _ rfl
    · exact Or.inr (Or.inl ⟨pb, 3, by omega, rfl, rfl, c0, c1⟩)
  refine ⟨c, n, ⟨fun w v S hv => ?_, fun w v hv => passFault_keep v xs long t node c n w hv h (fun w' hv' => hF v w' hv') hc, fun w v S hv => ?_, fun w v hv => waitOf_keep v xs long t node c n w hv h (fun w' hv' => nextOf_keep v xs node _ c n w' hv' (fun w2 hv2 => slotFault_keep v xs _ c n w2 hv2 (fun w3 hv3 => hF v w3 hv3) hc) hc) hc⟩⟩
  · refine (passG_plan (eG a) v xs long t node w hv h hp S.guard).mono ?_
    rintro r w' ⟨ty, p, rfl, hp, hB⟩
    exact ⟨_, rfl, fit _ _ _ hp, hB⟩
  · refine (waitG_plan (eG a) v xs long t node w hv h hp S.guard).mono ?_
    rintro r w' ⟨ty, p, rfl, hp, hB⟩
    exact ⟨_, rfl, fit _ _ _ hp, hB⟩
theorem gtold_ok (a : Nat → Addr) (xs : List Int) (long t : Nat) (node : Int) (h : tickOk long t) (hp : planOk xs) : ∃ cP nP nx cW nW : Int, GTold a xs long node t cP nP nx cW nW := by
  have hP : ∃ cP nP : Int, (∀ w v, Sent a w → IntsIn w v xs → Calls Tryd.prog 20 #[v, .int .i64 long, .int .i64 node, .int .i64 t] w fun r w' => ∃ ev, r = .returned ev ∧ ErrFits a w' ev cP nP ∧ Below w.heap.size w w') ∧
      ∀ w v, IntsIn w v xs → Calls Tryd.prog 24 #[v, .int .i64 long, .int .i64 node, .int .i64 t] w fun r w' => r = .returned (.agg #[.int .i64 cP, .int .i64 nP]) ∧ Below w.heap.size w w' := by
    by_cases ho : ownerAt xs long t = node
    · refine ⟨0, -1, fun w v S hv => ?_, fun w v hv => passFault_mine v xs long t node w hv h hp ho⟩
      have := passG_ok (eG a) v xs long t node w hv h hp S.guard
      rw [if_pos ho] at this
      exact this.mono fun _ _ h => ⟨_, h.1, fits_nilG a _, h.2⟩
    · refine ⟨9, -1, fun w v S hv => ?_, fun w v hv => passFault_late v xs long t node w hv h hp ho⟩
      have := passG_ok (eG a) v xs long t node w hv h hp S.guard
      rw [if_neg ho] at this
      exact this.mono fun _ _ h => ⟨_, h.1, fits_esG a _ 8 (by omega) 9 rfl, h.2⟩
  obtain ⟨cP, nP, pa, pf⟩ := hP
  obtain ⟨m, h1, h2, h3, h4⟩ := first_at node (rot xs (t / long % xs.length))
  rw [rot_len] at h1 h3 h4
  have hq : t / long ≤ 1000000 := Nat.le_trans (Nat.div_le_self _ _) (by have := h.2.2; omega)
  by_cases hm : m < xs.length
  · by_cases hz : waitAt long t m ≤ 1000000
    · refine ⟨cP, nP, (waitAt long t m : Nat), 0, -1, ⟨pa, pf, fun w v S hv => ?_, fun w v hv => ?_⟩⟩
      · have := waitG_ok (eG a) v xs long t m node w hv h hp S.guard hm h2 (h3 hm)
        rw [if_pos hz] at this
        exact this.mono fun _ _ h => ⟨_, h.1, fits_nilG a _, h.2⟩
      · have := waitOf_ok v xs long t m node w hv h hp hm h2 (h3 hm)
        rw [if_pos hz] at this
        exact this
    · refine ⟨cP, nP, 0, 2, -1, ⟨pa, pf, fun w v S hv => ?_, fun w v hv => ?_⟩⟩
      · have := waitG_ok (eG a) v xs long t m node w hv h hp S.guard hm h2 (h3 hm)
        rw [if_neg hz] at this
        exact this.mono fun _ _ h => ⟨_, h.1, fits_esG a _ 1 (by omega) 2 rfl, h.2⟩
      · have := waitOf_ok v xs long t m node w hv h hp hm h2 (h3 hm)
        rw [if_neg hz] at this
        exact this
  · have hno : node ∉ xs := fun h => hm (h4.2 ((rot_mem xs _ node).2 h))
    refine ⟨cP, nP, 0, 5, -1, ⟨pa, pf, fun w v S hv => ?_, fun w v hv => ?_⟩⟩
    · exact (waitG_none (eG a) v xs long t node w hv h hp hno S.guard).mono fun _ _ h => ⟨_, h.1, fits_esG a _ 4 (by omega) 5 rfl, h.2⟩
    · exact waitOf_keep v xs long t node 5 (-1) w hv h (fun w' hv' => nextOf_none v xs node _ w' hv' hp ⟨Int.natCast_nonneg _, by have h5 := hq; generalize t / long = q at h5 ⊢; omega⟩ hno) (by omega)
end Go.Proofs.YtglhapkclpllfabDoor
