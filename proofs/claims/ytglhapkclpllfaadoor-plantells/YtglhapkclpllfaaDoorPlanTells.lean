/-
  What package plan and the document's answer tell of a plan, a node and a slot, side by side (structure Told): a plan that is not right; one that is, with a slot that is not; both right.
  Conditions: package api's errors lie as laid (structure Sent).
-/
import Derived.Test.YtglhapkclpllfaaDoorRefNext
import Derived.Test.YtglhapkclpllfaaDoorPlanned
import Derived.Test.YtglhapkclpllfaaDoorFits
import Derived.Test.YtglhapkclpllfaaDoorSame
namespace Go.Proofs.YtglhapkclpllfaaDoor
open Go.RowKit

/-- The errors of package api, for package plan. -/
def eS (a : Nat → Addr) : Nat → TypeId × Value := fun k => (73, .pointer (some (a k)))
theorem Sent.plan {a : Nat → Addr} {w : World} (S : Sent a w) : PSent (eS a) w := ⟨S.c1, S.c3, S.c4, S.c6⟩
/-- Two answers that go together, call by call. -/
structure Told (a : Nat → Addr) (xs : List Int) (node s cP nP cS nS cN nN kC who x y many nx : Int) : Prop where
  pf : ∀ w v, IntsIn w v xs → Calls Tryd.prog 29 #[v] w fun r w' => r = .returned (.agg #[.int .i64 cP, .int .i64 nP]) ∧ Below w.heap.size w w'
  ck : ∀ w v, Sent a w → IntsIn w v xs → Calls Tryd.prog 23 #[v] w fun r w' => ∃ ev, r = .returned ev ∧ ErrFits a w' ev cP nP ∧ Below w.heap.size w w'
  cr : ∀ w v, Sent a w → IntsIn w v xs → Calls Tryd.prog 24 #[v] w fun r w' => ∃ ev, r = .returned (.tuple #[.int .i64 kC, ev]) ∧ ErrFits a w' ev cP nP ∧ Below w.heap.size w w'
  sf : ∀ w v, IntsIn w v xs → Calls Tryd.prog 32 #[v, .int .i64 s] w fun r w' => r = .returned (.agg #[.int .i64 cS, .int .i64 nS]) ∧ Below w.heap.size w w'
  wh : ∀ w v, Sent a w → IntsIn w v xs → Calls Tryd.prog 27 #[v, .int .i64 s] w fun r w' => ∃ ev, r = .returned (.tuple #[.int .i64 who, ev]) ∧ ErrFits a w' ev cS nS ∧ Below w.heap.size w w'
  ro : ∀ w v, Sent a w → IntsIn w v xs → Calls Tryd.prog 33 #[v, .int .i64 s] w fun r w' => ∃ ev, r = .returned (.tuple #[.int .i64 x, .int .i64 y, ev]) ∧ ErrFits a w' ev cS nS ∧ Below w.heap.size w w'
  sh : ∀ w v, Sent a w → IntsIn w v xs → Calls Tryd.prog 28 #[v, .int .i64 node] w fun r w' => r = .returned (.int .i64 many) ∧ Below w.heap.size w w'
  ne : ∀ w v, Sent a w → IntsIn w v xs → Calls Tryd.prog 25 #[v, .int .i64 node, .int .i64 s] w fun r w' => ∃ ev, r = .returned (.tuple #[.int .i64 nx, ev]) ∧ ErrFits a w' ev cN nN ∧ Below w.heap.size w w'
  no : ∀ w v, IntsIn w v xs → Calls Tryd.prog 34 #[v, .int .i64 node, .int .i64 s] w fun r w' => r = .returned (.tuple #[.int .i64 nx, .agg #[.int .i64 cN, .int .i64 nN]]) ∧ Below w.heap.size w w'
theorem fits_nil (a : Nat → Addr) (w : World) : ErrFits a w .nilIface 0 (-1) := Or.inl ⟨rfl, rfl, rfl⟩
theorem fits_es (a : Nat → Addr) (w : World) (k : Nat) (hk : k < 11) (c : Int) (hc : c = (k : Int) + 1) : ErrFits a w (.iface (eS a k).1 (eS a k).2) c (-1) := Or.inr (Or.inr ⟨k, hk, rfl, hc, rfl⟩)
theorem told_bad (a : Nat → Addr) (xs : List Int) (node s : Int) (h : ¬ planOk xs) : ∃ c n : Int, 0 < c ∧ Told a xs node s c n c n c n 0 0 0 0 0 0 := by
  obtain ⟨c, n, hc, hF, hE⟩ := planFault_no xs h
  have fit : ∀ w t p, PlanErr (eS a) w xs t p → ErrFits a w (.iface t p) c n := fun w t p hp => by
    rcases hE (eS a) w t p hp with ⟨k, hk, rfl, rfl, rfl, rfl⟩ | ⟨pb, rfl, rfl, rfl, c0, c1⟩
    · exact fits_es a w k (by omega) _ rfl
    · exact Or.inr (Or.inl ⟨pb, 3, by omega, rfl, rfl, c0, c1⟩)
  have sf : ∀ w v, IntsIn w v xs → Calls Tryd.prog 32 #[v, .int .i64 s] w fun r w' => r = .returned (.agg #[.int .i64 c, .int .i64 n]) ∧ Below w.heap.size w w' := fun w v hv => slotFault_keep v xs s c n w hv (fun w' hv' => hF v w' hv') hc
  refine ⟨c, n, hc, ⟨fun w v hv => hF v w hv, fun w v S hv => ?_, fun w v S hv => ?_, sf, fun w v S hv => ?_, fun w v S hv => ?_, fun w v S hv => shareP_no _ v xs node w hv h S.plan, fun w v S hv => ?_, fun w v hv => nextOf_keep v xs node s c n w hv (fun w' hv' => sf w' v hv') hc⟩⟩
  · refine (checkP_no _ v xs w hv h S.plan).mono ?_
    rintro r w' ⟨t, p, rfl, hp, hB⟩
    exact ⟨_, rfl, fit _ _ _ hp, hB⟩
  · refine (crewP_no _ v xs w hv h S.plan).mono ?_
    rintro r w' ⟨t, p, rfl, hp, hB⟩
    exact ⟨_, rfl, fit _ _ _ hp, hB⟩
  · refine (whoP_no _ v xs s w hv h S.plan).mono ?_
    rintro r w' ⟨t, p, rfl, hp, hB⟩
    exact ⟨_, rfl, fit _ _ _ hp, hB⟩
  · refine (roundP_no _ v xs s w hv h S.plan).mono ?_
    rintro r w' ⟨t, p, rfl, hp, hB⟩
    exact ⟨_, rfl, fit _ _ _ hp, hB⟩
  · refine (nextP_no _ v xs node s w hv h S.plan).mono ?_
    rintro r w' ⟨t, p, rfl, hp, hB⟩
    exact ⟨_, rfl, fit _ _ _ hp, hB⟩
theorem told_far (a : Nat → Addr) (xs : List Int) (node s : Int) (h : planOk xs) (hs : ¬ (0 ≤ s ∧ s ≤ 1000000)) : Told a xs node s 0 (-1) 2 (-1) 2 (-1) (Cm.ofN xs : Nat) 0 0 0 (xs.count node : Nat) 0 := by
  have sf : ∀ w v, IntsIn w v xs → Calls Tryd.prog 32 #[v, .int .i64 s] w fun r w' => r = .returned (.agg #[.int .i64 2, .int .i64 (-1)]) ∧ Below w.heap.size w w' := fun w v hv => slotFault_far v xs s w hv h hs
  refine ⟨fun w v hv => planFault_ok v xs w hv h, fun w v S hv => ?_, fun w v S hv => ?_, sf, fun w v S hv => ?_, fun w v S hv => ?_, fun w v S hv => ?_, fun w v S hv => ?_, fun w v hv => nextOf_keep v xs node s 2 (-1) w hv (fun w' hv' => sf w' v hv') (by omega)⟩
  · refine (checkP_yes _ v xs w hv h S.plan).mono ?_
    rintro r w' ⟨rfl, rfl⟩
    exact ⟨_, rfl, fits_nil a _, Below.refl _ _⟩
  · refine (crewP_yes _ v xs w hv h S.plan).mono ?_
    rintro r w' ⟨rfl, rfl⟩
    exact ⟨_, rfl, fits_nil a _, Below.refl _ _⟩
  · refine (whoP_far _ v xs s w hv h hs S.plan).mono ?_
    rintro r w' ⟨rfl, hB⟩
    exact ⟨_, rfl, fits_es a _ 1 (by omega) 2 rfl, hB⟩
  · refine (roundP_far _ v xs s w hv h hs S.plan).mono ?_
    rintro r w' ⟨rfl, hB⟩
    exact ⟨_, rfl, fits_es a _ 1 (by omega) 2 rfl, hB⟩
  · refine (shareP_yes _ v xs node w hv h S.plan).mono ?_
    rintro r w' ⟨rfl, rfl⟩
    exact ⟨rfl, Below.refl _ _⟩
  · refine (nextP_far _ v xs node s w hv h hs S.plan).mono ?_
    rintro r w' ⟨rfl, hB⟩
    exact ⟨_, rfl, fits_es a _ 1 (by omega) 2 rfl, hB⟩
theorem told_near (a : Nat → Addr) (xs : List Int) (node : Int) (s : Nat) (h : planOk xs) (hs : s ≤ 1000000) : ∃ cN nN nx, Told a xs node s 0 (-1) 0 (-1) cN nN (Cm.ofN xs : Nat) (xs.getD (s % xs.length) 0) ((s / xs.length : Nat) : Int) ((s % xs.length : Nat) : Int) (xs.count node : Nat) nx := by
  have sf : ∀ w v, IntsIn w v xs → Calls Tryd.prog 32 #[v, .int .i64 s] w fun r w' => r = .returned (.agg #[.int .i64 0, .int .i64 (-1)]) ∧ Below w.heap.size w w' := fun w v hv => slotFault_in v xs s w hv h ⟨by omega, by omega⟩
  have ck : ∀ w v, Sent a w → IntsIn w v xs → Calls Tryd.prog 23 #[v] w fun r w' => ∃ ev, r = .returned ev ∧ ErrFits a w' ev 0 (-1) ∧ Below w.heap.size w w' := fun w v S hv => by
    refine (checkP_yes _ v xs w hv h S.plan).mono ?_
    rintro r w' ⟨rfl, rfl⟩
    exact ⟨_, rfl, fits_nil a _, Below.refl _ _⟩
  have cr : ∀ w v, Sent a w → IntsIn w v xs → Calls Tryd.prog 24 #[v] w fun r w' => ∃ ev, r = .returned (.tuple #[.int .i64 (Cm.ofN xs : Nat), ev]) ∧ ErrFits a w' ev 0 (-1) ∧ Below w.heap.size w w' := fun w v S hv => by
    refine (crewP_yes _ v xs w hv h S.plan).mono ?_
    rintro r w' ⟨rfl, rfl⟩
    exact ⟨_, rfl, fits_nil a _, Below.refl _ _⟩
  have wh : ∀ w v, Sent a w → IntsIn w v xs → Calls Tryd.prog 27 #[v, .int .i64 s] w fun r w' => ∃ ev, r = .returned (.tuple #[.int .i64 (xs.getD (s % xs.length) 0), ev]) ∧ ErrFits a w' ev 0 (-1) ∧ Below w.heap.size w w' := fun w v S hv => by
    refine (whoP_yes _ v xs s w hv h hs S.plan).mono ?_
    rintro r w' ⟨rfl, hB⟩
    exact ⟨_, rfl, fits_nil a _, hB⟩
  have ro : ∀ w v, Sent a w → IntsIn w v xs → Calls Tryd.prog 33 #[v, .int .i64 s] w fun r w' => ∃ ev, r = .returned (.tuple #[.int .i64 ((s / xs.length : Nat) : Int), .int .i64 ((s % xs.length : Nat) : Int), ev]) ∧ ErrFits a w' ev 0 (-1) ∧ Below w.heap.size w w' := fun w v S hv => by
    refine (roundP_yes _ v xs s w hv h hs S.plan).mono ?_
    rintro r w' ⟨rfl, hB⟩
    exact ⟨_, rfl, fits_nil a _, hB⟩
  have sh : ∀ w v, Sent a w → IntsIn w v xs → Calls Tryd.prog 28 #[v, .int .i64 node] w fun r w' => r = .returned (.int .i64 (xs.count node : Nat)) ∧ Below w.heap.size w w' := fun w v S hv => by
    refine (shareP_yes _ v xs node w hv h S.plan).mono ?_
    rintro r w' ⟨rfl, rfl⟩
    exact ⟨rfl, Below.refl _ _⟩
  obtain ⟨m, h1, h2, h3, h4⟩ := first_at node (rot xs (s % xs.length))
  rw [rot_len] at h1 h3 h4
  by_cases hm : m < xs.length
  · refine ⟨0, -1, ((s + m : Nat) : Int), ⟨fun w v hv => planFault_ok v xs w hv h, ck, cr, sf, wh, ro, sh, fun w v S hv => ?_, fun w v hv => nextOf_yes v xs node s m w hv h hs hm h2 (h3 hm)⟩⟩
    refine (nextP_yes _ v xs node s m w hv h hs S.plan hm h2 (h3 hm)).mono ?_
    rintro r w' ⟨rfl, hB⟩
    exact ⟨_, rfl, fits_nil a _, hB⟩
  · have hno : node ∉ xs := fun h => hm (h4.2 ((rot_mem xs _ node).2 h))
    refine ⟨5, -1, 0, ⟨fun w v hv => planFault_ok v xs w hv h, ck, cr, sf, wh, ro, sh, fun w v S hv => ?_, fun w v hv => nextOf_none v xs node s w hv h ⟨by omega, by omega⟩ hno⟩⟩
    refine (nextP_none _ v xs node s w hv h hs S.plan hno).mono ?_
    rintro r w' ⟨rfl, hB⟩
    exact ⟨_, rfl, fits_es a _ 4 (by omega) 5 rfl, hB⟩
theorem crewOf_in (v : Value) (xs : List Int) (w : World) (hv : IntsIn w v xs) (h : planOk xs) :
    Calls Tryd.prog 30 #[v] w fun e w' => e = .returned (.tuple #[.int .i64 (Cm.ofN xs : Nat), .agg #[.int .i64 0, .int .i64 (-1)]]) ∧ Below w.heap.size w w' :=
  (crewOf_walk v xs xs.length w hv (by have := h.2.1; unfold maxLen; omega) (Nat.le_refl _) (fun i hi => h.2.2 _ (getD_mem xs i hi)) (fun h => absurd h (Nat.lt_irrefl _))).mono fun _ _ h => by
    rcases h with ⟨h | h, hB⟩
    · exact ⟨h.2, hB⟩
    · exact absurd h.1 (Nat.lt_irrefl _)
end Go.Proofs.YtglhapkclpllfaaDoor
