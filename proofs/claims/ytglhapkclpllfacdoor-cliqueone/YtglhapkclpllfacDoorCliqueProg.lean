/-
  What package clique answers, whatever it is asked (structure QProg), and what follows: the closed fact that the laws of chapter 8 begin with, and the law CliqueOne, whole.
  Conditions: those of the package's contracts (M).
-/
import Derived.Test.YtglhapkclpllfacDoorCliqueOne
import Derived.Test.YtglhapkclpllfacDoorHistErr
namespace Go.Proofs.YtglhapkclpllfacDoor
open Go.RowKit

/-- Package clique's answers: e 1 is ErrBound. -/
structure QProg (M : World → Prop) (e : Nat → TypeId × Value) : Prop where
  keep : ∀ w w', M w → Below w.heap.size w w' → M w'
  ckY : ∀ w v l, M w → EntsIn w v l → histOk l → Calls Tryd.prog 24 #[v] w fun r w' => r = .returned .nilIface ∧ Below w.heap.size w w'
  ckN : ∀ w v l, M w → EntsIn w v l → ¬ histOk l → Calls Tryd.prog 24 #[v] w fun r w' => ∃ ty p, r = .returned (.iface ty p) ∧ HistErr e w' l ty p ∧ Below w.heap.size w w'
  taN : ∀ w v l round, M w → EntsIn w v l → ¬ histOk l → Calls Tryd.prog 46 #[v, .int .i64 round] w fun r w' => ∃ ty p, r = .returned (.tuple #[.int .i64 0, .int .i64 0, .iface ty p]) ∧ HistErr e w' l ty p ∧ Below w.heap.size w w'
  taR : ∀ w v l (round : Int), M w → EntsIn w v l → histOk l → ¬ (1 ≤ round ∧ round ≤ 32) → Calls Tryd.prog 46 #[v, .int .i64 round] w fun r w' => r = .returned (.tuple #[.int .i64 0, .int .i64 0, .iface (e 1).1 (e 1).2]) ∧ Below w.heap.size w w'
  taO : ∀ w v l (r : Nat), M w → EntsIn w v l → histOk l → 1 ≤ r ∧ r ≤ 32 → Calls Tryd.prog 46 #[v, .int .i64 (r : Int)] w fun x w' => x = .returned (.tuple #[.int .i64 (heardN (lastN l r) : Nat), .int .i64 ((lastN l r).length - heardN (lastN l r) : Nat), .nilIface]) ∧ Below w.heap.size w w'
  stN : ∀ w v l round, M w → EntsIn w v l → ¬ histOk l → Calls Tryd.prog 25 #[v, .int .i64 round] w fun r w' => ∃ ty p, r = .returned (.tuple #[.bool false, .iface ty p]) ∧ HistErr e w' l ty p ∧ Below w.heap.size w w'
  stR : ∀ w v l (round : Int), M w → EntsIn w v l → histOk l → ¬ (1 ≤ round ∧ round ≤ 32) → Calls Tryd.prog 25 #[v, .int .i64 round] w fun r w' => r = .returned (.tuple #[.bool false, .iface (e 1).1 (e 1).2]) ∧ Below w.heap.size w w'
  stO : ∀ w v l (r : Nat), M w → EntsIn w v l → histOk l → 1 ≤ r ∧ r ≤ 32 → Calls Tryd.prog 25 #[v, .int .i64 (r : Int)] w fun x w' => x = .returned (.tuple #[.bool (staysB l r), .nilIface]) ∧ Below w.heap.size w w'
theorem qone_all (M : World → Prop) (e : Nat → TypeId × Value) (P : QProg M e) (CQ : CliquedO M) (vl vw : Value) (l : List Ent) (which : List Int) (round : Int) (w : World) (m : M w) (hv : EntsIn w vl l) (hw : IntsIn w vw which) (hwl : which.length ≤ maxLen) :
    Calls Tryd.prog 7 #[vl, vw, .int .i64 round] w fun r w' => r = .returned (.bool true) ∧ Below w.heap.size w w' := by
  by_cases h60 : 60 < l.length
  · exact qone_far M CQ vl vw l which round w m hv hw P.keep (Or.inl h60)
  by_cases h : histOk l
  · obtain ⟨g1, g2⟩ := hist_one h which
    by_cases hr : 1 ≤ round ∧ round ≤ 32
    · obtain ⟨r, rfl⟩ : ∃ r : Nat, round = (r : Int) := ⟨round.toNat, by omega⟩
      have hr' : 1 ≤ r ∧ r ≤ 32 := by omega
      exact qone_ok M CQ P.keep vl vw l which r (staysB ((List.range l.length).map (oneE l which)) r) (staysB ((List.range l.length).map (otherE l which)) r) .nilIface .nilIface w m hv hw hwl (by omega) (fun w m hv => P.ckY w vl l m hv h)
        (fun w v m hv => P.stO w v _ r m hv g1 hr') (fun w v m hv => P.stO w v _ r m hv g2 hr') (Or.inl ⟨rfl, rfl, one_other l which r⟩)
    · exact qone_ok M CQ P.keep vl vw l which round false false (.iface (e 1).1 (e 1).2) (.iface (e 1).1 (e 1).2) w m hv hw hwl (by omega) (fun w m hv => P.ckY w vl l m hv h)
        (fun w v m hv => P.stR w v _ round m hv g1 hr) (fun w v m hv => P.stR w v _ round m hv g2 hr) (Or.inr ⟨⟨_, _, rfl⟩, rfl, rfl, by omega⟩)
  · exact qone_far M CQ vl vw l which round w m hv hw P.keep (Or.inr fun w m hv => (P.ckN w vl l m hv h).mono fun _ _ ⟨ty, p, h, _, hB⟩ => ⟨ty, p, h, hB⟩)
/-! ### the closed fact -/
def e3 : List Ent := [⟨0, 1, true, 4⟩, ⟨1, 2, false, 0⟩, ⟨2, 3, true, 0⟩]
theorem e3_ok : histOk e3 := ⟨by decide, fun i hi => by
  match i, hi with
  | 0, _ => decide
  | 1, _ => decide
  | 2, _ => decide⟩
theorem e2_ok : histOk (e3.take 2) := ⟨by decide, fun i hi => by
  match i, hi with
  | 0, _ => decide
  | 1, _ => decide⟩
def e3C : Array Value := #[.int .i64 0, .int .i64 1, .bool true, .int .i64 4, .int .i64 1, .int .i64 2, .bool false, .int .i64 0, .int .i64 2, .int .i64 3, .bool true, .int .i64 0]
theorem e3_in (w : World) : EntsIn (w.alloc (.cells e3C 52)) (.slice (some ⟨w.heap.size, 0, none⟩) 3 3) e3 :=
  RecsIn.of_owns (base := w.heap.size) (e := 52) (size := 4) (xs := e3.map Ent.cells) (fun x hx => by
    obtain ⟨s, _, rfl⟩ := List.mem_map.1 hx
    rfl) (World.ownsRow_lit (base := w.heap.size) (e := 52) (size := 4) w e3C 3 (Nat.le_refl _) (by decide) rfl)
theorem e2_in {w : World} {b : Nat} (h : EntsIn w (.slice (some ⟨b, 0, none⟩) 3 3) e3) : EntsIn w (.slice (some ⟨b, 0, none⟩) 2 3) (e3.take 2) := by
  obtain ⟨ad, cap, e, _, hc⟩ := h
  cases e
  refine ⟨_, _, rfl, by decide, fun k hk => ?_⟩
  have hk2 : k < 2 := hk
  obtain ⟨b', off, e, h⟩ := hc k (by show k < 3; omega)
  refine ⟨b', off, e, fun j u hj => h j u ?_⟩
  match k, hk2, hj with
  | 0, _, hj => exact hj
  | 1, _, hj => exact hj
set_option maxRecDepth 100000 in
theorem cliqued_ok (M : World → Prop) (e : Nat → TypeId × Value) (P : QProg M e) (w : World) (m : M w) : Calls Tryd.prog 23 #[] w fun r w' => r = .returned (.bool true) ∧ Below w.heap.size w w' := by
  have hA : Below w.heap.size w (w.alloc (.cells e3C 52)) := (Below.refl _ _).alloc (Nat.le_refl _) _
  have H1 := hide (P.stO _ _ e3 3 (P.keep w _ m hA) (e3_in w) e3_ok (by decide))
  rw [show staysB e3 3 = true by decide] at H1
  have H2 : Hid (∀ w', Below (w.alloc (.cells e3C 52)).heap.size (w.alloc (.cells e3C 52)) w' → Calls Tryd.prog 25 #[.slice (some ⟨w.heap.size, 0, none⟩) 2 3, .int .i64 3] w' fun r w2 => r = .returned (.tuple #[.bool false, .nilIface]) ∧ Below w'.heap.size w' w2) := fun w' hB => by
    have h := P.stO w' _ (e3.take 2) 3 (P.keep w _ m (hA.trans (hB.mono hA.size))) (e2_in ((e3_in w).below hB)) e2_ok (by decide)
    rw [show staysB (e3.take 2) 3 = false by decide] at h
    exact h
  have HA := hide hA
  unfold e3C at H1 H2 HA
  clear hA m P
  go_enter Tryd.func23, Tryd.ntmps23
  go_wp2_with fail
  refine (unhide H1).mono ?_
  rintro E w1 ⟨rfl, hB1⟩
  have HB1 := hide hB1
  clear hB1
  go_wp2_with fail
  refine (unhide H2 _ (unhide HB1)).mono ?_
  rintro E w2 ⟨rfl, hB2⟩
  have HB2 := hide ((unhide HB1).trans (hB2.mono (unhide HB1).size))
  clear hB2
  go_wp2
  go_ret
  exact ⟨rfl, (unhide HA).trans ((unhide HB2).mono (unhide HA).size)⟩
end Go.Proofs.YtglhapkclpllfacDoor
