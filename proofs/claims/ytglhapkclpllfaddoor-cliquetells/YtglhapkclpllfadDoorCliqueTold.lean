/-
  What package clique and the document's answer tell, side by side, case by case; then the walk of the law CliqueTells, whole, over what package clique answers (structure QProg).
  Conditions: package api's errors lie as laid (structure Sent).
-/
import Derived.Test.YtglhapkclpllfadDoorCliqueTells
import Derived.Test.YtglhapkclpllfadDoorCliqueProg
import Derived.Test.YtglhapkclpllfadDoorRefTally
namespace Go.Proofs.YtglhapkclpllfadDoor
open Go.RowKit

/-- The errors of package api, for package clique. -/
def eQ (a : Nat → Addr) : Nat → TypeId × Value := fun k => (198, .pointer (some (a k)))
theorem fits_nilQ (a : Nat → Addr) (w : World) : ErrFits a w .nilIface 0 (-1) := Or.inl ⟨rfl, rfl, rfl⟩
theorem fits_esQ (a : Nat → Addr) (w : World) (k : Nat) (hk : k < 11) (c : Int) (hc : c = (k : Int) + 1) : ErrFits a w (.iface (eQ a k).1 (eQ a k).2) c (-1) := Or.inr (Or.inr ⟨k, hk, rfl, hc, rfl⟩)
theorem stays_lt (l : List Ent) (r : Nat) : staysB l r = decide ((((lastN l r).length - heardN (lastN l r) : Nat) : Int) < ((heardN (lastN l r) : Nat) : Int)) := by
  unfold staysB
  by_cases h : (lastN l r).length - heardN (lastN l r) < heardN (lastN l r)
  · rw [decide_eq_true h, decide_eq_true (by omega)]
  · rw [decide_eq_false h, decide_eq_false (by omega)]
theorem qtold_any (a : Nat → Addr) (P : QProg (Sent a) (eQ a)) (l : List Ent) (round : Int) : ∃ c n x y c' n', QTold a l round c n x y c' n' := by
  by_cases h : histOk l
  · by_cases hr : 1 ≤ round ∧ round ≤ 32
    · obtain ⟨r, rfl⟩ : ∃ r : Nat, round = (r : Int) := ⟨round.toNat, by omega⟩
      have hr' : 1 ≤ r ∧ r ≤ 32 := by omega
      refine ⟨0, -1, (heardN (lastN l r) : Nat), ((lastN l r).length - heardN (lastN l r) : Nat), 0, -1, ⟨fun w v S hv => ?_, fun w v hv => histFault_ok v l w hv h, fun w v S hv => ?_, fun w v hv => tallyOf_ok v l r w hv h hr', fun w v S hv => ?_⟩⟩
      · exact (P.ckY w v l S hv h).mono fun _ _ h => ⟨_, h.1, fits_nilQ a _, h.2⟩
      · exact (P.taO w v l r S hv h hr').mono fun _ _ h => ⟨_, h.1, fits_nilQ a _, h.2⟩
      · have := P.stO w v l r S hv h hr'
        rw [stays_lt] at this
        exact this.mono fun _ _ h => ⟨_, h.1, fits_nilQ a _, h.2⟩
    · refine ⟨0, -1, 0, 0, 2, -1, ⟨fun w v S hv => ?_, fun w v hv => histFault_ok v l w hv h, fun w v S hv => ?_, fun w v hv => tallyOf_round v l round w hv h hr, fun w v S hv => ?_⟩⟩
      · exact (P.ckY w v l S hv h).mono fun _ _ h => ⟨_, h.1, fits_nilQ a _, h.2⟩
      · exact (P.taR w v l round S hv h hr).mono fun _ _ h => ⟨_, h.1, fits_esQ a _ 1 (by omega) 2 rfl, h.2⟩
      · exact (P.stR w v l round S hv h hr).mono fun _ _ h => ⟨_, h.1, fits_esQ a _ 1 (by omega) 2 rfl, h.2⟩
  · obtain ⟨c, n, hc, hF, hE⟩ := histFault_no l h
    have fit : ∀ w ty p, HistErr (eQ a) w l ty p → ErrFits a w (.iface ty p) c n := fun w ty p hp => by
      rcases hE (eQ a) w ty p hp with ⟨rfl, rfl, rfl, rfl⟩ | ⟨pb, k, hk, rfl, rfl, rfl, c0, c1⟩
      · exact fits_esQ a w 6 (by omega) 7 rfl
      · exact Or.inr (Or.inl ⟨pb, k, hk, rfl, rfl, c0, c1⟩)
    refine ⟨c, n, 0, 0, c, n, ⟨fun w v S hv => ?_, fun w v hv => hF v w hv, fun w v S hv => ?_, fun w v hv => tallyOf_keep v l round c n w hv (fun w' hv' => hF v w' hv') hc, fun w v S hv => ?_⟩⟩
    · refine (P.ckN w v l S hv h).mono ?_
      rintro r w' ⟨ty, p, rfl, hpe, hB⟩
      exact ⟨_, rfl, fit _ _ _ hpe, hB⟩
    · refine (P.taN w v l round S hv h).mono ?_
      rintro r w' ⟨ty, p, rfl, hpe, hB⟩
      exact ⟨_, rfl, fit _ _ _ hpe, hB⟩
    · refine (P.stN w v l round S hv h).mono ?_
      rintro r w' ⟨ty, p, rfl, hpe, hB⟩
      exact ⟨_, rfl, fit _ _ _ hpe, hB⟩
theorem qtells_all (a : Nat → Addr) (P : QProg (Sent a) (eQ a)) (v : Value) (l : List Ent) (round : Int) (w : World) (S : Sent a w) (hv : EntsIn w v l) :
    Calls Tryd.prog 3 #[v, .int .i64 round] w fun r w' => r = .returned (.bool true) ∧ Below w.heap.size w w' := by
  have CQ : Cliqued (Sent a) := fun w m => cliqued_ok (Sent a) (eQ a) P w m
  by_cases h : 60 < l.length ∧ l.length ≠ 201
  · exact qtells_far a CQ v l round w S hv h
  · obtain ⟨c, n, x, y, c', n', T⟩ := qtold_any a P l round
    exact qtells_near a CQ v l round c n x y c' n' w S hv (by omega) T
end Go.Proofs.YtglhapkclpllfadDoor
