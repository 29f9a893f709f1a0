/-
  The walk of the law CliqueTells: what package clique and the document's answer tell, side by side (structure QTold), makes it answer true, and nothing that was in memory has turned.
  Conditions: package api's errors lie as laid (structure Sent).
-/
import Derived.Test.YtglhapkclpllfadDoorRecTypes
import Derived.Test.YtglhapkclpllfadDoorFaultVar
namespace Go.Proofs.YtglhapkclpllfadDoor
open Go.RowKit

/-- Two answers that go together, call by call. -/
structure QTold (a : Nat → Addr) (l : List Ent) (round c n x y c' n' : Int) : Prop where
  ck : ∀ w v, Sent a w → EntsIn w v l → Calls Tryd.prog 10 #[v] w fun r w' => ∃ ev, r = .returned ev ∧ ErrFits a w' ev c n ∧ Below w.heap.size w w'
  hf : ∀ w v, EntsIn w v l → Calls Tryd.prog 11 #[v] w fun r w' => r = .returned (.agg #[.int .i64 c, .int .i64 n]) ∧ Below w.heap.size w w'
  ta : ∀ w v, Sent a w → EntsIn w v l → Calls Tryd.prog 12 #[v, .int .i64 round] w fun r w' => ∃ ev, r = .returned (.tuple #[.int .i64 x, .int .i64 y, ev]) ∧ ErrFits a w' ev c' n' ∧ Below w.heap.size w w'
  to : ∀ w v, EntsIn w v l → Calls Tryd.prog 13 #[v, .int .i64 round] w fun r w' => r = .returned (.tuple #[.int .i64 x, .int .i64 y, .agg #[.int .i64 c', .int .i64 n']]) ∧ Below w.heap.size w w'
  st : ∀ w v, Sent a w → EntsIn w v l → Calls Tryd.prog 14 #[v, .int .i64 round] w fun r w' => ∃ ev, r = .returned (.tuple #[.bool (decide (y < x)), ev]) ∧ ErrFits a w' ev c' n' ∧ Below w.heap.size w w'
/-- The closed fact, as the walks want it. -/
def Cliqued (M : World → Prop) : Prop := ∀ w, M w → Calls Tryd.prog 8 #[] w fun r w' => r = .returned (.bool true) ∧ Below w.heap.size w w'
set_option maxRecDepth 100000 in
theorem qtells_far (a : Nat → Addr) (CQ : Cliqued (Sent a)) (v : Value) (l : List Ent) (round : Int) (w : World) (S : Sent a w) (hv : EntsIn w v l) (h : 60 < l.length ∧ l.length ≠ 201) :
    Calls Tryd.prog 3 #[v, .int .i64 round] w fun r w' => r = .returned (.bool true) ∧ Below w.heap.size w w' := by
  have HK := hide (CQ w S)
  obtain ⟨ad, cap, rfl, _⟩ := EntsIn.at hv
  have h1 : (60 : Int) < (l.length : Int) := by omega
  have h2 : ¬ (l.length : Int) = 201 := by omega
  clear S hv h
  go_enter Tryd.func3, Tryd.ntmps3
  go_wp2_with (go_at_call 8; refine (unhide HK).mono ?_; rintro E w1 ⟨rfl, hB1⟩; have HB := hide hB1; clear hB1)
  go_ret
  exact ⟨rfl, unhide HB⟩
set_option maxRecDepth 100000 in
theorem qtells_near (a : Nat → Addr) (CQ : Cliqued (Sent a)) (v : Value) (l : List Ent) (round c n x y c' n' : Int) (w : World) (S : Sent a w) (hv : EntsIn w v l) (h : l.length ≤ 60 ∨ l.length = 201) (T : QTold a l round c n x y c' n') :
    Calls Tryd.prog 3 #[v, .int .i64 round] w fun r w' => r = .returned (.bool true) ∧ Below w.heap.size w w' := by
  have HK := hide (CQ w S)
  have HS := hide S
  have HV := hide hv
  have C1 := hide T.ck
  have C2 := hide T.hf
  have C3 := hide T.ta
  have C4 := hide T.to
  have C5 := hide T.st
  obtain ⟨ad, cap, rfl, _⟩ := EntsIn.at hv
  clear S hv T
  have hh : decide ((60 : Int) < (l.length : Int)) = false ∨ (decide ((60 : Int) < (l.length : Int)) = true ∧ (l.length : Int) = 201) := by
    rcases h with h | h
    · exact Or.inl (decide_eq_false (by omega))
    · exact Or.inr ⟨decide_eq_true (by omega), by omega⟩
  obtain ⟨ln, hln⟩ : ∃ ln, l.length = ln := ⟨_, rfl⟩
  rw [hln] at hh HV ⊢
  clear h hln
  rcases hh with h1 | ⟨h1, h2⟩
  all_goals
    go_enter Tryd.func3, Tryd.ntmps3
    go_wp2_with fail
    refine (unhide HK).mono ?_
    rintro E w1 ⟨rfl, hB⟩
    have HB1 := hide hB
    clear hB
    go_wp2_with fail
    refine (unhide C1 _ _ ((unhide HS).below (unhide HB1)) ((unhide HV).below (unhide HB1))).mono ?_
    rintro E w2 ⟨ev2, rfl, hf2, hB⟩
    have HB2 := hide ((unhide HB1).trans (hB.mono (unhide HB1).size))
    have HE2 := hide hf2
    clear hB hf2
    go_wp2_with fail
    refine (unhide C2 _ _ ((unhide HV).below (unhide HB2))).mono ?_
    rintro E w3 ⟨rfl, hB⟩
    have HB3 := hide ((unhide HB2).trans (hB.mono (unhide HB2).size))
    have HE3 := hide ((unhide HE2).below hB)
    clear hB
    go_wp2_with fail
    refine (faulted_ok a _ ((unhide HS).below (unhide HB3)) (unhide HE3)).mono ?_
    rintro E w4 ⟨rfl, hB⟩
    have HB4 := hide ((unhide HB3).trans (hB.mono (unhide HB3).size))
    clear hB
    go_wp2_with fail
    refine (unhide C3 _ _ ((unhide HS).below (unhide HB4)) ((unhide HV).below (unhide HB4))).mono ?_
    rintro E w5 ⟨ev5, rfl, hf5, hB⟩
    have HB5 := hide ((unhide HB4).trans (hB.mono (unhide HB4).size))
    have HE5 := hide hf5
    clear hB hf5
    go_wp2_with fail
    refine (unhide C4 _ _ ((unhide HV).below (unhide HB5))).mono ?_
    rintro E w6 ⟨rfl, hB⟩
    have HB6 := hide ((unhide HB5).trans (hB.mono (unhide HB5).size))
    have HE6 := hide ((unhide HE5).below hB)
    clear hB
    have hba : Below w6.heap.size w6 (w6.alloc (.cells #[.int .i64 c', .int .i64 n'] 29)) := (Below.refl _ _).alloc (Nat.le_refl _) _
    have HB7 := hide ((unhide HB6).trans (hba.mono (unhide HB6).size))
    have HE7 := hide ((unhide HE6).below hba)
    have HF7 := hide (FAt.new w6 c' n')
    clear hba
    go_wp2_with fail
    refine (unhide C5 _ _ ((unhide HS).below (unhide HB7)) ((unhide HV).below (unhide HB7))).mono ?_
    rintro E w8 ⟨ev8, rfl, hf8, hB⟩
    have HB8 := hide ((unhide HB7).trans (hB.mono (unhide HB7).size))
    have HE8 := hide ((unhide HE7).below hB)
    have HG8 := hide hf8
    have HF8 := hide ((unhide HF7).below hB)
    obtain ⟨f0, f1, _, _⟩ := unhide HF8
    clear hB hf8
    go_wp2_with fail
    refine (faulted_ok a _ ((unhide HS).below (unhide HB8)) (unhide HE8)).mono ?_
    rintro E w9 ⟨rfl, hB⟩
    have HB9 := hide ((unhide HB8).trans (hB.mono (unhide HB8).size))
    have HG9 := hide ((unhide HG8).below hB)
    have HF9 := hide ((unhide HF8).below hB)
    clear hB f0 f1
    obtain ⟨f0, f1, _, _⟩ := unhide HF9
    go_wp2_with fail
    refine (faulted_ok a _ ((unhide HS).below (unhide HB9)) (unhide HG9)).mono ?_
    rintro E w10 ⟨rfl, hB⟩
    have HB10 := hide ((unhide HB9).trans (hB.mono (unhide HB9).size))
    clear hB f0 f1
    go_wp2
    go_ret
    exact ⟨rfl, unhide HB10⟩
end Go.Proofs.YtglhapkclpllfadDoor
