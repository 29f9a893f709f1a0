/-
  ClockBetween, proved: whatever the right ones, the wrong ones and the place are and whatever lies in memory, the law answers true, and nothing that was there turns: the middle is from the least to the greatest of those that are right.
  Conditions: the one listed variable starts as the program's text lays it (the card ties it).
-/
import Derived.Test.YtglhapkclpllfabDoorRows
import Derived.Test.YtglhapkclpllfabDoorTie
import Derived.Test.YtglhapkclpllfabDoorCards
import Derived.Test.YtglhapkclpllfabDoorClockBetween
import Derived.Test.YtglhapkclpllfabDoorSents
import Derived.Test.YtglhapkclpllfabDoorCapArgs
namespace Go.Proofs.YtglhapkclpllfabDoor
open Go.ChangeMaps Go.ChangeShapes Go.WideShapes Go.ChangeAt Go.WideMaps Go.WideElems Go.RowKit

theorem between_door (os : Os) (args : Array Value) : laidMetH Tryd.prog Rows.clockBetweenRow.laid ((World.doorLaid Tryd.prog 217 os).forCall (fun _ _ => 0) ⟨#[], args, []⟩).memory :=
  laidMetH_of_parts3 (fuel := 8) (laidMet_of_run' 8 (by kernel_rfl) (by kernel_rfl)) (by kernel_rfl) (by kernel_rfl)
theorem Tryd.nBound : Tryd.prog.globalNamed "bargelock/api.ErrBound" = some 0 := by kernel_rfl
theorem between_ok {W : World} (h0 : laidMetH Tryd.prog Rows.clockBetweenRow.laid W) : ∃ te pe, W.cell? ⟨0, 0, none⟩ = some (.iface te pe) := by
  have h : laidMet Tryd.prog Rows.clockBetweenRow.laid W := by
    rw [MakeChecks.laidMetH_plain _ _ _ (by kernel_rfl)] at h0
    exact h0
  obtain ⟨a1, e1⟩ := sent_at h (fun x => x.1 == "bargelock/api.ErrBound") ("bargelock/api.ErrBound", [98, 97, 114, 103, 101, 108, 111, 99, 107, 58, 32, 98, 111, 117, 110, 100]) (by rfl) (by kernel_rfl)
  exact ⟨_, _, sent_cell Tryd.nBound e1⟩

set_option maxRecDepth 100000 in
theorem between_lifted (os : Os) (started : os.Started) (H : Type) (enc : TypeId × Value → H) :
    ReturnsInHanded {} Tryd.checked os 3 .any (fun w args => (Rows.clockBetweenSpec.pre enc Tryd.prog Tryd.f3 [] false w args ∧ laidMetH Tryd.prog Rows.clockBetweenRow.laid w) ∧ sizedMet enc Tryd.prog Tryd.f3 (OpenSpec.ofChange Rows.clockBetweenSpec) false w args)
      (Rows.clockBetweenSpec.post enc Tryd.prog Tryd.f3 false true false false) := by
  refine returnsInHanded_of_change_and (C := Tryd.checked) (X := fun w _ => laidMetH Tryd.prog Rows.clockBetweenRow.laid w) (fun _ _ _ hh h => h.of_heap hh) own started (by kernel_rfl) Tryd.func3
    (ChangeSpec.witness_shaped (enc := enc) (C := Tryd.checked) (os := os) (X := fun w _ => laidMetH Tryd.prog Rows.clockBetweenRow.laid w) false (World.doorLaid Tryd.prog 217 os) #[.slice none 0 0, .slice none 0 0, .int .i64 0] 8 rfl (World.shaped_of_RefB (by kernel_rfl) (by kernel_rfl)) (by kernel_rfl) (by kernel_rfl) (by kernel_rfl) (between_door os _)) ?_
  intro W base args ds gs before hval0 hW _ _ hL _
  have hval : ∀ (j : Nat) t v, Tryd.f3.params[j]? = some t → args[j]? = some v → Value.okWide Tryd.prog W .any base t v := hval0
  have hW' := hW
  obtain ⟨p, q, hA0, hV, rfl, hfz, hnd⟩ := hW
  have hA : DataW.TrodAll enc Tryd.prog W 0 (fun _ => true) true Tryd.f3.params.toList args.toList ds p := hA0
  rw [Tryd.params3] at hA hval
  obtain ⟨v0, v1, v2, d0, d1, d2, p0, p1, p2, rfl, rfl, rfl, h0, h1, h2⟩ := trodAll_three hA
  obtain ⟨rfl, rfl⟩ := trodVars_none hV
  obtain ⟨s, rfl, rfl, rfl, ws⟩ := open_int Tryd.underlying3 (hval 2 3 v2 rfl rfl) h2
  obtain ⟨xs, hxs, _⟩ := ints_cap (hval 0 22 v0 rfl rfl) h0
  obtain ⟨ys, hys, _⟩ := ints_in (hval 1 22 v1 rfl rfl) h1
  obtain ⟨te, pe, S⟩ := between_ok hL
  clear hA0 hval0
  simp only [List.append_nil] at hW'
  have hlt : ∀ z ∈ p0 ++ p1, z.block < W.heap.size := fun z hz => by simpa using hW'.lt z (by simpa using hz)
  refine (between_walk te pe v0 v1 xs ys s W S hxs hys).mono fun E W' ⟨he, hB⟩ => ?_
  subst he
  have h0' : DataW.Trod enc Tryd.prog W' 0 (fun b => decide (b < W.heap.size)) true 22 v0 d0 p0 := Below.trod laidOut (by kernel_rfl) (of_decide_eq_true (by kernel_rfl)) h0 hB (fun z hz => hlt z (List.mem_append_left _ hz))
  have h1' : DataW.Trod enc Tryd.prog W' 0 (fun b => decide (b < W.heap.size)) true 22 v1 d1 p1 := Below.trod laidOut (by kernel_rfl) (of_decide_eq_true (by kernel_rfl)) h1 hB (fun z hz => hlt z (List.mem_append_right _ hz))
  have hargs := trodAll_cons_mk h0' (trodAll_cons_mk h1' (trodAll_mk1 (shut_int (enc := enc) (P := Tryd.prog) (w := W') (base := 0) (spare := fun b => decide (b < W.heap.size)) (held := true) Tryd.underlying3 ws)))
  simp only [List.append_nil] at hargs
  exact ⟨_, rfl, _, _, _, [], p0 ++ p1, [], hW', trodAll_mk1 (shut_bool Tryd.underlying4 true), hargs, rfl, hB.frame _, fun h => by cases h⟩

theorem between_holds : Rows.ClockBetweenSaid :=
  OpenClaim.holds_of_wide 3 Tryd.f3 rfl rfl rfl rfl rfl rfl rfl ⟨rfl, rfl, rfl, rfl, rfl⟩ rfl rfl rfl rfl rfl (by kernel_rfl) Tryd.func3 (by kernel_rfl)
    (of_decide_eq_true (by kernel_rfl)) (by unfold Func.isWrapper; first | (rw [if_pos (by decide +kernel)]; kernel_rfl) | (rw [if_neg (by decide +kernel)]; exact ⟨rfl, rfl⟩))
    (fun os started H enc _ => between_lifted os started H enc)
theorem between_card_holds : Rows.ClockBetweenCardSaid :=
  Claim7.holds_tied_plain_at .later [] Rows.clockBetweenCard.laidKinds true Rows.clockBetweenCard.stood.harness true
    between_holds (fun _ h => by cases h) (by kernel_rfl) (fun _ h => by cases h) clockBetween_row_tie rfl ⟨rfl, rfl⟩ (by kernel_rfl) rfl
    (fun f fn hf hfn => by
      obtain rfl : f = 3 := Option.some.inj ((show Tryd.prog.funcNamed "bargelock/bargelocklaw1.ClockBetween" = some 3 by kernel_rfl).symm.trans hf) |>.symm
      obtain rfl : fn = Tryd.f3 := (Option.some.inj (Tryd.func3.symm.trans hfn)).symm
      exact ⟨by kernel_rfl, fun j t ht => by
        rw [Tryd.params3] at ht
        have hm : t ∈ [22, 22, 3] := by simpa using Array.mem_of_getElem? ht
        have hall : ([22, 22, 3].all fun u => !Tryd.prog.wantsStandIn u) = true := by kernel_rfl
        exact (show Tryd.prog.wantsStandIn t = false by simpa using List.all_eq_true.1 hall t hm)⟩)
    (by kernel_rfl)
#print axioms between_card_holds
end Go.Proofs.YtglhapkclpllfabDoor
