/-
  ClockHalves, proved: whatever the right ones and the two lists of wrong ones are and whatever lies in memory, the law answers true, and nothing that was there turns: two who see the right ones alike, and 3k and 1 in all, are apart by half of their spread, and 1, at most.
  Conditions: the one listed variable starts as the program's text lays it (the card ties it).
-/
import Derived.Test.YtglhapkclpllfabDoorRows
import Derived.Test.YtglhapkclpllfabDoorTie
import Derived.Test.YtglhapkclpllfabDoorCards
import Derived.Test.YtglhapkclpllfabDoorClockHalves
import Derived.Test.YtglhapkclpllfabDoorSents
import Derived.Test.YtglhapkclpllfabDoorCapArgs
namespace Go.Proofs.YtglhapkclpllfabDoor
open Go.ChangeMaps Go.ChangeShapes Go.WideShapes Go.ChangeAt Go.WideMaps Go.WideElems Go.RowKit

theorem halves_door (os : Os) (args : Array Value) : laidMetH Tryd.prog Rows.clockHalvesRow.laid ((World.doorLaid Tryd.prog 217 os).forCall (fun _ _ => 0) ⟨#[], args, []⟩).memory :=
  laidMetH_of_parts3 (fuel := 8) (laidMet_of_run' 8 (by kernel_rfl) (by kernel_rfl)) (by kernel_rfl) (by kernel_rfl)
theorem Tryd.nBound : Tryd.prog.globalNamed "bargelock/api.ErrBound" = some 0 := by kernel_rfl
theorem halves_ok {W : World} (h0 : laidMetH Tryd.prog Rows.clockHalvesRow.laid W) : ∃ te pe, W.cell? ⟨0, 0, none⟩ = some (.iface te pe) := by
  have h : laidMet Tryd.prog Rows.clockHalvesRow.laid W := by
    rw [MakeChecks.laidMetH_plain _ _ _ (by kernel_rfl)] at h0
    exact h0
  obtain ⟨a1, e1⟩ := sent_at h (fun x => x.1 == "bargelock/api.ErrBound") ("bargelock/api.ErrBound", [98, 97, 114, 103, 101, 108, 111, 99, 107, 58, 32, 98, 111, 117, 110, 100]) (by rfl) (by kernel_rfl)
  exact ⟨_, _, sent_cell Tryd.nBound e1⟩

set_option maxRecDepth 100000 in
theorem halves_lifted (os : Os) (started : os.Started) (H : Type) (enc : TypeId × Value → H) :
    ReturnsInHanded {} Tryd.checked os 4 .any (fun w args => (Rows.clockHalvesSpec.pre enc Tryd.prog Tryd.f4 [] false w args ∧ laidMetH Tryd.prog Rows.clockHalvesRow.laid w) ∧ sizedMet enc Tryd.prog Tryd.f4 (OpenSpec.ofChange Rows.clockHalvesSpec) false w args)
      (Rows.clockHalvesSpec.post enc Tryd.prog Tryd.f4 false true false false) := by
  refine returnsInHanded_of_change_and (C := Tryd.checked) (X := fun w _ => laidMetH Tryd.prog Rows.clockHalvesRow.laid w) (fun _ _ _ hh h => h.of_heap hh) own started (by kernel_rfl) Tryd.func4
    (ChangeSpec.witness_shaped (enc := enc) (C := Tryd.checked) (os := os) (X := fun w _ => laidMetH Tryd.prog Rows.clockHalvesRow.laid w) false (World.doorLaid Tryd.prog 217 os) #[.slice none 0 0, .slice none 0 0, .slice none 0 0] 8 rfl (World.shaped_of_RefB (by kernel_rfl) (by kernel_rfl)) (by kernel_rfl) (by kernel_rfl) (by kernel_rfl) (halves_door os _)) ?_
  intro W base args ds gs before hval0 hW _ _ hL _
  have hval : ∀ (j : Nat) t v, Tryd.f4.params[j]? = some t → args[j]? = some v → Value.okWide Tryd.prog W .any base t v := hval0
  have hW' := hW
  obtain ⟨p, q, hA0, hV, rfl, hfz, hnd⟩ := hW
  have hA : DataW.TrodAll enc Tryd.prog W 0 (fun _ => true) true Tryd.f4.params.toList args.toList ds p := hA0
  rw [Tryd.params4] at hA hval
  obtain ⟨v0, v1, v2, d0, d1, d2, p0, p1, p2, rfl, rfl, rfl, h0, h1, h2⟩ := trodAll_three hA
  obtain ⟨rfl, rfl⟩ := trodVars_none hV
  obtain ⟨xs, hxs, lx⟩ := ints_len (hval 0 22 v0 rfl rfl) h0
  obtain ⟨ys, hys, ly⟩ := ints_len (hval 1 22 v1 rfl rfl) h1
  obtain ⟨zs, hzs, lz⟩ := ints_len (hval 2 22 v2 rfl rfl) h2
  obtain ⟨te, pe, S⟩ := halves_ok hL
  clear hA0 hval0
  try simp only [List.append_nil] at hW'
  have hlt : ∀ z ∈ p0 ++ (p1 ++ p2), z.block < W.heap.size := fun z hz => by simpa using hW'.lt z (by simpa using hz)
  refine (halves_walk te pe v0 v1 v2 xs ys zs W S hxs hys hzs lx ly lz).mono fun E W' ⟨he, hB⟩ => ?_
  subst he
  have h0' : DataW.Trod enc Tryd.prog W' 0 (fun b => decide (b < W.heap.size)) true 22 v0 d0 p0 := Below.trod laidOut (by kernel_rfl) (of_decide_eq_true (by kernel_rfl)) h0 hB (fun z hz => hlt z (List.mem_append_left _ hz))
  have h1' : DataW.Trod enc Tryd.prog W' 0 (fun b => decide (b < W.heap.size)) true 22 v1 d1 p1 := Below.trod laidOut (by kernel_rfl) (of_decide_eq_true (by kernel_rfl)) h1 hB (fun z hz => hlt z (List.mem_append_right _ (List.mem_append_left _ hz)))
  have h2' : DataW.Trod enc Tryd.prog W' 0 (fun b => decide (b < W.heap.size)) true 22 v2 d2 p2 := Below.trod laidOut (by kernel_rfl) (of_decide_eq_true (by kernel_rfl)) h2 hB (fun z hz => hlt z (List.mem_append_right _ (List.mem_append_right _ hz)))
  have hargs := trodAll_cons_mk h0' (trodAll_cons_mk h1' (trodAll_mk1 h2'))
  try simp only [List.append_nil] at hargs
  exact ⟨_, rfl, _, _, _, [], p0 ++ (p1 ++ p2), [], hW', trodAll_mk1 (shut_bool Tryd.underlying4 true), hargs, rfl, hB.frame _, fun h => by cases h⟩

theorem halves_holds : Rows.ClockHalvesSaid :=
  OpenClaim.holds_of_wide 4 Tryd.f4 rfl rfl rfl rfl rfl rfl rfl ⟨rfl, rfl, rfl, rfl, rfl⟩ rfl rfl rfl rfl rfl (by kernel_rfl) Tryd.func4 (by kernel_rfl)
    (of_decide_eq_true (by kernel_rfl)) (by unfold Func.isWrapper; first | (rw [if_pos (by decide +kernel)]; kernel_rfl) | (rw [if_neg (by decide +kernel)]; exact ⟨rfl, rfl⟩))
    (fun os started H enc _ => halves_lifted os started H enc)
theorem halves_card_holds : Rows.ClockHalvesCardSaid :=
  Claim7.holds_tied_plain_at .later [] Rows.clockHalvesCard.laidKinds true Rows.clockHalvesCard.stood.harness true
    halves_holds (fun _ h => by cases h) (by kernel_rfl) (fun _ h => by cases h) clockHalves_row_tie rfl ⟨rfl, rfl⟩ (by kernel_rfl) rfl
    (fun f fn hf hfn => by
      obtain rfl : f = 4 := Option.some.inj ((show Tryd.prog.funcNamed "bargelock/bargelocklaw1.ClockHalves" = some 4 by kernel_rfl).symm.trans hf) |>.symm
      obtain rfl : fn = Tryd.f4 := (Option.some.inj (Tryd.func4.symm.trans hfn)).symm
      exact ⟨by kernel_rfl, fun j t ht => by
        rw [Tryd.params4] at ht
        have hm : t ∈ [22, 22, 22] := by simpa using Array.mem_of_getElem? ht
        have hall : ([22, 22, 22].all fun u => !Tryd.prog.wantsStandIn u) = true := by kernel_rfl
        exact (show Tryd.prog.wantsStandIn t = false by simpa using List.all_eq_true.1 hall t hm)⟩)
    (by kernel_rfl)
#print axioms halves_card_holds
end Go.Proofs.YtglhapkclpllfabDoor
