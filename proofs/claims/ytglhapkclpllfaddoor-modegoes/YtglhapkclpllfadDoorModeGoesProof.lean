/-
  ModeGoes, proved: whatever the pairs and what is asked for are and whatever lies in memory, the law answers true, and nothing that was there turns: the mode only goes by allowed pairs.
  Conditions: the twelve listed variables start as the program's text lays them (the card ties them).
-/
import Derived.Test.YtglhapkclpllfadDoorRows
import Derived.Test.YtglhapkclpllfadDoorTie
import Derived.Test.YtglhapkclpllfadDoorCards
import Derived.Test.YtglhapkclpllfadDoorMode1
import Derived.Test.YtglhapkclpllfadDoorModeGoes
import Derived.Test.YtglhapkclpllfadDoorModeCoded
import Derived.Test.YtglhapkclpllfadDoorLaid
import Derived.Test.YtglhapkclpllfadDoorArgs
namespace Go.Proofs.YtglhapkclpllfadDoor
open Go.ChangeMaps Go.ChangeShapes Go.WideShapes Go.ChangeAt Go.WideMaps Go.WideElems Go.RowKit

theorem mgo_door (os : Os) (args : Array Value) : laidMetH Tryd.prog Rows.modeGoesRow.laid ((World.doorLaid Tryd.prog 280 os).forCall (fun _ _ => 0) ⟨#[], args, []⟩).memory :=
  laidMetH_of_parts3 (fuel := 8) (laidMet_of_run' 8 (by kernel_rfl) (by kernel_rfl)) (by kernel_rfl) (by kernel_rfl)
theorem mgo_laid {W : World} (h0 : laidMetH Tryd.prog Rows.modeGoesRow.laid W) : ∃ a, Sent a W :=
  sent_of_laid (fun _ => true) h0 (by rfl) (by exact List.mem_cons_self)
set_option maxRecDepth 100000 in
theorem mgo_lifted (os : Os) (started : os.Started) (H : Type) (enc : TypeId × Value → H) :
    ReturnsInHanded {} Tryd.checked os 7 .any (fun w args => (Rows.modeGoesSpec.pre enc Tryd.prog Tryd.f7 [] false w args ∧ laidMetH Tryd.prog Rows.modeGoesRow.laid w) ∧ sizedMet enc Tryd.prog Tryd.f7 (OpenSpec.ofChange Rows.modeGoesSpec) false w args)
      (Rows.modeGoesSpec.post enc Tryd.prog Tryd.f7 false true false false) := by
  refine returnsInHanded_of_change_and (C := Tryd.checked) (X := fun w _ => laidMetH Tryd.prog Rows.modeGoesRow.laid w) (fun _ _ _ hh h => h.of_heap hh) own started (by kernel_rfl) Tryd.func7
    (ChangeSpec.witness_shaped (enc := enc) (C := Tryd.checked) (os := os) (X := fun w _ => laidMetH Tryd.prog Rows.modeGoesRow.laid w) false (World.doorLaid Tryd.prog 280 os) #[.slice none 0 0, .slice none 0 0] 8 rfl (World.shaped_of_RefB (by kernel_rfl) (by kernel_rfl)) (by kernel_rfl) (by kernel_rfl) (by kernel_rfl) (mgo_door os _)) ?_
  intro W base args ds gs before hval0 hW _ _ hL _
  have hval : ∀ (j : Nat) t v, Tryd.f7.params[j]? = some t → args[j]? = some v → Value.okWide Tryd.prog W .any base t v := hval0
  have hW' := hW
  obtain ⟨p, q, hA0, hV, rfl, hfz, hnd⟩ := hW
  have hA : DataW.TrodAll enc Tryd.prog W 0 (fun _ => true) true Tryd.f7.params.toList args.toList ds p := hA0
  rw [Tryd.params7] at hA hval
  obtain ⟨v0, v1, d0, d1, p0, p1, rfl, rfl, rfl, h0, h1⟩ := trodAll_two hA
  obtain ⟨rfl, rfl⟩ := trodVars_none hV
  obtain ⟨xs, hxs, _⟩ := ints_in (hval 1 43 v1 rfl rfl) h1
  obtain ⟨l, hl, _⟩ := prs_in (ti := 3) Tryd.underlying59 Tryd.underlying68 (by kernel_rfl) rfl rfl rfl rfl Tryd.underlying3 (by kernel_rfl) (hval 0 59 v0 rfl rfl) h0
  obtain ⟨a, S⟩ := mgo_laid hL
  clear hA0 hval0
  simp only [List.append_nil] at hW'
  have hlt : ∀ z ∈ p0 ++ p1, z.block < W.heap.size := fun z hz => by simpa using hW'.lt z (by simpa using hz)
  refine (mgo_all (Sent a) (eM a) BoardAt (modeP a) (coded_all a (Sent a) fun _ S => S) v0 v1 l xs W S hl hxs).mono fun E W' ⟨he, hB⟩ => ?_
  subst he
  have h0' : DataW.Trod enc Tryd.prog W' 0 (fun b => decide (b < W.heap.size)) true 59 v0 d0 p0 := Below.trod laidOut (by kernel_rfl) (of_decide_eq_true (by kernel_rfl)) h0 hB fun z hz => hlt z (List.mem_append_left _ hz)
  have h1' : DataW.Trod enc Tryd.prog W' 0 (fun b => decide (b < W.heap.size)) true 43 v1 d1 p1 := Below.trod laidOut (by kernel_rfl) (of_decide_eq_true (by kernel_rfl)) h1 hB fun z hz => hlt z (List.mem_append_right _ hz)
  have hargs := trodAll_cons_mk h0' (trodAll_mk1 h1')
  exact ⟨_, rfl, _, _, _, [], p0 ++ p1, [], hW', trodAll_mk1 (shut_bool Tryd.underlying4 true), hargs, rfl, hB.frame _, fun h => by cases h⟩

theorem mgo_holds : Rows.ModeGoesSaid :=
  OpenClaim.holds_of_wide 7 Tryd.f7 rfl rfl rfl rfl rfl rfl rfl ⟨rfl, rfl, rfl, rfl, rfl⟩ rfl rfl rfl rfl rfl (by kernel_rfl) Tryd.func7 (by kernel_rfl)
    (of_decide_eq_true (by kernel_rfl)) (by unfold Func.isWrapper; first | (rw [if_pos (by decide +kernel)]; kernel_rfl) | (rw [if_neg (by decide +kernel)]; exact ⟨rfl, rfl⟩))
    (fun os started H enc _ => mgo_lifted os started H enc)
theorem mgo_card_holds : Rows.ModeGoesCardSaid :=
  Claim7.holds_tied_plain_at .later [] Rows.modeGoesCard.laidKinds true Rows.modeGoesCard.stood.harness true
    mgo_holds (fun _ h => by cases h) (by kernel_rfl) (fun _ h => by cases h) modeGoes_row_tie rfl ⟨rfl, rfl⟩ (by kernel_rfl) rfl
    (fun f fn hf hfn => by
      obtain rfl : f = 7 := Option.some.inj ((show Tryd.prog.funcNamed "bargelock/bargelocklaw2.ModeGoes" = some 7 by kernel_rfl).symm.trans hf) |>.symm
      obtain rfl : fn = Tryd.f7 := (Option.some.inj (Tryd.func7.symm.trans hfn)).symm
      exact ⟨by kernel_rfl, fun j t ht => by
        rw [Tryd.params7] at ht
        have hm : t ∈ [59, 43] := by simpa using Array.mem_of_getElem? ht
        have hall : ([59, 43].all fun u => !Tryd.prog.wantsStandIn u) = true := by kernel_rfl
        exact (show Tryd.prog.wantsStandIn t = false by simpa using List.all_eq_true.1 hall t hm)⟩)
    (by kernel_rfl)
#print axioms mgo_card_holds
end Go.Proofs.YtglhapkclpllfadDoor
