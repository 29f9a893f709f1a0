/-
  CliqueOne, proved: whatever the history, the places and the round are and whatever lies in memory, the law answers true, and nothing that was there turns: of two who heard in a round nothing that the other one heard, one at most stays.
  Conditions: the five listed variables start as the program's text lays them (the card ties them).
-/
import Derived.Test.YtglhapkclpllfacDoorRows
import Derived.Test.YtglhapkclpllfacDoorTie
import Derived.Test.YtglhapkclpllfacDoorCards
import Derived.Test.YtglhapkclpllfacDoorClique1
import Derived.Test.YtglhapkclpllfacDoorSents
import Derived.Test.YtglhapkclpllfacDoorCapArgs
namespace Go.Proofs.YtglhapkclpllfacDoor
open Go.ChangeMaps Go.ChangeShapes Go.WideShapes Go.ChangeAt Go.WideMaps Go.WideElems Go.RowKit

theorem qone_door (os : Os) (args : Array Value) : laidMetH Tryd.prog Rows.cliqueOneRow.laid ((World.doorLaid Tryd.prog 280 os).forCall (fun _ _ => 0) ⟨#[], args, []⟩).memory :=
  laidMetH_of_parts3 (fuel := 8) (laidMet_of_run' 8 (by kernel_rfl) (by kernel_rfl)) (by kernel_rfl) (by kernel_rfl)
theorem Tryd.nBound : Tryd.prog.globalNamed "bargelock/api.ErrBound" = some 1 := by kernel_rfl
theorem Tryd.nShape : Tryd.prog.globalNamed "bargelock/api.ErrShape" = some 4 := by kernel_rfl
theorem Tryd.nNode : Tryd.prog.globalNamed "bargelock/api.ErrNode" = some 5 := by kernel_rfl
theorem Tryd.nFull : Tryd.prog.globalNamed "bargelock/api.ErrFull" = some 0 := by kernel_rfl
theorem Tryd.nGap : Tryd.prog.globalNamed "bargelock/api.ErrGap" = some 9 := by kernel_rfl
theorem qone_laid {W : World} (h0 : laidMetH Tryd.prog Rows.cliqueOneRow.laid W) : ∃ e, QSent e W := by
  have h : laidMet Tryd.prog Rows.cliqueOneRow.laid W := by
    rw [MakeChecks.laidMetH_plain _ _ _ (by kernel_rfl)] at h0
    exact h0
  obtain ⟨a1, e1⟩ := sent_at h (fun x => x.1 == "bargelock/api.ErrBound") ("bargelock/api.ErrBound", [98, 97, 114, 103, 101, 108, 111, 99, 107, 58, 32, 98, 111, 117, 110, 100]) (by rfl) (by kernel_rfl)
  obtain ⟨a2, e2⟩ := sent_at h (fun x => x.1 == "bargelock/api.ErrShape") ("bargelock/api.ErrShape", [98, 97, 114, 103, 101, 108, 111, 99, 107, 58, 32, 115, 104, 97, 112, 101]) (by rfl) (by kernel_rfl)
  obtain ⟨a3, e3⟩ := sent_at h (fun x => x.1 == "bargelock/api.ErrNode") ("bargelock/api.ErrNode", [98, 97, 114, 103, 101, 108, 111, 99, 107, 58, 32, 110, 111, 100, 101]) (by rfl) (by kernel_rfl)
  obtain ⟨a6, e6⟩ := sent_at h (fun x => x.1 == "bargelock/api.ErrFull") ("bargelock/api.ErrFull", [98, 97, 114, 103, 101, 108, 111, 99, 107, 58, 32, 102, 117, 108, 108]) (by rfl) (by kernel_rfl)
  obtain ⟨a9, e9⟩ := sent_at h (fun x => x.1 == "bargelock/api.ErrGap") ("bargelock/api.ErrGap", [98, 97, 114, 103, 101, 108, 111, 99, 107, 58, 32, 103, 97, 112]) (by rfl) (by kernel_rfl)
  refine ⟨fun k => (197, .pointer (some (if k = 1 then a1 else if k = 2 then a2 else if k = 3 then a3 else if k = 6 then a6 else a9))), ⟨?_, ?_, ?_, ?_, ?_⟩⟩
  · simpa using sent_cell Tryd.nBound e1
  · simpa using sent_cell Tryd.nShape e2
  · simpa using sent_cell Tryd.nNode e3
  · simpa using sent_cell Tryd.nFull e6
  · simpa using sent_cell Tryd.nGap e9
set_option maxRecDepth 100000 in
theorem qone_lifted (os : Os) (started : os.Started) (H : Type) (enc : TypeId × Value → H) :
    ReturnsInHanded {} Tryd.checked os 7 .any (fun w args => (Rows.cliqueOneSpec.pre enc Tryd.prog Tryd.f7 [] false w args ∧ laidMetH Tryd.prog Rows.cliqueOneRow.laid w) ∧ sizedMet enc Tryd.prog Tryd.f7 (OpenSpec.ofChange Rows.cliqueOneSpec) false w args)
      (Rows.cliqueOneSpec.post enc Tryd.prog Tryd.f7 false true false false) := by
  refine returnsInHanded_of_change_and (C := Tryd.checked) (X := fun w _ => laidMetH Tryd.prog Rows.cliqueOneRow.laid w) (fun _ _ _ hh h => h.of_heap hh) own started (by kernel_rfl) Tryd.func7
    (ChangeSpec.witness_shaped (enc := enc) (C := Tryd.checked) (os := os) (X := fun w _ => laidMetH Tryd.prog Rows.cliqueOneRow.laid w) false (World.doorLaid Tryd.prog 280 os) #[.slice none 0 0, .slice none 0 0, .int .i64 0] 8 rfl (World.shaped_of_RefB (by kernel_rfl) (by kernel_rfl)) (by kernel_rfl) (by kernel_rfl) (by kernel_rfl) (qone_door os _)) ?_
  intro W base args ds gs before hval0 hW _ _ hL _
  have hval : ∀ (j : Nat) t v, Tryd.f7.params[j]? = some t → args[j]? = some v → Value.okWide Tryd.prog W .any base t v := hval0
  have hW' := hW
  obtain ⟨p, q, hA0, hV, rfl, hfz, hnd⟩ := hW
  have hA : DataW.TrodAll enc Tryd.prog W 0 (fun _ => true) true Tryd.f7.params.toList args.toList ds p := hA0
  rw [Tryd.params7] at hA hval
  obtain ⟨v0, v1, v2, d0, d1, d2, p0, p1, p2, rfl, rfl, rfl, h0, h1, h2⟩ := trodAll_three hA
  obtain ⟨rfl, rfl⟩ := trodVars_none hV
  obtain ⟨n, rfl, rfl, rfl, wn⟩ := open_int Tryd.underlying3 (hval 2 3 v2 rfl rfl) h2
  obtain ⟨xs, hxs, hxl⟩ := ints_len (hval 1 22 v1 rfl rfl) h1
  obtain ⟨l, hl, _⟩ := ents_in (ti := 3) (tb := 4) Tryd.underlying58 Tryd.underlying52 (by kernel_rfl) rfl rfl rfl rfl rfl rfl rfl rfl Tryd.underlying3 Tryd.underlying4 (by kernel_rfl) (by kernel_rfl) (hval 0 58 v0 rfl rfl) h0
  obtain ⟨e, S⟩ := qone_laid hL
  clear hA0 hval0
  simp only [List.append_nil] at hW'
  have hlt : ∀ z ∈ p0 ++ p1, z.block < W.heap.size := fun z hz => by simpa using hW'.lt z (by simpa using hz)
  refine (qone_all (QSent e) e (qprog e) (fun w m => cliqued_ok (QSent e) e (qprog e) w m) v0 v1 l xs n W S hl hxs hxl).mono fun E W' ⟨he, hB⟩ => ?_
  subst he
  have h0' : DataW.Trod enc Tryd.prog W' 0 (fun b => decide (b < W.heap.size)) true 58 v0 d0 p0 := Below.trod laidOut (by kernel_rfl) (of_decide_eq_true (by kernel_rfl)) h0 hB fun z hz => hlt z (List.mem_append_left _ hz)
  have h1' : DataW.Trod enc Tryd.prog W' 0 (fun b => decide (b < W.heap.size)) true 22 v1 d1 p1 := Below.trod laidOut (by kernel_rfl) (of_decide_eq_true (by kernel_rfl)) h1 hB fun z hz => hlt z (List.mem_append_right _ hz)
  have hargs := trodAll_cons_mk h0' (trodAll_cons_mk h1' (trodAll_mk1 (shut_int Tryd.underlying3 wn)))
  simp only [List.append_nil] at hargs
  exact ⟨_, rfl, _, _, _, [], p0 ++ p1, [], hW', trodAll_mk1 (shut_bool Tryd.underlying4 true), hargs, rfl, hB.frame _, fun h => by cases h⟩

theorem qone_holds : Rows.CliqueOneSaid :=
  OpenClaim.holds_of_wide 7 Tryd.f7 rfl rfl rfl rfl rfl rfl rfl ⟨rfl, rfl, rfl, rfl, rfl⟩ rfl rfl rfl rfl rfl (by kernel_rfl) Tryd.func7 (by kernel_rfl)
    (of_decide_eq_true (by kernel_rfl)) (by unfold Func.isWrapper; first | (rw [if_pos (by decide +kernel)]; kernel_rfl) | (rw [if_neg (by decide +kernel)]; exact ⟨rfl, rfl⟩))
    (fun os started H enc _ => qone_lifted os started H enc)
theorem qone_card_holds : Rows.CliqueOneCardSaid :=
  Claim7.holds_tied_plain_at .later [] Rows.cliqueOneCard.laidKinds true Rows.cliqueOneCard.stood.harness true
    qone_holds (fun _ h => by cases h) (by kernel_rfl) (fun _ h => by cases h) cliqueOne_row_tie rfl ⟨rfl, rfl⟩ (by kernel_rfl) rfl
    (fun f fn hf hfn => by
      obtain rfl : f = 7 := Option.some.inj ((show Tryd.prog.funcNamed "bargelock/bargelocklaw2.CliqueOne" = some 7 by kernel_rfl).symm.trans hf) |>.symm
      obtain rfl : fn = Tryd.f7 := (Option.some.inj (Tryd.func7.symm.trans hfn)).symm
      exact ⟨by kernel_rfl, fun j t ht => by
        rw [Tryd.params7] at ht
        have hm : t ∈ [58, 22, 3] := by simpa using Array.mem_of_getElem? ht
        have hall : ([58, 22, 3].all fun u => !Tryd.prog.wantsStandIn u) = true := by kernel_rfl
        exact (show Tryd.prog.wantsStandIn t = false by simpa using List.all_eq_true.1 hall t hm)⟩)
    (by kernel_rfl)
#print axioms qone_card_holds
end Go.Proofs.YtglhapkclpllfacDoor
