/-
  BusOne, proved: whatever the plan, the slot's length, the slot, what is sent and who is lost are and whatever lies in memory, the law answers true, and nothing that was there turns: whoever hears something in a slot hears the same, and it was sent, in that slot, by the node whose slot it is; who is lost hears nothing.
  Conditions: the five listed variables start as the program's text lays them (the card ties them).
-/
import Derived.Test.YtglhapkclpllfacDoorRows
import Derived.Test.YtglhapkclpllfacDoorTie
import Derived.Test.YtglhapkclpllfacDoorCards
import Derived.Test.YtglhapkclpllfacDoorBusOneAll
import Derived.Test.YtglhapkclpllfacDoorSents
import Derived.Test.YtglhapkclpllfacDoorArgs
namespace Go.Proofs.YtglhapkclpllfacDoor
open Go.ChangeMaps Go.ChangeShapes Go.WideShapes Go.ChangeAt Go.WideMaps Go.WideElems Go.RowKit

theorem bone_door (os : Os) (args : Array Value) : laidMetH Tryd.prog Rows.busOneRow.laid ((World.doorLaid Tryd.prog 280 os).forCall (fun _ _ => 0) ⟨#[], args, []⟩).memory :=
  laidMetH_of_parts3 (fuel := 8) (laidMet_of_run' 8 (by kernel_rfl) (by kernel_rfl)) (by kernel_rfl) (by kernel_rfl)
theorem Tryd.nNode : Tryd.prog.globalNamed "bargelock/api.ErrNode" = some 5 := by kernel_rfl
theorem Tryd.nNone : Tryd.prog.globalNamed "bargelock/api.ErrNone" = some 6 := by kernel_rfl
theorem Tryd.nFull : Tryd.prog.globalNamed "bargelock/api.ErrFull" = some 0 := by kernel_rfl
theorem Tryd.nBound : Tryd.prog.globalNamed "bargelock/api.ErrBound" = some 1 := by kernel_rfl
theorem Tryd.nLate : Tryd.prog.globalNamed "bargelock/api.ErrLate" = some 2 := by kernel_rfl
theorem bone_laid {W : World} (h0 : laidMetH Tryd.prog Rows.busOneRow.laid W) : ∃ e, GSent e W := by
  have h : laidMet Tryd.prog Rows.busOneRow.laid W := by
    rw [MakeChecks.laidMetH_plain _ _ _ (by kernel_rfl)] at h0
    exact h0
  obtain ⟨a3, e3⟩ := sent_at h (fun x => x.1 == "bargelock/api.ErrNode") ("bargelock/api.ErrNode", [98, 97, 114, 103, 101, 108, 111, 99, 107, 58, 32, 110, 111, 100, 101]) (by rfl) (by kernel_rfl)
  obtain ⟨a4, e4⟩ := sent_at h (fun x => x.1 == "bargelock/api.ErrNone") ("bargelock/api.ErrNone", [98, 97, 114, 103, 101, 108, 111, 99, 107, 58, 32, 110, 111, 110, 101]) (by rfl) (by kernel_rfl)
  obtain ⟨a6, e6⟩ := sent_at h (fun x => x.1 == "bargelock/api.ErrFull") ("bargelock/api.ErrFull", [98, 97, 114, 103, 101, 108, 111, 99, 107, 58, 32, 102, 117, 108, 108]) (by rfl) (by kernel_rfl)
  obtain ⟨a1, e1⟩ := sent_at h (fun x => x.1 == "bargelock/api.ErrBound") ("bargelock/api.ErrBound", [98, 97, 114, 103, 101, 108, 111, 99, 107, 58, 32, 98, 111, 117, 110, 100]) (by rfl) (by kernel_rfl)
  obtain ⟨a8, e8⟩ := sent_at h (fun x => x.1 == "bargelock/api.ErrLate") ("bargelock/api.ErrLate", [98, 97, 114, 103, 101, 108, 111, 99, 107, 58, 32, 108, 97, 116, 101]) (by rfl) (by kernel_rfl)
  refine ⟨fun k => (197, .pointer (some (if k = 1 then a1 else if k = 3 then a3 else if k = 4 then a4 else if k = 6 then a6 else a8))), ⟨⟨?_, ?_, ?_, ?_⟩, ?_⟩⟩
  · simpa using sent_cell Tryd.nBound e1
  · simpa using sent_cell Tryd.nNode e3
  · simpa using sent_cell Tryd.nNone e4
  · simpa using sent_cell Tryd.nFull e6
  · simpa using sent_cell Tryd.nLate e8
set_option maxRecDepth 100000 in
theorem bone_lifted (os : Os) (started : os.Started) (H : Type) (enc : TypeId × Value → H) :
    ReturnsInHanded {} Tryd.checked os 3 .any (fun w args => (Rows.busOneSpec.pre enc Tryd.prog Tryd.f3 [] false w args ∧ laidMetH Tryd.prog Rows.busOneRow.laid w) ∧ sizedMet enc Tryd.prog Tryd.f3 (OpenSpec.ofChange Rows.busOneSpec) false w args)
      (Rows.busOneSpec.post enc Tryd.prog Tryd.f3 false true false false) := by
  refine returnsInHanded_of_change_and (C := Tryd.checked) (X := fun w _ => laidMetH Tryd.prog Rows.busOneRow.laid w) (fun _ _ _ hh h => h.of_heap hh) own started (by kernel_rfl) Tryd.func3
    (ChangeSpec.witness_shaped (enc := enc) (C := Tryd.checked) (os := os) (X := fun w _ => laidMetH Tryd.prog Rows.busOneRow.laid w) false (World.doorLaid Tryd.prog 280 os) #[.slice none 0 0, .int .i64 0, .int .i64 0, .slice none 0 0, .slice none 0 0] 8 rfl (World.shaped_of_RefB (by kernel_rfl) (by kernel_rfl)) (by kernel_rfl) (by kernel_rfl) (by kernel_rfl) (bone_door os _)) ?_
  intro W base args ds gs before hval0 hW _ _ hL _
  have hval : ∀ (j : Nat) t v, Tryd.f3.params[j]? = some t → args[j]? = some v → Value.okWide Tryd.prog W .any base t v := hval0
  have hW' := hW
  obtain ⟨p, q, hA0, hV, rfl, hfz, hnd⟩ := hW
  have hA : DataW.TrodAll enc Tryd.prog W 0 (fun _ => true) true Tryd.f3.params.toList args.toList ds p := hA0
  rw [Tryd.params3] at hA hval
  obtain ⟨v0, vs1, d0, ds1, p0, q0, e0, rfl, rfl, h0, hA1⟩ := trodAll_cons hA
  obtain ⟨v1, vs2, d1, ds2, p1, q1, rfl, rfl, rfl, h1, hA2⟩ := trodAll_cons hA1
  obtain ⟨v2, vs3, d2, ds3, p2, q2, rfl, rfl, rfl, h2, hA3⟩ := trodAll_cons hA2
  obtain ⟨v3, vs4, d3, ds4, p3, q3, rfl, rfl, rfl, h3, hA4⟩ := trodAll_cons hA3
  obtain ⟨v4, vs5, d4, ds5, p4, q4, rfl, rfl, rfl, h4, hA5⟩ := trodAll_cons hA4
  obtain ⟨rfl, rfl, rfl⟩ := trodAll_nil hA5
  have eargs : args = #[v0, v1, v2, v3, v4] := by cases args; simp_all
  subst eargs
  obtain ⟨rfl, rfl⟩ := trodVars_none hV
  obtain ⟨lo, rfl, rfl, rfl, wl⟩ := open_int Tryd.underlying3 (hval 1 3 v1 rfl rfl) h1
  obtain ⟨s, rfl, rfl, rfl, ws⟩ := open_int Tryd.underlying3 (hval 2 3 v2 rfl rfl) h2
  obtain ⟨xs, hxs, _⟩ := ints_in (hval 0 22 v0 rfl rfl) h0
  obtain ⟨ss, hss, hso⟩ := snts_in (ti := 3) (ts := 9) Tryd.underlying23 Tryd.underlying37 (by kernel_rfl) rfl rfl rfl rfl rfl rfl Tryd.underlying3 Tryd.underlying9 (by kernel_rfl) (by kernel_rfl) (hval 3 23 v3 rfl rfl) h3
  obtain ⟨lost, hlo, _⟩ := ints_in (hval 4 22 v4 rfl rfl) h4
  obtain ⟨e, S⟩ := bone_laid hL
  clear hA0 hval0
  simp only [List.append_nil, List.nil_append] at hW'
  have hlt : ∀ z ∈ p0 ++ (p3 ++ p4), z.block < W.heap.size := fun z hz => by simpa using hW'.lt z (by simpa using hz)
  refine (bone_all e v0 v3 v4 xs lost ss lo s W S hxs hss hso hlo).mono fun E W' ⟨he, hB⟩ => ?_
  subst he
  have h0' : DataW.Trod enc Tryd.prog W' 0 (fun b => decide (b < W.heap.size)) true 22 v0 d0 p0 := Below.trod laidOut (by kernel_rfl) (of_decide_eq_true (by kernel_rfl)) h0 hB fun z hz => hlt z (List.mem_append_left _ hz)
  have h3' : DataW.Trod enc Tryd.prog W' 0 (fun b => decide (b < W.heap.size)) true 23 v3 d3 p3 := Below.trod laidOut (by kernel_rfl) (of_decide_eq_true (by kernel_rfl)) h3 hB fun z hz => hlt z (List.mem_append_right _ (List.mem_append_left _ hz))
  have h4' : DataW.Trod enc Tryd.prog W' 0 (fun b => decide (b < W.heap.size)) true 22 v4 d4 p4 := Below.trod laidOut (by kernel_rfl) (of_decide_eq_true (by kernel_rfl)) h4 hB fun z hz => hlt z (List.mem_append_right _ (List.mem_append_right _ hz))
  have hargs := trodAll_cons_mk h0' (trodAll_cons_mk (shut_int (enc := enc) (P := Tryd.prog) (w := W') (base := 0) (spare := fun b => decide (b < W.heap.size)) (held := true) Tryd.underlying3 wl) (trodAll_cons_mk (shut_int Tryd.underlying3 ws) (trodAll_cons_mk h3' (trodAll_mk1 h4'))))
  simp only [List.nil_append] at hargs
  exact ⟨_, rfl, _, _, _, [], p0 ++ (p3 ++ p4), [], hW', trodAll_mk1 (shut_bool Tryd.underlying4 true), hargs, rfl, hB.frame _, fun h => by cases h⟩

theorem bone_holds : Rows.BusOneSaid :=
  OpenClaim.holds_of_wide 3 Tryd.f3 rfl rfl rfl rfl rfl rfl rfl ⟨rfl, rfl, rfl, rfl, rfl⟩ rfl rfl rfl rfl rfl (by kernel_rfl) Tryd.func3 (by kernel_rfl)
    (of_decide_eq_true (by kernel_rfl)) (by unfold Func.isWrapper; first | (rw [if_pos (by decide +kernel)]; kernel_rfl) | (rw [if_neg (by decide +kernel)]; exact ⟨rfl, rfl⟩))
    (fun os started H enc _ => bone_lifted os started H enc)
theorem bone_card_holds : Rows.BusOneCardSaid :=
  Claim7.holds_tied_plain_at .later [] Rows.busOneCard.laidKinds true Rows.busOneCard.stood.harness true
    bone_holds (fun _ h => by cases h) (by kernel_rfl) (fun _ h => by cases h) busOne_row_tie rfl ⟨rfl, rfl⟩ (by kernel_rfl) rfl
    (fun f fn hf hfn => by
      obtain rfl : f = 3 := Option.some.inj ((show Tryd.prog.funcNamed "bargelock/bargelocklaw2.BusOne" = some 3 by kernel_rfl).symm.trans hf) |>.symm
      obtain rfl : fn = Tryd.f3 := (Option.some.inj (Tryd.func3.symm.trans hfn)).symm
      exact ⟨by kernel_rfl, fun j t ht => by
        rw [Tryd.params3] at ht
        have hm : t ∈ [22, 3, 3, 23, 22] := by simpa using Array.mem_of_getElem? ht
        have hall : ([22, 3, 3, 23, 22].all fun u => !Tryd.prog.wantsStandIn u) = true := by kernel_rfl
        exact (show Tryd.prog.wantsStandIn t = false by simpa using List.all_eq_true.1 hall t hm)⟩)
    (by kernel_rfl)
#print axioms bone_card_holds
end Go.Proofs.YtglhapkclpllfacDoor
