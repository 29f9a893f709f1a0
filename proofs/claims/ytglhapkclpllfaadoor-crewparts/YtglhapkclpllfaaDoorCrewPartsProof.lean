/-
  CrewParts, proved: whatever the three numbers are and whatever lies in memory, the law answers true, and nothing that was there turns: a, less b, and what both have, make a; two crews with more than half of a third one each have a node together; a crew is read as it was written.
  Conditions: the eight listed variables start as the program's text lays them (the card ties them).
-/
import Derived.Test.YtglhapkclpllfaaDoorRows
import Derived.Test.YtglhapkclpllfaaDoorTie
import Derived.Test.YtglhapkclpllfaaDoorCards
import Derived.Test.YtglhapkclpllfaaDoorCrewParts
import Derived.Test.YtglhapkclpllfaaDoorSents
import Derived.ProofKit
import Derived.LaidMore
import Derived.OpenShut
import Derived.Stop.Joined
import Derived.SevenTiedAt
import Derived.Lib.LaidTab
namespace Go.Proofs.YtglhapkclpllfaaDoor
open Go.ChangeShapes Go.WideShapes Go.ChangeAt Go.WideMaps Go.WideElems Go.RowKit

theorem own : ownKnob Tryd.prog.godebug = none := by kernel_rfl
theorem parts_door (os : Os) (args : Array Value) : laidMetH Tryd.prog Rows.crewPartsRow.laid ((World.doorLaid Tryd.prog 280 os).forCall (fun _ _ => 0) ⟨#[], args, []⟩).memory :=
  laidMetH_of_parts3 (fuel := 8) (laidMet_of_run' 8 (by kernel_rfl) (by kernel_rfl)) (by kernel_rfl) (by kernel_rfl)
theorem Tryd.nTab : Tryd.prog.globalNamed "math/bits.deBruijn64tab" = some 14 := by kernel_rfl
theorem Tryd.nNode : Tryd.prog.globalNamed "bargelock/api.ErrNode" = some 3 := by kernel_rfl
theorem Tryd.nText : Tryd.prog.globalNamed "bargelock/api.ErrText" = some 0 := by kernel_rfl
theorem Tryd.nBound : Tryd.prog.globalNamed "bargelock/api.ErrBound" = some 1 := by kernel_rfl
theorem sent_cell {W : World} {n : String} {g : Nat} {x : Value} (hg : Tryd.prog.globalNamed n = some g) (h : W.var? Tryd.prog n = some #[x]) : W.cell? ⟨g, 0, none⟩ = some x := by
  simpa using World.var?_cell hg h 0
theorem tab_int : (Lib.tabData .u8 (Lib.deBruijn64tab.map fun (n : Nat) => (n : Int)) : DataW Unit) = Rows.laid_math_bits_deBruijn64tab := rfl
theorem parts_ok {W : World} (h0 : laidMetH Tryd.prog Rows.crewPartsRow.laid W) : CrewOk W := by
  have h : laidMet Tryd.prog Rows.crewPartsRow.laid W := by
    rw [MakeChecks.laidMetH_plain _ _ _ (by kernel_rfl)] at h0
    exact h0
  have hD : Lib.TabIs Tryd.prog W "math/bits.deBruijn64tab" .u8 (Lib.deBruijn64tab.map fun (n : Nat) => (n : Int)) :=
    Lib.tabIs_of_head (rest := []) Tryd.nTab (by kernel_rfl) Tryd.underlying146 Tryd.underlying5 (by kernel_rfl) (by kernel_rfl) (h.filter fun x => x.1 == "math/bits.deBruijn64tab")
  have hP : Lib.TabIs Tryd.prog W "internal/strconv.uint64pow10" .u64 Lib.pow10Tab :=
    Lib.tabIs_of_head (rest := []) Tryd.nPow (by kernel_rfl) Tryd.underlying167 Tryd.underlying119 (by kernel_rfl) (by kernel_rfl) (h.filter fun x => x.1 == "internal/strconv.uint64pow10")
  obtain ⟨a1, e1⟩ := sent_at h (fun x => x.1 == "strconv.ErrSyntax") ("strconv.ErrSyntax", [105, 110, 118, 97, 108, 105, 100, 32, 115, 121, 110, 116, 97, 120]) (by rfl) (by kernel_rfl)
  obtain ⟨a2, e2⟩ := sent_at h (fun x => x.1 == "strconv.ErrRange") ("strconv.ErrRange", [118, 97, 108, 117, 101, 32, 111, 117, 116, 32, 111, 102, 32, 114, 97, 110, 103, 101]) (by rfl) (by kernel_rfl)
  obtain ⟨a3, e3⟩ := sent_at h (fun x => x.1 == "bargelock/api.ErrNode") ("bargelock/api.ErrNode", [98, 97, 114, 103, 101, 108, 111, 99, 107, 58, 32, 110, 111, 100, 101]) (by rfl) (by kernel_rfl)
  obtain ⟨a4, e4⟩ := sent_at h (fun x => x.1 == "bargelock/api.ErrText") ("bargelock/api.ErrText", [98, 97, 114, 103, 101, 108, 111, 99, 107, 58, 32, 116, 101, 120, 116]) (by rfl) (by kernel_rfl)
  obtain ⟨a5, e5⟩ := sent_at h (fun x => x.1 == "bargelock/api.ErrBound") ("bargelock/api.ErrBound", [98, 97, 114, 103, 101, 108, 111, 99, 107, 58, 32, 98, 111, 117, 110, 100]) (by rfl) (by kernel_rfl)
  exact ⟨⟨var_lt Tryd.nTab hD, fun j hj => by
      have := hD.cell Tryd.nTab j (by rw [List.length_map]; exact hj)
      rw [this, List.getD_eq_getElem?_getD, List.getElem?_map, List.getD_eq_getElem?_getD, List.getElem?_eq_getElem hj]; rfl,
    hP, ⟨_, _, e1⟩, ⟨_, _, e2⟩⟩, ⟨_, _, sent_cell Tryd.nNode e3⟩, ⟨_, _, sent_cell Tryd.nText e4⟩, ⟨_, _, sent_cell Tryd.nBound e5⟩⟩

set_option maxRecDepth 100000 in
theorem parts_lifted (os : Os) (started : os.Started) (H : Type) (enc : TypeId × Value → H) :
    ReturnsInHanded {} Tryd.checked os 4 .any (fun w args => (Rows.crewPartsSpec.pre enc Tryd.prog Tryd.f4 [] false w args ∧ laidMetH Tryd.prog Rows.crewPartsRow.laid w) ∧ sizedMet enc Tryd.prog Tryd.f4 (OpenSpec.ofChange Rows.crewPartsSpec) false w args)
      (Rows.crewPartsSpec.post enc Tryd.prog Tryd.f4 false true false false) := by
  refine returnsInHanded_of_change_and (C := Tryd.checked) (X := fun w _ => laidMetH Tryd.prog Rows.crewPartsRow.laid w) (fun _ _ _ hh h => h.of_heap hh) own started (by kernel_rfl) Tryd.func4
    (ChangeSpec.witness_shaped (enc := enc) (C := Tryd.checked) (os := os) (X := fun w _ => laidMetH Tryd.prog Rows.crewPartsRow.laid w) false (World.doorLaid Tryd.prog 280 os) #[.int .i64 0, .int .i64 0, .int .i64 0] 8 rfl (World.shaped_of_RefB (by kernel_rfl) (by kernel_rfl)) (by kernel_rfl) (by kernel_rfl) (by kernel_rfl) (parts_door os _)) ?_
  intro W base args ds gs before hval0 hW _ _ hL _
  have hval : ∀ (j : Nat) t v, Tryd.f4.params[j]? = some t → args[j]? = some v → Value.okWide Tryd.prog W .any base t v := hval0
  have hW' := hW
  obtain ⟨p, q, hA0, hV, rfl, hfz, hnd⟩ := hW
  have hA : DataW.TrodAll enc Tryd.prog W 0 (fun _ => true) true Tryd.f4.params.toList args.toList ds p := hA0
  rw [Tryd.params4] at hA hval
  obtain ⟨v0, v1, v2, d0, d1, d2, p0, p1, p2, rfl, rfl, rfl, h0, h1, h2⟩ := trodAll_three hA
  obtain ⟨rfl, rfl⟩ := trodVars_none hV
  obtain ⟨a, rfl, rfl, rfl, wa⟩ := open_int Tryd.underlying3 (hval 0 3 v0 rfl rfl) h0
  obtain ⟨b, rfl, rfl, rfl, wb⟩ := open_int Tryd.underlying3 (hval 1 3 v1 rfl rfl) h1
  obtain ⟨c, rfl, rfl, rfl, wc⟩ := open_int Tryd.underlying3 (hval 2 3 v2 rfl rfl) h2
  have C := parts_ok hL
  clear hA0 hval0
  simp only [List.append_nil] at hW'
  refine (parts_walk a b c W C).mono fun e W' ⟨he, hB⟩ => ?_
  subst he
  exact ⟨_, rfl, _, _, _, [], [], [], hW', trodAll_mk1 (shut_bool Tryd.underlying4 true), trodAll_mk3 (shut_int Tryd.underlying3 wa) (shut_int Tryd.underlying3 wb) (shut_int Tryd.underlying3 wc), rfl, hB.frame _, fun h => by cases h⟩

theorem parts_holds : Rows.CrewPartsSaid :=
  OpenClaim.holds_of_wide 4 Tryd.f4 rfl rfl rfl rfl rfl rfl rfl ⟨rfl, rfl, rfl, rfl, rfl⟩ rfl rfl rfl rfl rfl (by kernel_rfl) Tryd.func4 (by kernel_rfl)
    (of_decide_eq_true (by kernel_rfl)) (by unfold Func.isWrapper; first | (rw [if_pos (by decide +kernel)]; kernel_rfl) | (rw [if_neg (by decide +kernel)]; exact ⟨rfl, rfl⟩))
    (fun os started H enc _ => parts_lifted os started H enc)
theorem parts_card_holds : Rows.CrewPartsCardSaid :=
  Claim7.holds_tied_plain_at .later [] Rows.crewPartsCard.laidKinds true Rows.crewPartsCard.stood.harness true
    parts_holds (fun _ h => by cases h) (by kernel_rfl) (fun _ h => by cases h) crewParts_row_tie rfl ⟨rfl, rfl⟩ (by kernel_rfl) rfl
    (fun f fn hf hfn => by
      obtain rfl : f = 4 := Option.some.inj ((show Tryd.prog.funcNamed "bargelock/bargelocklaw1.CrewParts" = some 4 by kernel_rfl).symm.trans hf) |>.symm
      obtain rfl : fn = Tryd.f4 := (Option.some.inj (Tryd.func4.symm.trans hfn)).symm
      exact ⟨by kernel_rfl, fun j t ht => by
        rw [Tryd.params4] at ht
        have hm : t ∈ [3, 3, 3] := by simpa using Array.mem_of_getElem? ht
        have hall : ([3, 3, 3].all fun u => !Tryd.prog.wantsStandIn u) = true := by kernel_rfl
        exact (show Tryd.prog.wantsStandIn t = false by simpa using List.all_eq_true.1 hall t hm)⟩)
    (by kernel_rfl)
#print axioms parts_card_holds
end Go.Proofs.YtglhapkclpllfaaDoor
