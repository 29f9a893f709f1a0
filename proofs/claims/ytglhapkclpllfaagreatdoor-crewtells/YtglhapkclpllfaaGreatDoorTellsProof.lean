/-
  CrewTells, proved: whatever the numbers, the list and the text are and whatever lies in memory, the law answers true, and nothing that was there turns: package crew tells of crews what the document's answer tells.
  Conditions: the seventeen listed variables start as the program's text lays them (the card ties them).
-/
import Derived.Test.YtglhapkclpllfaaGreatDoorRows
import Derived.Test.YtglhapkclpllfaaGreatDoorTie
import Derived.Test.YtglhapkclpllfaaGreatDoorCards
import Derived.Test.YtglhapkclpllfaaGreatDoorTellsWalk
import Derived.Test.YtglhapkclpllfaaGreatDoorLaid
import Derived.Test.YtglhapkclpllfaaGreatDoorArgs
import Derived.ProofKit
import Derived.LaidMore
import Derived.OpenShut
import Derived.Stop.Joined
import Derived.SevenTiedAt
import Derived.Lib.LaidTab
namespace Go.Proofs.YtglhapkclpllfaaGreatDoor
open Go.ChangeMaps Go.ChangeShapes Go.WideShapes Go.ChangeAt Go.WideMaps Go.WideElems Go.RowKit

theorem tells_door (os : Os) (args : Array Value) : laidMetH Tryz.prog Rows.crewTellsRow.laid ((World.doorLaid Tryz.prog 270 os).forCall (fun _ _ => 0) ⟨#[], args, []⟩).memory :=
  laidMetH_of_parts3 (fuel := 8) (laidMet_of_run' 8 (by kernel_rfl) (by kernel_rfl)) (by kernel_rfl) (by kernel_rfl)
theorem Tryz.nTab : Tryz.prog.globalNamed "math/bits.deBruijn64tab" = some 13 := by kernel_rfl
theorem tells_ok {W : World} (h0 : laidMetH Tryz.prog Rows.crewTellsRow.laid W) : ∃ a, TellOk a W := by
  obtain ⟨a, S⟩ := sent_of_laid (fun x => apiErrs.any fun y => x.1 == y.1) h0 (by rfl) (by exact List.mem_cons_self)
  obtain ⟨h, _⟩ := laidMetH_iff.1 h0
  have hD : Lib.TabIs Tryz.prog W "math/bits.deBruijn64tab" .u8 (Lib.deBruijn64tab.map fun (n : Nat) => (n : Int)) :=
    Lib.tabIs_of_head (rest := []) Tryz.nTab (by kernel_rfl) Tryz.underlying119 Tryz.underlying5 (by kernel_rfl) (by kernel_rfl) (h.filter fun x => x.1 == "math/bits.deBruijn64tab")
  have hP : Lib.TabIs Tryz.prog W "internal/strconv.uint64pow10" .u64 Lib.pow10Tab :=
    Lib.tabIs_of_head (rest := []) Tryz.nPow (by kernel_rfl) Tryz.underlying134 Tryz.underlying78 (by kernel_rfl) (by kernel_rfl) (h.filter fun x => x.1 == "internal/strconv.uint64pow10")
  obtain ⟨a1, e1⟩ := sent_at h (fun x => x.1 == "strconv.ErrSyntax") ("strconv.ErrSyntax", [105, 110, 118, 97, 108, 105, 100, 32, 115, 121, 110, 116, 97, 120]) (by rfl) (by kernel_rfl)
  obtain ⟨a2, e2⟩ := sent_at h (fun x => x.1 == "strconv.ErrRange") ("strconv.ErrRange", [118, 97, 108, 117, 101, 32, 111, 117, 116, 32, 111, 102, 32, 114, 97, 110, 103, 101]) (by rfl) (by kernel_rfl)
  exact ⟨a, ⟨var_lt Tryz.nTab hD, fun j hj => by
      have := hD.cell Tryz.nTab j (by rw [List.length_map]; exact hj)
      rw [this, List.getD_eq_getElem?_getD, List.getElem?_map, List.getD_eq_getElem?_getD, List.getElem?_eq_getElem hj]; rfl,
    hP, ⟨_, _, e1⟩, ⟨_, _, e2⟩⟩, S⟩

set_option maxRecDepth 100000 in
theorem tells_lifted (os : Os) (started : os.Started) (H : Type) (enc : TypeId × Value → H) :
    ReturnsInHanded {} Tryz.checked os 3 .any (fun w args => (Rows.crewTellsSpec.pre enc Tryz.prog Tryz.f3 [] false w args ∧ laidMetH Tryz.prog Rows.crewTellsRow.laid w) ∧ sizedMet enc Tryz.prog Tryz.f3 (OpenSpec.ofChange Rows.crewTellsSpec) false w args)
      (Rows.crewTellsSpec.post enc Tryz.prog Tryz.f3 false true false false) := by
  refine returnsInHanded_of_change_and (C := Tryz.checked) (X := fun w _ => laidMetH Tryz.prog Rows.crewTellsRow.laid w) (fun _ _ _ hh h => h.of_heap hh) own started (by kernel_rfl) Tryz.func3
    (ChangeSpec.witness_shaped (enc := enc) (C := Tryz.checked) (os := os) (X := fun w _ => laidMetH Tryz.prog Rows.crewTellsRow.laid w) false (World.doorLaid Tryz.prog 270 os) #[.int .i64 0, .int .i64 0, .int .i64 0, .slice none 0 0, .string ⟨#[]⟩] 8 rfl (World.shaped_of_RefB (by kernel_rfl) (by kernel_rfl)) (by kernel_rfl) (by kernel_rfl) (by kernel_rfl) (tells_door os _)) ?_
  intro W base args ds gs before hval0 hW _ _ hL _
  have hval : ∀ (j : Nat) t v, Tryz.f3.params[j]? = some t → args[j]? = some v → Value.okWide Tryz.prog W .any base t v := hval0
  have hW' := hW
  obtain ⟨p, q, hA0, hV, rfl, hfz, hnd⟩ := hW
  have hA : DataW.TrodAll enc Tryz.prog W 0 (fun _ => true) true Tryz.f3.params.toList args.toList ds p := hA0
  rw [Tryz.params3] at hA hval
  obtain ⟨v0, vs1, d0, ds1, p0, q0, e0, rfl, rfl, h0, hA1⟩ := trodAll_cons hA
  obtain ⟨v1, vs2, d1, ds2, p1, q1, rfl, rfl, rfl, h1, hA2⟩ := trodAll_cons hA1
  obtain ⟨v2, vs3, d2, ds3, p2, q2, rfl, rfl, rfl, h2, hA3⟩ := trodAll_cons hA2
  obtain ⟨v3, vs4, d3, ds4, p3, q3, rfl, rfl, rfl, h3, hA4⟩ := trodAll_cons hA3
  obtain ⟨v4, vs5, d4, ds5, p4, q4, rfl, rfl, rfl, h4, hA5⟩ := trodAll_cons hA4
  obtain ⟨rfl, rfl, rfl⟩ := trodAll_nil hA5
  have eargs : args = #[v0, v1, v2, v3, v4] := by cases args; simp_all
  subst eargs
  obtain ⟨rfl, rfl⟩ := trodVars_none hV
  obtain ⟨x, rfl, rfl, rfl, wx⟩ := open_int Tryz.underlying3 (hval 0 3 v0 rfl rfl) h0
  obtain ⟨y, rfl, rfl, rfl, wy⟩ := open_int Tryz.underlying3 (hval 1 3 v1 rfl rfl) h1
  obtain ⟨n, rfl, rfl, rfl, wn⟩ := open_int Tryz.underlying3 (hval 2 3 v2 rfl rfl) h2
  obtain ⟨s, rfl, rfl, rfl, ws⟩ := open_string Tryz.underlying9 (hval 4 9 v4 rfl rfl) h4
  obtain ⟨xs, hxs, hxw⟩ := ints_in (hval 3 22 v3 rfl rfl) h3
  obtain ⟨a, T⟩ := tells_ok hL
  clear hA0 hval0
  simp only [List.append_nil, List.nil_append] at hW'
  have hlt : ∀ z ∈ p3, z.block < W.heap.size := fun z hz => by simpa using hW'.lt z (by simpa using hz)
  refine (tells_walk a x y n v3 xs s W T hxs hxw).mono fun e W' ⟨he, hB⟩ => ?_
  subst he
  have h3' : DataW.Trod enc Tryz.prog W' 0 (fun b => decide (b < W.heap.size)) true 22 v3 d3 p3 := Below.trod laidOut (by kernel_rfl) (of_decide_eq_true (by kernel_rfl)) h3 hB hlt
  have hargs := trodAll_cons_mk (shut_int (enc := enc) (P := Tryz.prog) (w := W') (base := 0) (spare := fun b => decide (b < W.heap.size)) (held := true) Tryz.underlying3 wx) (trodAll_cons_mk (shut_int Tryz.underlying3 wy) (trodAll_cons_mk (shut_int Tryz.underlying3 wn) (trodAll_cons_mk h3' (trodAll_mk1 (shut_string Tryz.underlying9 ws)))))
  simp only [List.append_nil, List.nil_append] at hargs
  exact ⟨_, rfl, _, _, _, [], p3, [], hW', trodAll_mk1 (shut_bool Tryz.underlying4 true), hargs, rfl, hB.frame _, fun h => by cases h⟩

theorem tells_holds : Rows.CrewTellsSaid :=
  OpenClaim.holds_of_wide 3 Tryz.f3 rfl rfl rfl rfl rfl rfl rfl ⟨rfl, rfl, rfl, rfl, rfl⟩ rfl rfl rfl rfl rfl (by kernel_rfl) Tryz.func3 (by kernel_rfl)
    (of_decide_eq_true (by kernel_rfl)) (by unfold Func.isWrapper; first | (rw [if_pos (by decide +kernel)]; kernel_rfl) | (rw [if_neg (by decide +kernel)]; exact ⟨rfl, rfl⟩))
    (fun os started H enc _ => tells_lifted os started H enc)
theorem tells_card_holds : Rows.CrewTellsCardSaid :=
  Claim7.holds_tied_plain_at .later [] Rows.crewTellsCard.laidKinds true Rows.crewTellsCard.stood.harness true
    tells_holds (fun _ h => by cases h) (by kernel_rfl) (fun _ h => by cases h) crewTells_row_tie rfl ⟨rfl, rfl⟩ (by kernel_rfl) rfl
    (fun f fn hf hfn => by
      obtain rfl : f = 3 := Option.some.inj ((show Tryz.prog.funcNamed "bargelock/bargelocklaw1.CrewTells" = some 3 by kernel_rfl).symm.trans hf) |>.symm
      obtain rfl : fn = Tryz.f3 := (Option.some.inj (Tryz.func3.symm.trans hfn)).symm
      exact ⟨by kernel_rfl, fun j t ht => by
        rw [Tryz.params3] at ht
        have hm : t ∈ [3, 3, 3, 22, 9] := by simpa using Array.mem_of_getElem? ht
        have hall : ([3, 3, 3, 22, 9].all fun u => !Tryz.prog.wantsStandIn u) = true := by kernel_rfl
        exact (show Tryz.prog.wantsStandIn t = false by simpa using List.all_eq_true.1 hall t hm)⟩)
    (by kernel_rfl)
#print axioms tells_card_holds
end Go.Proofs.YtglhapkclpllfaaGreatDoor
