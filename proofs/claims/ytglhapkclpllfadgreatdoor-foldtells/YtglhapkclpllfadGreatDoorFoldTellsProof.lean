/-
  FoldTells, proved: whatever the history and the text are and whatever lies in memory, the law answers true, and nothing that was there turns: package fold tells what the document's answer tells.
  Conditions: the nineteen listed variables start as the program's text lays them (the card ties them).
-/
import Derived.Test.YtglhapkclpllfadGreatDoorRows
import Derived.Test.YtglhapkclpllfadGreatDoorTie
import Derived.Test.YtglhapkclpllfadGreatDoorCards
import Derived.Test.YtglhapkclpllfadGreatDoorFold4
import Derived.Test.YtglhapkclpllfadGreatDoorFoldTold
import Derived.Test.YtglhapkclpllfadGreatDoorLaid
import Derived.Test.YtglhapkclpllfadGreatDoorFrameArgs
import Derived.Lib.LaidTab
import Derived.Lay
namespace Go.Proofs.YtglhapkclpllfadGreatDoor
open Go.ChangeMaps Go.ChangeShapes Go.WideShapes Go.ChangeAt Go.WideMaps Go.WideElems Go.RowKit

/-- The listed variables but for the handle. -/
def ftPlain : List (String × DataW Unit) := Rows.foldTellsRow.laid.filter fun x => x.2.handleName?.isNone
theorem ft_plain (os : Os) (args : Array Value) : laidMet Tryz.prog ftPlain (((World.doorLaid Tryz.prog 280 os).layVars Tryz.prog ftPlain).forCall (fun _ _ => 0) ⟨#[], args, []⟩).memory := by
  have e1 : (ftPlain.filter fun x => (ftPlain.map (·.1)).contains x.1) = ftPlain := List.filter_eq_self.2 fun x hx => List.contains_iff_mem.2 (List.mem_map.2 ⟨x, hx, rfl⟩)
  have e2 : (ftPlain.filter fun x => !(ftPlain.map (·.1)).contains x.1) = [] := List.filter_eq_nil_iff.2 fun x hx => by rw [List.contains_iff_mem.2 (List.mem_map.2 ⟨x, hx, rfl⟩)]; simp
  have h : laidMet Tryz.prog ftPlain ((World.doorLaid Tryz.prog 280 os).layVars Tryz.prog ftPlain) := laidMet_layVars (w0 := World.doorLaid Tryz.prog 280 os) (ftPlain.map (·.1)) [] (by rw [e1]) (by rw [e1]; kernel_rfl) (by rw [e1]; kernel_rfl) (by rw [e2]; exact LaidIn.none)
  exact h.of_heap (by simp [World.memory, World.forCall, Input.heap])
theorem ft_door (os : Os) (args : Array Value) : laidMetH Tryz.prog Rows.foldTellsRow.laid (((World.doorLaid Tryz.prog 280 os).layVars Tryz.prog ftPlain).forCall (fun _ _ => 0) ⟨#[], args, []⟩).memory :=
  laidMetH_of_parts3 (fuel := 8) (ft_plain os args) (by kernel_rfl) (by kernel_rfl)
theorem Tryz.nTab : Tryz.prog.globalNamed "math/bits.deBruijn64tab" = some 19 := by kernel_rfl
theorem ft_laid {W : World} (h0 : laidMetH Tryz.prog Rows.foldTellsRow.laid W) (hsh : W.ShapedOpen Tryz.prog) : ∃ a, FoSent (eF a) W ∧ Sent a W := by
  obtain ⟨a, S⟩ := sent_of_laid (fun x => apiErrs.any fun y => x.1 == y.1) h0 (by rfl) (by exact List.mem_cons_self)
  obtain ⟨h, _⟩ := laidMetH_iff.1 h0
  have hD : Lib.TabIs Tryz.prog W "math/bits.deBruijn64tab" .u8 (Lib.deBruijn64tab.map fun (n : Nat) => (n : Int)) :=
    Lib.tabIs_of_head (rest := []) Tryz.nTab (by kernel_rfl) Tryz.underlying165 Tryz.underlying5 (by kernel_rfl) (by kernel_rfl) (h.filter fun x => x.1 == "math/bits.deBruijn64tab")
  have hP : Lib.TabIs Tryz.prog W "internal/strconv.uint64pow10" .u64 Lib.pow10Tab :=
    Lib.tabIs_of_head (rest := []) Tryz.nPow (by kernel_rfl) Tryz.underlying140 Tryz.underlying127 (by kernel_rfl) (by kernel_rfl) (h.filter fun x => x.1 == "internal/strconv.uint64pow10")
  obtain ⟨a1, e1⟩ := sent_at h (fun x => x.1 == "strconv.ErrSyntax") ("strconv.ErrSyntax", [105, 110, 118, 97, 108, 105, 100, 32, 115, 121, 110, 116, 97, 120]) (by rfl) (by kernel_rfl)
  obtain ⟨a2, e2⟩ := sent_at h (fun x => x.1 == "strconv.ErrRange") ("strconv.ErrRange", [118, 97, 108, 117, 101, 32, 111, 117, 116, 32, 111, 102, 32, 114, 97, 110, 103, 101]) (by rfl) (by kernel_rfl)
  refine ⟨a, ⟨⟨S.c1, S.c2, S.c3, S.c6, S.c9⟩, S.c0, ⟨var_lt Tryz.nTab hD, fun j hj => by
      have := hD.cell Tryz.nTab j (by rw [List.length_map]; exact hj)
      rw [this, List.getD_eq_getElem?_getD, List.getElem?_map, List.getD_eq_getElem?_getD, List.getElem?_eq_getElem hj]; rfl,
    hP, ⟨_, _, e1⟩, ⟨_, _, e2⟩⟩, Tryz.laysM146.s1_3 W hsh⟩, S⟩
set_option maxRecDepth 100000 in
theorem ft_lifted (os : Os) (started : os.Started) (H : Type) (enc : TypeId × Value → H) :
    ReturnsInHanded {} Tryz.checked os 3 .any (fun w args => (Rows.foldTellsSpec.pre enc Tryz.prog Tryz.f3 [] false w args ∧ laidMetH Tryz.prog Rows.foldTellsRow.laid w) ∧ sizedMet enc Tryz.prog Tryz.f3 (OpenSpec.ofChange Rows.foldTellsSpec) false w args)
      (Rows.foldTellsSpec.post enc Tryz.prog Tryz.f3 false true false false) := by
  refine wrap_shaped (C := Tryz.checked) (X := fun w _ => laidMetH Tryz.prog Rows.foldTellsRow.laid w) (fun _ _ _ hh h => h.of_heap hh) own started (by kernel_rfl) Tryz.func3
    (ChangeSpec.witness_shaped (enc := enc) (C := Tryz.checked) (os := os) (X := fun w _ => laidMetH Tryz.prog Rows.foldTellsRow.laid w) false ((World.doorLaid Tryz.prog 280 os).layVars Tryz.prog ftPlain) #[.slice none 0 0, .string ⟨#[]⟩] 8 ((World.layVars_os _ _ _).trans rfl)
      (World.shaped_of_ZipB (by kernel_rfl) (by kernel_rfl)) (by kernel_rfl) (by kernel_rfl) (by kernel_rfl) (ft_door os _)) ?_
  intro W base args ds gs before hval0 hW hL hsh
  have hval : ∀ (j : Nat) t v, Tryz.f3.params[j]? = some t → args[j]? = some v → Value.okWide Tryz.prog W .any base t v := hval0
  have hW' := hW
  obtain ⟨p, q, hA0, hV, rfl, hfz, hnd⟩ := hW
  have hA : DataW.TrodAll enc Tryz.prog W 0 (fun _ => true) true Tryz.f3.params.toList args.toList ds p := hA0
  rw [Tryz.params3] at hA hval
  obtain ⟨v0, v1, d0, d1, p0, p1, rfl, rfl, rfl, h0, h1⟩ := trodAll_two hA
  obtain ⟨rfl, rfl⟩ := trodVars_none hV
  obtain ⟨s, rfl, rfl, rfl, ws⟩ := open_string Tryz.underlying9 (hval 1 9 v1 rfl rfl) h1
  obtain ⟨l, hl, _⟩ := ents_in (ti := 3) (tb := 4) Tryz.underlying22 Tryz.underlying48 (by kernel_rfl) rfl rfl rfl rfl rfl rfl rfl rfl Tryz.underlying3 Tryz.underlying4 (by kernel_rfl) (by kernel_rfl) (hval 0 22 v0 rfl rfl) h0
  obtain ⟨a, m⟩ := ft_laid hL hsh
  clear hA0 hval0
  simp only [List.append_nil] at hW'
  have hlt : ∀ z ∈ p0, z.block < W.heap.size := fun z hz => by simpa using hW'.lt z (by simpa using hz)
  refine (ftells_all a (fun w => FoSent (eF a) w ∧ Sent a w) (fun _ m => m.2) ((foldP (eF a)).mono (fun _ m => m.1) fun _ _ m hB => ⟨m.1.below hB, m.2.below hB⟩) v0 l s ws W m hl).mono fun E W' ⟨he, hB⟩ => ?_
  subst he
  have h0' : DataW.Trod enc Tryz.prog W' 0 (fun b => decide (b < W.heap.size)) true 22 v0 d0 p0 := Below.trod laidOut (by kernel_rfl) (of_decide_eq_true (by kernel_rfl)) h0 hB hlt
  have hargs := trodAll_cons_mk h0' (trodAll_mk1 (shut_string Tryz.underlying9 ws))
  simp only [List.append_nil] at hargs
  exact ⟨_, rfl, _, _, _, [], p0, [], hW', trodAll_mk1 (shut_bool Tryz.underlying4 true), hargs, rfl, hB.frame _, fun h => by cases h⟩

theorem ft_holds : Rows.FoldTellsSaid :=
  OpenClaim.holds_of_wide 3 Tryz.f3 rfl rfl rfl rfl rfl rfl rfl ⟨rfl, rfl, rfl, rfl, rfl⟩ rfl rfl rfl rfl rfl (by kernel_rfl) Tryz.func3 (by kernel_rfl)
    (of_decide_eq_true (by kernel_rfl)) (by unfold Func.isWrapper; first | (rw [if_pos (by decide +kernel)]; kernel_rfl) | (rw [if_neg (by decide +kernel)]; exact ⟨rfl, rfl⟩))
    (fun os started H enc _ => ft_lifted os started H enc)
theorem ft_card_holds : Rows.FoldTellsCardSaid :=
  Claim7.holds_tied_plain_at .later [] Rows.foldTellsCard.laidKinds true Rows.foldTellsCard.stood.harness true
    ft_holds (fun _ h => by cases h) (by kernel_rfl) (fun _ h => by cases h) foldTells_row_tie rfl ⟨rfl, rfl⟩ (by kernel_rfl) rfl
    (fun f fn hf hfn => by
      obtain rfl : f = 3 := Option.some.inj ((show Tryz.prog.funcNamed "bargelock/bargelocklaw2.FoldTells" = some 3 by kernel_rfl).symm.trans hf) |>.symm
      obtain rfl : fn = Tryz.f3 := (Option.some.inj (Tryz.func3.symm.trans hfn)).symm
      exact ⟨by kernel_rfl, fun j t ht => by
        rw [Tryz.params3] at ht
        have hm : t ∈ [22, 9] := by simpa using Array.mem_of_getElem? ht
        have hall : ([22, 9].all fun u => !Tryz.prog.wantsStandIn u) = true := by kernel_rfl
        exact (show Tryz.prog.wantsStandIn t = false by simpa using List.all_eq_true.1 hall t hm)⟩)
    (by kernel_rfl)
#print axioms ft_card_holds
end Go.Proofs.YtglhapkclpllfadGreatDoor
