/-
  MemberTells, proved: whatever the plan, the view, what is heard, the node and the value are and whatever lies in memory, the law answers true, and nothing that was there turns: package member tells what the document's answer tells.
  Conditions: the nineteen listed variables start as the program's text lays them (the card ties them).
-/
import Derived.Test.YtglhapkclpllfacGreatDoorRows
import Derived.Test.YtglhapkclpllfacGreatDoorTie
import Derived.Test.YtglhapkclpllfacGreatDoorCards
import Derived.Test.YtglhapkclpllfacGreatDoorGq
import Derived.Test.YtglhapkclpllfacGreatDoorMemberTold
import Derived.Test.YtglhapkclpllfacGreatDoorLaid
import Derived.Test.YtglhapkclpllfacGreatDoorMemberArgs
import Derived.Lib.LaidTab
import Derived.Lay
namespace Go.Proofs.YtglhapkclpllfacGreatDoor
open Go.ChangeMaps Go.ChangeShapes Go.WideShapes Go.ChangeAt Go.WideMaps Go.WideElems Go.RowKit

/-- The listed variables but for the handle. -/
def mtPlain : List (String × DataW Unit) := Rows.memberTellsRow.laid.filter fun x => x.2.handleName?.isNone
theorem mt_plain (os : Os) (args : Array Value) : laidMet Tryz.prog mtPlain (((World.doorLaid Tryz.prog 280 os).layVars Tryz.prog mtPlain).forCall (fun _ _ => 0) ⟨#[], args, []⟩).memory := by
  have e1 : (mtPlain.filter fun x => (mtPlain.map (·.1)).contains x.1) = mtPlain := List.filter_eq_self.2 fun x hx => List.contains_iff_mem.2 (List.mem_map.2 ⟨x, hx, rfl⟩)
  have e2 : (mtPlain.filter fun x => !(mtPlain.map (·.1)).contains x.1) = [] := List.filter_eq_nil_iff.2 fun x hx => by rw [List.contains_iff_mem.2 (List.mem_map.2 ⟨x, hx, rfl⟩)]; simp
  have h : laidMet Tryz.prog mtPlain ((World.doorLaid Tryz.prog 280 os).layVars Tryz.prog mtPlain) := laidMet_layVars (w0 := World.doorLaid Tryz.prog 280 os) (mtPlain.map (·.1)) [] (by rw [e1]) (by rw [e1]; kernel_rfl) (by rw [e1]; kernel_rfl) (by rw [e2]; exact LaidIn.none)
  exact h.of_heap (by simp [World.memory, World.forCall, Input.heap])
theorem mt_door (os : Os) (args : Array Value) : laidMetH Tryz.prog Rows.memberTellsRow.laid (((World.doorLaid Tryz.prog 280 os).layVars Tryz.prog mtPlain).forCall (fun _ _ => 0) ⟨#[], args, []⟩).memory :=
  laidMetH_of_parts3 (fuel := 8) (mt_plain os args) (by kernel_rfl) (by kernel_rfl)
theorem Tryz.nTab : Tryz.prog.globalNamed "math/bits.deBruijn64tab" = some 15 := by kernel_rfl
theorem mt_laid {W : World} (h0 : laidMetH Tryz.prog Rows.memberTellsRow.laid W) (hsh : W.ShapedOpen Tryz.prog) : ∃ a, MOk (eG a) W ∧ Sent a W := by
  obtain ⟨a, S⟩ := sent_of_laid (fun x => apiErrs.any fun y => x.1 == y.1) h0 (by rfl) (by exact List.mem_cons_self)
  obtain ⟨h, _⟩ := laidMetH_iff.1 h0
  have hD : Lib.TabIs Tryz.prog W "math/bits.deBruijn64tab" .u8 (Lib.deBruijn64tab.map fun (n : Nat) => (n : Int)) :=
    Lib.tabIs_of_head (rest := []) Tryz.nTab (by kernel_rfl) Tryz.underlying171 Tryz.underlying5 (by kernel_rfl) (by kernel_rfl) (h.filter fun x => x.1 == "math/bits.deBruijn64tab")
  have hP : Lib.TabIs Tryz.prog W "internal/strconv.uint64pow10" .u64 Lib.pow10Tab :=
    Lib.tabIs_of_head (rest := []) Tryz.nPow (by kernel_rfl) Tryz.underlying168 Tryz.underlying155 (by kernel_rfl) (by kernel_rfl) (h.filter fun x => x.1 == "internal/strconv.uint64pow10")
  obtain ⟨a1, e1⟩ := sent_at h (fun x => x.1 == "strconv.ErrSyntax") ("strconv.ErrSyntax", [105, 110, 118, 97, 108, 105, 100, 32, 115, 121, 110, 116, 97, 120]) (by rfl) (by kernel_rfl)
  obtain ⟨a2, e2⟩ := sent_at h (fun x => x.1 == "strconv.ErrRange") ("strconv.ErrRange", [118, 97, 108, 117, 101, 32, 111, 117, 116, 32, 111, 102, 32, 114, 97, 110, 103, 101]) (by rfl) (by kernel_rfl)
  refine ⟨a, ⟨⟨⟨var_lt Tryz.nTab hD, fun j hj => by
      have := hD.cell Tryz.nTab j (by rw [List.length_map]; exact hj)
      rw [this, List.getD_eq_getElem?_getD, List.getElem?_map, List.getD_eq_getElem?_getD, List.getElem?_eq_getElem hj]; rfl,
    hP, ⟨_, _, e1⟩, ⟨_, _, e2⟩⟩, ⟨S.c0, S.c1, S.c2, S.c3, S.c7⟩, Tryz.laysM146.s1_3 W hsh⟩, S.guard⟩, S⟩
set_option maxRecDepth 100000 in
theorem mt_lifted (os : Os) (started : os.Started) (H : Type) (enc : TypeId × Value → H) :
    ReturnsInHanded {} Tryz.checked os 3 .any (fun w args => (Rows.memberTellsSpec.pre enc Tryz.prog Tryz.f3 [] false w args ∧ laidMetH Tryz.prog Rows.memberTellsRow.laid w) ∧ sizedMet enc Tryz.prog Tryz.f3 (OpenSpec.ofChange Rows.memberTellsSpec) false w args)
      (Rows.memberTellsSpec.post enc Tryz.prog Tryz.f3 false true false false) := by
  refine wrap_shaped (C := Tryz.checked) (X := fun w _ => laidMetH Tryz.prog Rows.memberTellsRow.laid w) (fun _ _ _ hh h => h.of_heap hh) own started (by kernel_rfl) Tryz.func3
    (ChangeSpec.witness_shaped (enc := enc) (C := Tryz.checked) (os := os) (X := fun w _ => laidMetH Tryz.prog Rows.memberTellsRow.laid w) false ((World.doorLaid Tryz.prog 280 os).layVars Tryz.prog mtPlain) #[.slice none 0 0, .agg #[.int .i64 0, .int .i64 0, .int .i64 0], .string ⟨#[]⟩, .int .i64 0, .int .i64 0] 8 ((World.layVars_os _ _ _).trans rfl)
      (World.shaped_of_ZipB (by kernel_rfl) (by kernel_rfl)) (by kernel_rfl) (by kernel_rfl) (by kernel_rfl) (mt_door os _)) ?_
  intro W base args ds gs before hval0 hW hL hsh
  have hval : ∀ (j : Nat) t v, Tryz.f3.params[j]? = some t → args[j]? = some v → Value.okWide Tryz.prog W .any base t v := hval0
  have hW' := hW
  obtain ⟨p, q, hA0, hV, rfl, hfz, hnd⟩ := hW
  have hA : DataW.TrodAll enc Tryz.prog W 0 (fun _ => true) true Tryz.f3.params.toList args.toList ds p := hA0
  rw [Tryz.params3] at hA hval
  obtain ⟨v0, vs1, d0, ds1, p0, q0, e0, rfl, rfl, h0, hA1⟩ := trodAll_cons hA
  obtain ⟨v1, vs2, d1, ds2, p1, q1, rfl, rfl, rfl, h1, hA2⟩ := trodAll_cons hA1
  obtain ⟨v2, vs3, d2, ds3, p2, q2, rfl, rfl, rfl, h2, hA3⟩ := trodAll_cons hA2
  obtain ⟨v3, vs4, d3, ds4, p3, q3, rfl, rfl, rfl, h3, hA4⟩ := trodAll_cons hA3
  obtain ⟨v4, vs5, d4, ds5, p4, q4, rfl, rfl, rfl, h4, hA5⟩ := trodAll_cons hA4
  obtain ⟨rfl, rfl, rfl⟩ := trodAll_nil hA5
  have eargs : args = #[v0, v1, v2, v3, v4] := by cases args; simp_all
  subst eargs
  obtain ⟨rfl, rfl⟩ := trodVars_none hV
  obtain ⟨x, rfl⟩ := view_in (hval 1 24 v1 rfl rfl) h1
  obtain ⟨s, rfl, rfl, rfl, ws⟩ := open_string Tryz.underlying9 (hval 2 9 v2 rfl rfl) h2
  obtain ⟨n, rfl, rfl, rfl, wn⟩ := open_int Tryz.underlying3 (hval 3 3 v3 rfl rfl) h3
  obtain ⟨u, rfl, rfl, rfl, wu⟩ := open_int Tryz.underlying3 (hval 4 3 v4 rfl rfl) h4
  obtain ⟨xs, hxs, _⟩ := ints_inM (hval 0 22 v0 rfl rfl) h0
  obtain ⟨a, m⟩ := mt_laid hL hsh
  clear hA0 hval0
  simp only [List.append_nil] at hW'
  have hlt : ∀ z ∈ p0 ++ p1, z.block < W.heap.size := fun z hz => by simpa using hW'.lt z (by simpa using hz)
  refine (mtells_all (fun w => MOk (eG a) w ∧ Sent a w) a (fun _ m => m.2) ((mprog (eG a)).mono (fun _ m => m.1) fun _ _ m hB => ⟨m.1.below hB, m.2.below hB⟩) (fun _ _ h => (readF_errM h).1) v0 xs x s n u ws W m hxs).mono fun E W' ⟨he, hB⟩ => ?_
  subst he
  have h0' : DataW.Trod enc Tryz.prog W' 0 (fun b => decide (b < W.heap.size)) true 22 v0 d0 p0 := Below.trod laidOut (by kernel_rfl) (of_decide_eq_true (by kernel_rfl)) h0 hB fun z hz => hlt z (List.mem_append_left _ hz)
  have h1' : DataW.Trod enc Tryz.prog W' 0 (fun b => decide (b < W.heap.size)) true 24 x.val d1 p1 := Below.trod laidOut (by kernel_rfl) (of_decide_eq_true (by kernel_rfl)) h1 hB fun z hz => hlt z (List.mem_append_right _ hz)
  have hargs := trodAll_cons_mk h0' (trodAll_cons_mk h1' (trodAll_cons_mk (shut_string Tryz.underlying9 ws) (trodAll_cons_mk (shut_int Tryz.underlying3 wn) (trodAll_mk1 (shut_int Tryz.underlying3 wu)))))
  simp only [List.append_nil] at hargs
  exact ⟨_, rfl, _, _, _, [], p0 ++ p1, [], hW', trodAll_mk1 (shut_bool Tryz.underlying4 true), hargs, rfl, hB.frame _, fun h => by cases h⟩

theorem mt_holds : Rows.MemberTellsSaid :=
  OpenClaim.holds_of_wide 3 Tryz.f3 rfl rfl rfl rfl rfl rfl rfl ⟨rfl, rfl, rfl, rfl, rfl⟩ rfl rfl rfl rfl rfl (by kernel_rfl) Tryz.func3 (by kernel_rfl)
    (of_decide_eq_true (by kernel_rfl)) (by unfold Func.isWrapper; first | (rw [if_pos (by decide +kernel)]; kernel_rfl) | (rw [if_neg (by decide +kernel)]; exact ⟨rfl, rfl⟩))
    (fun os started H enc _ => mt_lifted os started H enc)
theorem mt_card_holds : Rows.MemberTellsCardSaid :=
  Claim7.holds_tied_plain_at .later [] Rows.memberTellsCard.laidKinds true Rows.memberTellsCard.stood.harness true
    mt_holds (fun _ h => by cases h) (by kernel_rfl) (fun _ h => by cases h) memberTells_row_tie rfl ⟨rfl, rfl⟩ (by kernel_rfl) rfl
    (fun f fn hf hfn => by
      obtain rfl : f = 3 := Option.some.inj ((show Tryz.prog.funcNamed "bargelock/bargelocklaw2.MemberTells" = some 3 by kernel_rfl).symm.trans hf) |>.symm
      obtain rfl : fn = Tryz.f3 := (Option.some.inj (Tryz.func3.symm.trans hfn)).symm
      exact ⟨by kernel_rfl, fun j t ht => by
        rw [Tryz.params3] at ht
        have hm : t ∈ [22, 24, 9, 3, 3] := by simpa using Array.mem_of_getElem? ht
        have hall : ([22, 24, 9, 3, 3].all fun u => !Tryz.prog.wantsStandIn u) = true := by kernel_rfl
        exact (show Tryz.prog.wantsStandIn t = false by simpa using List.all_eq_true.1 hall t hm)⟩)
    (by kernel_rfl)
#print axioms mt_card_holds
end Go.Proofs.YtglhapkclpllfacGreatDoor
