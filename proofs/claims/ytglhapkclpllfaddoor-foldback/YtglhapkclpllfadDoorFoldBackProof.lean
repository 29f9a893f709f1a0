/-
  FoldBack, proved: whatever the history and the cut are and whatever lies in memory, the law answers true, and nothing that was there turns: what is written is read; what was heard first, and then, is the last of both.
  Conditions: the thirteen listed variables start as the program's text lays them (the card ties them).
-/
import Derived.Test.YtglhapkclpllfadDoorRows
import Derived.Test.YtglhapkclpllfadDoorTie
import Derived.Test.YtglhapkclpllfadDoorCards
import Derived.Test.YtglhapkclpllfadDoorFold4
import Derived.Test.YtglhapkclpllfadDoorFoldBack
import Derived.Test.YtglhapkclpllfadDoorFoldFact
import Derived.Test.YtglhapkclpllfadDoorSents
import Derived.Test.YtglhapkclpllfadDoorFrameArgs
import Derived.Lib.LaidTab
import Derived.Lay
namespace Go.Proofs.YtglhapkclpllfadDoor
open Go.ChangeMaps Go.ChangeShapes Go.WideShapes Go.ChangeAt Go.WideMaps Go.WideElems Go.RowKit

theorem Tryd.nTab : Tryd.prog.globalNamed "math/bits.deBruijn64tab" = some 19 := by kernel_rfl
theorem Tryd.nText : Tryd.prog.globalNamed "bargelock/api.ErrText" = some 2 := by kernel_rfl
theorem Tryd.nBound : Tryd.prog.globalNamed "bargelock/api.ErrBound" = some 1 := by kernel_rfl
theorem Tryd.nShape : Tryd.prog.globalNamed "bargelock/api.ErrShape" = some 5 := by kernel_rfl
theorem Tryd.nNode : Tryd.prog.globalNamed "bargelock/api.ErrNode" = some 6 := by kernel_rfl
theorem Tryd.nFull : Tryd.prog.globalNamed "bargelock/api.ErrFull" = some 0 := by kernel_rfl
theorem Tryd.nGap : Tryd.prog.globalNamed "bargelock/api.ErrGap" = some 3 := by kernel_rfl
theorem fback_laid {W : World} (h0 : laidMetH Tryd.prog Rows.foldBackRow.laid W) (hsh : W.ShapedOpen Tryd.prog) : ∃ e, FoSent e W := by
  have h : laidMet Tryd.prog Rows.foldBackRow.laid W := by
    rw [MakeChecks.laidMetH_plain _ _ _ (by kernel_rfl)] at h0
    exact h0
  have hD : Lib.TabIs Tryd.prog W "math/bits.deBruijn64tab" .u8 (Lib.deBruijn64tab.map fun (n : Nat) => (n : Int)) :=
    Lib.tabIs_of_head (rest := []) Tryd.nTab (by kernel_rfl) Tryd.underlying195 Tryd.underlying5 (by kernel_rfl) (by kernel_rfl) (h.filter fun x => x.1 == "math/bits.deBruijn64tab")
  have hP : Lib.TabIs Tryd.prog W "internal/strconv.uint64pow10" .u64 Lib.pow10Tab :=
    Lib.tabIs_of_head (rest := []) Tryd.nPow (by kernel_rfl) Tryd.underlying170 Tryd.underlying157 (by kernel_rfl) (by kernel_rfl) (h.filter fun x => x.1 == "internal/strconv.uint64pow10")
  obtain ⟨a1, e1⟩ := sent_at h (fun x => x.1 == "strconv.ErrSyntax") ("strconv.ErrSyntax", [105, 110, 118, 97, 108, 105, 100, 32, 115, 121, 110, 116, 97, 120]) (by rfl) (by kernel_rfl)
  obtain ⟨a2, e2⟩ := sent_at h (fun x => x.1 == "strconv.ErrRange") ("strconv.ErrRange", [118, 97, 108, 117, 101, 32, 111, 117, 116, 32, 111, 102, 32, 114, 97, 110, 103, 101]) (by rfl) (by kernel_rfl)
  obtain ⟨b0, t0⟩ := sent_at h (fun x => x.1 == "bargelock/api.ErrText") ("bargelock/api.ErrText", [98, 97, 114, 103, 101, 108, 111, 99, 107, 58, 32, 116, 101, 120, 116]) (by rfl) (by kernel_rfl)
  obtain ⟨b1, t1⟩ := sent_at h (fun x => x.1 == "bargelock/api.ErrBound") ("bargelock/api.ErrBound", [98, 97, 114, 103, 101, 108, 111, 99, 107, 58, 32, 98, 111, 117, 110, 100]) (by rfl) (by kernel_rfl)
  obtain ⟨b2, t2⟩ := sent_at h (fun x => x.1 == "bargelock/api.ErrShape") ("bargelock/api.ErrShape", [98, 97, 114, 103, 101, 108, 111, 99, 107, 58, 32, 115, 104, 97, 112, 101]) (by rfl) (by kernel_rfl)
  obtain ⟨b3, t3⟩ := sent_at h (fun x => x.1 == "bargelock/api.ErrNode") ("bargelock/api.ErrNode", [98, 97, 114, 103, 101, 108, 111, 99, 107, 58, 32, 110, 111, 100, 101]) (by rfl) (by kernel_rfl)
  obtain ⟨b6, t6⟩ := sent_at h (fun x => x.1 == "bargelock/api.ErrFull") ("bargelock/api.ErrFull", [98, 97, 114, 103, 101, 108, 111, 99, 107, 58, 32, 102, 117, 108, 108]) (by rfl) (by kernel_rfl)
  obtain ⟨b9, t9⟩ := sent_at h (fun x => x.1 == "bargelock/api.ErrGap") ("bargelock/api.ErrGap", [98, 97, 114, 103, 101, 108, 111, 99, 107, 58, 32, 103, 97, 112]) (by rfl) (by kernel_rfl)
  refine ⟨fun k => (198, .pointer (some (if k = 0 then b0 else if k = 1 then b1 else if k = 2 then b2 else if k = 3 then b3 else if k = 6 then b6 else b9))), ⟨⟨?_, ?_, ?_, ?_, ?_⟩, ?_, ⟨var_lt Tryd.nTab hD, fun j hj => by
      have := hD.cell Tryd.nTab j (by rw [List.length_map]; exact hj)
      rw [this, List.getD_eq_getElem?_getD, List.getElem?_map, List.getD_eq_getElem?_getD, List.getElem?_eq_getElem hj]; rfl,
    hP, ⟨_, _, e1⟩, ⟨_, _, e2⟩⟩, Tryd.laysM146.s1_3 W hsh⟩⟩
  · simpa using sent_cell Tryd.nBound t1
  · simpa using sent_cell Tryd.nShape t2
  · simpa using sent_cell Tryd.nNode t3
  · simpa using sent_cell Tryd.nFull t6
  · simpa using sent_cell Tryd.nGap t9
  · simpa using sent_cell Tryd.nText t0
set_option maxRecDepth 100000 in
theorem fback_lifted (os : Os) (started : os.Started) (H : Type) (enc : TypeId × Value → H) :
    ReturnsInHanded {} Tryd.checked os 4 .any (fun w args => (Rows.foldBackSpec.pre enc Tryd.prog Tryd.f4 [] false w args ∧ laidMetH Tryd.prog Rows.foldBackRow.laid w) ∧ sizedMet enc Tryd.prog Tryd.f4 (OpenSpec.ofChange Rows.foldBackSpec) false w args)
      (Rows.foldBackSpec.post enc Tryd.prog Tryd.f4 false true false false) := by
  refine wrap_shaped (C := Tryd.checked) (X := fun w _ => laidMetH Tryd.prog Rows.foldBackRow.laid w) (fun _ _ _ hh h => h.of_heap hh) own started (by kernel_rfl) Tryd.func4
    (ChangeSpec.witness_shaped (enc := enc) (C := Tryd.checked) (os := os) (X := fun w _ => laidMetH Tryd.prog Rows.foldBackRow.laid w) false (World.laidAll Tryd.prog os Rows.foldBackRow.laid) #[.slice none 0 0, .int .i64 0] 8 (World.laidAll_os _ _ _)
      (World.shaped_of_ZipB (by kernel_rfl) (by kernel_rfl)) (by kernel_rfl) (by kernel_rfl) (by kernel_rfl)
      (by rw [MakeChecks.laidMetH_plain _ _ _ (by kernel_rfl)]; exact laidMet_laidAll _ (by kernel_rfl) (by kernel_rfl))) ?_
  intro W base args ds gs before hval0 hW hL hsh
  have hval : ∀ (j : Nat) t v, Tryd.f4.params[j]? = some t → args[j]? = some v → Value.okWide Tryd.prog W .any base t v := hval0
  have hW' := hW
  obtain ⟨p, q, hA0, hV, rfl, hfz, hnd⟩ := hW
  have hA : DataW.TrodAll enc Tryd.prog W 0 (fun _ => true) true Tryd.f4.params.toList args.toList ds p := hA0
  rw [Tryd.params4] at hA hval
  obtain ⟨v0, v1, d0, d1, p0, p1, rfl, rfl, rfl, h0, h1⟩ := trodAll_two hA
  obtain ⟨rfl, rfl⟩ := trodVars_none hV
  obtain ⟨n, rfl, rfl, rfl, wn⟩ := open_int Tryd.underlying3 (hval 1 3 v1 rfl rfl) h1
  obtain ⟨l, hl, _⟩ := ents_in (ti := 3) (tb := 4) Tryd.underlying22 Tryd.underlying49 (by kernel_rfl) rfl rfl rfl rfl rfl rfl rfl rfl Tryd.underlying3 Tryd.underlying4 (by kernel_rfl) (by kernel_rfl) (hval 0 22 v0 rfl rfl) h0
  obtain ⟨e, m⟩ := fback_laid hL hsh
  clear hA0 hval0
  simp only [List.append_nil] at hW'
  have hlt : ∀ z ∈ p0, z.block < W.heap.size := fun z hz => by simpa using hW'.lt z (by simpa using hz)
  refine (fback_all (FoSent e) e (foldP e) (fun w m => folded_ok (FoSent e) e (foldP e) w m) v0 l n W m hl).mono fun E W' ⟨he, hB⟩ => ?_
  subst he
  have h0' : DataW.Trod enc Tryd.prog W' 0 (fun b => decide (b < W.heap.size)) true 22 v0 d0 p0 := Below.trod laidOut (by kernel_rfl) (of_decide_eq_true (by kernel_rfl)) h0 hB hlt
  have hargs := trodAll_cons_mk h0' (trodAll_mk1 (shut_int Tryd.underlying3 wn))
  simp only [List.append_nil] at hargs
  exact ⟨_, rfl, _, _, _, [], p0, [], hW', trodAll_mk1 (shut_bool Tryd.underlying4 true), hargs, rfl, hB.frame _, fun h => by cases h⟩

theorem fback_holds : Rows.FoldBackSaid :=
  OpenClaim.holds_of_wide 4 Tryd.f4 rfl rfl rfl rfl rfl rfl rfl ⟨rfl, rfl, rfl, rfl, rfl⟩ rfl rfl rfl rfl rfl (by kernel_rfl) Tryd.func4 (by kernel_rfl)
    (of_decide_eq_true (by kernel_rfl)) (by unfold Func.isWrapper; first | (rw [if_pos (by decide +kernel)]; kernel_rfl) | (rw [if_neg (by decide +kernel)]; exact ⟨rfl, rfl⟩))
    (fun os started H enc _ => fback_lifted os started H enc)
theorem fback_card_holds : Rows.FoldBackCardSaid :=
  Claim7.holds_tied_plain_at .later [] Rows.foldBackCard.laidKinds true Rows.foldBackCard.stood.harness true
    fback_holds (fun _ h => by cases h) (by kernel_rfl) (fun _ h => by cases h) foldBack_row_tie rfl ⟨rfl, rfl⟩ (by kernel_rfl) rfl
    (fun f fn hf hfn => by
      obtain rfl : f = 4 := Option.some.inj ((show Tryd.prog.funcNamed "bargelock/bargelocklaw2.FoldBack" = some 4 by kernel_rfl).symm.trans hf) |>.symm
      obtain rfl : fn = Tryd.f4 := (Option.some.inj (Tryd.func4.symm.trans hfn)).symm
      exact ⟨by kernel_rfl, fun j t ht => by
        rw [Tryd.params4] at ht
        have hm : t ∈ [22, 3] := by simpa using Array.mem_of_getElem? ht
        have hall : ([22, 3].all fun u => !Tryd.prog.wantsStandIn u) = true := by kernel_rfl
        exact (show Tryd.prog.wantsStandIn t = false by simpa using List.all_eq_true.1 hall t hm)⟩)
    (by kernel_rfl)
#print axioms fback_card_holds
end Go.Proofs.YtglhapkclpllfadDoor
