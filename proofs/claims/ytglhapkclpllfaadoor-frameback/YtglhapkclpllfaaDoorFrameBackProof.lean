/-
  FrameBack, proved: whatever the frame, the text, the place and the byte are and whatever lies in memory, the law answers true, and nothing that was there turns: a frame is read as it was made; with one byte another one it is none; what is read is made as it was.
  Conditions: the twelve listed variables start as the program's text lays them (the card ties them).
-/
import Derived.Test.YtglhapkclpllfaaDoorRows
import Derived.Test.YtglhapkclpllfaaDoorTie
import Derived.Test.YtglhapkclpllfaaDoorCards
import Derived.Test.YtglhapkclpllfaaDoorFrameBack
import Derived.Test.YtglhapkclpllfaaDoorSents
import Derived.Test.YtglhapkclpllfaaDoorFrameArgs
import Derived.Lib.LaidTab
import Derived.Lay
namespace Go.Proofs.YtglhapkclpllfaaDoor
open Go.ChangeMaps Go.ChangeShapes Go.WideShapes Go.ChangeAt Go.WideMaps Go.WideElems Go.RowKit

theorem Tryd.nTab : Tryd.prog.globalNamed "math/bits.deBruijn64tab" = some 14 := by kernel_rfl
theorem Tryd.nText : Tryd.prog.globalNamed "bargelock/api.ErrText" = some 0 := by kernel_rfl
theorem Tryd.nBound : Tryd.prog.globalNamed "bargelock/api.ErrBound" = some 1 := by kernel_rfl
theorem Tryd.nShape : Tryd.prog.globalNamed "bargelock/api.ErrShape" = some 2 := by kernel_rfl
theorem Tryd.nNode : Tryd.prog.globalNamed "bargelock/api.ErrNode" = some 3 := by kernel_rfl
theorem Tryd.nSum : Tryd.prog.globalNamed "bargelock/api.ErrSum" = some 7 := by kernel_rfl
theorem back_laid {W : World} (h0 : laidMetH Tryd.prog Rows.frameBackRow.laid W) (hsh : W.ShapedOpen Tryd.prog) : ∃ e, FrOk e W := by
  have h : laidMet Tryd.prog Rows.frameBackRow.laid W := by
    rw [MakeChecks.laidMetH_plain _ _ _ (by kernel_rfl)] at h0
    exact h0
  have hD : Lib.TabIs Tryd.prog W "math/bits.deBruijn64tab" .u8 (Lib.deBruijn64tab.map fun (n : Nat) => (n : Int)) :=
    Lib.tabIs_of_head (rest := []) Tryd.nTab (by kernel_rfl) Tryd.underlying146 Tryd.underlying5 (by kernel_rfl) (by kernel_rfl) (h.filter fun x => x.1 == "math/bits.deBruijn64tab")
  have hP : Lib.TabIs Tryd.prog W "internal/strconv.uint64pow10" .u64 Lib.pow10Tab :=
    Lib.tabIs_of_head (rest := []) Tryd.nPow (by kernel_rfl) Tryd.underlying167 Tryd.underlying119 (by kernel_rfl) (by kernel_rfl) (h.filter fun x => x.1 == "internal/strconv.uint64pow10")
  obtain ⟨a1, e1⟩ := sent_at h (fun x => x.1 == "strconv.ErrSyntax") ("strconv.ErrSyntax", [105, 110, 118, 97, 108, 105, 100, 32, 115, 121, 110, 116, 97, 120]) (by rfl) (by kernel_rfl)
  obtain ⟨a2, e2⟩ := sent_at h (fun x => x.1 == "strconv.ErrRange") ("strconv.ErrRange", [118, 97, 108, 117, 101, 32, 111, 117, 116, 32, 111, 102, 32, 114, 97, 110, 103, 101]) (by rfl) (by kernel_rfl)
  obtain ⟨b1, t1⟩ := sent_at h (fun x => x.1 == "bargelock/api.ErrText") ("bargelock/api.ErrText", [98, 97, 114, 103, 101, 108, 111, 99, 107, 58, 32, 116, 101, 120, 116]) (by rfl) (by kernel_rfl)
  obtain ⟨b2, t2⟩ := sent_at h (fun x => x.1 == "bargelock/api.ErrBound") ("bargelock/api.ErrBound", [98, 97, 114, 103, 101, 108, 111, 99, 107, 58, 32, 98, 111, 117, 110, 100]) (by rfl) (by kernel_rfl)
  obtain ⟨b3, t3⟩ := sent_at h (fun x => x.1 == "bargelock/api.ErrShape") ("bargelock/api.ErrShape", [98, 97, 114, 103, 101, 108, 111, 99, 107, 58, 32, 115, 104, 97, 112, 101]) (by rfl) (by kernel_rfl)
  obtain ⟨b4, t4⟩ := sent_at h (fun x => x.1 == "bargelock/api.ErrNode") ("bargelock/api.ErrNode", [98, 97, 114, 103, 101, 108, 111, 99, 107, 58, 32, 110, 111, 100, 101]) (by rfl) (by kernel_rfl)
  obtain ⟨b8, t8⟩ := sent_at h (fun x => x.1 == "bargelock/api.ErrSum") ("bargelock/api.ErrSum", [98, 97, 114, 103, 101, 108, 111, 99, 107, 58, 32, 115, 117, 109]) (by rfl) (by kernel_rfl)
  refine ⟨fun k => (73, .pointer (some (if k = 1 then b1 else if k = 2 then b2 else if k = 3 then b3 else if k = 4 then b4 else b8))), ⟨⟨var_lt Tryd.nTab hD, fun j hj => by
      have := hD.cell Tryd.nTab j (by rw [List.length_map]; exact hj)
      rw [this, List.getD_eq_getElem?_getD, List.getElem?_map, List.getD_eq_getElem?_getD, List.getElem?_eq_getElem hj]; rfl,
    hP, ⟨_, _, e1⟩, ⟨_, _, e2⟩⟩, ⟨?_, ?_, ?_, ?_, ?_⟩, Tryd.laysM146.s1_3 W hsh⟩⟩
  · simpa using sent_cell Tryd.nText t1
  · simpa using sent_cell Tryd.nBound t2
  · simpa using sent_cell Tryd.nShape t3
  · simpa using sent_cell Tryd.nNode t4
  · simpa using sent_cell Tryd.nSum t8
set_option maxRecDepth 100000 in
theorem back_lifted (os : Os) (started : os.Started) (H : Type) (enc : TypeId × Value → H) :
    ReturnsInHanded {} Tryd.checked os 7 .any (fun w args => (Rows.frameBackSpec.pre enc Tryd.prog Tryd.f7 [] false w args ∧ laidMetH Tryd.prog Rows.frameBackRow.laid w) ∧ sizedMet enc Tryd.prog Tryd.f7 (OpenSpec.ofChange Rows.frameBackSpec) false w args)
      (Rows.frameBackSpec.post enc Tryd.prog Tryd.f7 false true false false) := by
  refine wrap_shaped (C := Tryd.checked) (X := fun w _ => laidMetH Tryd.prog Rows.frameBackRow.laid w) (fun _ _ _ hh h => h.of_heap hh) own started (by kernel_rfl) Tryd.func7
    (ChangeSpec.witness_shaped (enc := enc) (C := Tryd.checked) (os := os) (X := fun w _ => laidMetH Tryd.prog Rows.frameBackRow.laid w) false (World.laidAll Tryd.prog os Rows.frameBackRow.laid) #[.agg #[.int .i64 0, .int .i64 0, .int .i64 0, .int .i64 0, .int .i64 0], .string ⟨#[]⟩, .int .i64 0, .int .u8 0] 8 (World.laidAll_os _ _ _)
      (World.shaped_of_ZipB (by kernel_rfl) (by kernel_rfl)) (by kernel_rfl) (by kernel_rfl) (by kernel_rfl)
      (by rw [MakeChecks.laidMetH_plain _ _ _ (by kernel_rfl)]; exact laidMet_laidAll _ (by kernel_rfl) (by kernel_rfl))) ?_
  intro W base args ds gs before hval0 hW hL hsh
  have hval : ∀ (j : Nat) t v, Tryd.f7.params[j]? = some t → args[j]? = some v → Value.okWide Tryd.prog W .any base t v := hval0
  have hW' := hW
  obtain ⟨p, q, hA0, hV, rfl, hfz, hnd⟩ := hW
  have hA : DataW.TrodAll enc Tryd.prog W 0 (fun _ => true) true Tryd.f7.params.toList args.toList ds p := hA0
  rw [Tryd.params7] at hA hval
  obtain ⟨v0, v1, v2, v3, d0, d1, d2, d3, p0, p1, p2, p3, rfl, rfl, rfl, h0, h1, h2, h3⟩ := trodAll_four hA
  obtain ⟨rfl, rfl⟩ := trodVars_none hV
  obtain ⟨f, rfl⟩ := frame_in (hval 0 63 v0 rfl rfl) h0
  obtain ⟨s, rfl, rfl, rfl, ws⟩ := open_string Tryd.underlying9 (hval 1 9 v1 rfl rfl) h1
  obtain ⟨a, rfl, rfl, rfl, wa⟩ := open_int Tryd.underlying3 (hval 2 3 v2 rfl rfl) h2
  obtain ⟨x, rfl, rfl, rfl, wx⟩ := open_int Tryd.underlying5 (hval 3 5 v3 rfl rfl) h3
  obtain ⟨e, F⟩ := back_laid hL hsh
  clear hA0 hval0
  simp only [List.append_nil] at hW'
  have hlt : ∀ z ∈ p0, z.block < W.heap.size := fun z hz => by simpa using hW'.lt z (by simpa using hz)
  have hx : 0 ≤ x ∧ x ≤ 255 := bounds_u8 wx
  refine (back_walk f s a x hx e W F).mono fun E W' ⟨he, hB⟩ => ?_
  subst he
  have h0' : DataW.Trod enc Tryd.prog W' 0 (fun b => decide (b < W.heap.size)) true 63 (frmV f) d0 p0 := Below.trod laidOut (by kernel_rfl) (of_decide_eq_true (by kernel_rfl)) h0 hB hlt
  have hargs := trodAll_cons_mk h0' (trodAll_cons_mk (shut_string Tryd.underlying9 ws) (trodAll_cons_mk (shut_int Tryd.underlying3 wa) (trodAll_mk1 (shut_int Tryd.underlying5 wx))))
  simp only [List.append_nil] at hargs
  exact ⟨_, rfl, _, _, _, [], p0, [], hW', trodAll_mk1 (shut_bool Tryd.underlying4 true), hargs, rfl, hB.frame _, fun h => by cases h⟩

theorem back_holds : Rows.FrameBackSaid :=
  OpenClaim.holds_of_wide 7 Tryd.f7 rfl rfl rfl rfl rfl rfl rfl ⟨rfl, rfl, rfl, rfl, rfl⟩ rfl rfl rfl rfl rfl (by kernel_rfl) Tryd.func7 (by kernel_rfl)
    (of_decide_eq_true (by kernel_rfl)) (by unfold Func.isWrapper; first | (rw [if_pos (by decide +kernel)]; kernel_rfl) | (rw [if_neg (by decide +kernel)]; exact ⟨rfl, rfl⟩))
    (fun os started H enc _ => back_lifted os started H enc)
theorem back_card_holds : Rows.FrameBackCardSaid :=
  Claim7.holds_tied_plain_at .later [] Rows.frameBackCard.laidKinds true Rows.frameBackCard.stood.harness true
    back_holds (fun _ h => by cases h) (by kernel_rfl) (fun _ h => by cases h) frameBack_row_tie rfl ⟨rfl, rfl⟩ (by kernel_rfl) rfl
    (fun f fn hf hfn => by
      obtain rfl : f = 7 := Option.some.inj ((show Tryd.prog.funcNamed "bargelock/bargelocklaw1.FrameBack" = some 7 by kernel_rfl).symm.trans hf) |>.symm
      obtain rfl : fn = Tryd.f7 := (Option.some.inj (Tryd.func7.symm.trans hfn)).symm
      exact ⟨by kernel_rfl, fun j t ht => by
        rw [Tryd.params7] at ht
        have hm : t ∈ [63, 9, 3, 5] := by simpa using Array.mem_of_getElem? ht
        have hall : ([63, 9, 3, 5].all fun u => !Tryd.prog.wantsStandIn u) = true := by kernel_rfl
        exact (show Tryd.prog.wantsStandIn t = false by simpa using List.all_eq_true.1 hall t hm)⟩)
    (by kernel_rfl)
#print axioms back_card_holds
end Go.Proofs.YtglhapkclpllfaaDoor
