/-
  The closed fact that the laws of chapter 11 begin with, over what package mode answers (structure ModeP).
  Conditions: those of the package's contracts (M).
-/
import Derived.Test.YtglhapkclpllfadDoorModeProg
import Derived.Laws.OwnMore
namespace Go.Proofs.YtglhapkclpllfadDoor
open Go.RowKit

/-- The law text coded, as the walks want it. -/
def CodedO (M : World → Prop) (e : Nat → TypeId × Value) : Prop := ∀ w (c : Nat), M w → c ≤ 11 → Calls Tryd.prog 46 #[errC e c, .int .i64 (c : Int)] w fun r w' => r = .returned (.bool true) ∧ Below w.heap.size w w'
/-- The closed fact, as the walks want it. -/
def ModedO (M : World → Prop) : Prop := ∀ w, M w → Calls Tryd.prog 28 #[] w fun r w' => r = .returned (.bool true) ∧ Below w.heap.size w w'
def p1 : List Pr := [⟨0, 2⟩]
theorem p1_ok : prsOk p1 := ⟨by decide, fun i hi => by
  match i, hi with
  | 0, _ => exact ⟨⟨by decide, by decide⟩, by decide, by decide⟩⟩
theorem p1_in (w : World) : PrsIn (w.alloc (.cells #[.int .i64 0, .int .i64 2] 89)) (.slice (some ⟨w.heap.size, 0, none⟩) 1 1) p1 :=
  RecsIn.of_owns (base := w.heap.size) (e := 89) (size := 2) (xs := p1.map Pr.cells) (fun x hx => by
    obtain ⟨s, _, rfl⟩ := List.mem_map.1 hx
    rfl) (World.ownsRow_lit (base := w.heap.size) (e := 89) (size := 2) w #[.int .i64 0, .int .i64 2] 1 (Nat.le_refl _) (by decide) rfl)
theorem p1_no : askC p1 0 (-1) 1 = 3 ∧ askA p1 0 (-1) 1 = -1 := ⟨by decide, by decide⟩
theorem p1_yes : askC p1 0 (-1) 2 = 0 ∧ askA p1 0 (-1) 2 = 2 := ⟨by decide, by decide⟩
theorem board_two : boardOk 0 2 := ⟨⟨by decide, by decide⟩, by decide, by decide⟩
set_option maxRecDepth 100000 in
theorem moded_ok (M : World → Prop) (e : Nat → TypeId × Value) (B : World → (Nat → Prop) → Value → List Pr → Int → Int → Prop) (P : ModeP M e B) (CD : CodedO M e) : ModedO M := by
  intro w m
  have hA : Below w.heap.size w (w.alloc (.cells #[.int .i64 0, .int .i64 2] 89)) := (Below.refl _ _).alloc (Nat.le_refl _) _
  have HK : Hid (∀ w', Below w.heap.size w w' → M w') := fun w' hB => P.keep w w' m hB
  have HP := hide P
  have HCD := hide CD
  have H1 := hide (P.neO _ _ p1 (P.keep w _ m hA) (p1_in w) p1_ok)
  have HA := hide hA
  clear hA m P CD
  go_enter Tryd.func28, Tryd.ntmps28
  go_wp2_with fail
  refine (unhide H1).mono ?_
  rintro E w1 ⟨p, F, rfl, hb, hF, hB⟩
  have hB1 := (unhide HA).trans (hB.mono (unhide HA).size)
  have HB1 := hide hB1
  have HF1 : Hid (∀ k, F k → w.heap.size ≤ k) := fun k hk => Nat.le_trans (unhide HA).size (hF k hk)
  have HC := hide ((unhide HP).ask _ F _ p1 0 (-1) 1 (unhide HK _ hB1) hb board_zero)
  rw [p1_no.1, p1_no.2] at HC
  clear hb hF hB hB1
  go_wp2_with fail
  refine (unhide HC).mono ?_
  rintro E w2 ⟨F2, rfl, hb, hF, hO⟩
  have hB2 := (unhide HB1).trans (hO.below (unhide HF1) (unhide HB1).size)
  have HB2 := hide hB2
  have HF2 : Hid (∀ k, F2 k → w.heap.size ≤ k) := fun k hk => by
    rcases hF k hk with h | h
    · exact unhide HF1 k h
    · exact Nat.le_trans (unhide HB1).size h
  have HC2 := hide ((unhide HP).ask _ F2 _ p1 0 (-1) 2 (unhide HK _ hB2) hb board_zero)
  rw [p1_yes.1, p1_yes.2, show errC e 0 = .nilIface from rfl] at HC2
  clear hb hF hO hB2 HC
  go_wp2_with fail
  refine (unhide HC2).mono ?_
  rintro E w3 ⟨F3, rfl, hb, hF, hO⟩
  have hB3 := (unhide HB2).trans (hO.below (unhide HF2) (unhide HB2).size)
  have HB3 := hide hB3
  have HF3 : Hid (∀ k, F3 k → w.heap.size ≤ k) := fun k hk => by
    rcases hF k hk with h | h
    · exact unhide HF2 k h
    · exact Nat.le_trans (unhide HB2).size h
  have HC3 := hide ((unhide HCD) _ 3 (unhide HK _ hB3) (by decide))
  have HBd := hide hb
  clear hb hF hO hB3 HC2
  go_wp2_with fail
  refine (unhide HC3).mono ?_
  rintro E w4 ⟨rfl, hB⟩
  have hB4 := (unhide HB3).trans (hB.mono (unhide HB3).size)
  have HB4 := hide hB4
  have HBd4 := hide ((unhide HP).below (unhide HBd) hB)
  have HC4 := hide ((unhide HP).nowB _ F3 _ p1 0 2 (unhide HK _ hB4) (unhide HBd4))
  clear hB hB4 HC3
  go_wp2_with fail
  refine (unhide HC4).mono ?_
  rintro E w5 ⟨rfl, hB⟩
  have hB5 := (unhide HB4).trans (hB.mono (unhide HB4).size)
  have HB5 := hide hB5
  have HBd5 := hide ((unhide HP).below (unhide HBd4) hB)
  have HC5 := hide ((unhide HP).askedB _ F3 _ p1 0 2 (unhide HK _ hB5) (unhide HBd5))
  clear hB hB5 HC4
  go_wp2_with fail
  refine (unhide HC5).mono ?_
  rintro E w6 ⟨rfl, hB⟩
  have hB6 := (unhide HB5).trans (hB.mono (unhide HB5).size)
  have HB6 := hide hB6
  have HBd6 := hide ((unhide HP).below (unhide HBd5) hB)
  have HC6 := hide ((unhide HP).turn _ F3 _ p1 0 2 (unhide HK _ hB6) (unhide HBd6) board_two)
  rw [show turnN 0 2 = 2 by decide] at HC6
  clear hB hB6 HC5
  go_wp2_with fail
  refine (unhide HC6).mono ?_
  rintro E w7 ⟨F4, rfl, _, _, hO⟩
  have HB7 := hide ((unhide HB6).trans (hO.below (unhide HF3) (unhide HB6).size))
  clear hO
  go_wp2
  go_ret
  exact ⟨rfl, unhide HB7⟩
end Go.Proofs.YtglhapkclpllfadDoor
