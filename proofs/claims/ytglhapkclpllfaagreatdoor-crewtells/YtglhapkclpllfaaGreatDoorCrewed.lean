/-
  The closed fact about crews that the laws of chapter 1 begin with: it answers true (as in the text CrewParts).
  Conditions: the library's variables and package api's errors lie as laid (structure CrewOk).
-/
import Derived.Test.YtglhapkclpllfaaGreatDoorCrewBack
import Derived.Test.YtglhapkclpllfaaGreatDoorCrew1
import Derived.Test.YtglhapkclpllfaaGreatDoorCrew2
import Derived.Test.YtglhapkclpllfaaGreatDoorCrewList
import Derived.Outline
namespace Go.Proofs.YtglhapkclpllfaaGreatDoor
open Go.RowKit Go.Shelf

structure CrewOk (w : World) : Prop where
  lib : LibOk w
  eN : ∃ te pe, w.cell? ⟨2, 0, none⟩ = some (.iface te pe)
  eT : ∃ te pe, w.cell? ⟨1, 0, none⟩ = some (.iface te pe)
  eB : ∃ te pe, w.cell? ⟨0, 0, none⟩ = some (.iface te pe)
theorem CrewOk.below {w w' : World} (C : CrewOk w) (hb : Below w.heap.size w w') : CrewOk w' where
  lib := C.lib.below hb
  eN := by obtain ⟨te, pe, h⟩ := C.eN; exact ⟨te, pe, below_cell hb h⟩
  eT := by obtain ⟨te, pe, h⟩ := C.eT; exact ⟨te, pe, below_cell hb h⟩
  eB := by obtain ⟨te, pe, h⟩ := C.eB; exact ⟨te, pe, below_cell hb h⟩

def threeRow : Array Value := #[.int .i64 3, .int .i64 1, .int .i64 3]
theorem of_313 (w : World) (C : CrewOk w) : Calls Tryz.prog 24 #[.slice (some ⟨w.heap.size, 0, none⟩) 3 3] (w.alloc (.cells threeRow 3)) fun e w' => e = .returned (.tuple #[.int .i64 5, .nilIface]) ∧ w' = w.alloc (.cells threeRow 3) := by
  have hb : Below w.heap.size w (w.alloc (.cells threeRow 3)) := (Below.refl _ _).alloc (Nat.le_refl _) _
  obtain ⟨te, pe, hE⟩ := (C.below hb).eN
  exact of_ok _ [3, 1, 3] te pe _ (Or.inr ⟨w.heap.size, 0, 3, rfl, ints_new w [3, 1, 3] 3 threeRow _ rfl rfl⟩) (by decide) (fun x hx => by
    simp at hx
    rcases hx with rfl | rfl | rfl
    · exact ⟨by omega, by omega⟩
    · exact ⟨by omega, by omega⟩
    · exact ⟨by omega, by omega⟩) hE
theorem read_13 (w : World) (C : CrewOk w) : Calls Tryz.prog 22 #[.string ⟨#[49, 44, 51]⟩] w fun e w' => e = .returned (.tuple #[.int .i64 5, .nilIface]) ∧ Below w.heap.size w w' := by
  obtain ⟨te, pe, hE⟩ := C.eT
  refine (read_ok ⟨#[49, 44, 51]⟩ (by decide) te pe w C.lib hE).mono ?_
  have h5 : readOf [49, 44, 51] = some 5 := by decide
  rintro e w' ⟨⟨c, _, hc, rfl⟩ | ⟨hno, _⟩, hB⟩
  · have : some 5 = some c := h5.symm.trans hc
    cases this
    exact ⟨rfl, hB⟩
  · have : some 5 = none := h5.symm.trans hno
    cases this
theorem text_5 (w : World) (C : CrewOk w) : Calls Tryz.prog 14 #[.int .i64 5] w fun e w' => e = .returned (.string ⟨#[49, 44, 51]⟩) ∧ Below w.heap.size w w' := by
  refine (text_ok 5 (by omega) w C.lib.size C.lib.tab).mono ?_
  have h5 : textOf 5 = [49, 44, 51] := by
    rw [textOf_dg 5 (by decide), show nodesF 5 = [0, 2] by decide]
    decide
  rintro e w' ⟨rfl, hB⟩
  rw [h5]
  exact ⟨rfl, hB⟩
theorem has_53 (w : World) : Calls Tryz.prog 13 #[.int .i64 5, .int .i64 3] w fun e w' => e = .returned (.bool true) ∧ w' = w := has_ok 5 3 (by omega) (by omega) (by omega) w
theorem many_5 (w : World) : Calls Tryz.prog 12 #[.int .i64 5] w fun e w' => e = .returned (.int .i64 2) ∧ w' = w := many_ok 5 (by omega) w

set_option maxHeartbeats 2000000 in
theorem crewed_ok (w : World) (C : CrewOk w) : Calls Tryz.prog 4 #[] w fun e w' => e = .returned (.bool true) ∧ Below w.heap.size w w' := by
  have HC := hide C
  clear C
  go_enter Tryz.func4, Tryz.ntmps4
  go_wp2_with fail
  refine (of_313 w (unhide HC)).mono ?_
  rintro e w1 ⟨rfl, rfl⟩
  have hb1 : Below w.heap.size w (w.alloc (.cells threeRow 3)) := (Below.refl _ _).alloc (Nat.le_refl _) _
  have HB1 := hide hb1
  clear hb1
  go_wp2_with fail
  refine (read_13 _ ((unhide HC).below (unhide HB1))).mono ?_
  rintro e w2 ⟨rfl, hB2⟩
  have HB2 := hide ((unhide HB1).trans (hB2.mono (unhide HB1).size))
  clear hB2
  go_wp2_with fail
  refine (text_5 _ ((unhide HC).below (unhide HB2))).mono ?_
  rintro e w3 ⟨rfl, hB3⟩
  have HB3 := hide ((unhide HB2).trans (hB3.mono (unhide HB2).size))
  clear hB3
  go_wp2_with fail
  refine (many_5 _).mono ?_
  rintro e w4 ⟨rfl, rfl⟩
  go_wp2_with fail
  refine (has_53 _).mono ?_
  rintro e w5 ⟨rfl, rfl⟩
  go_wp2
  go_ret
  exact ⟨rfl, unhide HB3⟩
end Go.Proofs.YtglhapkclpllfaaGreatDoor
