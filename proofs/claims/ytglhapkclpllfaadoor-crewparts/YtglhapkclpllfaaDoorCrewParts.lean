/-
  The walk of the law CrewParts: whatever the three numbers are, it answers true, and nothing that was in memory has turned.
  Conditions: the library's variables and package api's errors lie as laid (structure CrewOk).
-/
import Derived.Test.YtglhapkclpllfaaDoorCrewBack
import Derived.Test.YtglhapkclpllfaaDoorCrew1
import Derived.Test.YtglhapkclpllfaaDoorCrew2
import Derived.Test.YtglhapkclpllfaaDoorCrewList
import Derived.Outline
namespace Go.Proofs.YtglhapkclpllfaaDoor
open Go.RowKit Go.Shelf

structure CrewOk (w : World) : Prop where
  lib : LibOk w
  eN : ∃ te pe, w.cell? ⟨3, 0, none⟩ = some (.iface te pe)
  eT : ∃ te pe, w.cell? ⟨0, 0, none⟩ = some (.iface te pe)
  eB : ∃ te pe, w.cell? ⟨1, 0, none⟩ = some (.iface te pe)
theorem CrewOk.below {w w' : World} (C : CrewOk w) (hb : Below w.heap.size w w') : CrewOk w' where
  lib := C.lib.below hb
  eN := by obtain ⟨te, pe, h⟩ := C.eN; exact ⟨te, pe, below_cell hb h⟩
  eT := by obtain ⟨te, pe, h⟩ := C.eT; exact ⟨te, pe, below_cell hb h⟩
  eB := by obtain ⟨te, pe, h⟩ := C.eB; exact ⟨te, pe, below_cell hb h⟩

def threeRow : Array Value := #[.int .i64 3, .int .i64 1, .int .i64 3]
theorem of_313 (w : World) (C : CrewOk w) : Calls Tryd.prog 17 #[.slice (some ⟨w.heap.size, 0, none⟩) 3 3] (w.alloc (.cells threeRow 3)) fun e w' => e = .returned (.tuple #[.int .i64 5, .nilIface]) ∧ w' = w.alloc (.cells threeRow 3) := by
  have hb : Below w.heap.size w (w.alloc (.cells threeRow 3)) := (Below.refl _ _).alloc (Nat.le_refl _) _
  obtain ⟨te, pe, hE⟩ := (C.below hb).eN
  exact of_ok _ [3, 1, 3] te pe _ (Or.inr ⟨w.heap.size, 0, 3, rfl, ints_new w [3, 1, 3] 3 threeRow _ rfl rfl⟩) (by decide) (fun x hx => by
    simp at hx
    rcases hx with rfl | rfl | rfl
    · exact ⟨by omega, by omega⟩
    · exact ⟨by omega, by omega⟩
    · exact ⟨by omega, by omega⟩) hE
theorem read_13 (w : World) (C : CrewOk w) : Calls Tryd.prog 19 #[.string ⟨#[49, 44, 51]⟩] w fun e w' => e = .returned (.tuple #[.int .i64 5, .nilIface]) ∧ Below w.heap.size w w' := by
  obtain ⟨te, pe, hE⟩ := C.eT
  refine (read_ok ⟨#[49, 44, 51]⟩ (by decide) te pe w C.lib hE).mono ?_
  have h5 : readOf [49, 44, 51] = some 5 := by decide
  rintro e w' ⟨⟨c, _, hc, rfl⟩ | ⟨hno, _⟩, hB⟩
  · have : some 5 = some c := h5.symm.trans hc
    cases this
    exact ⟨rfl, hB⟩
  · have : some 5 = none := h5.symm.trans hno
    cases this
theorem text_5 (w : World) (C : CrewOk w) : Calls Tryd.prog 20 #[.int .i64 5] w fun e w' => e = .returned (.string ⟨#[49, 44, 51]⟩) ∧ Below w.heap.size w w' := by
  refine (text_ok 5 (by omega) w C.lib.size C.lib.tab).mono ?_
  have h5 : textOf 5 = [49, 44, 51] := by
    rw [textOf_dg 5 (by decide), show nodesF 5 = [0, 2] by decide]
    decide
  rintro e w' ⟨rfl, hB⟩
  rw [h5]
  exact ⟨rfl, hB⟩
theorem has_53 (w : World) : Calls Tryd.prog 26 #[.int .i64 5, .int .i64 3] w fun e w' => e = .returned (.bool true) ∧ w' = w := has_ok 5 3 (by omega) (by omega) (by omega) w
theorem many_5 (w : World) : Calls Tryd.prog 21 #[.int .i64 5] w fun e w' => e = .returned (.int .i64 2) ∧ w' = w := many_ok 5 (by omega) w

set_option maxHeartbeats 2000000 in
theorem crewed_ok (w : World) (C : CrewOk w) : Calls Tryd.prog 12 #[] w fun e w' => e = .returned (.bool true) ∧ Below w.heap.size w w' := by
  have HC := hide C
  clear C
  go_enter Tryd.func12, Tryd.ntmps12
  go_wp2_with fail
  refine (of_313 w (unhide HC)).mono ?_
  rintro e w1 ⟨rfl, rfl⟩
  have hb1 : Below w.heap.size w (w.alloc (.cells threeRow 3)) := (Below.refl _ _).alloc (Nat.le_refl _) _
  have HB1 := hide hb1
  clear hb1
  go_wp2_with fail
  refine (read_13 _ ((unhide HC).below (unhide HB1))).mono ?_
  rintro e w2 ⟨rfl, hB2⟩
  have HB2 := hide ((unhide HB1).trans (hB2.mono (unhide HB1).size))
  clear hB2
  go_wp2_with fail
  refine (text_5 _ ((unhide HC).below (unhide HB2))).mono ?_
  rintro e w3 ⟨rfl, hB3⟩
  have HB3 := hide ((unhide HB2).trans (hB3.mono (unhide HB2).size))
  clear hB3
  go_wp2_with fail
  refine (many_5 _).mono ?_
  rintro e w4 ⟨rfl, rfl⟩
  go_wp2_with fail
  refine (has_53 _).mono ?_
  rintro e w5 ⟨rfl, rfl⟩
  go_wp2
  go_ret
  exact ⟨rfl, unhide HB3⟩

theorem read_back (a : Nat) (ha : a ≤ 65535) (w : World) (C : CrewOk w) : Calls Tryd.prog 19 #[.string ⟨(textOf a).toArray⟩] w fun e w' => e = .returned (.tuple #[.int .i64 a, .nilIface]) ∧ Below w.heap.size w w' := by
  obtain ⟨te, pe, hE⟩ := C.eT
  have hl := textOf_len a
  refine (read_ok ⟨(textOf a).toArray⟩ (by show (textOf a).toArray.size ≤ _; simp; omega) te pe w C.lib hE).mono ?_
  have h5 := read_text a ha
  rintro e w' ⟨⟨c, _, hc, rfl⟩ | ⟨hno, _⟩, hB⟩
  · have : some a = some c := h5.symm.trans hc
    cases this
    exact ⟨rfl, hB⟩
  · have : some a = none := h5.symm.trans hno
    cases this
theorem of_back (a : Nat) (ha : a ≤ 65535) (v : Value) (w : World) (hv : IntsAt w v (ints (Cm.nodes a))) (C : CrewOk w) : Calls Tryd.prog 17 #[v] w fun e w' => e = .returned (.tuple #[.int .i64 a, .nilIface]) ∧ w' = w := by
  obtain ⟨te, pe, hE⟩ := C.eN
  have hl : (ints (Cm.nodes a)).length ≤ 16 := by
    have h1 := Cm.many_le a
    have h2 := Cm.len_nodes a
    simp [ints]; omega
  have h := of_ok v (ints (Cm.nodes a)) te pe w hv (by unfold maxLen; omega) (nodes_isNode a) hE
  rw [ofN_nodes a ha] at h
  exact h

set_option maxHeartbeats 2000000 in
theorem parts_bad (a b c : Int) (w : World) (C : CrewOk w) (h : ¬ ((0 ≤ a ∧ a ≤ 65535) ∧ (0 ≤ b ∧ b ≤ 65535) ∧ (0 ≤ c ∧ c ≤ 65535))) :
    Calls Tryd.prog 4 #[.int .i64 a, .int .i64 b, .int .i64 c] w fun e w' => e = .returned (.bool true) ∧ Below w.heap.size w w' := by
  have HC := hide C
  clear C
  by_cases ha : 0 ≤ a ∧ a ≤ 65535
  · obtain ⟨x, rfl⟩ : ∃ x : Nat, a = (x : Int) := ⟨a.toNat, by omega⟩
    have hx : x ≤ 65535 := by omega
    by_cases hb : 0 ≤ b ∧ b ≤ 65535
    · obtain ⟨y, rfl⟩ : ∃ y : Nat, b = (y : Int) := ⟨b.toNat, by omega⟩
      have hy : y ≤ 65535 := by omega
      have hc : c < 0 ∨ 65535 < c := by omega
      clear h ha hb
      go_enter Tryd.func4, Tryd.ntmps4
      go_wp2_with fail
      refine (crewed_ok w (unhide HC)).mono ?_
      rintro e w1 ⟨rfl, hB1⟩
      have HB1 := hide hB1
      obtain ⟨te, pe, hE⟩ := ((unhide HC).below hB1).eB
      clear hB1
      go_wp2_with fail
      refine (check_ok x hx _).mono ?_
      rintro e w2 ⟨rfl, rfl⟩
      go_wp2_with fail
      refine (check_ok y hy _).mono ?_
      rintro e w3 ⟨rfl, rfl⟩
      go_wp2_with fail
      refine (check_bad c hc _ _ hE).mono ?_
      rintro e w4 ⟨rfl, rfl⟩
      go_wp2
      go_ret
      exact ⟨rfl, unhide HB1⟩
    · have hb' : b < 0 ∨ 65535 < b := by omega
      clear h ha hb
      go_enter Tryd.func4, Tryd.ntmps4
      go_wp2_with fail
      refine (crewed_ok w (unhide HC)).mono ?_
      rintro e w1 ⟨rfl, hB1⟩
      have HB1 := hide hB1
      obtain ⟨te, pe, hE⟩ := ((unhide HC).below hB1).eB
      clear hB1
      go_wp2_with fail
      refine (check_ok x hx _).mono ?_
      rintro e w2 ⟨rfl, rfl⟩
      go_wp2_with fail
      refine (check_bad b hb' _ _ hE).mono ?_
      rintro e w4 ⟨rfl, rfl⟩
      go_wp2
      go_ret
      exact ⟨rfl, unhide HB1⟩
  · have ha' : a < 0 ∨ 65535 < a := by omega
    clear h ha
    go_enter Tryd.func4, Tryd.ntmps4
    go_wp2_with fail
    refine (crewed_ok w (unhide HC)).mono ?_
    rintro e w1 ⟨rfl, hB1⟩
    have HB1 := hide hB1
    obtain ⟨te, pe, hE⟩ := ((unhide HC).below hB1).eB
    clear hB1
    go_wp2_with fail
    refine (check_bad a ha' _ _ hE).mono ?_
    rintro e w4 ⟨rfl, rfl⟩
    go_wp2
    go_ret
    exact ⟨rfl, unhide HB1⟩

set_option maxHeartbeats 4000000 in
theorem parts_good (a b c : Nat) (ha : a ≤ 65535) (hb : b ≤ 65535) (hc : c ≤ 65535) (w : World) (C : CrewOk w) :
    Calls Tryd.prog 4 #[.int .i64 a, .int .i64 b, .int .i64 c] w fun e w' => e = .returned (.bool true) ∧ Below w.heap.size w w' := by
  have HC := hide C
  clear C
  have hap := Cm.many_apart a b c
  obtain ⟨p, hp⟩ : ∃ p, a &&& b = p := ⟨_, rfl⟩
  obtain ⟨q, hq⟩ : ∃ q, a &&& (65535 - b) = q := ⟨_, rfl⟩
  obtain ⟨x, hx⟩ : ∃ x, a &&& c = x := ⟨_, rfl⟩
  obtain ⟨y, hy⟩ : ∃ y, b &&& c = y := ⟨_, rfl⟩
  have hpl : p ≤ 65535 := by rw [← hp]; exact Cm.and_le a _ ha
  have hql : q ≤ 65535 := by rw [← hq]; exact Cm.and_le a _ ha
  have hxl : x ≤ 65535 := by rw [← hx]; exact Cm.and_le a _ ha
  have hyl : y ≤ 65535 := by rw [← hy]; exact Cm.and_le b _ hb
  rw [hx, hy, hp] at hap
  have HB : Hid (∀ w, Calls Tryd.prog 14 #[.int .i64 a, .int .i64 b] w fun e w' => e = .returned (.tuple #[.int .i64 p, .nilIface]) ∧ w' = w) := fun w => by
    rw [← hp]; exact both_ok a b ha hb w
  have HL : Hid (∀ w, Calls Tryd.prog 15 #[.int .i64 a, .int .i64 b] w fun e w' => e = .returned (.tuple #[.int .i64 q, .nilIface]) ∧ w' = w) := fun w => by
    rw [← hq]; exact less_ok a b ha hb w
  have HE : Hid (∀ w, Calls Tryd.prog 16 #[.int .i64 q, .int .i64 p] w fun e w' => e = .returned (.tuple #[.int .i64 a, .nilIface]) ∧ w' = w) := fun w => by
    have h := either_ok q p hql hpl w
    have e : q ||| p = a := by rw [← hp, ← hq]; exact Cm.whole a b ha hb
    rw [e] at h
    exact h
  have HX : Hid (∀ w, Calls Tryd.prog 14 #[.int .i64 a, .int .i64 c] w fun e w' => e = .returned (.tuple #[.int .i64 x, .nilIface]) ∧ w' = w) := fun w => by
    rw [← hx]; exact both_ok a c ha hc w
  have HY : Hid (∀ w, Calls Tryd.prog 14 #[.int .i64 b, .int .i64 c] w fun e w' => e = .returned (.tuple #[.int .i64 y, .nilIface]) ∧ w' = w) := fun w => by
    rw [← hy]; exact both_ok b c hb hc w
  have hsum : Cm.many q + Cm.many p = Cm.many a := by rw [← hp, ← hq]; exact Cm.many_split a b hb
  clear hp hq hx hy
  have bq := Cm.many_le q
  have bp := Cm.many_le p
  have bx := Cm.many_le x
  have by' := Cm.many_le y
  have bc := Cm.many_le c
  have MA := hide (many_ok a ha)
  have MQ := hide (many_ok q hql)
  have MP := hide (many_ok p hpl)
  have MX := hide (many_ok x hxl)
  have MY := hide (many_ok y hyl)
  have MC := hide (many_ok c hc)
  rw [← hsum] at MA
  generalize Cm.many q = mq at *
  generalize Cm.many p = mp at *
  generalize Cm.many x = mx at *
  generalize Cm.many y = my at *
  generalize Cm.many c = mc at *
  clear hsum
  have Hap := hide hap
  clear hap
  go_enter Tryd.func4, Tryd.ntmps4
  go_wp2_with fail
  refine (crewed_ok w (unhide HC)).mono ?_
  rintro e w1 ⟨rfl, hB1⟩
  have HB1 := hide hB1
  clear hB1
  go_wp2_with fail
  refine (check_ok a ha _).mono ?_
  rintro e w2 ⟨rfl, rfl⟩
  go_wp2_with fail
  refine (check_ok b hb _).mono ?_
  rintro e w3 ⟨rfl, rfl⟩
  go_wp2_with fail
  refine (check_ok c hc _).mono ?_
  rintro e w4 ⟨rfl, rfl⟩
  go_wp2_with fail
  refine (unhide HB _).mono ?_
  rintro e w5 ⟨rfl, rfl⟩
  go_wp2_with fail
  refine (unhide HL _).mono ?_
  rintro e w6 ⟨rfl, rfl⟩
  go_wp2_with fail
  refine (unhide HE _).mono ?_
  rintro e w7 ⟨rfl, rfl⟩
  go_wp2_with fail
  refine (list_ok a ha _ ((unhide HC).below (unhide HB1)).lib.size ((unhide HC).below (unhide HB1)).lib.tab).mono ?_
  rintro e w8 ⟨v, rfl, hv, hB8⟩
  have HV := hide hv
  have HB8 := hide ((unhide HB1).trans (hB8.mono (unhide HB1).size))
  clear hB8 hv
  go_wp2_with fail
  refine (of_back a ha v _ (unhide HV) ((unhide HC).below (unhide HB8))).mono ?_
  rintro e w9 ⟨rfl, rfl⟩
  go_wp2_with fail
  refine (text_ok a ha _ ((unhide HC).below (unhide HB8)).lib.size ((unhide HC).below (unhide HB8)).lib.tab).mono ?_
  rintro e w10 ⟨rfl, hB10⟩
  have HB10 := hide ((unhide HB8).trans (hB10.mono (unhide HB8).size))
  clear hB10
  go_wp2_with fail
  refine (read_back a ha _ ((unhide HC).below (unhide HB10))).mono ?_
  rintro e w11 ⟨rfl, hB11⟩
  have HB11 := hide ((unhide HB10).trans (hB11.mono (unhide HB10).size))
  clear hB11
  go_wp2_with fail
  refine (unhide MQ _).mono ?_
  rintro e w12 ⟨rfl, rfl⟩
  go_wp2_with fail
  refine (unhide MP _).mono ?_
  rintro e w13 ⟨rfl, rfl⟩
  go_wp2_with fail
  refine (unhide MA _).mono ?_
  rintro e w14 ⟨rfl, rfl⟩
  go_wp2_with fail
  refine (unhide HX _).mono ?_
  rintro e w15 ⟨rfl, rfl⟩
  go_wp2_with fail
  refine (unhide HY _).mono ?_
  rintro e w16 ⟨rfl, rfl⟩
  go_wp2_with fail
  refine (unhide MX _).mono ?_
  rintro e w17 ⟨rfl, rfl⟩
  go_wp2_with fail
  refine (unhide MC _).mono ?_
  rintro e w18 ⟨rfl, rfl⟩
  by_cases k1 : 2 * mx ≤ mc
  · have k1' : 2 * (mx : Int) ≤ (mc : Int) := by omega
    go_wp2
    go_ret
    exact ⟨rfl, unhide HB11⟩
  · have k1' : ¬ 2 * (mx : Int) ≤ (mc : Int) := by omega
    go_wp2_with fail
    refine (unhide MY _).mono ?_
    rintro e w19 ⟨rfl, rfl⟩
    go_wp2_with fail
    refine (unhide MC _).mono ?_
    rintro e w20 ⟨rfl, rfl⟩
    by_cases k2 : 2 * my ≤ mc
    · have k2' : 2 * (my : Int) ≤ (mc : Int) := by omega
      go_wp2
      go_ret
      exact ⟨rfl, unhide HB11⟩
    · have k2' : ¬ 2 * (my : Int) ≤ (mc : Int) := by omega
      have hp0 : ((p : Int) != 0) = true := by
        rcases unhide Hap with h | h | h
        · exact absurd h k1
        · exact absurd h k2
        · simp; omega
      go_wp2
      go_ret
      exact ⟨rfl, unhide HB11⟩
theorem parts_walk (a b c : Int) (w : World) (C : CrewOk w) :
    Calls Tryd.prog 4 #[.int .i64 a, .int .i64 b, .int .i64 c] w fun e w' => e = .returned (.bool true) ∧ Below w.heap.size w w' := by
  by_cases h : (0 ≤ a ∧ a ≤ 65535) ∧ (0 ≤ b ∧ b ≤ 65535) ∧ (0 ≤ c ∧ c ≤ 65535)
  · obtain ⟨x, rfl⟩ : ∃ x : Nat, a = (x : Int) := ⟨a.toNat, by omega⟩
    obtain ⟨y, rfl⟩ : ∃ y : Nat, b = (y : Int) := ⟨b.toNat, by omega⟩
    obtain ⟨z, rfl⟩ : ∃ z : Nat, c = (z : Int) := ⟨c.toNat, by omega⟩
    exact parts_good x y z (by omega) (by omega) (by omega) w C
  · exact parts_bad a b c w C h
end Go.Proofs.YtglhapkclpllfaaDoor
