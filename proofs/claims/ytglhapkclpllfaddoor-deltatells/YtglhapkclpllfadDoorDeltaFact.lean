/-
  The closed fact that the laws of chapter 10 begin with, over what package delta answers (structure DelP).
  Conditions: those of the package's contracts (M).
-/
import Derived.Test.YtglhapkclpllfadDoorDeltaWhole
namespace Go.Proofs.YtglhapkclpllfadDoor
open Go.RowKit

def d2 : List Ent := [⟨0, 1, false, 0⟩, ⟨1, 2, false, 0⟩]
theorem d2_ok : histOk d2 := ⟨by decide, fun i hi => by
  match i, hi with
  | 0, _ => decide
  | 1, _ => decide⟩
theorem d1_ok : histOk (d2.take 1) := histOk_take d2_ok 1
def d2C : Array Value := #[.int .i64 0, .int .i64 1, .bool false, .int .i64 0, .int .i64 1, .int .i64 2, .bool false, .int .i64 0]
theorem d2_in (w : World) : EntsIn (w.alloc (.cells d2C 49)) (.slice (some ⟨w.heap.size, 0, none⟩) 2 2) d2 :=
  RecsIn.of_owns (base := w.heap.size) (e := 49) (size := 4) (xs := d2.map Ent.cells) (fun x hx => by
    obtain ⟨s, _, rfl⟩ := List.mem_map.1 hx
    rfl) (World.ownsRow_lit (base := w.heap.size) (e := 49) (size := 4) w d2C 2 (Nat.le_refl _) (by decide) rfl)
theorem d2_since : sinceL d2 1 (5 : Int).toNat = [⟨1, 2, false, 0⟩] := rfl
theorem d2_join : d2.take 1 ++ [⟨1, 2, false, 0⟩] = d2 := rfl
theorem d2_agree : agreeE d2 (d2.take 1) = 1 := by decide
set_option maxRecDepth 100000 in
theorem missed_ok (M : World → Prop) (e : Nat → TypeId × Value) (P : DelP M e) (w : World) (m : M w) : Calls Tryd.prog 22 #[] w fun r w' => r = .returned (.bool true) ∧ Below w.heap.size w w' := by
  have hA : Below w.heap.size w (w.alloc (.cells d2C 49)) := (Below.refl _ _).alloc (Nat.le_refl _) _
  have HK : Hid (∀ w', Below w.heap.size w w' → M w') := fun w' hB => P.keep w w' m hB
  have HV : Hid (∀ w', Below (w.alloc (.cells d2C 49)).heap.size (w.alloc (.cells d2C 49)) w' → EntsIn w' (.slice (some ⟨w.heap.size, 0, none⟩) 2 2) d2) := fun w' hB => (d2_in w).below hB
  have H1 := hide (P.siO _ _ d2 1 5 (P.keep w _ m hA) (d2_in w) d2_ok (by omega) (by decide))
  rw [d2_since] at H1
  have H2 : Hid (∀ w' vx, M w' → EntsIn w' (.slice (some ⟨w.heap.size, 0, none⟩) 1 2) (d2.take 1) → EntsIn w' vx [⟨1, 2, false, 0⟩] → Calls Tryd.prog 25 #[.slice (some ⟨w.heap.size, 0, none⟩) 1 2, vx] w' fun r w2 => ∃ o, r = .returned (.tuple #[o, .nilIface]) ∧ EntsIn w2 o d2 ∧ Below w'.heap.size w' w2) := fun w' vx m' hv hx => P.joO w' _ vx (d2.take 1) [⟨1, 2, false, 0⟩] m' hv hx (by decide) d1_ok d2_ok
  have H3 : Hid (∀ w', M w' → EntsIn w' (.slice (some ⟨w.heap.size, 0, none⟩) 2 2) d2 → EntsIn w' (.slice (some ⟨w.heap.size, 0, none⟩) 1 2) (d2.take 1) → Calls Tryd.prog 23 #[.slice (some ⟨w.heap.size, 0, none⟩) 2 2, .slice (some ⟨w.heap.size, 0, none⟩) 1 2] w' fun r w2 => r = .returned (.int .i64 1) ∧ Below w'.heap.size w' w2) := fun w' m' hv hv2 => by
    have h := P.agO w' _ _ d2 (d2.take 1) m' hv hv2 (by decide) (by decide)
    rw [d2_agree] at h
    exact h
  have HT := hide (fun w' (h : EntsIn w' (.slice (some ⟨w.heap.size, 0, none⟩) 2 2) d2) => ents_takeD (cap' := 2) h 1 (by decide) (by decide))
  have HS := hide (fun v w' hv hv2 => same_ents v (.slice (some ⟨w.heap.size, 0, none⟩) 2 2) d2 w' hv hv2 (by decide))
  have HA := hide hA
  unfold d2C at H1 HV HA
  clear hA m P
  go_enter Tryd.func22, Tryd.ntmps22
  go_wp2_with fail
  refine (unhide H1).mono ?_
  rintro E w1 ⟨o, rfl, ho, hB⟩
  obtain ⟨ado, capo, rfl, _⟩ := EntsIn.at ho
  have HO := hide ho
  have hl1 : ([⟨1, 2, false, 0⟩] : List Ent).length = 1 := rfl
  rw [hl1] at HO ⊢
  have HV1 := hide (unhide HV _ hB)
  have HB1 := hide ((unhide HA).trans (hB.mono (unhide HA).size))
  have HBa := hide hB
  clear hB ho hl1
  go_wp2_with fail
  refine (unhide H2 _ _ (unhide HK _ (unhide HB1)) (unhide HT _ (unhide HV1)) (unhide HO)).mono ?_
  rintro E w2 ⟨y, rfl, hy, hB⟩
  have HY := hide hy
  have HV2 := hide ((unhide HV1).below hB)
  have HB2 := hide ((unhide HB1).trans (hB.mono (unhide HB1).size))
  clear hB hy
  go_wp2_with fail
  refine (unhide HS _ _ (unhide HY) (unhide HV2)).mono ?_
  rintro E w3 ⟨rfl, nd, rfl⟩
  have HB3 := hide (below_draw (unhide HB2) nd)
  have HV3 := hide ((unhide HV2).below (below_draw (Below.refl _ _) nd))
  go_wp2_with fail
  refine (unhide H3 _ (unhide HK _ (unhide HB3)) (unhide HV3) (unhide HT _ (unhide HV3))).mono ?_
  rintro E w4 ⟨rfl, hB⟩
  have HB4 := hide ((unhide HB3).trans (hB.mono (unhide HB3).size))
  clear hB
  go_wp2
  go_ret
  exact ⟨rfl, unhide HB4⟩
end Go.Proofs.YtglhapkclpllfadDoor
