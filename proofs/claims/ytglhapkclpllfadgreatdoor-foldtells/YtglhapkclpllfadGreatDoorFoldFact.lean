/-
  The closed fact that the laws of chapter 9 begin with, over what package fold answers (structure FoldP).
  Conditions: those of the package's contracts (M).
-/
import Derived.Test.YtglhapkclpllfadGreatDoorFoldProg
import Derived.Test.YtglhapkclpllfadGreatDoorSameEnts
namespace Go.Proofs.YtglhapkclpllfadGreatDoor
open Go.RowKit Go.Shelf

def f3 : List Ent := [⟨0, 1, true, 4⟩, ⟨1, 2, false, 0⟩, ⟨2, 3, true, -5⟩]
theorem f3_ok : histOk f3 := ⟨by decide, fun i hi => by
  match i, hi with
  | 0, _ => decide
  | 1, _ => decide
  | 2, _ => decide⟩
theorem f3_text : histL f3 = [49, 58, 52, 44, 50, 33, 44, 51, 58, 45, 53] := by
  have e1 : Lib.itoa 1 = [49] := by rw [show (1 : Int) = ((1 : Nat) : Int) from rfl, Lib.itoa_nonneg, dec_small 1 (by omega)]; rfl
  have e4 : Lib.itoa 4 = [52] := by rw [show (4 : Int) = ((4 : Nat) : Int) from rfl, Lib.itoa_nonneg, dec_small 4 (by omega)]; rfl
  have e2 : Lib.itoa 2 = [50] := by rw [show (2 : Int) = ((2 : Nat) : Int) from rfl, Lib.itoa_nonneg, dec_small 2 (by omega)]; rfl
  have e3 : Lib.itoa 3 = [51] := by rw [show (3 : Int) = ((3 : Nat) : Int) from rfl, Lib.itoa_nonneg, dec_small 3 (by omega)]; rfl
  have e5 : Lib.itoa (-5) = [45, 53] := by rw [show (-5 : Int) = -((5 : Nat) : Int) from rfl, Lib.itoa_neg 5 (by omega), dec_small 5 (by omega)]; rfl
  simp [histL, f3, wordE, e1, e2, e3, e4, e5, Lib.join, List.intercalate]
theorem f3_tot : totL f3 = -1 := by decide
set_option maxRecDepth 100000 in
theorem folded_ok (M : World → Prop) (e : Nat → TypeId × Value) (P : FoldP M e) (w : World) (m : M w) : Calls Tryz.prog 4 #[] w fun r w' => r = .returned (.bool true) ∧ Below w.heap.size w w' := by
  have HR := hide (P.reO w ⟨#[49, 58, 52, 44, 50, 33, 44, 51, 58, 45, 53]⟩ f3 m (by decide) (by have := read_hist f3 f3_ok; rw [f3_text] at this; exact this) f3_ok)
  have HT : Hid (∀ w' v, Below w.heap.size w w' → EntsIn w' v f3 → Calls Tryz.prog 7 #[v] w' fun r w2 => r = .returned (.tuple #[.int .i64 (-1), .nilIface]) ∧ Below w'.heap.size w' w2) := fun w' v hB hv => by
    have h := P.toO w' v f3 (P.keep w w' m hB) hv f3_ok
    rw [f3_tot] at h
    exact h
  clear m P
  go_enter Tryz.func4, Tryz.ntmps4
  go_wp2_with fail
  refine (unhide HR).mono ?_
  rintro E w1 ⟨v, rfl, hv, hB⟩
  have HT1 := hide (unhide HT w1 v hB hv)
  obtain ⟨ad, cap, rfl, hc⟩ := EntsIn.far hv
  have hlen : f3.length = 3 := rfl
  rw [hlen] at HT1 hc ⊢
  have HC := hide hc
  have HB := hide hB
  clear hB hv hc hlen
  go_wp2_with fail
  refine (unhide HT1).mono ?_
  rintro E w2 ⟨rfl, hB⟩
  have HB2 := hide ((unhide HB).trans (hB.mono (unhide HB).size))
  obtain ⟨b, o, rfl, c0, c1, c2, c3⟩ := unhide HC w2 hB 2 (by omega)
  simp only [f3, List.getD_cons_succ, List.getD_cons_zero] at c0 c1 c2 c3
  clear hB
  go_wp2
  go_ret
  exact ⟨rfl, unhide HB2⟩
end Go.Proofs.YtglhapkclpllfadGreatDoor
