/-
  The closed fact about frames that the laws of chapter 3 begin with: it answers true.
  Conditions: the library's variables and package api's errors lie as laid (structure FrOk).
-/
import Derived.Test.YtglhapkclpllfaaDoorFrame5
import Derived.Test.YtglhapkclpllfaaDoorRefDec
namespace Go.Proofs.YtglhapkclpllfaaDoor
open Go.RowKit Go.Shelf

def oneF : Frm := ⟨1, 3, 1, 5, -7⟩
def oneL : List UInt8 := [102, 114, 97, 109, 101, 32, 49, 32, 49, 44, 50, 32, 49, 32, 53, 32, 45, 55]
theorem one_err : fErr oneF = 0 := by decide
theorem one_head : headL oneF = oneL := by
  have h3 : textOf 3 = [49, 44, 50] := by
    rw [textOf_dg 3 (by decide), show nodesF 3 = [0, 1] by decide]
    decide
  have i1 : Lib.itoa 1 = [49] := by rw [show (1 : Int) = ((1 : Nat) : Int) from rfl, Lib.itoa_nonneg, Lib.decDigits_one (by omega)]; rfl
  have i5 : Lib.itoa 5 = [53] := by rw [show (5 : Int) = ((5 : Nat) : Int) from rfl, Lib.itoa_nonneg, Lib.decDigits_one (by omega)]; rfl
  have i7 : Lib.itoa (-7) = [45, 55] := by rw [show (-7 : Int) = -((7 : Nat) : Int) from rfl, Lib.itoa_neg 7 (by omega), Lib.decDigits_one (by omega)]; rfl
  show frameW ++ 32 :: (Lib.itoa 1 ++ 32 :: (textOf 3 ++ 32 :: (Lib.itoa 1 ++ 32 :: (Lib.itoa 5 ++ 32 :: Lib.itoa (-7))))) = oneL
  rw [h3, i1, i5, i7]
  rfl
set_option maxHeartbeats 2000000 in
set_option maxRecDepth 100000 in
theorem framed_ok (e : Nat → TypeId × Value) (w : World) (F : FrOk e w) : Calls Tryd.prog 35 #[] w fun r w' => r = .returned (.bool true) ∧ Below w.heap.size w w' := by
  have HM : Hid (∀ w, FrOk e w → Calls Tryd.prog 37 #[.agg #[.int .i64 1, .int .i64 3, .int .i64 1, .int .i64 5, .int .i64 (-7)]] w fun r w' => r = .returned (.tuple #[.string ⟨(frameL oneF).toArray⟩, .nilIface]) ∧ Below w.heap.size w w') := fun w F => by
    have := make_ok oneF e w F
    unfold makeV at this
    rw [if_pos one_err] at this
    exact this
  have HR : Hid (∀ w, FrOk e w → Calls Tryd.prog 36 #[.string ⟨(frameL oneF).toArray⟩] w fun r w' => r = .returned (.tuple #[.agg #[.int .i64 1, .int .i64 3, .int .i64 1, .int .i64 5, .int .i64 (-7)], .nilIface]) ∧ Below w.heap.size w w') := fun w F => by
    have := fread_ok ⟨(frameL oneF).toArray⟩ e w F
    rw [show (ByteArray.mk (frameL oneF).toArray).data.toList = frameL oneF by simp, read_frame oneF one_err] at this
    exact this
  have hlt := sumF_lt oneL
  have HU : Hid (∀ w, Calls Tryd.prog 56 #[.string ⟨#[102, 114, 97, 109, 101, 32, 49, 32, 49, 44, 50, 32, 49, 32, 53, 32, 45, 55]⟩] w fun r w' => r = .returned (.int .i64 (sumF oneL : Nat)) ∧ w' = w) := fun w => sum_ok ⟨#[102, 114, 97, 109, 101, 32, 49, 32, 49, 44, 50, 32, 49, 32, 53, 32, 45, 55]⟩ (by decide) w
  have HA : Hid (∀ w, Calls Tryd.prog 56 #[.string ⟨#[97]⟩] w fun r w' => r = .returned (.int .i64 355) ∧ w' = w) := fun w => sum_ok ⟨#[97]⟩ (by decide) w
  have HD : Hid (∀ w, Calls Tryd.prog 55 #[.int .i64 (sumF oneL : Nat)] w fun r w' => ∃ d : ByteArray, r = .returned (.string d) ∧ d.size ≤ 5 ∧ (⟨#[102, 114, 97, 109, 101, 32, 49, 32, 49, 44, 50, 32, 49, 32, 53, 32, 45, 55, 32]⟩ ++ d : ByteArray) = ⟨(frameL oneF).toArray⟩ ∧ Below w.heap.size w w') := fun w => by
    refine (decimal_ok (sumF oneL : Nat) (by omega) (by omega) w).mono ?_
    rintro r w' ⟨d, rfl, hd, hB⟩
    refine ⟨d, rfl, size_of hd (itoa_short _ 4 (by omega) (by omega)), ?_, hB⟩
    have ed : d = ⟨(Lib.itoa (sumF oneL : Nat)).toArray⟩ := by
      obtain ⟨⟨d⟩⟩ := d
      simp at hd
      rw [hd]
    have ht := text_whole oneF
    rw [one_head] at ht
    rw [← ht, ed]
    rfl
  generalize ByteArray.mk (frameL oneF).toArray = T at *
  generalize sumF oneL = n at *
  have HF := hide F
  have hb : Below w.heap.size w (w.alloc (.cells #[.int .i64 1, .int .i64 3, .int .i64 1, .int .i64 5, .int .i64 (-7)] 63)) := (Below.refl _ _).alloc (Nat.le_refl _) _
  have HB := hide hb
  have HQ := hide (FrmAt.new w 1 3 1 5 (-7))
  clear F hb
  go_enter Tryd.func35, Tryd.ntmps35
  go_wp2_with fail
  refine (unhide HM _ ((unhide HF).below (unhide HB))).mono ?_
  rintro E w1 ⟨rfl, hB⟩
  have HB1 := hide ((unhide HB).trans (hB.mono (unhide HB).size))
  have HQ1 := hide ((unhide HQ).below hB)
  clear hB
  go_wp2_with fail
  refine (unhide HR _ ((unhide HF).below (unhide HB1))).mono ?_
  rintro E w2 ⟨rfl, hB⟩
  have HB2 := hide ((unhide HB1).trans (hB.mono (unhide HB1).size))
  have HQ2 := hide ((unhide HQ1).below hB)
  clear hB
  have HQ3 : ∀ o, FrmAt (w2.alloc o) w.heap.size 1 3 1 5 (-7) := fun o => (unhide HQ2).below ((Below.refl _ w2).alloc (Nat.le_refl _) o)
  have q0 := fun o => (HQ3 o).c0
  have q1 := fun o => (HQ3 o).c1
  have q2 := fun o => (HQ3 o).c2
  have q3 := fun o => (HQ3 o).c3
  have q4 := fun o => (HQ3 o).c4
  clear HQ3
  go_wp2_with fail
  refine (unhide HU _).mono ?_
  rintro E w3 ⟨rfl, rfl⟩
  go_wp2_with fail
  refine (unhide HD _).mono ?_
  rintro E w4 ⟨d, rfl, hds, hT, hB⟩
  have HB4 := hide (((unhide HB2).alloc (unhide HB2).size (.cells #[.int .i64 1, .int .i64 3, .int .i64 1, .int .i64 5, .int .i64 (-7)] 63)).trans (hB.mono (by have := (unhide HB2).size; simp; omega)))
  clear hB
  go_wp2_with fail
  refine (unhide HA _).mono ?_
  rintro E w5 ⟨rfl, rfl⟩
  go_wp2_with fail
  go_ret
  exact ⟨rfl, unhide HB4⟩
end Go.Proofs.YtglhapkclpllfaaDoor
