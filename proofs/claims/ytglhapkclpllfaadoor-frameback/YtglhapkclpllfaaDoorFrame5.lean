/-
  The contract of frame.Make: any frame: its text, or Check's error.
  Conditions: the library's variables and package api's errors lie as laid (structure FrOk).
-/
import Derived.Test.YtglhapkclpllfaaDoorFrame4
import Derived.Deep.RegionHeld3
namespace Go.Proofs.YtglhapkclpllfaaDoor
open Go.RowKit Go.Shelf

/-- What Make answers. -/
def makeV (e : Nat → TypeId × Value) (f : Frm) : Value :=
  if fErr f = 0 then .tuple #[.string ⟨(frameL f).toArray⟩, .nilIface] else .tuple #[.string ⟨#[]⟩, .iface (e (fErr f)).1 (e (fErr f)).2]
theorem itoa_any (n : Int) (h0 : -9223372036854775808 ≤ n) (h1 : n ≤ 9223372036854775807) (w : World) (L : LibOk w) : Calls Tryd.prog 45 #[.int .i64 n] w fun r w' => r = .returned (.string ⟨(Lib.itoa n).toArray⟩) ∧ Below w.heap.size w w' := by
  refine (Tryd.strconv_Itoa n h0 h1 w L.pow).mono ?_
  rintro r w' ⟨rfl, k, os, hw⟩
  exact ⟨rfl, by rw [hw]; exact Lib.below_grow _ _ (Nat.le_refl _) _ _⟩
theorem head_join (f : Frm) : Lib.join [frameW, Lib.itoa f.fr, textOf f.me.toNat, Lib.itoa f.mo, Lib.itoa f.sl, Lib.itoa f.va] [32] = headL f := by
  simp [headL, Lib.join, List.intercalate, List.intersperse]
/-- Six words in a row of their own, joined by blanks. -/
theorem join_six (a b c d x y : List UInt8) (hl : (Lib.join [a, b, c, d, x, y] [32]).length ≤ 140737488355328) (w : World) :
    Calls Tryd.prog 46 #[.slice (some ⟨w.heap.size, 0, none⟩) 6 6, .string ⟨#[32]⟩] (w.alloc (.cells #[.string ⟨a.toArray⟩, .string ⟨b.toArray⟩, .string ⟨c.toArray⟩, .string ⟨d.toArray⟩, .string ⟨x.toArray⟩, .string ⟨y.toArray⟩] 9)) fun r w' =>
      r = .returned (.string ⟨(Lib.join [a, b, c, d, x, y] [32]).toArray⟩) ∧ Below w.heap.size w w' := by
  have h := Tryd.strings_Join w.heap.size 0 6 [⟨a.toArray⟩, ⟨b.toArray⟩, ⟨c.toArray⟩, ⟨d.toArray⟩, ⟨x.toArray⟩, ⟨y.toArray⟩] ⟨#[32]⟩ (w.alloc (.cells #[.string ⟨a.toArray⟩, .string ⟨b.toArray⟩, .string ⟨c.toArray⟩, .string ⟨d.toArray⟩, .string ⟨x.toArray⟩, .string ⟨y.toArray⟩] 9))
    (fun j z hz => by
      rw [World.cell?_alloc_at _ _ _ _ rfl, Nat.zero_add]
      match j, hz with
      | 0, hz => simp at hz; simp [← hz]
      | 1, hz => simp at hz; simp [← hz]
      | 2, hz => simp at hz; simp [← hz]
      | 3, hz => simp at hz; simp [← hz]
      | 4, hz => simp at hz; simp [← hz]
      | 5, hz => simp at hz; simp [← hz]
      | _ + 6, hz => simp at hz) (by simp) (by simp) (by simp) hl
  refine h.mono ?_
  rintro r w' ⟨rfl, hB⟩
  exact ⟨rfl, ((Below.refl _ _).alloc (Nat.le_refl _) _).trans (hB.mono (by simp))⟩
theorem text_whole (f : Frm) : (ByteArray.mk (headL f).toArray ++ ⟨#[32]⟩) ++ ByteArray.mk (Lib.itoa (sumF (headL f) : Nat)).toArray = ⟨(frameL f).toArray⟩ := by
  have e : ∀ a b : ByteArray, a.data.toList = b.data.toList → a = b := fun a b h => by
    obtain ⟨⟨a⟩⟩ := a
    obtain ⟨⟨b⟩⟩ := b
    simp at h
    rw [h]
  apply e
  rw [cat_data, cat_data]
  simp [frameL]
set_option maxHeartbeats 1000000 in
set_option maxRecDepth 100000 in
theorem make_bad (f : Frm) (h : fErr f ≠ 0) (e : Nat → TypeId × Value) (w : World) (F : FrOk e w) :
    Calls Tryd.prog 37 #[frmV f] w fun r w' => r = .returned (makeV e f) ∧ Below w.heap.size w w' := by
  obtain ⟨fr, me, mo, sl, va⟩ := f
  unfold makeV
  rw [if_neg h]
  have HC := hide (fun w S => fcheck_ok ⟨fr, me, mo, sl, va⟩ e w S)
  generalize fErr ⟨fr, me, mo, sl, va⟩ = er at *
  unfold frmV at HC ⊢
  have hb : Below w.heap.size w (w.alloc (.cells #[.int .i64 fr, .int .i64 me, .int .i64 mo, .int .i64 sl, .int .i64 va] 63)) := (Below.refl _ _).alloc (Nat.le_refl _) _
  have HB := hide hb
  have HF := hide F
  clear hb F
  go_enter Tryd.func37, Tryd.ntmps37
  go_wp2_with fail
  refine (unhide HC _ ((unhide HF).below (unhide HB)).sent).mono ?_
  rintro E w1 ⟨rfl, hB⟩
  have HB1 := hide ((unhide HB).trans (hB.mono (unhide HB).size))
  clear hB
  unfold errV
  rw [if_neg h]
  go_wp2_with fail
  go_ret2
  exact ⟨rfl, unhide HB1⟩
/-- A frame in memory of the call's own. -/
structure FrmAt (w : World) (b : Nat) (fr me mo sl va : Int) : Prop where
  c0 : w.cell? ⟨b, 0, none⟩ = some (.int .i64 fr)
  c1 : w.cell? ⟨b, 1, none⟩ = some (.int .i64 me)
  c2 : w.cell? ⟨b, 2, none⟩ = some (.int .i64 mo)
  c3 : w.cell? ⟨b, 3, none⟩ = some (.int .i64 sl)
  c4 : w.cell? ⟨b, 4, none⟩ = some (.int .i64 va)
theorem FrmAt.below {w w' : World} {b : Nat} {fr me mo sl va : Int} (h : FrmAt w b fr me mo sl va) (hB : Below w.heap.size w w') : FrmAt w' b fr me mo sl va :=
  ⟨below_cell hB h.c0, below_cell hB h.c1, below_cell hB h.c2, below_cell hB h.c3, below_cell hB h.c4⟩
theorem FrmAt.all {w : World} {b : Nat} {fr me mo sl va : Int} (h : FrmAt w b fr me mo sl va) : w.cell? ⟨b, 0, none⟩ = some (.int .i64 fr) ∧ w.cell? ⟨b, 1, none⟩ = some (.int .i64 me) ∧ w.cell? ⟨b, 2, none⟩ = some (.int .i64 mo) ∧ w.cell? ⟨b, 3, none⟩ = some (.int .i64 sl) ∧ w.cell? ⟨b, 4, none⟩ = some (.int .i64 va) :=
  ⟨h.c0, h.c1, h.c2, h.c3, h.c4⟩
theorem FrmAt.new (w : World) (fr me mo sl va : Int) : FrmAt (w.alloc (.cells #[.int .i64 fr, .int .i64 me, .int .i64 mo, .int .i64 sl, .int .i64 va] 63)) w.heap.size fr me mo sl va := ⟨by simp, by simp, by simp, by simp, by simp⟩
set_option maxHeartbeats 4000000 in
set_option maxRecDepth 100000 in
theorem make_good (f : Frm) (h : fErr f = 0) (e : Nat → TypeId × Value) (w : World) (F : FrOk e w) :
    Calls Tryd.prog 37 #[frmV f] w fun r w' => r = .returned (makeV e f) ∧ Below w.heap.size w w' := by
  obtain ⟨fr, me, mo, sl, va⟩ := f
  obtain ⟨h1, h2, h3⟩ := fErr_zero h
  simp only at h1 h2 h3
  obtain ⟨c, rfl⟩ : ∃ c : Nat, me = (c : Int) := ⟨me.toNat, by omega⟩
  unfold makeV
  rw [if_pos h]
  have HC := hide (fun w S => fcheck_ok ⟨fr, c, mo, sl, va⟩ e w S)
  rw [h] at HC
  have hlen := head_len ⟨fr, c, mo, sl, va⟩ h
  have hj := head_join ⟨fr, c, mo, sl, va⟩
  simp only [Int.toNat_natCast] at hj
  have HJ : Hid (∀ w : World, Calls Tryd.prog 46 #[.slice (some ⟨w.heap.size, 0, none⟩) 6 6, .string ⟨#[32]⟩] (w.alloc (.cells #[.string ⟨#[102, 114, 97, 109, 101]⟩, .string ⟨(Lib.itoa fr).toArray⟩, .string ⟨(textOf c).toArray⟩, .string ⟨(Lib.itoa mo).toArray⟩, .string ⟨(Lib.itoa sl).toArray⟩, .string ⟨(Lib.itoa va).toArray⟩] 9)) fun r w' =>
      r = .returned (.string ⟨(headL ⟨fr, c, mo, sl, va⟩).toArray⟩) ∧ Below w.heap.size w w') := fun w => by
    have := join_six frameW (Lib.itoa fr) (textOf c) (Lib.itoa mo) (Lib.itoa sl) (Lib.itoa va) (by rw [hj]; omega) w
    rw [hj] at this
    exact this
  have hsl := sumF_lt (headL ⟨fr, c, mo, sl, va⟩)
  have HU : Hid (∀ w, Calls Tryd.prog 56 #[.string ⟨(headL ⟨fr, c, mo, sl, va⟩).toArray⟩] w fun r w' => r = .returned (.int .i64 (sumF (headL ⟨fr, c, mo, sl, va⟩) : Nat)) ∧ w' = w) := fun w => sum_ok ⟨(headL ⟨fr, c, mo, sl, va⟩).toArray⟩ (by show (headL ⟨fr, c, mo, sl, va⟩).toArray.size ≤ _; rw [List.size_toArray]; unfold maxLen; omega) w
  have HT := hide (text_whole ⟨fr, c, mo, sl, va⟩)
  have hds : (ByteArray.mk (headL ⟨fr, c, mo, sl, va⟩).toArray).size ≤ 80 := by show (headL ⟨fr, c, mo, sl, va⟩).toArray.size ≤ _; rw [List.size_toArray]; exact hlen
  have H6 := hide (itoa_any (sumF (headL ⟨fr, c, mo, sl, va⟩) : Nat) (by omega) (by omega))
  have hil : (ByteArray.mk (Lib.itoa (sumF (headL ⟨fr, c, mo, sl, va⟩) : Nat)).toArray).size ≤ 5 := by
    show (Lib.itoa (sumF (headL ⟨fr, c, mo, sl, va⟩) : Nat)).toArray.size ≤ _
    rw [List.size_toArray]
    exact itoa_short _ 4 (by omega) (by omega)
  generalize ByteArray.mk (Lib.itoa (sumF (headL ⟨fr, c, mo, sl, va⟩) : Nat)).toArray = it at *
  generalize ByteArray.mk (headL ⟨fr, c, mo, sl, va⟩).toArray = hd at *
  generalize sumF (headL ⟨fr, c, mo, sl, va⟩) = sp at *
  have H1 := hide (itoa_any fr (by omega) (by omega))
  have H2 : Hid (∀ w, LibOk w → Calls Tryd.prog 20 #[.int .i64 c] w fun r w' => r = .returned (.string ⟨(textOf c).toArray⟩) ∧ Below w.heap.size w w') := fun w L => text_ok c (by omega) w L.size L.tab
  have H3 := hide (itoa_any mo (by omega) (by omega))
  have H4 := hide (itoa_any sl (by omega) (by omega))
  have H5 := hide (itoa_any va (by omega) (by omega))
  unfold frmV at HC ⊢
  have hb : Below w.heap.size w (w.alloc (.cells #[.int .i64 fr, .int .i64 c, .int .i64 mo, .int .i64 sl, .int .i64 va] 63)) := (Below.refl _ _).alloc (Nat.le_refl _) _
  have HB := hide hb
  have HF := hide F
  have HH := hide h
  clear hb F h hj
  go_enter Tryd.func37, Tryd.ntmps37
  go_wp2_with fail
  refine (unhide HC _ ((unhide HF).below (unhide HB)).sent).mono ?_
  rintro E w1 ⟨rfl, hB⟩
  have HB1 := hide ((unhide HB).trans (hB.mono (unhide HB).size))
  have HQ1 := hide ((FrmAt.new w fr c mo sl va).below hB)
  have q0 := (unhide HQ1).c0
  have q1 := (unhide HQ1).c1
  have q2 := (unhide HQ1).c2
  have q3 := (unhide HQ1).c3
  have q4 := (unhide HQ1).c4
  clear hB
  unfold errV
  rw [if_pos rfl]
  go_wp2_with fail
  have HB2 := hide (unhide HB1).drew
  have HQ2 := hide ((unhide HQ1).below (Below.refl _ w1).drew)
  go_region_held3 (fun w' => w'.cell? ⟨w.heap.size, 0, none⟩ = some (.int .i64 fr) ∧ w'.cell? ⟨w.heap.size, 1, none⟩ = some (.int .i64 c) ∧ w'.cell? ⟨w.heap.size, 2, none⟩ = some (.int .i64 mo) ∧ w'.cell? ⟨w.heap.size, 3, none⟩ = some (.int .i64 sl) ∧ w'.cell? ⟨w.heap.size, 4, none⟩ = some (.int .i64 va)) (first | exact (unhide HQ8).all | exact ((unhide HQ7).below ((Below.refl _ w7).alloc (Nat.le_refl _) _)).all | exact (unhide HQ7).all | exact (unhide HQ6).all | exact (unhide HQ5).all | exact (unhide HQ4).all | exact (unhide HQ3).all | exact (unhide HQ2).all)
    (first
      | (go_at_call_of 45 (Value.int .i64 fr); refine (unhide H1 _ ((unhide HF).below (unhide HB2)).lib).mono ?_; rintro E w3 ⟨rfl, hB⟩; have HB3 := hide ((unhide HB2).trans (hB.mono (unhide HB2).size)); have HQ3 := hide ((unhide HQ2).below hB); clear hB)
      | (go_at_call 20; refine (unhide H2 _ ((unhide HF).below (unhide HB3)).lib).mono ?_; rintro E w4 ⟨rfl, hB⟩; have HB4 := hide ((unhide HB3).trans (hB.mono (unhide HB3).size)); have HQ4 := hide ((unhide HQ3).below hB); clear hB)
      | (go_at_call_of 45 (Value.int .i64 mo); refine (unhide H3 _ ((unhide HF).below (unhide HB4)).lib).mono ?_; rintro E w5 ⟨rfl, hB⟩; have HB5 := hide ((unhide HB4).trans (hB.mono (unhide HB4).size)); have HQ5 := hide ((unhide HQ4).below hB); clear hB)
      | (go_at_call_of 45 (Value.int .i64 sl); refine (unhide H4 _ ((unhide HF).below (unhide HB5)).lib).mono ?_; rintro E w6 ⟨rfl, hB⟩; have HB6 := hide ((unhide HB5).trans (hB.mono (unhide HB5).size)); have HQ6 := hide ((unhide HQ5).below hB); clear hB)
      | (go_at_call_of 45 (Value.int .i64 va); refine (unhide H5 _ ((unhide HF).below (unhide HB6)).lib).mono ?_; rintro E w7 ⟨rfl, hB⟩; have HB7 := hide ((unhide HB6).trans (hB.mono (unhide HB6).size)); have HQ7 := hide ((unhide HQ6).below hB); clear hB)
      | (go_at_call 46; refine (unhide HJ _).mono ?_; rintro E w8 ⟨rfl, hB⟩; have HB8 := hide ((unhide HB7).trans (hB.mono (unhide HB7).size)); have HQ8 := hide ((unhide HQ7).below hB); clear hB))
  clear q0 q1 q2 q3 q4
  go_wp2_with fail
  refine (unhide HU _).mono ?_
  rintro E w9 ⟨rfl, rfl⟩
  go_wp2_with fail
  refine (unhide H6 _ ((unhide HF).below (unhide HB8)).lib).mono ?_
  rintro E w10 ⟨rfl, hB⟩
  have HB10 := hide ((unhide HB8).trans (hB.mono (unhide HB8).size))
  clear hB
  have hcs : (hd ++ ⟨#[32]⟩ : ByteArray).size ≤ 81 := by
    rw [ByteArray.size_append]
    have : (ByteArray.mk #[32]).size = 1 := rfl
    omega
  go_wp2_with fail
  go_ret2
  exact ⟨by rw [unhide HT]; rfl, unhide HB10⟩
theorem make_ok (f : Frm) (e : Nat → TypeId × Value) (w : World) (F : FrOk e w) :
    Calls Tryd.prog 37 #[frmV f] w fun r w' => r = .returned (makeV e f) ∧ Below w.heap.size w w' := by
  by_cases h : fErr f = 0
  · exact make_good f h e w F
  · exact make_bad f h e w F
end Go.Proofs.YtglhapkclpllfaaDoor
