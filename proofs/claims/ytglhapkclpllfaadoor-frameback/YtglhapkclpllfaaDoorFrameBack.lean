/-
  The walk of the law FrameBack: whatever the frame, the text, the place and the byte are, it answers true, and nothing that was in memory has turned.
  Conditions: the library's variables and package api's errors lie as laid (structure FrOk).
-/
import Derived.Test.YtglhapkclpllfaaDoorFramed
import Derived.Laws.IdiomStrings
import Derived.Lib.AtoiErrMem
namespace Go.Proofs.YtglhapkclpllfaaDoor
open Go.RowKit Go.Shelf

/-- A frame in memory of the call's own, that may be written anew. -/
structure FrmF (w : World) (b : Nat) (fr me mo sl va : Int) : Prop where
  at' : FrmAt w b fr me mo sl va
  f0 : w.frozen? ⟨b, 0, none⟩ = false
  f1 : w.frozen? ⟨b, 1, none⟩ = false
  f2 : w.frozen? ⟨b, 2, none⟩ = false
  f3 : w.frozen? ⟨b, 3, none⟩ = false
  f4 : w.frozen? ⟨b, 4, none⟩ = false
theorem FrmF.below {w w' : World} {b : Nat} {fr me mo sl va : Int} (h : FrmF w b fr me mo sl va) (hB : Below w.heap.size w w') : FrmF w' b fr me mo sl va :=
  ⟨h.at'.below hB, (hB.frozen (cell_lt h.at'.c0)).trans h.f0, (hB.frozen (cell_lt h.at'.c1)).trans h.f1, (hB.frozen (cell_lt h.at'.c2)).trans h.f2, (hB.frozen (cell_lt h.at'.c3)).trans h.f3, (hB.frozen (cell_lt h.at'.c4)).trans h.f4⟩
theorem FrmF.new (w : World) (fr me mo sl va : Int) : FrmF (w.alloc (.cells #[.int .i64 fr, .int .i64 me, .int .i64 mo, .int .i64 sl, .int .i64 va] 63)) w.heap.size fr me mo sl va :=
  ⟨FrmAt.new w fr me mo sl va, by simp, by simp, by simp, by simp, by simp⟩
/-- Five cells are written anew. -/
def set5 (w : World) (b : Nat) (x0 x1 x2 x3 x4 : Int) : World := ((((w.setCell ⟨b, 0, none⟩ (.int .i64 x0)).setCell ⟨b, 1, none⟩ (.int .i64 x1)).setCell ⟨b, 2, none⟩ (.int .i64 x2)).setCell ⟨b, 3, none⟩ (.int .i64 x3)).setCell ⟨b, 4, none⟩ (.int .i64 x4)
theorem set5_other {w : World} {b : Nat} {x0 x1 x2 x3 x4 : Int} {p : Addr} (h : p.block ≠ b) : (set5 w b x0 x1 x2 x3 x4).cell? p = w.cell? p := by
  have hne : ∀ i, (⟨b, i, none⟩ : Addr) ≠ p := fun i e => h (by rw [← e])
  unfold set5
  rw [World.cell?_setCell_other _ _ _ _ (hne 4), World.cell?_setCell_other _ _ _ _ (hne 3), World.cell?_setCell_other _ _ _ _ (hne 2), World.cell?_setCell_other _ _ _ _ (hne 1), World.cell?_setCell_other _ _ _ _ (hne 0)]
theorem FrmF.set {w : World} {b : Nat} {fr me mo sl va : Int} (h : FrmF w b fr me mo sl va) (x0 x1 x2 x3 x4 : Int) : FrmF (set5 w b x0 x1 x2 x3 x4) b x0 x1 x2 x3 x4 := by
  obtain ⟨⟨c0, c1, c2, c3, c4⟩, f0, f1, f2, f3, f4⟩ := h
  have n : ∀ i j : Nat, i ≠ j → (⟨b, i, none⟩ : Addr) ≠ ⟨b, j, none⟩ := fun i j hij e => hij (by injection e)
  unfold set5
  refine ⟨⟨?_, ?_, ?_, ?_, ?_⟩, by simp [f0], by simp [f1], by simp [f2], by simp [f3], by simp [f4]⟩
  · rw [World.cell?_setCell_other _ _ _ _ (n 4 0 (by decide)), World.cell?_setCell_other _ _ _ _ (n 3 0 (by decide)), World.cell?_setCell_other _ _ _ _ (n 2 0 (by decide)), World.cell?_setCell_other _ _ _ _ (n 1 0 (by decide))]
    exact World.cell?_setCell_same _ _ _ c0
  · rw [World.cell?_setCell_other _ _ _ _ (n 4 1 (by decide)), World.cell?_setCell_other _ _ _ _ (n 3 1 (by decide)), World.cell?_setCell_other _ _ _ _ (n 2 1 (by decide))]
    exact World.cell?_setCell_same _ _ _ (u := .int .i64 me) (by rw [World.cell?_setCell_other _ _ _ _ (n 0 1 (by decide))]; exact c1)
  · rw [World.cell?_setCell_other _ _ _ _ (n 4 2 (by decide)), World.cell?_setCell_other _ _ _ _ (n 3 2 (by decide))]
    exact World.cell?_setCell_same _ _ _ (u := .int .i64 mo) (by rw [World.cell?_setCell_other _ _ _ _ (n 1 2 (by decide)), World.cell?_setCell_other _ _ _ _ (n 0 2 (by decide))]; exact c2)
  · rw [World.cell?_setCell_other _ _ _ _ (n 4 3 (by decide))]
    exact World.cell?_setCell_same _ _ _ (u := .int .i64 sl) (by rw [World.cell?_setCell_other _ _ _ _ (n 2 3 (by decide)), World.cell?_setCell_other _ _ _ _ (n 1 3 (by decide)), World.cell?_setCell_other _ _ _ _ (n 0 3 (by decide))]; exact c3)
  · exact World.cell?_setCell_same _ _ _ (u := .int .i64 va) (by rw [World.cell?_setCell_other _ _ _ _ (n 3 4 (by decide)), World.cell?_setCell_other _ _ _ _ (n 2 4 (by decide)), World.cell?_setCell_other _ _ _ _ (n 1 4 (by decide)), World.cell?_setCell_other _ _ _ _ (n 0 4 (by decide))]; exact c4)
theorem FrmF.other {w : World} {b b' : Nat} {fr me mo sl va : Int} (h : FrmF w b fr me mo sl va) (hne : b ≠ b') (i : Nat) (v : Value) : FrmF (w.setCell ⟨b', i, none⟩ v) b fr me mo sl va := by
  obtain ⟨⟨c0, c1, c2, c3, c4⟩, f0, f1, f2, f3, f4⟩ := h
  have n : ∀ j : Nat, (⟨b', i, none⟩ : Addr) ≠ ⟨b, j, none⟩ := fun j e => hne (by injection e with e1; exact e1.symm)
  exact ⟨⟨by rw [World.cell?_setCell_other _ _ _ _ (n 0)]; exact c0, by rw [World.cell?_setCell_other _ _ _ _ (n 1)]; exact c1, by rw [World.cell?_setCell_other _ _ _ _ (n 2)]; exact c2, by rw [World.cell?_setCell_other _ _ _ _ (n 3)]; exact c3, by rw [World.cell?_setCell_other _ _ _ _ (n 4)]; exact c4⟩,
    by simp [f0], by simp [f1], by simp [f2], by simp [f3], by simp [f4]⟩
theorem below_set5 {B : Nat} {w0 w : World} {b : Nat} (hB : Below B w0 w) (hb : B ≤ b) (x0 x1 x2 x3 x4 : Int) : Below B w0 (set5 w b x0 x1 x2 x3 x4) := by
  unfold set5
  exact ((((hB.setCell (p := ⟨b, 0, none⟩) hb _).setCell (p := ⟨b, 1, none⟩) hb _).setCell (p := ⟨b, 2, none⟩) hb _).setCell (p := ⟨b, 3, none⟩) hb _).setCell (p := ⟨b, 4, none⟩) hb _
theorem FrmAt.set5 {w : World} {b b' : Nat} {fr me mo sl va : Int} (h : FrmAt w b fr me mo sl va) (hne : b ≠ b') (x0 x1 x2 x3 x4 : Int) : FrmAt (set5 w b' x0 x1 x2 x3 x4) b fr me mo sl va :=
  ⟨by rw [set5_other hne]; exact h.c0, by rw [set5_other hne]; exact h.c1, by rw [set5_other hne]; exact h.c2, by rw [set5_other hne]; exact h.c3, by rw [set5_other hne]; exact h.c4⟩
/-- What Read answers, in parts. -/
theorem read_parts (e : Nat → TypeId × Value) (l : List UInt8) : ∃ (r0 r1 r2 r3 r4 : Int) (ev : Value), readV e (readF l) = .tuple #[.agg #[.int .i64 r0, .int .i64 r1, .int .i64 r2, .int .i64 r3, .int .i64 r4], ev] ∧
    ((ev = .nilIface ∧ fErr ⟨r0, r1, r2, r3, r4⟩ = 0 ∧ frameL ⟨r0, r1, r2, r3, r4⟩ = l) ∨ ∃ t p, ev = .iface t p) := by
  cases h : readF l with
  | ok g =>
    obtain ⟨r0, r1, r2, r3, r4⟩ := g
    obtain ⟨h1, h2⟩ := frame_read h
    exact ⟨r0, r1, r2, r3, r4, _, rfl, Or.inl ⟨rfl, h2, h1⟩⟩
  | error k => exact ⟨0, 0, 0, 0, 0, _, rfl, Or.inr ⟨_, _, rfl⟩⟩
set_option maxHeartbeats 1000000 in
set_option maxRecDepth 100000 in
theorem back_long (f : Frm) (s : ByteArray) (at' x : Int) (h : 150 < s.size) (e : Nat → TypeId × Value) (w : World) (F : FrOk e w) :
    Calls Tryd.prog 7 #[frmV f, .string s, .int .i64 at', .int .u8 x] w fun r w' => r = .returned (.bool true) ∧ Below w.heap.size w w' := by
  obtain ⟨fr, me, mo, sl, va⟩ := f
  unfold frmV
  have hb : Below w.heap.size w (w.alloc (.cells #[.int .i64 fr, .int .i64 me, .int .i64 mo, .int .i64 sl, .int .i64 va] 63)) := (Below.refl _ _).alloc (Nat.le_refl _) _
  have HB := hide hb
  have HF := hide F
  have h' : (150 : Int) < (s.size : Int) := by omega
  clear F hb h
  go_enter Tryd.func7, Tryd.ntmps7
  go_wp2_with fail
  refine (framed_ok e _ ((unhide HF).below (unhide HB))).mono ?_
  rintro E w1 ⟨rfl, hB⟩
  have HB1 := hide ((unhide HB).trans (hB.mono (unhide HB).size))
  clear hB
  go_wp2_with fail
  go_ret
  exact ⟨rfl, unhide HB1⟩
set_option maxHeartbeats 4000000 in
set_option maxRecDepth 100000 in
theorem back_bad (f : Frm) (s : ByteArray) (at' x : Int) (h : s.size ≤ 150) (he : fErr f ≠ 0) (e : Nat → TypeId × Value) (w : World) (F : FrOk e w) :
    Calls Tryd.prog 7 #[frmV f, .string s, .int .i64 at', .int .u8 x] w fun r w' => r = .returned (.bool true) ∧ Below w.heap.size w w' := by
  obtain ⟨fr, me, mo, sl, va⟩ := f
  have HM := hide (make_ok ⟨fr, me, mo, sl, va⟩ e)
  unfold makeV at HM
  rw [if_neg he] at HM
  generalize fErr ⟨fr, me, mo, sl, va⟩ = er at *
  have HR := hide (fread_ok s e)
  obtain ⟨r0, r1, r2, r3, r4, ev, hrv, hev⟩ := read_parts e s.data.toList
  rw [hrv] at HR
  clear hrv
  unfold frmV at HM ⊢
  have hb : Below w.heap.size w (w.alloc (.cells #[.int .i64 fr, .int .i64 me, .int .i64 mo, .int .i64 sl, .int .i64 va] 63)) := (Below.refl _ _).alloc (Nat.le_refl _) _
  have HB := hide hb
  have HF := hide F
  have HP := hide (FrmAt.new w fr me mo sl va)
  have h' : ¬ (150 : Int) < (s.size : Int) := by omega
  clear F hb h
  go_enter Tryd.func7, Tryd.ntmps7
  go_wp2_with fail
  refine (framed_ok e _ ((unhide HF).below (unhide HB))).mono ?_
  rintro E w1 ⟨rfl, hB⟩
  have HB1 := hide ((unhide HB).trans (hB.mono (unhide HB).size))
  have HP1 := hide ((unhide HP).below hB)
  clear hB
  go_wp2_with fail
  refine (unhide HR _ ((unhide HF).below (unhide HB1))).mono ?_
  rintro E w2 ⟨rfl, hB⟩
  have HB2 := hide ((unhide HB1).trans (hB.mono (unhide HB1).size))
  have HP2 := hide ((unhide HP1).below hB)
  clear hB
  have HB3 := hide ((unhide HB2).alloc (unhide HB2).size (.cells #[.int .i64 r0, .int .i64 r1, .int .i64 r2, .int .i64 r3, .int .i64 r4] 63))
  have HP3 := hide ((unhide HP2).below ((Below.refl _ w2).alloc (Nat.le_refl _) (.cells #[.int .i64 r0, .int .i64 r1, .int .i64 r2, .int .i64 r3, .int .i64 r4] 63)))
  rcases hev with ⟨rfl, hg, hl⟩ | ⟨t, p, rfl⟩
  · have HG := hide (make_ok ⟨r0, r1, r2, r3, r4⟩ e)
    unfold makeV frmV at HG
    rw [if_pos hg, hl] at HG
    have es : (ByteArray.mk s.data.toList.toArray) = s := rfl
    rw [es] at HG
    clear hg hl es
    go_wp2_with fail
    refine (unhide HG _ ((unhide HF).below (unhide HB3))).mono ?_
    rintro E w4 ⟨rfl, hB⟩
    have HB4 := hide ((unhide HB3).trans (hB.mono (unhide HB3).size))
    have HP4 := hide ((unhide HP3).below hB)
    clear hB
    have q0 := (unhide HP4).c0
    have q1 := (unhide HP4).c1
    have q2 := (unhide HP4).c2
    have q3 := (unhide HP4).c3
    have q4 := (unhide HP4).c4
    go_wp2_with fail
    refine (unhide HM _ ((unhide HF).below (unhide HB4))).mono ?_
    rintro E w5 ⟨rfl, hB⟩
    have HB5 := hide ((unhide HB4).trans (hB.mono (unhide HB4).size))
    clear hB q0 q1 q2 q3 q4
    go_wp2_with fail
    go_ret
    exact ⟨rfl, unhide HB5⟩
  · have q0 := (unhide HP3).c0
    have q1 := (unhide HP3).c1
    have q2 := (unhide HP3).c2
    have q3 := (unhide HP3).c3
    have q4 := (unhide HP3).c4
    go_wp2_with fail
    refine (unhide HM _ ((unhide HF).below (unhide HB3))).mono ?_
    rintro E w5 ⟨rfl, hB⟩
    have HB5 := hide ((unhide HB3).trans (hB.mono (unhide HB3).size))
    clear hB q0 q1 q2 q3 q4
    go_wp2_with fail
    go_ret
    exact ⟨rfl, unhide HB5⟩
theorem set5_size (w : World) (b : Nat) (x0 x1 x2 x3 x4 : Int) : (set5 w b x0 x1 x2 x3 x4).heap.size = w.heap.size := by simp [set5]
theorem Tryd.uSTR : Tryd.prog.underlying 9 = some .string := Tryd.underlying9
/-- A text's bytes, in a row of their own. -/
theorem bytes_new (T : ByteArray) (W : World) : ∃ (W2 : World) (cap : Nat), (convert 9 68 (.string T)).run Tryd.prog W = .ok (.slice (some ⟨W.heap.size, 0, none⟩) T.size cap) W2 ∧ Below W.heap.size W W2 ∧
    (∀ j, j < T.size → W2.cell? ⟨W.heap.size, j, none⟩ = some (.int .u8 ((T.data.toList.getD j 0).toNat : Int))) ∧ ∀ j, j < T.size → W2.frozen? ⟨W.heap.size, j, none⟩ = false := by
  refine ⟨_, _, Lib.run_convert_string_bytes W 9 68 5 T Tryd.underlying9 Tryd.underlying68 Tryd.underlying5, Lib.bytesWorld_below _ _ _, fun j hj => Lib.bytesWorld_cell W 5 T j hj, fun j hj => ?_⟩
  have hs : T.size ≤ (Lib.bytesCells W 5 T).size := by simp [Lib.bytesCells]
  unfold World.frozen?
  rw [Lib.bytesWorld_at_new]
  simp
  omega
/-- .. and back, with one byte another one. -/
theorem bytes_back (T : ByteArray) (b cap i : Nat) (x : UInt8) (W : World) (hi : i < T.size) (hc : ∀ j, j < T.size → W.cell? ⟨b, j, none⟩ = some (.int .u8 ((T.data.toList.getD j 0).toNat : Int))) :
    (convert 68 9 (.slice (some ⟨b, 0, none⟩) T.size cap)).run Tryd.prog (W.setCell ⟨b, i, none⟩ (.int .u8 (x.toNat : Int))) = .ok (.string ⟨(T.data.toList.set i x).toArray⟩) (W.setCell ⟨b, i, none⟩ (.int .u8 (x.toNat : Int))) := by
  have hz : T.size = T.data.toList.length := by simp
  have hl : (T.data.toList.set i x).length = T.size := by simp
  have h := run_convert_bytes_back (P := Tryd.prog) (W.setCell ⟨b, i, none⟩ (.int .u8 (x.toNat : Int))) 68 9 5 ⟨b, 0, none⟩ cap (T.data.toList.set i x) Tryd.underlying68 Tryd.underlying5 Tryd.underlying9 (fun j hj => by
    rw [hl] at hj
    have ea : (⟨b, 0, none⟩ : Addr).add j = ⟨b, j, none⟩ := by unfold Addr.add; simp; omega
    rw [ea, List.getElem_set]
    by_cases hij : i = j
    · subst hij
      rw [if_pos rfl]
      exact World.cell?_setCell_same _ _ _ (hc i hi)
    · rw [if_neg hij, World.cell?_setCell_other _ _ _ _ (fun e => hij (by injection e)), hc j hj, List.getD_eq_getElem?_getD, List.getElem?_eq_getElem (by omega)]
      rfl)
  rw [hl] at h
  exact h
theorem read_no {l : List UInt8} (h : ∀ g, readF l ≠ .ok g) (e : Nat → TypeId × Value) : ∃ t p, readV e (readF l) = .tuple #[.agg #[.int .i64 0, .int .i64 0, .int .i64 0, .int .i64 0, .int .i64 0], .iface t p] := by
  cases hr : readF l with
  | ok g => exact absurd hr (h g)
  | error k => exact ⟨_, _, rfl⟩
/-- The last blank of a frame's text. -/
theorem blank_at {T : ByteArray} {f : Frm} (hT : T.data.toList = frameL f) (h : (headL f).length < T.size) : T[(headL f).length] = 32 := by
  have e : T[(headL f).length] = (frameL f).getD (headL f).length 0 := by
    rw [← hT, List.getD_eq_getElem?_getD, List.getElem?_eq_getElem (by simpa using h)]
    rfl
  rw [e]
  unfold frameL
  rw [List.getD_eq_getElem?_getD, List.getElem?_append_right (Nat.le_refl _), Nat.sub_self]
  rfl
theorem blank_not {T : ByteArray} {f : Frm} (hT : T.data.toList = frameL f) {k : Nat} (h : k < T.size) (hk : (headL f).length < k) : T[k] ≠ 32 := by
  have e : T[k] = (frameL f).getD k 0 := by
    rw [← hT, List.getD_eq_getElem?_getD, List.getElem?_eq_getElem (by simpa using h)]
    rfl
  have hz : T.size = (frameL f).length := by rw [← hT]; simp
  obtain ⟨m, rfl⟩ : ∃ m, k = (headL f).length + (m + 1) := ⟨k - (headL f).length - 1, by omega⟩
  rw [e]
  unfold frameL at hz ⊢
  rw [List.length_append, List.length_cons] at hz
  rw [List.getD_eq_getElem?_getD, List.getElem?_append_right (by omega), show (headL f).length + (m + 1) - (headL f).length = m + 1 by omega, List.getElem?_cons_succ, List.getElem?_eq_getElem (by omega)]
  exact itoa_blank _ _ (List.getElem_mem _)
theorem head_pos (f : Frm) : 5 ≤ (headL f).length := by simp [headL, frameW]
set_option maxHeartbeats 4000000 in
set_option maxRecDepth 100000 in
theorem back_out (f : Frm) (s : ByteArray) (at' x : Int) (h : s.size ≤ 150) (he : fErr f = 0) (hat : at' < 0 ∨ ((frameL f).length : Int) ≤ at') (e : Nat → TypeId × Value) (w : World) (F : FrOk e w) :
    Calls Tryd.prog 7 #[frmV f, .string s, .int .i64 at', .int .u8 x] w fun r w' => r = .returned (.bool true) ∧ Below w.heap.size w w' := by
  have HM := hide (make_ok f e)
  unfold makeV at HM
  rw [if_pos he] at HM
  have HT := hide (fread_ok ⟨(frameL f).toArray⟩ e)
  have hn := frame_len f he
  rw [show (ByteArray.mk (frameL f).toArray).data.toList = frameL f by simp, read_frame f he] at HT
  have hz : (ByteArray.mk (frameL f).toArray).size = (frameL f).length := by show (frameL f).toArray.size = _; simp
  obtain ⟨fr, me, mo, sl, va⟩ := f
  have HR := hide (fread_ok s e)
  obtain ⟨r0, r1, r2, r3, r4, ev, hrv, hev⟩ := read_parts e s.data.toList
  rw [hrv] at HR
  clear hrv
  generalize ByteArray.mk (frameL ⟨fr, me, mo, sl, va⟩).toArray = T at *
  rw [← hz] at hat hn
  unfold frmV at HM ⊢
  unfold readV frmV at HT
  have hb : Below w.heap.size w (w.alloc (.cells #[.int .i64 fr, .int .i64 me, .int .i64 mo, .int .i64 sl, .int .i64 va] 63)) := (Below.refl _ _).alloc (Nat.le_refl _) _
  have HB := hide hb
  have HF := hide F
  have HP := hide (FrmAt.new w fr me mo sl va)
  have h' : ¬ (150 : Int) < (s.size : Int) := by omega
  clear F hb h he hz
  go_enter Tryd.func7, Tryd.ntmps7
  go_wp2_with fail
  refine (framed_ok e _ ((unhide HF).below (unhide HB))).mono ?_
  rintro E w1 ⟨rfl, hB⟩
  have HB1 := hide ((unhide HB).trans (hB.mono (unhide HB).size))
  have HP1 := hide ((unhide HP).below hB)
  clear hB
  go_wp2_with fail
  refine (unhide HR _ ((unhide HF).below (unhide HB1))).mono ?_
  rintro E w2 ⟨rfl, hB⟩
  have HB2 := hide ((unhide HB1).trans (hB.mono (unhide HB1).size))
  have HP2 := hide ((unhide HP1).below hB)
  clear hB
  have hne : ¬ (w.heap.size = w2.heap.size) := by have := cell_lt (unhide HP2).c0; simp only at this; omega
  have hne' : ¬ (w2.heap.size = w.heap.size) := by omega
  have HB3 := hide ((unhide HB2).alloc (unhide HB2).size (.cells #[.int .i64 r0, .int .i64 r1, .int .i64 r2, .int .i64 r3, .int .i64 r4] 63))
  have HP3 := hide ((unhide HP2).below ((Below.refl _ w2).alloc (Nat.le_refl _) (.cells #[.int .i64 r0, .int .i64 r1, .int .i64 r2, .int .i64 r3, .int .i64 r4] 63)))
  have HX3 := hide (FrmF.new w2 r0 r1 r2 r3 r4)
  clear HB HP HB1 HP1 HP2
  rcases hev with ⟨rfl, hg, hl⟩ | ⟨tt, pp, rfl⟩
  · have HG := hide (make_ok ⟨r0, r1, r2, r3, r4⟩ e)
    unfold makeV frmV at HG
    rw [if_pos hg, hl] at HG
    have es : (ByteArray.mk s.data.toList.toArray) = s := rfl
    rw [es] at HG
    clear hg hl es
    go_wp2_with fail
    refine (unhide HG _ ((unhide HF).below (unhide HB3))).mono ?_
    rintro E w4 ⟨rfl, hB⟩
    have HB4 := hide ((unhide HB3).trans (hB.mono (unhide HB3).size))
    have HP4 := hide ((unhide HP3).below hB)
    have HX4 := hide ((unhide HX3).below hB)
    clear hB
    have q0 := (unhide HP4).c0
    have q1 := (unhide HP4).c1
    have q2 := (unhide HP4).c2
    have q3 := (unhide HP4).c3
    have q4 := (unhide HP4).c4
    go_wp2_with fail
    refine (unhide HM _ ((unhide HF).below (unhide HB4))).mono ?_
    rintro E w5 ⟨rfl, hB⟩
    have HB5 := hide ((unhide HB4).trans (hB.mono (unhide HB4).size))
    have HP5 := hide ((unhide HP4).below hB)
    have HX5 := hide ((unhide HX4).below hB)
    clear hB q0 q1 q2 q3 q4
    clear HG HB4 HP4 HX4
    go_wp2_with fail
    refine (unhide HT _ ((unhide HF).below (unhide HB5))).mono ?_
    rintro E w6 ⟨rfl, hB⟩
    have HB6 := hide ((unhide HB5).trans (hB.mono (unhide HB5).size))
    have HP6 := hide ((unhide HP5).below hB)
    have HX6 := hide ((unhide HX5).below hB)
    clear hB HB5 HP5 HX5
    have q0 := (unhide HP6).c0
    have q1 := (unhide HP6).c1
    have q2 := (unhide HP6).c2
    have q3 := (unhide HP6).c3
    have q4 := (unhide HP6).c4
    have y0 := (unhide HX6).at'.c0
    have y1 := (unhide HX6).at'.c1
    have y2 := (unhide HX6).at'.c2
    have y3 := (unhide HX6).at'.c3
    have y4 := (unhide HX6).at'.c4
    have f0 := (unhide HX6).f0
    have f1 := (unhide HX6).f1
    have f2 := (unhide HX6).f2
    have f3 := (unhide HX6).f3
    have f4 := (unhide HX6).f4
    go_wp2_with fail
    all_goals
      go_ret
      exact ⟨rfl, below_set5 (unhide HB6) (unhide HB2).size _ _ _ _ _⟩
  · have q0 := (unhide HP3).c0
    have q1 := (unhide HP3).c1
    have q2 := (unhide HP3).c2
    have q3 := (unhide HP3).c3
    have q4 := (unhide HP3).c4
    go_wp2_with fail
    refine (unhide HM _ ((unhide HF).below (unhide HB3))).mono ?_
    rintro E w5 ⟨rfl, hB⟩
    have HB5 := hide ((unhide HB3).trans (hB.mono (unhide HB3).size))
    have HP5 := hide ((unhide HP3).below hB)
    have HX5 := hide ((unhide HX3).below hB)
    clear hB q0 q1 q2 q3 q4
    go_wp2_with fail
    refine (unhide HT _ ((unhide HF).below (unhide HB5))).mono ?_
    rintro E w6 ⟨rfl, hB⟩
    have HB6 := hide ((unhide HB5).trans (hB.mono (unhide HB5).size))
    have HP6 := hide ((unhide HP5).below hB)
    have HX6 := hide ((unhide HX5).below hB)
    clear hB HB5 HP5 HX5
    have q0 := (unhide HP6).c0
    have q1 := (unhide HP6).c1
    have q2 := (unhide HP6).c2
    have q3 := (unhide HP6).c3
    have q4 := (unhide HP6).c4
    have y0 := (unhide HX6).at'.c0
    have y1 := (unhide HX6).at'.c1
    have y2 := (unhide HX6).at'.c2
    have y3 := (unhide HX6).at'.c3
    have y4 := (unhide HX6).at'.c4
    have f0 := (unhide HX6).f0
    have f1 := (unhide HX6).f1
    have f2 := (unhide HX6).f2
    have f3 := (unhide HX6).f3
    have f4 := (unhide HX6).f4
    go_wp2_with fail
    all_goals
      go_ret
      exact ⟨rfl, below_set5 (unhide HB6) (unhide HB2).size _ _ _ _ _⟩
set_option maxHeartbeats 4000000 in
set_option maxRecDepth 100000 in
theorem back_in (f : Frm) (s : ByteArray) (i : Nat) (x : UInt8) (h : s.size ≤ 150) (he : fErr f = 0) (hi : i < (frameL f).length) (e : Nat → TypeId × Value) (w : World) (F : FrOk e w) :
    Calls Tryd.prog 7 #[frmV f, .string s, .int .i64 (i : Nat), .int .u8 (x.toNat : Nat)] w fun r w' => r = .returned (.bool true) ∧ Below w.heap.size w w' := by
  have HM := hide (make_ok f e)
  unfold makeV at HM
  rw [if_pos he] at HM
  have HT := hide (fread_ok ⟨(frameL f).toArray⟩ e)
  have hn := frame_len f he
  rw [show (ByteArray.mk (frameL f).toArray).data.toList = frameL f by simp, read_frame f he] at HT
  have hz : (ByteArray.mk (frameL f).toArray).size = (frameL f).length := by show (frameL f).toArray.size = _; simp
  have HTL : Hid ((ByteArray.mk (frameL f).toArray).data.toList = frameL f) := by show _ = _; simp
  have hp5 := head_pos f
  have hpn : (headL f).length < (ByteArray.mk (frameL f).toArray).size := by rw [hz]; unfold frameL; rw [List.length_append, List.length_cons]; omega
  have HB1' : Hid (∀ k (h : k < (ByteArray.mk (frameL f).toArray).size), (headL f).length < k → (ByteArray.mk (frameL f).toArray)[k] ≠ 32) := fun k h hk => blank_not (unhide HTL) h hk
  have HB2' : Hid ((ByteArray.mk (frameL f).toArray)[(headL f).length] = 32) := blank_at (unhide HTL) hpn
  have HO := hide (one_byte f i x hi)
  obtain ⟨fr, me, mo, sl, va⟩ := f
  have HR := hide (fread_ok s e)
  obtain ⟨r0, r1, r2, r3, r4, ev, hrv, hev⟩ := read_parts e s.data.toList
  rw [hrv] at HR
  clear hrv
  generalize ByteArray.mk (frameL ⟨fr, me, mo, sl, va⟩).toArray = T at *
  rw [← hz] at hi hn
  rw [← unhide HTL] at HO
  generalize (headL ⟨fr, me, mo, sl, va⟩).length = p at *
  unfold frmV at HM ⊢
  unfold readV frmV at HT
  have hb : Below w.heap.size w (w.alloc (.cells #[.int .i64 fr, .int .i64 me, .int .i64 mo, .int .i64 sl, .int .i64 va] 63)) := (Below.refl _ _).alloc (Nat.le_refl _) _
  have HB := hide hb
  have HF := hide F
  have HP := hide (FrmAt.new w fr me mo sl va)
  have h' : ¬ (150 : Int) < (s.size : Int) := by omega
  clear F hb h he hz HTL
  go_enter Tryd.func7, Tryd.ntmps7
  go_wp2_with fail
  refine (framed_ok e _ ((unhide HF).below (unhide HB))).mono ?_
  rintro E w1 ⟨rfl, hB⟩
  have HB1 := hide ((unhide HB).trans (hB.mono (unhide HB).size))
  have HP1 := hide ((unhide HP).below hB)
  clear hB
  go_wp2_with fail
  refine (unhide HR _ ((unhide HF).below (unhide HB1))).mono ?_
  rintro E w2 ⟨rfl, hB⟩
  have HB2 := hide ((unhide HB1).trans (hB.mono (unhide HB1).size))
  have HP2 := hide ((unhide HP1).below hB)
  clear hB
  have hne : ¬ (w.heap.size = w2.heap.size) := by have := cell_lt (unhide HP2).c0; simp only at this; omega
  have hne' : ¬ (w2.heap.size = w.heap.size) := by omega
  have HB3 := hide ((unhide HB2).alloc (unhide HB2).size (.cells #[.int .i64 r0, .int .i64 r1, .int .i64 r2, .int .i64 r3, .int .i64 r4] 63))
  have HP3 := hide ((unhide HP2).below ((Below.refl _ w2).alloc (Nat.le_refl _) (.cells #[.int .i64 r0, .int .i64 r1, .int .i64 r2, .int .i64 r3, .int .i64 r4] 63)))
  have HX3 := hide (FrmF.new w2 r0 r1 r2 r3 r4)
  clear HB HP HB1 HP1 HP2
  rcases hev with ⟨rfl, hg, hl⟩ | ⟨tt, pp, rfl⟩
  · have HG := hide (make_ok ⟨r0, r1, r2, r3, r4⟩ e)
    unfold makeV frmV at HG
    rw [if_pos hg, hl] at HG
    have es : (ByteArray.mk s.data.toList.toArray) = s := rfl
    rw [es] at HG
    clear hg hl es
    go_wp2_with fail
    refine (unhide HG _ ((unhide HF).below (unhide HB3))).mono ?_
    rintro E w4 ⟨rfl, hB⟩
    have HB4 := hide ((unhide HB3).trans (hB.mono (unhide HB3).size))
    have HP4 := hide ((unhide HP3).below hB)
    have HX4 := hide ((unhide HX3).below hB)
    clear hB
    have q0 := (unhide HP4).c0
    have q1 := (unhide HP4).c1
    have q2 := (unhide HP4).c2
    have q3 := (unhide HP4).c3
    have q4 := (unhide HP4).c4
    go_wp2_with fail
    refine (unhide HM _ ((unhide HF).below (unhide HB4))).mono ?_
    rintro E w5 ⟨rfl, hB⟩
    have HB5 := hide ((unhide HB4).trans (hB.mono (unhide HB4).size))
    have HP5 := hide ((unhide HP4).below hB)
    have HX5 := hide ((unhide HX4).below hB)
    clear hB q0 q1 q2 q3 q4
    clear HG HB4 HP4 HX4
    go_wp2_with fail
    refine (unhide HT _ ((unhide HF).below (unhide HB5))).mono ?_
    rintro E w6 ⟨rfl, hB⟩
    have HB6 := hide ((unhide HB5).trans (hB.mono (unhide HB5).size))
    have HP6 := hide ((unhide HP5).below hB)
    have HX6 := hide ((unhide HX5).below hB)
    clear hB HB5 HP5 HX5
    have q0 := (unhide HP6).c0
    have q1 := (unhide HP6).c1
    have q2 := (unhide HP6).c2
    have q3 := (unhide HP6).c3
    have q4 := (unhide HP6).c4
    have y0 := (unhide HX6).at'.c0
    have y1 := (unhide HX6).at'.c1
    have y2 := (unhide HX6).at'.c2
    have y3 := (unhide HX6).at'.c3
    have y4 := (unhide HX6).at'.c4
    have f0 := (unhide HX6).f0
    have f1 := (unhide HX6).f1
    have f2 := (unhide HX6).f2
    have f3 := (unhide HX6).f3
    have f4 := (unhide HX6).f4
    go_wp2_with fail
    go_loop [15] (fun l => ∃ k : Nat, l = .int .i64 k ∧ p ≤ k ∧ k < T.size) (fun l => (intOf l).toNat)
    case atStart => exact ⟨T.size - 1, by first | rfl | (congr 1; omega), by omega, by omega⟩
    case round =>
      obtain ⟨k, rfl, hk1, hk2⟩ := hrel
      by_cases hkp : k = p
      · subst hkp
        have hbl : (T[k].toNat : Int) = 32 := by rw [unhide HB2']; rfl
        have hxb := x.toNat_lt
        by_cases hx : (T[i].toNat : Int) = (x.toNat : Int)
        · go_wp2_with fail
          all_goals
            go_ret
            exact ⟨rfl, below_set5 (unhide HB6) (unhide HB2).size _ _ _ _ _⟩
        · by_cases hip : i = k
          · have hip' : (i : Int) = (k : Int) := by omega
            go_wp2_with fail
            all_goals
              go_ret
              exact ⟨rfl, below_set5 (unhide HB6) (unhide HB2).size _ _ _ _ _⟩
          · have hip' : ¬ (i : Int) = (k : Int) := by omega
            by_cases hg : k < i ∧ x = 32
            · have hg1 : (k : Int) < (i : Int) := by omega
              have hg2 : (x.toNat : Int) = 32 := by rw [hg.2]; rfl
              go_wp2_with fail
              all_goals
                go_ret
                exact ⟨rfl, below_set5 (unhide HB6) (unhide HB2).size _ _ _ _ _⟩
            · have HN := unhide HO (by rw [List.getD_eq_getElem?_getD, List.getElem?_eq_getElem (by simpa using hi)]; intro ee; exact hx (by rw [← ee]; rfl)) hip (fun h1 h2 => hg ⟨h1, h2⟩)
              obtain ⟨te, pe, hrv⟩ := read_no HN e
              have HD := hide (fread_ok ⟨(T.data.toList.set i x).toArray⟩ e)
              rw [show (ByteArray.mk (T.data.toList.set i x).toArray).data.toList = T.data.toList.set i x by simp, hrv] at HD
              have hgs : ¬ ((k : Int) < (i : Int)) ∨ ((k : Int) < (i : Int) ∧ ¬ ((x.toNat : Int) = 32)) := by
                by_cases h1 : k < i
                · exact Or.inr ⟨by omega, fun h2 => hg ⟨h1, UInt8.toNat_inj.1 (by simpa using (by omega : x.toNat = 32))⟩⟩
                · exact Or.inl (by omega)
              obtain ⟨W2, cap, hconv, hBW, hcell, hfz⟩ := bytes_new T (set5 w6 w2.heap.size fr me mo sl va)
              have HX7 := hide ((unhide HX6).set fr me mo sl va)
              have HX8 := hide ((unhide HX7).below hBW)
              rw [set5_size] at hconv hcell hfz hBW
              have hback := bytes_back T w6.heap.size cap i x W2 hi hcell
              obtain ⟨ci, hci⟩ : ∃ c, W2.cell? ⟨w6.heap.size, i, none⟩ = some (.int .u8 c) := ⟨_, hcell i hi⟩
              have hfi := hfz i hi
              have hbs := below_set5 (unhide HB6) (unhide HB2).size fr me mo sl va
              have HB7 := hide (hbs.trans (hBW.mono (unhide HB6).size))
              have hlt : w2.heap.size < w6.heap.size := cell_lt (unhide HX6).at'.c0
              have HB9 := hide ((unhide HB7).setCell (p := ⟨w6.heap.size, i, none⟩) (by have := (unhide HB6).size; exact this) (.int .u8 (x.toNat : Int)))
              have HX9 := hide ((unhide HX8).other (b' := w6.heap.size) (by omega) i (.int .u8 (x.toNat : Int)))
              generalize ByteArray.mk (T.data.toList.set i x).toArray = D at *
              unfold set5 at hconv
              have Hk := hide hk1
              clear hcell hfz hBW hbs HX7 HX8 HN hrv hip hg hlt q0 q1 q2 q3 q4 y0 y1 y2 y3 y4 f0 f1 f2 f3 f4 hk1
              generalize ((((w6.setCell ⟨w2.heap.size, 0, none⟩ (.int .i64 fr)).setCell ⟨w2.heap.size, 1, none⟩ (.int .i64 me)).setCell ⟨w2.heap.size, 2, none⟩ (.int .i64 mo)).setCell ⟨w2.heap.size, 3, none⟩ (.int .i64 sl)).setCell ⟨w2.heap.size, 4, none⟩ (.int .i64 va) = W at *
              have hxq : ((T[i].toNat : Int) == (x.toNat : Int)) = false := by simpa using hx
              have hiq : ((i : Int) == (k : Int)) = false := by simpa using hip'
              rcases hgs with hgs | ⟨hgs, hgs2⟩
              all_goals
                go_wp2_with fail
                refine (unhide HD _ ((unhide HF).below (unhide HB9))).mono ?_
                rintro E w9 ⟨rfl, hB⟩
                have HBa := hide ((unhide HB9).trans (hB.mono (unhide HB9).size))
                have HXa := hide ((unhide HX9).below hB)
                clear hB
                have y0 := (unhide HXa).at'.c0
                have y1 := (unhide HXa).at'.c1
                have y2 := (unhide HXa).at'.c2
                have y3 := (unhide HXa).at'.c3
                have y4 := (unhide HXa).at'.c4
                have f0 := (unhide HXa).f0
                have f1 := (unhide HXa).f1
                have f2 := (unhide HXa).f2
                have f3 := (unhide HXa).f3
                have f4 := (unhide HXa).f4
                go_wp2_with fail
                go_ret
                exact ⟨rfl, below_set5 (unhide HBa) (unhide HB2).size _ _ _ _ _⟩
      · have hbl : ¬ ((T[k].toNat : Int) = 32) := fun e => unhide HB1' k hk2 (by omega) (UInt8.toNat_inj.1 (by simpa using (by omega : T[k].toNat = 32)))
        have hk0 : (0 : Int) < (k : Int) := by omega
        go_wp2_with fail
        go_round
        case rel => exact ⟨k - 1, by first | go_num | (congr 1; omega), by omega, by omega⟩
        case measure => simp [intOf]; omega
  · have q0 := (unhide HP3).c0
    have q1 := (unhide HP3).c1
    have q2 := (unhide HP3).c2
    have q3 := (unhide HP3).c3
    have q4 := (unhide HP3).c4
    go_wp2_with fail
    refine (unhide HM _ ((unhide HF).below (unhide HB3))).mono ?_
    rintro E w5 ⟨rfl, hB⟩
    have HB5 := hide ((unhide HB3).trans (hB.mono (unhide HB3).size))
    have HP5 := hide ((unhide HP3).below hB)
    have HX5 := hide ((unhide HX3).below hB)
    clear hB q0 q1 q2 q3 q4
    go_wp2_with fail
    refine (unhide HT _ ((unhide HF).below (unhide HB5))).mono ?_
    rintro E w6 ⟨rfl, hB⟩
    have HB6 := hide ((unhide HB5).trans (hB.mono (unhide HB5).size))
    have HP6 := hide ((unhide HP5).below hB)
    have HX6 := hide ((unhide HX5).below hB)
    clear hB HB5 HP5 HX5
    have q0 := (unhide HP6).c0
    have q1 := (unhide HP6).c1
    have q2 := (unhide HP6).c2
    have q3 := (unhide HP6).c3
    have q4 := (unhide HP6).c4
    have y0 := (unhide HX6).at'.c0
    have y1 := (unhide HX6).at'.c1
    have y2 := (unhide HX6).at'.c2
    have y3 := (unhide HX6).at'.c3
    have y4 := (unhide HX6).at'.c4
    have f0 := (unhide HX6).f0
    have f1 := (unhide HX6).f1
    have f2 := (unhide HX6).f2
    have f3 := (unhide HX6).f3
    have f4 := (unhide HX6).f4
    go_wp2_with fail
    go_loop [15] (fun l => ∃ k : Nat, l = .int .i64 k ∧ p ≤ k ∧ k < T.size) (fun l => (intOf l).toNat)
    case atStart => exact ⟨T.size - 1, by first | rfl | (congr 1; omega), by omega, by omega⟩
    case round =>
      obtain ⟨k, rfl, hk1, hk2⟩ := hrel
      by_cases hkp : k = p
      · subst hkp
        have hbl : (T[k].toNat : Int) = 32 := by rw [unhide HB2']; rfl
        have hxb := x.toNat_lt
        by_cases hx : (T[i].toNat : Int) = (x.toNat : Int)
        · go_wp2_with fail
          all_goals
            go_ret
            exact ⟨rfl, below_set5 (unhide HB6) (unhide HB2).size _ _ _ _ _⟩
        · by_cases hip : i = k
          · have hip' : (i : Int) = (k : Int) := by omega
            go_wp2_with fail
            all_goals
              go_ret
              exact ⟨rfl, below_set5 (unhide HB6) (unhide HB2).size _ _ _ _ _⟩
          · have hip' : ¬ (i : Int) = (k : Int) := by omega
            by_cases hg : k < i ∧ x = 32
            · have hg1 : (k : Int) < (i : Int) := by omega
              have hg2 : (x.toNat : Int) = 32 := by rw [hg.2]; rfl
              go_wp2_with fail
              all_goals
                go_ret
                exact ⟨rfl, below_set5 (unhide HB6) (unhide HB2).size _ _ _ _ _⟩
            · have HN := unhide HO (by rw [List.getD_eq_getElem?_getD, List.getElem?_eq_getElem (by simpa using hi)]; intro ee; exact hx (by rw [← ee]; rfl)) hip (fun h1 h2 => hg ⟨h1, h2⟩)
              obtain ⟨te, pe, hrv⟩ := read_no HN e
              have HD := hide (fread_ok ⟨(T.data.toList.set i x).toArray⟩ e)
              rw [show (ByteArray.mk (T.data.toList.set i x).toArray).data.toList = T.data.toList.set i x by simp, hrv] at HD
              have hgs : ¬ ((k : Int) < (i : Int)) ∨ ((k : Int) < (i : Int) ∧ ¬ ((x.toNat : Int) = 32)) := by
                by_cases h1 : k < i
                · exact Or.inr ⟨by omega, fun h2 => hg ⟨h1, UInt8.toNat_inj.1 (by simpa using (by omega : x.toNat = 32))⟩⟩
                · exact Or.inl (by omega)
              obtain ⟨W2, cap, hconv, hBW, hcell, hfz⟩ := bytes_new T (set5 w6 w2.heap.size fr me mo sl va)
              have HX7 := hide ((unhide HX6).set fr me mo sl va)
              have HX8 := hide ((unhide HX7).below hBW)
              rw [set5_size] at hconv hcell hfz hBW
              have hback := bytes_back T w6.heap.size cap i x W2 hi hcell
              obtain ⟨ci, hci⟩ : ∃ c, W2.cell? ⟨w6.heap.size, i, none⟩ = some (.int .u8 c) := ⟨_, hcell i hi⟩
              have hfi := hfz i hi
              have hbs := below_set5 (unhide HB6) (unhide HB2).size fr me mo sl va
              have HB7 := hide (hbs.trans (hBW.mono (unhide HB6).size))
              have hlt : w2.heap.size < w6.heap.size := cell_lt (unhide HX6).at'.c0
              have HB9 := hide ((unhide HB7).setCell (p := ⟨w6.heap.size, i, none⟩) (by have := (unhide HB6).size; exact this) (.int .u8 (x.toNat : Int)))
              have HX9 := hide ((unhide HX8).other (b' := w6.heap.size) (by omega) i (.int .u8 (x.toNat : Int)))
              generalize ByteArray.mk (T.data.toList.set i x).toArray = D at *
              unfold set5 at hconv
              have Hk := hide hk1
              clear hcell hfz hBW hbs HX7 HX8 HN hrv hip hg hlt q0 q1 q2 q3 q4 y0 y1 y2 y3 y4 f0 f1 f2 f3 f4 hk1
              generalize ((((w6.setCell ⟨w2.heap.size, 0, none⟩ (.int .i64 fr)).setCell ⟨w2.heap.size, 1, none⟩ (.int .i64 me)).setCell ⟨w2.heap.size, 2, none⟩ (.int .i64 mo)).setCell ⟨w2.heap.size, 3, none⟩ (.int .i64 sl)).setCell ⟨w2.heap.size, 4, none⟩ (.int .i64 va) = W at *
              have hxq : ((T[i].toNat : Int) == (x.toNat : Int)) = false := by simpa using hx
              have hiq : ((i : Int) == (k : Int)) = false := by simpa using hip'
              rcases hgs with hgs | ⟨hgs, hgs2⟩
              all_goals
                go_wp2_with fail
                refine (unhide HD _ ((unhide HF).below (unhide HB9))).mono ?_
                rintro E w9 ⟨rfl, hB⟩
                have HBa := hide ((unhide HB9).trans (hB.mono (unhide HB9).size))
                have HXa := hide ((unhide HX9).below hB)
                clear hB
                have y0 := (unhide HXa).at'.c0
                have y1 := (unhide HXa).at'.c1
                have y2 := (unhide HXa).at'.c2
                have y3 := (unhide HXa).at'.c3
                have y4 := (unhide HXa).at'.c4
                have f0 := (unhide HXa).f0
                have f1 := (unhide HXa).f1
                have f2 := (unhide HXa).f2
                have f3 := (unhide HXa).f3
                have f4 := (unhide HXa).f4
                go_wp2_with fail
                go_ret
                exact ⟨rfl, below_set5 (unhide HBa) (unhide HB2).size _ _ _ _ _⟩
      · have hbl : ¬ ((T[k].toNat : Int) = 32) := fun e => unhide HB1' k hk2 (by omega) (UInt8.toNat_inj.1 (by simpa using (by omega : T[k].toNat = 32)))
        have hk0 : (0 : Int) < (k : Int) := by omega
        go_wp2_with fail
        go_round
        case rel => exact ⟨k - 1, by first | go_num | (congr 1; omega), by omega, by omega⟩
        case measure => simp [intOf]; omega
theorem back_walk (f : Frm) (s : ByteArray) (at' x : Int) (hx : 0 ≤ x ∧ x ≤ 255) (e : Nat → TypeId × Value) (w : World) (F : FrOk e w) :
    Calls Tryd.prog 7 #[frmV f, .string s, .int .i64 at', .int .u8 x] w fun r w' => r = .returned (.bool true) ∧ Below w.heap.size w w' := by
  by_cases h : s.size ≤ 150
  · by_cases he : fErr f = 0
    · by_cases hat : at' < 0 ∨ ((frameL f).length : Int) ≤ at'
      · exact back_out f s at' x h he hat e w F
      · obtain ⟨i, rfl⟩ : ∃ i : Nat, at' = (i : Int) := ⟨at'.toNat, by omega⟩
        obtain ⟨y, rfl⟩ : ∃ y : UInt8, x = (y.toNat : Int) := ⟨UInt8.ofNat x.toNat, by rw [UInt8.toNat_ofNat']; omega⟩
        exact back_in f s i y h he (by omega) e w F
    · exact back_bad f s at' x h he e w F
  · exact back_long f s at' x (by omega) e w F
end Go.Proofs.YtglhapkclpllfaaDoor
