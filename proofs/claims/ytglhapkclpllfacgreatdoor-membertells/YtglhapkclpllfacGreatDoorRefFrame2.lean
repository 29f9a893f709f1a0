/-
  The contract of the document's answer, chapter 3: FrameText.
-/
import Derived.Test.YtglhapkclpllfacGreatDoorRefFrame1
import Derived.Test.YtglhapkclpllfacGreatDoorRef3
import Derived.Test.YtglhapkclpllfacGreatDoorFrame5
namespace Go.Proofs.YtglhapkclpllfacGreatDoor
open Go.RowKit

theorem bytes_of {s : ByteArray} {l : List UInt8} (h : s.data.toList = l) : s = ⟨l.toArray⟩ := by
  obtain ⟨⟨s⟩⟩ := s
  simp at h
  rw [h]
theorem dec_any (n : Int) (h0 : -9223372036854775808 ≤ n) (h1 : n ≤ 9223372036854775807) (w : World) : Calls Tryz.prog 48 #[.int .i64 n] w fun e w' => e = .returned (.string ⟨(Lib.itoa n).toArray⟩) ∧ Below w.heap.size w w' :=
  (decimal_ok n h0 h1 w).mono fun e w' ⟨s, he, hs, hB⟩ => ⟨by rw [he, bytes_of hs], hB⟩
theorem sig_any (n : Int) (h0 : -9223372036854775807 ≤ n) (h1 : n ≤ 9223372036854775807) (w : World) : Calls Tryz.prog 50 #[.int .i64 n] w fun e w' => e = .returned (.string ⟨(Lib.itoa n).toArray⟩) ∧ Below w.heap.size w w' :=
  (signed_ok n h0 h1 w).mono fun e w' ⟨s, he, hs, hB⟩ => ⟨by rw [he, bytes_of hs], hB⟩
theorem ctext_any (c : Nat) (h : c ≤ 65535) (w : World) : Calls Tryz.prog 49 #[.int .i64 c] w fun e w' => e = .returned (.string ⟨(textOf c).toArray⟩) ∧ Below w.heap.size w w' :=
  (crewText_ok c h w).mono fun e w' ⟨s, he, hs, hB⟩ => ⟨by rw [he, bytes_of hs], hB⟩
theorem head_cat (f : Frm) : (((((((((⟨#[102, 114, 97, 109, 101, 32]⟩ ++ ByteArray.mk (Lib.itoa f.fr).toArray) ++ ⟨#[32]⟩) ++ ByteArray.mk (textOf f.me.toNat).toArray) ++ ⟨#[32]⟩) ++ ByteArray.mk (Lib.itoa f.mo).toArray) ++ ⟨#[32]⟩) ++ ByteArray.mk (Lib.itoa f.sl).toArray) ++ ⟨#[32]⟩) ++ ByteArray.mk (Lib.itoa f.va).toArray : ByteArray) = ⟨(headL f).toArray⟩ := by
  apply bytes_of
  simp only [cat_data]
  simp [headL, frameW]
theorem mk_size (l : List UInt8) (k : Nat) (h : l.length ≤ k) : (ByteArray.mk l.toArray).size ≤ k := by
  show l.toArray.size ≤ k
  rw [List.size_toArray]; exact h
/-- What FrameText answers. -/
def ftextV (f : Frm) : Value := if fErr f = 0 then .tuple #[.string ⟨(frameL f).toArray⟩, .int .i64 0] else .tuple #[.string ⟨#[]⟩, .int .i64 (fErr f : Nat)]
set_option maxHeartbeats 1000000 in
set_option maxRecDepth 100000 in
theorem frameText_bad (f : Frm) (h : fErr f ≠ 0) (w : World) : Calls Tryz.prog 27 #[frmV f] w fun r w' => r = .returned (ftextV f) ∧ Below w.heap.size w w' := by
  obtain ⟨fr, me, mo, sl, va⟩ := f
  unfold ftextV
  rw [if_neg h]
  have HC := hide (frameError_ok ⟨fr, me, mo, sl, va⟩)
  generalize fErr ⟨fr, me, mo, sl, va⟩ = er at *
  have her : (0 : Int) < (er : Int) := by omega
  unfold frmV at HC ⊢
  have hb : Below w.heap.size w (w.alloc (.cells #[.int .i64 fr, .int .i64 me, .int .i64 mo, .int .i64 sl, .int .i64 va] 53)) := (Below.refl _ _).alloc (Nat.le_refl _) _
  have HB := hide hb
  clear hb h
  go_enter Tryz.func27, Tryz.ntmps27
  go_wp2_with fail
  refine (unhide HC _).mono ?_
  rintro E w1 ⟨rfl, hB⟩
  have HB1 := hide ((unhide HB).trans (hB.mono (unhide HB).size))
  clear hB
  go_wp2_with fail
  go_ret2
  exact ⟨rfl, unhide HB1⟩
set_option maxHeartbeats 4000000 in
set_option maxRecDepth 100000 in
theorem frameText_good (f : Frm) (h : fErr f = 0) (w : World) : Calls Tryz.prog 27 #[frmV f] w fun r w' => r = .returned (ftextV f) ∧ Below w.heap.size w w' := by
  obtain ⟨fr, me, mo, sl, va⟩ := f
  obtain ⟨h1, h2, h3⟩ := fErr_zero h
  simp only at h1 h2 h3
  obtain ⟨c, rfl⟩ : ∃ c : Nat, me = (c : Int) := ⟨me.toNat, by omega⟩
  unfold ftextV
  rw [if_pos h]
  have HC := hide (frameError_ok ⟨fr, c, mo, sl, va⟩)
  rw [h] at HC
  have hlen := head_len ⟨fr, c, mo, sl, va⟩ h
  have HJ := hide (head_cat ⟨fr, c, mo, sl, va⟩)
  simp only [Int.toNat_natCast] at HJ
  have H1 := hide (dec_any fr (by omega) (by omega))
  have H2 := hide (ctext_any c (by omega))
  have H3 := hide (dec_any mo (by omega) (by omega))
  have H4 := hide (dec_any sl (by omega) (by omega))
  have H5 := hide (sig_any va (by omega) (by omega))
  have z1 := mk_size (Lib.itoa fr) 20 (itoa_len fr (by omega) (by omega))
  have z2 := mk_size (textOf c) 48 (textOf_len c)
  have z3 := mk_size (Lib.itoa mo) 20 (itoa_len mo (by omega) (by omega))
  have z4 := mk_size (Lib.itoa sl) 20 (itoa_len sl (by omega) (by omega))
  have z5 := mk_size (Lib.itoa va) 20 (itoa_len va (by omega) (by omega))
  have hsl := sumF_lt (headL ⟨fr, c, mo, sl, va⟩)
  have HU : Hid (∀ w, Calls Tryz.prog 43 #[.string ⟨(headL ⟨fr, c, mo, sl, va⟩).toArray⟩] w fun r w' => r = .returned (.int .i64 (sumF (headL ⟨fr, c, mo, sl, va⟩) : Nat)) ∧ w' = w) := fun w => sumOf_ok ⟨(headL ⟨fr, c, mo, sl, va⟩).toArray⟩ (mk_size _ _ (by unfold maxLen; omega)) w
  have HT := hide (text_whole ⟨fr, c, mo, sl, va⟩)
  have hds := mk_size (headL ⟨fr, c, mo, sl, va⟩) 80 hlen
  have H6 := hide (dec_any (sumF (headL ⟨fr, c, mo, sl, va⟩) : Nat) (by omega) (by omega))
  have hil := mk_size (Lib.itoa (sumF (headL ⟨fr, c, mo, sl, va⟩) : Nat)) 5 (itoa_short _ 4 (by omega) (by omega))
  generalize ByteArray.mk (Lib.itoa (sumF (headL ⟨fr, c, mo, sl, va⟩) : Nat)).toArray = it at *
  generalize ByteArray.mk (headL ⟨fr, c, mo, sl, va⟩).toArray = hd at *
  generalize sumF (headL ⟨fr, c, mo, sl, va⟩) = sp at *
  generalize ByteArray.mk (Lib.itoa fr).toArray = a1 at *
  generalize ByteArray.mk (textOf c).toArray = a2 at *
  generalize ByteArray.mk (Lib.itoa mo).toArray = a3 at *
  generalize ByteArray.mk (Lib.itoa sl).toArray = a4 at *
  generalize ByteArray.mk (Lib.itoa va).toArray = a5 at *
  unfold frmV at HC ⊢
  have hb : Below w.heap.size w (w.alloc (.cells #[.int .i64 fr, .int .i64 c, .int .i64 mo, .int .i64 sl, .int .i64 va] 53)) := (Below.refl _ _).alloc (Nat.le_refl _) _
  have HB := hide hb
  have n0 : ¬ (9223372036854775807 < 6 + a1.size) := by omega
  have n1 : ¬ (9223372036854775807 < 6 + a1.size + 1) := by omega
  have n2 : ¬ (9223372036854775807 < 6 + a1.size + 1 + a2.size) := by omega
  have n3 : ¬ (9223372036854775807 < 6 + a1.size + 1 + a2.size + 1) := by omega
  have n4 : ¬ (9223372036854775807 < 6 + a1.size + 1 + a2.size + 1 + a3.size) := by omega
  have n5 : ¬ (9223372036854775807 < 6 + a1.size + 1 + a2.size + 1 + a3.size + 1) := by omega
  have n6 : ¬ (9223372036854775807 < 6 + a1.size + 1 + a2.size + 1 + a3.size + 1 + a4.size) := by omega
  have n7 : ¬ (9223372036854775807 < 6 + a1.size + 1 + a2.size + 1 + a3.size + 1 + a4.size + 1) := by omega
  have n8 : ¬ (9223372036854775807 < 6 + a1.size + 1 + a2.size + 1 + a3.size + 1 + a4.size + 1 + a5.size) := by omega
  clear hb h h1 h2 h3 z1 z2 z3 z4 z5
  go_enter Tryz.func27, Tryz.ntmps27
  go_wp2_with fail
  refine (unhide HC _).mono ?_
  rintro E w1 ⟨rfl, hB⟩
  have HB1 := hide ((unhide HB).trans (hB.mono (unhide HB).size))
  have HQ1 := hide ((FrmAt.new w fr c mo sl va).below hB)
  have q0 := (unhide HQ1).c0
  have q1 := (unhide HQ1).c1
  have q2 := (unhide HQ1).c2
  have q3 := (unhide HQ1).c3
  have q4 := (unhide HQ1).c4
  clear hB
  go_wp2_with fail
  have HB2 := hide (unhide HB1).drew
  have HQ2 := hide ((unhide HQ1).below (Below.refl _ w1).drew)
  go_region_held3 (fun w' => w'.cell? ⟨w.heap.size, 0, none⟩ = some (.int .i64 fr) ∧ w'.cell? ⟨w.heap.size, 1, none⟩ = some (.int .i64 c) ∧ w'.cell? ⟨w.heap.size, 2, none⟩ = some (.int .i64 mo) ∧ w'.cell? ⟨w.heap.size, 3, none⟩ = some (.int .i64 sl) ∧ w'.cell? ⟨w.heap.size, 4, none⟩ = some (.int .i64 va)) (first | exact (unhide HQ7).all | exact (unhide HQ6).all | exact (unhide HQ5).all | exact (unhide HQ4).all | exact (unhide HQ3).all | exact (unhide HQ2).all)
    (first
      | (go_at_call_of 48 (Value.int .i64 fr); refine (unhide H1 _).mono ?_; rintro E w3 ⟨rfl, hB⟩; have HB3 := hide ((unhide HB2).trans (hB.mono (unhide HB2).size)); have HQ3 := hide ((unhide HQ2).below hB); clear hB)
      | (go_at_call 49; refine (unhide H2 _).mono ?_; rintro E w4 ⟨rfl, hB⟩; have HB4 := hide ((unhide HB3).trans (hB.mono (unhide HB3).size)); have HQ4 := hide ((unhide HQ3).below hB); clear hB)
      | (go_at_call_of 48 (Value.int .i64 mo); refine (unhide H3 _).mono ?_; rintro E w5 ⟨rfl, hB⟩; have HB5 := hide ((unhide HB4).trans (hB.mono (unhide HB4).size)); have HQ5 := hide ((unhide HQ4).below hB); clear hB)
      | (go_at_call_of 48 (Value.int .i64 sl); refine (unhide H4 _).mono ?_; rintro E w6 ⟨rfl, hB⟩; have HB6 := hide ((unhide HB5).trans (hB.mono (unhide HB5).size)); have HQ6 := hide ((unhide HQ5).below hB); clear hB)
      | (go_at_call 50; refine (unhide H5 _).mono ?_; rintro E w7 ⟨rfl, hB⟩; have HB7 := hide ((unhide HB6).trans (hB.mono (unhide HB6).size)); have HQ7 := hide ((unhide HQ6).below hB); clear hB))
  rw [unhide HJ]
  clear q0 q1 q2 q3 q4 n0 n1 n2 n3 n4 n5 n6 n7 n8
  go_wp2_with fail
  refine (unhide HU _).mono ?_
  rintro E w9 ⟨rfl, rfl⟩
  go_wp2_with fail
  refine (unhide H6 _).mono ?_
  rintro E w10 ⟨rfl, hB⟩
  have HB10 := hide ((unhide HB7).trans (hB.mono (unhide HB7).size))
  clear hB
  go_wp2_with fail
  go_ret2
  exact ⟨by rw [unhide HT]; rfl, unhide HB10⟩
theorem frameText_ok (f : Frm) (w : World) : Calls Tryz.prog 27 #[frmV f] w fun r w' => r = .returned (ftextV f) ∧ Below w.heap.size w w' := by
  by_cases h : fErr f = 0
  · exact frameText_good f h w
  · exact frameText_bad f h w
end Go.Proofs.YtglhapkclpllfacGreatDoor
