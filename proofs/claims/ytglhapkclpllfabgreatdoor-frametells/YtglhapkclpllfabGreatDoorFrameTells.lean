/-
  The walk of the law FrameTells: whatever the frame and the text are, it answers true, and nothing that was in memory has turned.
  Conditions: the library's variables and package api's errors lie as laid (structure FTOk).
-/
import Derived.Test.YtglhapkclpllfabGreatDoorRefFrame3
import Derived.Test.YtglhapkclpllfabGreatDoorFramed
import Derived.Test.YtglhapkclpllfabGreatDoorCoded
namespace Go.Proofs.YtglhapkclpllfabGreatDoor
open Go.RowKit Go.Shelf

/-- The errors' values, by their numbers. -/
def eA (a : Nat → Addr) (k : Nat) : TypeId × Value := (163, .pointer (some (a (k - 1))))
structure FTOk (a : Nat → Addr) (w : World) : Prop where
  lib : LibOk w
  sent : Sent a w
  max : ∃ m, w.cell? ⟨12, 0, none⟩ = some (.int .i64 m)
theorem FTOk.below {a : Nat → Addr} {w w' : World} (F : FTOk a w) (hb : Below w.heap.size w w') : FTOk a w' :=
  ⟨F.lib.below hb, F.sent.below hb, by obtain ⟨m, h⟩ := F.max; exact ⟨m, below_cell hb h⟩⟩
theorem FTOk.fr {a : Nat → Addr} {w : World} (F : FTOk a w) : FrOk (eA a) w := ⟨F.lib, ⟨F.sent.c0, F.sent.c1, F.sent.c2, F.sent.c3, F.sent.c7⟩, F.max⟩
theorem fErr_le (f : Frm) : fErr f ≤ 4 := by
  unfold fErr
  split
  · omega
  · split
    · omega
    · split
      · omega
      · split <;> omega
theorem coded_err (a : Nat → Addr) (k : Nat) (hk : k ≤ 11) (w : World) (F : FTOk a w) : Calls Tryz.prog 7 #[errV (eA a) k, .int .i64 (k : Nat)] w fun e w' => e = .returned (.bool true) ∧ Below w.heap.size w w' := by
  by_cases h : k = 0
  · subst h
    exact same_below (coded_nil w)
  · unfold errV
    rw [if_neg h]
    obtain ⟨j, rfl⟩ : ∃ j, k = j + 1 := ⟨k - 1, by omega⟩
    exact coded_es a j (by omega) w F.sent
/-- What is told of one frame, by the program and by the document. -/
theorem make_tells (a : Nat → Addr) (f : Frm) : ∃ (T : ByteArray) (ev : Value) (c : Int), (∀ w, FTOk a w → Calls Tryz.prog 5 #[frmV f] w fun r w' => r = .returned (.tuple #[.string T, ev]) ∧ Below w.heap.size w w') ∧
    (∀ w, Calls Tryz.prog 6 #[frmV f] w fun r w' => r = .returned (.tuple #[.string T, .int .i64 c]) ∧ Below w.heap.size w w') ∧
    (∀ w, FTOk a w → Calls Tryz.prog 7 #[ev, .int .i64 c] w fun r w' => r = .returned (.bool true) ∧ Below w.heap.size w w') := by
  have hl := fErr_le f
  have h1 := fun w (F : FTOk a w) => make_ok f (eA a) w F.fr
  have h2 := frameText_ok f
  unfold makeV at h1
  unfold ftextV at h2
  by_cases h : fErr f = 0
  · rw [if_pos h] at h1 h2
    exact ⟨_, _, _, h1, h2, fun w F => coded_err a 0 (by omega) w F⟩
  · rw [if_neg h] at h1 h2
    refine ⟨_, _, _, h1, h2, fun w F => ?_⟩
    have := coded_err a (fErr f) (by omega) w F
    unfold errV at this
    rw [if_neg h] at this
    exact this
theorem check_tells (a : Nat → Addr) (f : Frm) : ∃ (ev : Value) (c : Int), (∀ w, FTOk a w → Calls Tryz.prog 8 #[frmV f] w fun r w' => r = .returned ev ∧ Below w.heap.size w w') ∧
    (∀ w, Calls Tryz.prog 9 #[frmV f] w fun r w' => r = .returned (.int .i64 c) ∧ Below w.heap.size w w') ∧
    (∀ w, FTOk a w → Calls Tryz.prog 7 #[ev, .int .i64 c] w fun r w' => r = .returned (.bool true) ∧ Below w.heap.size w w') :=
  ⟨_, _, fun w F => fcheck_ok f (eA a) w F.fr.sent, frameError_ok f, fun w F => coded_err a (fErr f) (by have := fErr_le f; omega) w F⟩
theorem readF_err {l : List UInt8} {k : Nat} (h : readF l = .error k) : k ≠ 0 ∧ k ≤ 8 := by
  by_cases hl : l.length ≤ 100
  · cases hw : wordsF (spl 32 l) with
    | none => rw [readF_none hl hw] at h; cases h; exact ⟨by omega, by omega⟩
    | some x =>
      obtain ⟨p, w6, _, _, _, _, hr⟩ := readF_some hl (f := x.1) (su := x.2) hw
      rw [hr] at h
      split at h
      · cases h; exact ⟨by omega, by omega⟩
      · split at h
        · cases h
        · rename_i h0
          cases h
          exact ⟨h0, by have := fErr_le x.1; omega⟩
  · rw [readF_long (by omega)] at h; cases h; exact ⟨by omega, by omega⟩
theorem read_tells (a : Nat → Addr) (s : ByteArray) : ∃ (r0 r1 r2 r3 r4 : Int) (ev : Value) (c : Int), (∀ w, FTOk a w → Calls Tryz.prog 12 #[.string s] w fun r w' => r = .returned (.tuple #[.agg #[.int .i64 r0, .int .i64 r1, .int .i64 r2, .int .i64 r3, .int .i64 r4], ev]) ∧ Below w.heap.size w w') ∧
    (∀ w, Calls Tryz.prog 13 #[.string s] w fun r w' => r = .returned (.tuple #[.agg #[.int .i64 r0, .int .i64 r1, .int .i64 r2, .int .i64 r3, .int .i64 r4], .int .i64 c]) ∧ Below w.heap.size w w') ∧
    (∀ w, FTOk a w → Calls Tryz.prog 7 #[ev, .int .i64 c] w fun r w' => r = .returned (.bool true) ∧ Below w.heap.size w w') := by
  have h1 := fun w (F : FTOk a w) => fread_ok s (eA a) w F.fr
  have h2 := readFrame_ok s
  cases h : readF s.data.toList with
  | ok g =>
    rw [h] at h1 h2
    exact ⟨_, _, _, _, _, _, _, h1, h2, fun w F => coded_err a 0 (by omega) w F⟩
  | error k =>
    rw [h] at h1 h2
    obtain ⟨k0, k8⟩ := readF_err h
    refine ⟨_, _, _, _, _, _, _, h1, h2, fun w F => ?_⟩
    have := coded_err a k (by omega) w F
    unfold errV at this
    rw [if_neg k0] at this
    exact this
set_option maxHeartbeats 1000000 in
set_option maxRecDepth 100000 in
theorem tells_long (a : Nat → Addr) (f : Frm) (s : ByteArray) (h : 150 < s.size) (w : World) (F : FTOk a w) :
    Calls Tryz.prog 3 #[frmV f, .string s] w fun r w' => r = .returned (.bool true) ∧ Below w.heap.size w w' := by
  obtain ⟨fr, me, mo, sl, va⟩ := f
  unfold frmV
  have hb : Below w.heap.size w (w.alloc (.cells #[.int .i64 fr, .int .i64 me, .int .i64 mo, .int .i64 sl, .int .i64 va] 25)) := (Below.refl _ _).alloc (Nat.le_refl _) _
  have HB := hide hb
  have HF := hide F
  have h' : (150 : Int) < (s.size : Int) := by omega
  clear F hb h
  go_enter Tryz.func3, Tryz.ntmps3
  go_wp2_with fail
  refine (framed_ok (eA a) _ ((unhide HF).below (unhide HB)).fr).mono ?_
  rintro E w1 ⟨rfl, hB⟩
  have HB1 := hide ((unhide HB).trans (hB.mono (unhide HB).size))
  clear hB
  go_wp2_with fail
  go_ret
  exact ⟨rfl, unhide HB1⟩
set_option maxHeartbeats 4000000 in
set_option maxRecDepth 100000 in
theorem tells_short (a : Nat → Addr) (f : Frm) (s : ByteArray) (h : s.size ≤ 150) (w : World) (F : FTOk a w) :
    Calls Tryz.prog 3 #[frmV f, .string s] w fun r w' => r = .returned (.bool true) ∧ Below w.heap.size w w' := by
  obtain ⟨T, ev1, c1, m1, m2, m3⟩ := make_tells a f
  obtain ⟨ev2, c2, n1, n2, n3⟩ := check_tells a f
  obtain ⟨r0, r1, r2, r3, r4, ev3, c3, p1, p2, p3⟩ := read_tells a s
  have HS1 := hide (sum_ok s (by unfold maxLen; omega))
  have HS2 := hide (sumOf_ok s (by unfold maxLen; omega))
  generalize sumF s.data.toList = sp at *
  obtain ⟨fr, me, mo, sl, va⟩ := f
  unfold frmV at m1 m2 n1 n2 ⊢
  have M1 := hide m1
  have M2 := hide m2
  have M3 := hide m3
  have N1 := hide n1
  have N2 := hide n2
  have N3 := hide n3
  have P1 := hide p1
  have P2 := hide p2
  have P3 := hide p3
  clear m1 m2 m3 n1 n2 n3 p1 p2 p3
  have hb : Below w.heap.size w (w.alloc (.cells #[.int .i64 fr, .int .i64 me, .int .i64 mo, .int .i64 sl, .int .i64 va] 25)) := (Below.refl _ _).alloc (Nat.le_refl _) _
  have HB := hide hb
  have HF := hide F
  have HQ := hide (FrmAt.new w fr me mo sl va)
  have h' : ¬ (150 : Int) < (s.size : Int) := by omega
  clear F hb h
  go_enter Tryz.func3, Tryz.ntmps3
  go_wp2_with fail
  refine (framed_ok (eA a) _ ((unhide HF).below (unhide HB)).fr).mono ?_
  rintro E w1 ⟨rfl, hB⟩
  have HB1 := hide ((unhide HB).trans (hB.mono (unhide HB).size))
  have HQ1 := hide ((unhide HQ).below hB)
  clear hB
  have q0 := (unhide HQ1).c0
  have q1 := (unhide HQ1).c1
  have q2 := (unhide HQ1).c2
  have q3 := (unhide HQ1).c3
  have q4 := (unhide HQ1).c4
  go_wp2_with fail
  refine (unhide M1 _ ((unhide HF).below (unhide HB1))).mono ?_
  rintro E w2 ⟨rfl, hB⟩
  have HB2 := hide ((unhide HB1).trans (hB.mono (unhide HB1).size))
  have HQ2 := hide ((unhide HQ1).below hB)
  clear hB q0 q1 q2 q3 q4
  have q0 := (unhide HQ2).c0
  have q1 := (unhide HQ2).c1
  have q2 := (unhide HQ2).c2
  have q3 := (unhide HQ2).c3
  have q4 := (unhide HQ2).c4
  go_wp2_with fail
  refine (unhide M2 _).mono ?_
  rintro E w3 ⟨rfl, hB⟩
  have HB3 := hide ((unhide HB2).trans (hB.mono (unhide HB2).size))
  have HQ3 := hide ((unhide HQ2).below hB)
  clear hB q0 q1 q2 q3 q4
  have q0 := (unhide HQ3).c0
  have q1 := (unhide HQ3).c1
  have q2 := (unhide HQ3).c2
  have q3 := (unhide HQ3).c3
  have q4 := (unhide HQ3).c4
  go_wp2_with fail
  have HB4 := hide (unhide HB3).drew
  have HQ4 := hide ((unhide HQ3).below (Below.refl _ w3).drew)
  go_region_held3 (fun w' => w'.cell? ⟨w.heap.size, 0, none⟩ = some (.int .i64 fr) ∧ w'.cell? ⟨w.heap.size, 1, none⟩ = some (.int .i64 me) ∧ w'.cell? ⟨w.heap.size, 2, none⟩ = some (.int .i64 mo) ∧ w'.cell? ⟨w.heap.size, 3, none⟩ = some (.int .i64 sl) ∧ w'.cell? ⟨w.heap.size, 4, none⟩ = some (.int .i64 va)) (first | exact (unhide HQ8).all | exact (unhide HQ7).all | exact (unhide HQ6).all | exact (unhide HQ5).all | exact (unhide HQ4).all)
    (first
      | (go_at_call_of 7 ev1; refine (unhide M3 _ ((unhide HF).below (unhide HB4))).mono ?_; rintro E w5 ⟨rfl, hB⟩; have HB5 := hide ((unhide HB4).trans (hB.mono (unhide HB4).size)); have HQ5 := hide ((unhide HQ4).below hB); clear hB)
      | (go_at_call 8; refine (unhide N1 _ ((unhide HF).below (unhide HB5))).mono ?_; rintro E w6 ⟨rfl, hB⟩; have HB6 := hide ((unhide HB5).trans (hB.mono (unhide HB5).size)); have HQ6 := hide ((unhide HQ5).below hB); clear hB)
      | (go_at_call 9; refine (unhide N2 _).mono ?_; rintro E w7 ⟨rfl, hB⟩; have HB7 := hide ((unhide HB6).trans (hB.mono (unhide HB6).size)); have HQ7 := hide ((unhide HQ6).below hB); clear hB)
      | (go_at_call_of 7 ev2; refine (unhide N3 _ ((unhide HF).below (unhide HB7))).mono ?_; rintro E w8 ⟨rfl, hB⟩; have HB8 := hide ((unhide HB7).trans (hB.mono (unhide HB7).size)); have HQ8 := hide ((unhide HQ7).below hB); clear hB)
      | (go_at_call 10; refine (unhide HS1 _).mono ?_; rintro E w9 ⟨rfl, rfl⟩)
      | (go_at_call 11; refine (unhide HS2 _).mono ?_; rintro E w10 ⟨rfl, rfl⟩))
  clear q0 q1 q2 q3 q4
  go_wp2_with fail
  refine (unhide P1 _ ((unhide HF).below (unhide HB8))).mono ?_
  rintro E w11 ⟨rfl, hB⟩
  have HB11 := hide ((unhide HB8).trans (hB.mono (unhide HB8).size))
  clear hB
  have HB12 := hide ((unhide HB11).alloc (unhide HB11).size (.cells #[.int .i64 r0, .int .i64 r1, .int .i64 r2, .int .i64 r3, .int .i64 r4] 25))
  have HY12 := hide (FrmAt.new w11 r0 r1 r2 r3 r4)
  go_wp2_with fail
  refine (unhide P2 _).mono ?_
  rintro E w13 ⟨rfl, hB⟩
  have HB13 := hide ((unhide HB12).trans (hB.mono (unhide HB12).size))
  have HY13 := hide ((unhide HY12).below hB)
  clear hB
  have hba : Below w13.heap.size w13 (w13.alloc (.cells #[.int .i64 r0, .int .i64 r1, .int .i64 r2, .int .i64 r3, .int .i64 r4] 25)) := (Below.refl _ _).alloc (Nat.le_refl _) _
  have HB14 := hide ((unhide HB13).trans (hba.mono (unhide HB13).size))
  have HY14 := hide ((unhide HY13).below hba)
  have HV14 := hide (FrmAt.new w13 r0 r1 r2 r3 r4)
  clear hba
  go_wp2_with fail
  refine (unhide P3 _ ((unhide HF).below (unhide HB14))).mono ?_
  rintro E w15 ⟨rfl, hB⟩
  have HB15 := hide ((unhide HB14).trans (hB.mono (unhide HB14).size))
  have HY15 := hide ((unhide HY14).below hB)
  have HV15 := hide ((unhide HV14).below hB)
  clear hB
  have y0 := (unhide HY15).c0
  have y1 := (unhide HY15).c1
  have y2 := (unhide HY15).c2
  have y3 := (unhide HY15).c3
  have y4 := (unhide HY15).c4
  have v0 := (unhide HV15).c0
  have v1 := (unhide HV15).c1
  have v2 := (unhide HV15).c2
  have v3 := (unhide HV15).c3
  have v4 := (unhide HV15).c4
  go_wp2_with fail
  go_ret
  exact ⟨rfl, unhide HB15⟩
theorem tells_walk (a : Nat → Addr) (f : Frm) (s : ByteArray) (w : World) (F : FTOk a w) :
    Calls Tryz.prog 3 #[frmV f, .string s] w fun r w' => r = .returned (.bool true) ∧ Below w.heap.size w w' := by
  by_cases h : s.size ≤ 150
  · exact tells_short a f s h w F
  · exact tells_long a f s (by omega) w F
end Go.Proofs.YtglhapkclpllfabGreatDoor
