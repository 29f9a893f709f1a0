/-
  The contract of frame.Read: any text: the frame that it writes, or the error.
  Conditions: the library's variables and package api's errors lie as laid (structure FrOk).
-/
import Derived.Test.YtglhapkclpllfaaDoorFrame3
namespace Go.Proofs.YtglhapkclpllfaaDoor
open Go.RowKit Go.Shelf

/-- What the variables hold that package frame reads. -/
structure FrOk (e : Nat → TypeId × Value) (w : World) : Prop where
  lib : LibOk w
  sent : FSent e w
  max : ∃ m, w.cell? ⟨12, 0, none⟩ = some (.int .i64 m)
theorem FrOk.below {e : Nat → TypeId × Value} {w w' : World} (F : FrOk e w) (hb : Below w.heap.size w w') : FrOk e w' :=
  ⟨F.lib.below hb, F.sent.below hb, by obtain ⟨m, h⟩ := F.max; exact ⟨m, below_cell hb h⟩⟩
theorem split_ok (s : ByteArray) (hs : s.size ≤ 100) (e : Nat → TypeId × Value) (w : World) (F : FrOk e w) :
    Calls Tryd.prog 58 #[.string s, .string ⟨#[32]⟩] w fun r w' => ∃ ss : List ByteArray, r = .returned (.slice (some ⟨w.heap.size, 0, none⟩) ss.length ss.length) ∧ WordsAt w' w.heap.size ss ∧ ss.map (fun s : ByteArray => s.data.toList) = spl 32 s.data.toList ∧ Below w.heap.size w w' := by
  obtain ⟨m, hm⟩ := F.max
  refine (Tryd.strings_Split s ⟨#[32]⟩ m w (by omega) hm (by decide)).mono ?_
  rintro r w' ⟨rfl, rfl⟩
  refine ⟨Lib.splitB ⟨#[32]⟩ 0 (Lib.countB s ⟨#[32]⟩) s, ?_, ?_, ?_, (Below.refl _ _).alloc (Nat.le_refl _) _⟩
  · rw [Lib.splitB_all ⟨#[32]⟩ (by decide) 0 _ s rfl]
  · intro k hk
    rw [World.cell?_alloc_at _ _ _ _ rfl]
    simp [hk]
  · rw [Lib.splitB_data]
    exact splitK_spl 32 s.data.toList
/-- What Read answers. -/
def readV (e : Nat → TypeId × Value) (r : Except Nat Frm) : Value := match r with
  | .ok f => .tuple #[frmV f, .nilIface]
  | .error k => .tuple #[frmV zeroF, .iface (e k).1 (e k).2]
theorem words_sizes {ss : List ByteArray} {l : List UInt8} (h : ss.map (fun s : ByteArray => s.data.toList) = spl 32 l) (hl : l.length ≤ 100) : ∀ s ∈ ss, s.size ≤ 281474976710656 := fun s hs => by
  have h1 : s.data.toList ∈ spl 32 l := by rw [← h]; exact List.mem_map.2 ⟨s, hs, rfl⟩
  have h2 := spl_len 32 l _ h1
  have h3 : s.size = s.data.toList.length := by simp
  omega
set_option maxHeartbeats 1000000 in
theorem fread_long (s : ByteArray) (h : 100 < s.size) (e : Nat → TypeId × Value) (w : World) (F : FrOk e w) :
    Calls Tryd.prog 36 #[.string s] w fun r w' => r = .returned (readV e (.error 2)) ∧ Below w.heap.size w w' := by
  have hb : Below w.heap.size w (w.alloc (.cells #[.int .i64 0, .int .i64 0, .int .i64 0, .int .i64 0, .int .i64 0] 63)) := (Below.refl _ _).alloc (Nat.le_refl _) _
  have e0 := (F.sent.below hb).b
  have HB := hide hb
  have h' : (100 : Int) < (s.size : Int) := by omega
  clear F hb h
  go_enter Tryd.func36, Tryd.ntmps36
  go_wp2
  go_region
  all_goals (try go_wp2)
  exact bodyPost_ret (v := .tuple #[frmV zeroF, .iface (e 2).1 (e 2).2]) (by simp [results, Tryd.results36, go_sem, frmV, zeroF]) rfl ⟨rfl, (unhide HB).drew⟩
set_option maxHeartbeats 2000000 in
set_option maxRecDepth 100000 in
theorem fread_none (s : ByteArray) (h : s.size ≤ 100) (hn : wordsF (spl 32 s.data.toList) = none) (e : Nat → TypeId × Value) (w : World) (F : FrOk e w) :
    Calls Tryd.prog 36 #[.string s] w fun r w' => r = .returned (readV e (.error 1)) ∧ Below w.heap.size w w' := by
  have hb : Below w.heap.size w (w.alloc (.cells #[.int .i64 0, .int .i64 0, .int .i64 0, .int .i64 0, .int .i64 0] 63)) := (Below.refl _ _).alloc (Nat.le_refl _) _
  have HF := hide F
  have HB := hide hb
  have HN := hide hn
  have HR := hide (Res5.new w)
  have h' : ¬ (100 : Int) < (s.size : Int) := by omega
  have Hl : Hid (s.data.toList.length ≤ 100) := by show _ ≤ _; simpa using h
  clear F hb hn
  go_enter Tryd.func36, Tryd.ntmps36
  go_wp2_with fail
  refine (split_ok s h e _ ((unhide HF).below (unhide HB))).mono ?_
  rintro E w1 ⟨ss, rfl, hW, hm, hB⟩
  rw [World.size_alloc] at hW
  have HB1 := hide ((unhide HB).trans (hB.mono (unhide HB).size))
  have HR1 := hide ((unhide HR).below hB)
  have HW := hide hW
  have HM := hide hm
  clear hW hm hB
  go_wp2_with fail
  refine (readWords_ok _ _ ss e _ ((unhide HF).below (unhide HB1)).lib ((unhide HF).below (unhide HB1)).sent (unhide HW) (words_sizes (unhide HM) (unhide Hl))).mono ?_
  rw [unhide HM, unhide HN]
  rintro E w2 ⟨rfl, hB⟩
  have HB2 := hide ((unhide HB1).trans (hB.mono (unhide HB1).size))
  have HR2 := hide ((unhide HR1).below hB)
  clear hB
  have HQ : ∀ o, Res5 (w2.alloc o) w.heap.size := fun o => (unhide HR2).below ((Below.refl _ w2).alloc (Nat.le_refl _) o)
  have d0 := fun o => (HQ o).c0
  have d1 := fun o => (HQ o).c1
  have d2 := fun o => (HQ o).c2
  have d3 := fun o => (HQ o).c3
  have d4 := fun o => (HQ o).c4
  have g0 := fun o => (HQ o).f0
  have g1 := fun o => (HQ o).f1
  have g2 := fun o => (HQ o).f2
  have g3 := fun o => (HQ o).f3
  have g4 := fun o => (HQ o).f4
  clear HQ
  unfold wordsV frmV zeroF
  go_wp2_with fail
  exact bodyPost_ret (v := .tuple #[frmV zeroF, .iface (e 1).1 (e 1).2]) (by simp [results, Tryd.results36, go_sem, frmV, zeroF, d0, d1, d2, d3, d4]) rfl ⟨rfl, below_five ((unhide HB2).alloc (unhide HB2).size _) _ _ _ _ _⟩
theorem lastIndex_ok (s : ByteArray) (p x : List UInt8) (h : s.data.toList = p ++ 32 :: x) (hx : (32 : UInt8) ∉ x) (hs : s.size ≤ 100) (w : World) :
    Calls Tryd.prog 59 #[.string s, .string ⟨#[32]⟩] w fun r w' => r = .returned (.int .i64 (p.length : Nat)) ∧ w' = w := by
  refine (Tryd.strings_LastIndex_one s ⟨#[32]⟩ rfl (by omega) w).mono ?_
  rintro r w' ⟨rfl, rfl⟩
  exact ⟨ret_int (last_place s 32 p x h hx), rfl⟩
theorem sum_head (s : ByteArray) (p x : List UInt8) (h : s.data.toList = p ++ 32 :: x) (hs : s.size ≤ 100) (w : World) :
    Calls Tryd.prog 56 #[.string (s.extract 0 p.length)] w fun r w' => r = .returned (.int .i64 (sumF p : Nat)) ∧ w' = w := by
  have e : (s.extract 0 p.length).data.toList = p := by rw [Lib.extract_from_zero, h, List.take_left]
  have hz : (s.extract 0 p.length).size ≤ maxLen := by
    have h1 : (s.extract 0 p.length).size = (s.extract 0 p.length).data.toList.length := by simp
    have h2 : s.size = s.data.toList.length := by simp
    rw [h1, e]
    rw [h] at h2
    simp at h2
    unfold maxLen
    omega
  have := sum_ok (s.extract 0 p.length) hz w
  rw [e] at this
  exact this
set_option maxHeartbeats 4000000 in
set_option maxRecDepth 100000 in
theorem fread_some (s : ByteArray) (h : s.size ≤ 100) (f : Frm) (su : Int) (hn : wordsF (spl 32 s.data.toList) = some (f, su)) (e : Nat → TypeId × Value) (w : World) (F : FrOk e w) :
    Calls Tryd.prog 36 #[.string s] w fun r w' => r = .returned (readV e (readF s.data.toList)) ∧ Below w.heap.size w w' := by
  have hb : Below w.heap.size w (w.alloc (.cells #[.int .i64 0, .int .i64 0, .int .i64 0, .int .i64 0, .int .i64 0] 63)) := (Below.refl _ _).alloc (Nat.le_refl _) _
  have Hl : Hid (s.data.toList.length ≤ 100) := by show _ ≤ _; simpa using h
  obtain ⟨p, x, hp, hx, _, _, hr⟩ := readF_some (unhide Hl) hn
  rw [hr]
  have hpl : p.length ≤ s.size := by
    have h2 : s.size = s.data.toList.length := by simp
    rw [hp] at h2
    simp at h2
    omega
  have HI := hide (lastIndex_ok s p x hp hx h)
  have HU := hide (sum_head s p x hp h)
  have hsl := sumF_lt p
  obtain ⟨fr, me, mo, sl, va⟩ := f
  have HC := hide (fun w S => fcheck_ok ⟨fr, me, mo, sl, va⟩ e w S)
  generalize fErr ⟨fr, me, mo, sl, va⟩ = er at *
  unfold frmV at HC
  generalize sumF p = sp at *
  generalize p.length = k at *
  have HF := hide F
  have HB := hide hb
  have HN := hide hn
  have HR := hide (Res5.new w)
  have h' : ¬ (100 : Int) < (s.size : Int) := by omega
  clear F hb hn hp hx hr
  go_enter Tryd.func36, Tryd.ntmps36
  go_wp2_with fail
  refine (split_ok s h e _ ((unhide HF).below (unhide HB))).mono ?_
  rintro E w1 ⟨ss, rfl, hW, hm, hB⟩
  rw [World.size_alloc] at hW
  have HB1 := hide ((unhide HB).trans (hB.mono (unhide HB).size))
  have HR1 := hide ((unhide HR).below hB)
  have HW := hide hW
  have HM := hide hm
  clear hW hm hB
  go_wp2_with fail
  refine (readWords_ok _ _ ss e _ ((unhide HF).below (unhide HB1)).lib ((unhide HF).below (unhide HB1)).sent (unhide HW) (words_sizes (unhide HM) (unhide Hl))).mono ?_
  rw [unhide HM, unhide HN]
  rintro E w2 ⟨rfl, hB⟩
  have HB2 := hide ((unhide HB1).trans (hB.mono (unhide HB1).size))
  have HR2 := hide ((unhide HR1).below hB)
  clear hB
  have HQ : ∀ o, Res5 (w2.alloc o) w.heap.size := fun o => (unhide HR2).below ((Below.refl _ w2).alloc (Nat.le_refl _) o)
  have d0 := fun o => (HQ o).c0
  have d1 := fun o => (HQ o).c1
  have d2 := fun o => (HQ o).c2
  have d3 := fun o => (HQ o).c3
  have d4 := fun o => (HQ o).c4
  have g0 := fun o => (HQ o).f0
  have g1 := fun o => (HQ o).f1
  have g2 := fun o => (HQ o).f2
  have g3 := fun o => (HQ o).f3
  have g4 := fun o => (HQ o).f4
  clear HQ
  unfold wordsV frmV
  go_wp2_with fail
  refine (unhide HI _).mono ?_
  rintro E w3 ⟨rfl, rfl⟩
  go_wp2_with fail
  refine (unhide HU _).mono ?_
  rintro E w3 ⟨rfl, rfl⟩
  have HBa := hide ((unhide HB2).alloc (unhide HB2).size (.cells #[.int .i64 fr, .int .i64 me, .int .i64 mo, .int .i64 sl, .int .i64 va] 63))
  by_cases hsum : (sp : Int) = su
  · have HV := hide (show Res5 (w2.alloc (.cells #[.int .i64 fr, .int .i64 me, .int .i64 mo, .int .i64 sl, .int .i64 va] 63)) w.heap.size from (unhide HR2).below ((Below.refl _ w2).alloc (Nat.le_refl _) _))
    go_wp2_with fail
    refine (unhide HC _ ((unhide HF).below (unhide HBa)).sent).mono ?_
    rintro E w4 ⟨rfl, hB⟩
    have HB4 := hide ((unhide HBa).trans (hB.mono (unhide HBa).size))
    have q0 := below_cell hB (p := ⟨w2.heap.size, 0, none⟩) (v := .int .i64 fr) (by simp)
    have q1 := below_cell hB (p := ⟨w2.heap.size, 1, none⟩) (v := .int .i64 me) (by simp)
    have q2 := below_cell hB (p := ⟨w2.heap.size, 2, none⟩) (v := .int .i64 mo) (by simp)
    have q3 := below_cell hB (p := ⟨w2.heap.size, 3, none⟩) (v := .int .i64 sl) (by simp)
    have q4 := below_cell hB (p := ⟨w2.heap.size, 4, none⟩) (v := .int .i64 va) (by simp)
    have HR4 := hide ((unhide HV).below hB)
    clear d0 d1 d2 d3 d4 g0 g1 g2 g3 g4 hB
    have f0 := (unhide HR4).f0
    have f1 := (unhide HR4).f1
    have f2 := (unhide HR4).f2
    have f3 := (unhide HR4).f3
    have f4 := (unhide HR4).f4
    have c0 := (unhide HR4).c0
    have c1 := (unhide HR4).c1
    have c2 := (unhide HR4).c2
    have c3 := (unhide HR4).c3
    have c4 := (unhide HR4).c4
    unfold errV
    by_cases h0 : er = 0
    · rw [if_pos h0]
      go_wp2_with fail
      exact bodyPost_ret (v := .tuple #[frmV ⟨fr, me, mo, sl, va⟩, .nilIface]) (by simp [results, Tryd.results36, go_sem, frmV, c0, c1, c2, c3, c4]) rfl ⟨rfl, below_five (unhide HB4) _ _ _ _ _⟩
    · rw [if_neg h0]
      go_wp2_with fail
      exact bodyPost_ret (v := .tuple #[frmV zeroF, .iface (e er).1 (e er).2]) (by simp [results, Tryd.results36, go_sem, frmV, zeroF, c0, c1, c2, c3, c4]) rfl ⟨rfl, below_five (unhide HB4) _ _ _ _ _⟩
  · have e0 := ((unhide HF).below (unhide HBa)).sent.u
    have hg : ¬ (w.heap.size = 7) := by have : 7 < w.heap.size := cell_lt (unhide HF).sent.u; omega
    have hg' : ¬ (7 = w.heap.size) := by omega
    go_wp2_with fail
    go_region
    all_goals (try go_wp2)
    all_goals exact bodyPost_ret (v := .tuple #[frmV zeroF, .iface (e 8).1 (e 8).2]) (by simp [results, Tryd.results36, go_sem, frmV, zeroF, d0, d1, d2, d3, d4]) rfl ⟨rfl, (below_five (unhide HBa) _ _ _ _ _).drew⟩
/-- Read, any text. -/
theorem fread_ok (s : ByteArray) (e : Nat → TypeId × Value) (w : World) (F : FrOk e w) :
    Calls Tryd.prog 36 #[.string s] w fun r w' => r = .returned (readV e (readF s.data.toList)) ∧ Below w.heap.size w w' := by
  have hz : s.size = s.data.toList.length := by simp
  by_cases h : s.size ≤ 100
  · cases hw : wordsF (spl 32 s.data.toList) with
    | none =>
      rw [readF_none (by omega) hw]
      exact fread_none s h hw e w F
    | some x => exact fread_some s h x.1 x.2 hw e w F
  · rw [readF_long (by omega)]
    exact fread_long s (by omega) e w F
end Go.Proofs.YtglhapkclpllfaaDoor
