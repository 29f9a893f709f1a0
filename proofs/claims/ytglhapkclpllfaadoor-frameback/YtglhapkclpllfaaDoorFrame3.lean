/-
  The contract of frame.readWords: any words: the frame and the sum that they tell, or ErrText.
  Conditions: the library's variables and package api's errors lie as laid.
-/
import Derived.Test.YtglhapkclpllfaaDoorFrame2
import Derived.Outline
namespace Go.Proofs.YtglhapkclpllfaaDoor
open Go.RowKit Go.Shelf

def zeroF : Frm := ⟨0, 0, 0, 0, 0⟩
/-- The slice v holds these texts, some row of memory; each no longer than k. -/
def WordsAt (w : World) (b : Nat) (ss : List ByteArray) : Prop := ∀ k, k < ss.length → w.cell? ⟨b, k, none⟩ = some (.string (ss.getD k ⟨#[]⟩))
theorem WordsAt.below {w w' : World} {b : Nat} {ss : List ByteArray} (h : WordsAt w b ss) (hb : Below w.heap.size w w') : WordsAt w' b ss := fun k hk => below_cell hb (h k hk)
/-- The result's own five cells, as callees leave them. -/
structure Res5 (w : World) (b : Nat) : Prop where
  c0 : w.cell? ⟨b, 0, none⟩ = some (.int .i64 0)
  c1 : w.cell? ⟨b, 1, none⟩ = some (.int .i64 0)
  c2 : w.cell? ⟨b, 2, none⟩ = some (.int .i64 0)
  c3 : w.cell? ⟨b, 3, none⟩ = some (.int .i64 0)
  c4 : w.cell? ⟨b, 4, none⟩ = some (.int .i64 0)
  f0 : w.frozen? ⟨b, 0, none⟩ = false
  f1 : w.frozen? ⟨b, 1, none⟩ = false
  f2 : w.frozen? ⟨b, 2, none⟩ = false
  f3 : w.frozen? ⟨b, 3, none⟩ = false
  f4 : w.frozen? ⟨b, 4, none⟩ = false
theorem Res5.below {w w' : World} {b : Nat} (h : Res5 w b) (hB : Below w.heap.size w w') : Res5 w' b :=
  ⟨below_cell hB h.c0, below_cell hB h.c1, below_cell hB h.c2, below_cell hB h.c3, below_cell hB h.c4, (hB.frozen (cell_lt h.c0)).trans h.f0, (hB.frozen (cell_lt h.c1)).trans h.f1, (hB.frozen (cell_lt h.c2)).trans h.f2, (hB.frozen (cell_lt h.c3)).trans h.f3, (hB.frozen (cell_lt h.c4)).trans h.f4⟩
theorem Res5.new (w : World) : Res5 (w.alloc (.cells #[.int .i64 0, .int .i64 0, .int .i64 0, .int .i64 0, .int .i64 0] 63)) w.heap.size := ⟨by simp, by simp, by simp, by simp, by simp, by simp, by simp, by simp, by simp, by simp⟩
theorem below_five {w w2 : World} (hB : Below w.heap.size w w2) (x y z u v : Value) : Below w.heap.size w (((((w2.setCell ⟨w.heap.size, 0, none⟩ x).setCell ⟨w.heap.size, 1, none⟩ y).setCell ⟨w.heap.size, 2, none⟩ z).setCell ⟨w.heap.size, 3, none⟩ u).setCell ⟨w.heap.size, 4, none⟩ v) :=
  ((((hB.setCell (p := ⟨w.heap.size, 0, none⟩) (Nat.le_refl _) _).setCell (p := ⟨w.heap.size, 1, none⟩) (Nat.le_refl _) _).setCell (p := ⟨w.heap.size, 2, none⟩) (Nat.le_refl _) _).setCell (p := ⟨w.heap.size, 3, none⟩) (Nat.le_refl _) _).setCell (p := ⟨w.heap.size, 4, none⟩) (Nat.le_refl _) _
theorem words_short {l : List (List UInt8)} (h : l.length ≠ 7) : wordsF l = none := by
  unfold wordsF
  split
  · exact absurd rfl h
  · rfl
theorem words_first {l : List (List UInt8)} (h7 : l.length = 7) (h : l.getD 0 [] ≠ frameW) : wordsF l = none := by
  unfold wordsF
  split
  · rw [if_pos (by simpa using h)]
  · rfl
theorem words_seven {l : List (List UInt8)} (h7 : l.length = 7) (h : l.getD 0 [] = frameW) : wordsF l = match readOf (l.getD 2 []), cntOf (l.getD 1 []), cntOf (l.getD 3 []), cntOf (l.getD 4 []), numOf (l.getD 5 []), cntOf (l.getD 6 []) with
    | some m, some a, some mo, some sl, some va, some su => some (⟨a, m, mo, sl, va⟩, su)
    | _, _, _, _, _, _ => none := by
  match l, h7 with
  | [w0, w1, w2, w3, w4, w5, w6], _ =>
    have h0 : w0 = frameW := h
    simp only [wordsF]
    rw [if_neg (fun x => x h0)]
    rfl
/-- What readWords answers. -/
def wordsV (e : Nat → TypeId × Value) (o : Option (Frm × Int)) : Value := match o with
  | some (f, su) => .tuple #[frmV f, .int .i64 su, .nilIface]
  | none => .tuple #[frmV zeroF, .int .i64 0, .iface (e 1).1 (e 1).2]
set_option maxHeartbeats 1000000 in
theorem readWords_short (b n cap : Nat) (hn : n ≠ 7) (e : Nat → TypeId × Value) (w : World) (S : FSent e w) :
    Calls Tryd.prog 57 #[.slice (some ⟨b, 0, none⟩) n cap] w fun r w' => r = .returned (wordsV e none) ∧ Below w.heap.size w w' := by
  have hb : Below w.heap.size w (w.alloc (.cells #[.int .i64 0, .int .i64 0, .int .i64 0, .int .i64 0, .int .i64 0] 63)) := (Below.refl _ _).alloc (Nat.le_refl _) _
  have e0 := (S.below hb).t
  have HB := hide hb
  have hn' : ¬ ((n : Int) = 7) := by omega
  clear S hb hn
  go_enter Tryd.func57, Tryd.ntmps57
  go_wp2
  go_region
  all_goals (try go_wp2)
  exact bodyPost_ret (v := .tuple #[frmV zeroF, .int .i64 0, .iface (e 1).1 (e 1).2]) (by simp [results, Tryd.results57, go_sem, frmV, zeroF]) rfl ⟨rfl, (unhide HB).drew⟩
theorem bytes_ne {s : ByteArray} (h : s.data.toList ≠ frameW) : (s.toList == [102, 114, 97, 109, 101]) = false := by
  rw [toList_data]
  simpa [frameW] using h
theorem bytes_eq {s : ByteArray} (h : s.data.toList = frameW) : s = ⟨#[102, 114, 97, 109, 101]⟩ := by
  obtain ⟨⟨l⟩⟩ := s
  simp [frameW] at h
  rw [h]
set_option maxHeartbeats 1000000 in
theorem readWords_first (b cap : Nat) (s0 : ByteArray) (h0 : s0.data.toList ≠ frameW) (e : Nat → TypeId × Value) (w : World) (S : FSent e w) (hc : w.cell? ⟨b, 0, none⟩ = some (.string s0)) :
    Calls Tryd.prog 57 #[.slice (some ⟨b, 0, none⟩) 7 cap] w fun r w' => r = .returned (wordsV e none) ∧ Below w.heap.size w w' := by
  have hb : Below w.heap.size w (w.alloc (.cells #[.int .i64 0, .int .i64 0, .int .i64 0, .int .i64 0, .int .i64 0] 63)) := (Below.refl _ _).alloc (Nat.le_refl _) _
  have e0 := (S.below hb).t
  have hc' := below_cell hb hc
  have HB := hide hb
  have hne := bytes_ne h0
  clear S hb hc h0
  go_enter Tryd.func57, Tryd.ntmps57
  go_wp2
  go_region
  all_goals (try go_wp2)
  exact bodyPost_ret (v := .tuple #[frmV zeroF, .int .i64 0, .iface (e 1).1 (e 1).2]) (by simp [results, Tryd.results57, go_sem, frmV, zeroF]) rfl ⟨rfl, (unhide HB).drew⟩
theorem five (b1 b3 b4 b5 b6 : Bool) : (b1 = true ∧ b3 = true ∧ b4 = true ∧ b5 = true ∧ b6 = true) ∨ b1 = false ∨ (b1 = true ∧ b3 = false) ∨ (b1 = true ∧ b3 = true ∧ b4 = false) ∨ (b1 = true ∧ b3 = true ∧ b4 = true ∧ b5 = false) ∨ (b1 = true ∧ b3 = true ∧ b4 = true ∧ b5 = true ∧ b6 = false) := by
  cases b1 <;> cases b3 <;> cases b4 <;> cases b5 <;> cases b6 <;> simp
theorem opt_parts (o : Option Int) : ∃ (n : Int) (b : Bool), optV o = .tuple #[.int .i64 n, .bool b] ∧ o = if b then some n else none := by
  cases o with
  | none => exact ⟨0, false, rfl, rfl⟩
  | some n => exact ⟨n, true, rfl, rfl⟩
set_option maxHeartbeats 4000000 in
set_option maxRecDepth 100000 in
theorem readWords_num (b cap : Nat) (s1 s2 s3 s4 s5 s6 : ByteArray) (c : Nat) (n1 n3 n4 n5 n6 : Int) (b1 b3 b4 b5 b6 : Bool) (e : Nat → TypeId × Value) (w : World) (S : FSent e w) (hw : WordsAt w b [⟨#[102, 114, 97, 109, 101]⟩, s1, s2, s3, s4, s5, s6])
    (C2 : ∀ w', Below w.heap.size w w' → Calls Tryd.prog 19 #[.string s2] w' fun r w2 => r = .returned (.tuple #[.int .i64 c, .nilIface]) ∧ Below w'.heap.size w' w2)
    (C1 : ∀ w', Below w.heap.size w w' → Calls Tryd.prog 78 #[.string s1] w' fun r w2 => r = .returned (.tuple #[.int .i64 n1, .bool b1]) ∧ Below w'.heap.size w' w2)
    (C3 : ∀ w', Below w.heap.size w w' → Calls Tryd.prog 78 #[.string s3] w' fun r w2 => r = .returned (.tuple #[.int .i64 n3, .bool b3]) ∧ Below w'.heap.size w' w2)
    (C4 : ∀ w', Below w.heap.size w w' → Calls Tryd.prog 78 #[.string s4] w' fun r w2 => r = .returned (.tuple #[.int .i64 n4, .bool b4]) ∧ Below w'.heap.size w' w2)
    (C5 : ∀ w', Below w.heap.size w w' → Calls Tryd.prog 79 #[.string s5] w' fun r w2 => r = .returned (.tuple #[.int .i64 n5, .bool b5]) ∧ Below w'.heap.size w' w2)
    (C6 : ∀ w', Below w.heap.size w w' → Calls Tryd.prog 78 #[.string s6] w' fun r w2 => r = .returned (.tuple #[.int .i64 n6, .bool b6]) ∧ Below w'.heap.size w' w2) :
    Calls Tryd.prog 57 #[.slice (some ⟨b, 0, none⟩) 7 cap] w fun r w' => r = .returned (if b1 && b3 && b4 && b5 && b6 then .tuple #[frmV ⟨n1, c, n3, n4, n5⟩, .int .i64 n6, .nilIface] else .tuple #[frmV zeroF, .int .i64 0, .iface (e 1).1 (e 1).2]) ∧ Below w.heap.size w w' := by
  have hb : Below w.heap.size w (w.alloc (.cells #[.int .i64 0, .int .i64 0, .int .i64 0, .int .i64 0, .int .i64 0] 63)) := (Below.refl _ _).alloc (Nat.le_refl _) _
  have hw1 := hw.below hb
  have q0 := hw1 0 (by simp)
  have q2 := hw1 2 (by simp)
  have HR0 := hide (Res5.new w)
  have HB0 := hide hb
  have HW0 := hide hw1
  have HS := hide S
  have K1 := hide C1
  have K2 := hide C2
  have K3 := hide C3
  have K4 := hide C4
  have K5 := hide C5
  have K6 := hide C6
  clear hw1 hb hw S C1 C2 C3 C4 C5 C6
  simp at q0 q2
  go_enter Tryd.func57, Tryd.ntmps57
  go_wp2_with fail
  refine (unhide K2 _ (unhide HB0)).mono ?_
  rintro E w1 ⟨rfl, hB⟩
  have HB1 := hide ((unhide HB0).trans (hB.mono (unhide HB0).size))
  have HR1 := hide ((unhide HR0).below hB)
  have HW1 := hide ((unhide HW0).below hB)
  clear hB q0 q2
  have q1 := unhide HW1 1 (by simp)
  simp at q1
  go_wp2_with fail
  refine (unhide K1 _ (unhide HB1)).mono ?_
  rintro E w2 ⟨rfl, hB⟩
  have HB2 := hide ((unhide HB1).trans (hB.mono (unhide HB1).size))
  have HR2 := hide ((unhide HR1).below hB)
  have HW2 := hide ((unhide HW1).below hB)
  clear hB q1
  have q3 := unhide HW2 3 (by simp)
  simp at q3
  go_wp2_with fail
  refine (unhide K3 _ (unhide HB2)).mono ?_
  rintro E w3 ⟨rfl, hB⟩
  have HB3 := hide ((unhide HB2).trans (hB.mono (unhide HB2).size))
  have HR3 := hide ((unhide HR2).below hB)
  have HW3 := hide ((unhide HW2).below hB)
  clear hB q3
  have q4 := unhide HW3 4 (by simp)
  simp at q4
  go_wp2_with fail
  refine (unhide K4 _ (unhide HB3)).mono ?_
  rintro E w4 ⟨rfl, hB⟩
  have HB4 := hide ((unhide HB3).trans (hB.mono (unhide HB3).size))
  have HR4 := hide ((unhide HR3).below hB)
  have HW4 := hide ((unhide HW3).below hB)
  clear hB q4
  have q5 := unhide HW4 5 (by simp)
  simp at q5
  go_wp2_with fail
  refine (unhide K5 _ (unhide HB4)).mono ?_
  rintro E w5 ⟨rfl, hB⟩
  have HB5 := hide ((unhide HB4).trans (hB.mono (unhide HB4).size))
  have HR5 := hide ((unhide HR4).below hB)
  have HW5 := hide ((unhide HW4).below hB)
  clear hB q5
  have q6 := unhide HW5 6 (by simp)
  simp at q6
  go_wp2_with fail
  refine (unhide K6 _ (unhide HB5)).mono ?_
  rintro E w6 ⟨rfl, hB⟩
  have HB6 := hide ((unhide HB5).trans (hB.mono (unhide HB5).size))
  have HR6 := hide ((unhide HR5).below hB)
  have HW6 := hide ((unhide HW5).below hB)
  clear hB q6
  have f0 := (unhide HR6).f0
  have f1 := (unhide HR6).f1
  have f2 := (unhide HR6).f2
  have f3 := (unhide HR6).f3
  have f4 := (unhide HR6).f4
  have c0 := (unhide HR6).c0
  have c1 := (unhide HR6).c1
  have c2 := (unhide HR6).c2
  have c3 := (unhide HR6).c3
  have c4 := (unhide HR6).c4
  have e0 := ((unhide HS).below (unhide HB6)).t
  have hg : ¬ (w.heap.size = 0) := by have : 0 < w.heap.size := cell_lt (unhide HS).t; omega
  have hg' : ¬ (0 = w.heap.size) := by omega
  rcases five b1 b3 b4 b5 b6 with ⟨rfl, rfl, rfl, rfl, rfl⟩ | rfl | ⟨rfl, rfl⟩ | ⟨rfl, rfl, rfl⟩ | ⟨rfl, rfl, rfl, rfl⟩ | ⟨rfl, rfl, rfl, rfl, rfl⟩
  · have hz : ¬ (w.heap.size = w6.heap.size) := by have := cell_lt c0; simp only at this; omega
    have hz' : ¬ (w6.heap.size = w.heap.size) := by omega
    have HQ : ∀ o, Res5 (w6.alloc o) w.heap.size := fun o => (unhide HR6).below ((Below.refl _ w6).alloc (Nat.le_refl _) o)
    have d0 := fun o => (HQ o).c0
    have d1 := fun o => (HQ o).c1
    have d2 := fun o => (HQ o).c2
    have d3 := fun o => (HQ o).c3
    have d4 := fun o => (HQ o).c4
    have g0 := fun o => (HQ o).f0
    have g1 := fun o => (HQ o).f1
    have g2 := fun o => (HQ o).f2
    have g3 := fun o => (HQ o).f3
    have g4 := fun o => (HQ o).f4
    clear HQ
    go_wp2_with fail
    exact bodyPost_ret (v := .tuple #[frmV ⟨n1, c, n3, n4, n5⟩, .int .i64 n6, .nilIface]) (by simp [results, Tryd.results57, go_sem, frmV, d0, d1, d2, d3, d4]) rfl ⟨rfl, below_five ((unhide HB6).alloc (unhide HB6).size _) _ _ _ _ _⟩
  all_goals
    go_wp2_with fail
    go_region
    all_goals (try go_wp2)
    all_goals exact bodyPost_ret (v := .tuple #[frmV zeroF, .int .i64 0, .iface (e 1).1 (e 1).2]) (by simp [results, Tryd.results57, go_sem, frmV, zeroF, c0, c1, c2, c3, c4]) rfl ⟨rfl, (below_five (unhide HB6) _ _ _ _ _).drew⟩
theorem words_none (a : List (List UInt8)) (h : readOf (a.getD 2 []) = none) (h7 : a.length = 7) (h0 : a.getD 0 [] = frameW) : wordsF a = none := by
  rw [words_seven h7 h0, h]
theorem wordsV_if (e : Nat → TypeId × Value) (c : Nat) (n1 n3 n4 n5 n6 : Int) (b1 b3 b4 b5 b6 : Bool) :
    wordsV e (match some c, (if b1 then some n1 else none), (if b3 then some n3 else none), (if b4 then some n4 else none), (if b5 then some n5 else none), (if b6 then some n6 else none) with
      | some m, some a, some mo, some sl, some va, some su => some (⟨a, m, mo, sl, va⟩, su)
      | _, _, _, _, _, _ => none) = if b1 && b3 && b4 && b5 && b6 then .tuple #[frmV ⟨n1, c, n3, n4, n5⟩, .int .i64 n6, .nilIface] else .tuple #[frmV zeroF, .int .i64 0, .iface (e 1).1 (e 1).2] := by
  cases b1 <;> cases b3 <;> cases b4 <;> cases b5 <;> cases b6 <;> rfl
set_option maxHeartbeats 1000000 in
theorem readWords_crew (b cap : Nat) (s2 : ByteArray) (e : Nat → TypeId × Value) (w : World) (h0 : w.cell? ⟨b, 0, none⟩ = some (.string ⟨#[102, 114, 97, 109, 101]⟩)) (h2 : w.cell? ⟨b, 2, none⟩ = some (.string s2))
    (C2 : ∀ w', Below w.heap.size w w' → Calls Tryd.prog 19 #[.string s2] w' fun r w2 => r = .returned (.tuple #[.int .i64 0, .iface (e 1).1 (e 1).2]) ∧ Below w'.heap.size w' w2) :
    Calls Tryd.prog 57 #[.slice (some ⟨b, 0, none⟩) 7 cap] w fun r w' => r = .returned (wordsV e none) ∧ Below w.heap.size w w' := by
  have hb : Below w.heap.size w (w.alloc (.cells #[.int .i64 0, .int .i64 0, .int .i64 0, .int .i64 0, .int .i64 0] 63)) := (Below.refl _ _).alloc (Nat.le_refl _) _
  have q0 := below_cell hb h0
  have q2 := below_cell hb h2
  have HR0 := hide (Res5.new w)
  have HB0 := hide hb
  have K2 := hide C2
  clear hb h0 h2 C2
  go_enter Tryd.func57, Tryd.ntmps57
  go_wp2_with fail
  refine (unhide K2 _ (unhide HB0)).mono ?_
  rintro E w1 ⟨rfl, hB⟩
  have HB1 := hide ((unhide HB0).trans (hB.mono (unhide HB0).size))
  have HR1 := hide ((unhide HR0).below hB)
  clear hB q0 q2
  have f0 := (unhide HR1).f0
  have f1 := (unhide HR1).f1
  have f2 := (unhide HR1).f2
  have f3 := (unhide HR1).f3
  have f4 := (unhide HR1).f4
  have c0 := (unhide HR1).c0
  have c1 := (unhide HR1).c1
  have c2 := (unhide HR1).c2
  have c3 := (unhide HR1).c3
  have c4 := (unhide HR1).c4
  go_wp2_with fail
  exact bodyPost_ret (v := .tuple #[frmV zeroF, .int .i64 0, .iface (e 1).1 (e 1).2]) (by simp [results, Tryd.results57, go_sem, frmV, zeroF, c0, c1, c2, c3, c4]) rfl ⟨rfl, below_five (unhide HB1) _ _ _ _ _⟩
theorem seven {α : Type} {l : List α} (h : l.length = 7) : ∃ a0 a1 a2 a3 a4 a5 a6, l = [a0, a1, a2, a3, a4, a5, a6] := by
  match l, h with
  | [a0, a1, a2, a3, a4, a5, a6], _ => exact ⟨a0, a1, a2, a3, a4, a5, a6, rfl⟩
/-- readWords, any words. -/
theorem readWords_ok (b cap : Nat) (ss : List ByteArray) (e : Nat → TypeId × Value) (w : World) (L : LibOk w) (S : FSent e w) (hw : WordsAt w b ss) (hs : ∀ s ∈ ss, s.size ≤ 281474976710656) :
    Calls Tryd.prog 57 #[.slice (some ⟨b, 0, none⟩) ss.length cap] w fun r w' => r = .returned (wordsV e (wordsF (ss.map (·.data.toList)))) ∧ Below w.heap.size w w' := by
  by_cases h7 : ss.length = 7
  · obtain ⟨s0, s1, s2, s3, s4, s5, s6, rfl⟩ := seven h7
    have hl : ([s0, s1, s2, s3, s4, s5, s6].map (·.data.toList)).length = 7 := rfl
    by_cases h0 : s0.data.toList = frameW
    · have e0 := bytes_eq h0
      subst e0
      have z : ∀ s ∈ [s1, s2, s3, s4, s5, s6], s.size ≤ 281474976710656 := fun s h => hs s (List.mem_cons_of_mem _ h)
      have hr := fun w' (hB : Below w.heap.size w w') => read_ok s2 (z s2 (by simp)) _ _ w' (L.below hB) (S.below hB).t
      cases h2 : readOf s2.data.toList with
      | none =>
        rw [words_none (List.map (fun s : ByteArray => s.data.toList) [⟨#[102, 114, 97, 109, 101]⟩, s1, s2, s3, s4, s5, s6]) h2 hl h0]
        refine readWords_crew b cap s2 e w (hw 0 (by simp)) (hw 2 (by simp)) (fun w' hB => (hr w' hB).mono ?_)
        rintro r w2 ⟨⟨c, _, hc, _⟩ | ⟨_, rfl⟩, hB2⟩
        · rw [h2] at hc; cases hc
        · exact ⟨rfl, hB2⟩
      | some c =>
        obtain ⟨n1, b1, p1, o1⟩ := opt_parts (cntOf s1.data.toList)
        obtain ⟨n3, b3, p3, o3⟩ := opt_parts (cntOf s3.data.toList)
        obtain ⟨n4, b4, p4, o4⟩ := opt_parts (cntOf s4.data.toList)
        obtain ⟨n5, b5, p5, o5⟩ := opt_parts (numOf s5.data.toList)
        obtain ⟨n6, b6, p6, o6⟩ := opt_parts (cntOf s6.data.toList)
        have ew : wordsV e (wordsF ([⟨#[102, 114, 97, 109, 101]⟩, s1, s2, s3, s4, s5, s6].map (·.data.toList))) = if b1 && b3 && b4 && b5 && b6 then .tuple #[frmV ⟨n1, c, n3, n4, n5⟩, .int .i64 n6, .nilIface] else .tuple #[frmV zeroF, .int .i64 0, .iface (e 1).1 (e 1).2] := by
          rw [words_seven hl h0, ← wordsV_if]
          show wordsV e (match readOf s2.data.toList, cntOf s1.data.toList, cntOf s3.data.toList, cntOf s4.data.toList, numOf s5.data.toList, cntOf s6.data.toList with
            | some m, some a, some mo, some sl, some va, some su => some (⟨a, m, mo, sl, va⟩, su)
            | _, _, _, _, _, _ => none) = _
          rw [h2, o1, o3, o4, o5, o6]
        rw [ew]
        refine readWords_num b cap s1 s2 s3 s4 s5 s6 c n1 n3 n4 n5 n6 b1 b3 b4 b5 b6 e w S hw (fun w' hB => (hr w' hB).mono ?_) ?_ ?_ ?_ ?_ ?_
        · rintro r w2 ⟨⟨c', _, hc, rfl⟩ | ⟨hc, _⟩, hB2⟩
          · rw [h2] at hc; cases hc; exact ⟨rfl, hB2⟩
          · rw [h2] at hc; cases hc
        · intro w' hB; rw [← p1]; exact readCount_ok s1 (z s1 (by simp)) w' (L.below hB)
        · intro w' hB; rw [← p3]; exact readCount_ok s3 (z s3 (by simp)) w' (L.below hB)
        · intro w' hB; rw [← p4]; exact readCount_ok s4 (z s4 (by simp)) w' (L.below hB)
        · intro w' hB; rw [← p5]; exact readNumber_ok s5 (z s5 (by simp)) w' (L.below hB)
        · intro w' hB; rw [← p6]; exact readCount_ok s6 (z s6 (by simp)) w' (L.below hB)
    · rw [words_first hl (by simpa using h0)]
      exact readWords_first b cap s0 h0 e w S (hw 0 (by simp))
  · rw [words_short (by simpa using h7)]
    exact readWords_short b ss.length cap h7 e w S
end Go.Proofs.YtglhapkclpllfaaDoor
