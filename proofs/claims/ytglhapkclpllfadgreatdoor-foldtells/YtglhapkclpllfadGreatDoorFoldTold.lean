/-
  The walk of the law FoldTells, whole, over what package fold answers (structure FoldP).
  Conditions: package api's errors lie as laid (structure Sent); those of the package's contracts (M).
-/
import Derived.Test.YtglhapkclpllfadGreatDoorFoldTells
namespace Go.Proofs.YtglhapkclpllfadGreatDoor
open Go.RowKit Go.Shelf

/-- A fault variable of the call's own: its block holds nothing else. -/
structure FAtR (w : World) (b : Nat) (c n : Int) : Prop where
  f : FAt w b c n
  o : w.heap[b]? = some (.cells #[.int .i64 c, .int .i64 n] 25)
theorem FAtR.below {w w' : World} {b : Nat} {c n : Int} (h : FAtR w b c n) (hB : Below w.heap.size w w') : FAtR w' b c n := ⟨h.f.below hB, below_row hB h.o⟩
theorem FAtR.new (w : World) (c n : Int) : FAtR (w.alloc (.cells #[.int .i64 c, .int .i64 n] 25)) w.heap.size c n := ⟨FAt.new w c n, heap_alloc_new _ _⟩
theorem ents_set {w : World} {v : Value} {ys : List Ent} {b : Nat} {c n : Int} (h : EntsIn w v ys) (F : FAtR w b c n) (x y : Value) : EntsIn ((w.setCell ⟨b, 0, none⟩ x).setCell ⟨b, 1, none⟩ y) v ys := by
  obtain ⟨ad2, cap2, e1, hc⟩ := EntsIn.at h
  obtain ⟨ad, cap, rfl, hr, h⟩ := h
  obtain ⟨rfl, _⟩ : ad = ad2 ∧ cap = cap2 := by
    injection e1 with e3 _ e4
    exact ⟨e3, e4⟩
  refine ⟨ad, cap, rfl, hr, fun k hk => ?_⟩
  obtain ⟨b', off, rfl, hk'⟩ := h k hk
  refine ⟨b', off, rfl, fun j u hj => ?_⟩
  have h1 := hk' j u hj
  by_cases hb : b = b'
  · subst hb
    have h2 : ∀ i, 2 ≤ i → w.cell? ⟨b, i, none⟩ = none := fun i hi => by
      simp only [World.cell?, F.o]
      exact Array.getElem?_eq_none (by simpa using hi)
    have hlt : off + (k * 4 + j) < 2 := by
      rcases Nat.lt_or_ge (off + (k * 4 + j)) 2 with h3 | h3
      · exact h3
      · rw [h2 _ h3] at h1
        cases h1
    rw [List.length_map] at hk
    obtain ⟨b2, off2, e2, _, _, c2, _⟩ := hc 0 (by omega)
    cases e2
    rw [h2 _ (by omega)] at c2
    cases c2
  · rw [World.cell?_setCell_other _ _ _ _ (fun e => hb (by injection e)), World.cell?_setCell_other _ _ _ _ (fun e => hb (by injection e))]
    exact h1
def FoldedT (M : World → Prop) : Prop := ∀ w, M w → Calls Tryz.prog 4 #[] w fun r w' => r = .returned (.bool true) ∧ Below w.heap.size w w'
set_option maxRecDepth 100000 in
theorem ftells_far (M : World → Prop) (CF : FoldedT M) (v : Value) (l : List Ent) (s : ByteArray) (w : World) (m : M w) (hv : EntsIn w v l)
    (h : (60 < l.length ∧ l.length ≠ 201) ∨ ((l.length ≤ 60 ∨ l.length = 201) ∧ 600 < s.size ∧ s.size ≠ 4001)) :
    Calls Tryz.prog 3 #[v, .string s] w fun r w' => r = .returned (.bool true) ∧ Below w.heap.size w w' := by
  have HK := hide (CF w m)
  obtain ⟨ad, cap, rfl, _⟩ := EntsIn.at hv
  have hh : (decide ((60 : Int) < (l.length : Int)) = true ∧ ((l.length : Int) != 201) = true) ∨ (decide ((60 : Int) < (l.length : Int)) = false ∧ decide ((600 : Int) < (s.size : Int)) = true ∧ ((s.size : Int) != 4001) = true) ∨ (decide ((60 : Int) < (l.length : Int)) = true ∧ ((l.length : Int) != 201) = false ∧ decide ((600 : Int) < (s.size : Int)) = true ∧ ((s.size : Int) != 4001) = true) := by
    rcases h with ⟨h1, h2⟩ | ⟨h0 | h0, h1, h2⟩
    · exact Or.inl ⟨decide_eq_true (by omega), by simp; omega⟩
    · exact Or.inr (Or.inl ⟨decide_eq_false (by omega), decide_eq_true (by omega), by simp; omega⟩)
    · exact Or.inr (Or.inr ⟨decide_eq_true (by omega), by simp; omega, decide_eq_true (by omega), by simp; omega⟩)
  clear m hv h
  rcases hh with ⟨h1, h2⟩ | ⟨h1, h2, h3⟩ | ⟨h1, h2, h3, h4⟩
  all_goals
    go_enter Tryz.func3, Tryz.ntmps3
    go_wp2_with (go_at_call 4; refine (unhide HK).mono ?_; rintro E w1 ⟨rfl, hB1⟩; have HB := hide hB1; clear hB1)
    go_ret
    exact ⟨rfl, unhide HB⟩
/-- What is near: four ways. -/
def NearS (n z : Nat) : Prop := (decide ((60 : Int) < (n : Int)) = false ∨ (decide ((60 : Int) < (n : Int)) = true ∧ ((n : Int) != 201) = false)) ∧ (decide ((600 : Int) < (z : Int)) = false ∨ (decide ((600 : Int) < (z : Int)) = true ∧ ((z : Int) != 4001) = false))
theorem near_of {n z : Nat} (h1 : n ≤ 60 ∨ n = 201) (h2 : z ≤ 600 ∨ z = 4001) : NearS n z := by
  refine ⟨?_, ?_⟩
  · rcases h1 with h | h
    · exact Or.inl (decide_eq_false (by omega))
    · exact Or.inr ⟨decide_eq_true (by omega), by simp; omega⟩
  · rcases h2 with h | h
    · exact Or.inl (decide_eq_false (by omega))
    · exact Or.inr ⟨decide_eq_true (by omega), by simp; omega⟩
set_option maxRecDepth 100000 in
set_option maxHeartbeats 2000000 in
theorem ftells_no (a : Nat → Addr) (M : World → Prop) (hS : ∀ w, M w → Sent a w) (P : FoldP M (eF a)) (CF : FoldedT M) (v : Value) (l : List Ent) (s : ByteArray) (ys : List Ent) (G : World → Value → Prop) (w : World) (m : M w) (hv : EntsIn w v l) (hN : NearS l.length s.size) (T : RTold a M s ys G) (h : ¬ histOk l) :
    Calls Tryz.prog 3 #[v, .string s] w fun r w' => r = .returned (.bool true) ∧ Below w.heap.size w w' := by
  have HK := hide (CF w m)
  have HM : Hid (∀ w', Below w.heap.size w w' → M w') := fun w' hB => P.keep w w' m hB
  have HS : Hid (∀ w', Below w.heap.size w w' → Sent a w') := fun w' hB => hS w' (P.keep w w' m hB)
  have HV := hide (fun w' (hB : Below w.heap.size w w') => hv.below hB)
  have C8 := hide T.re
  have C9 := hide T.rh
  have HKeep := hide T.keep
  have HFew := hide T.few
  obtain ⟨c, n, hc, hF, hfit⟩ := histFault_no l h
  have HFit : Hid (HFits l c n) := hfit
  have C1 := hide (fun v w (hv : EntsIn w v l) => hF v w hv)
  have C2 := hide (fun w v m hv => P.laN w v l m hv h)
  have C3 := hide (fun w v m hv => P.toN w v l m hv h)
  have C4 := hide (fun w v m hv => P.teN w v l m hv h)
  obtain ⟨ad, cap, rfl, _⟩ := EntsIn.at hv
  obtain ⟨h1, h2⟩ := hN
  generalize l.length = ln at *
  have q1 : ¬ c = 0 := by omega
  have q2 : (c == 0) = false := by simp; omega
  clear m hv h hF hfit T P CF hS
  rcases h1 with h1 | ⟨h1, h3⟩ <;> rcases h2 with h2 | ⟨h2, h4⟩
  all_goals
    go_enter Tryz.func3, Tryz.ntmps3
    go_wp2_with fail
    refine (unhide HK).mono ?_
    rintro E w1 ⟨rfl, hB⟩
    have HB1 := hide hB
    clear hB
    go_wp2_with fail
    refine (unhide C1 _ _ (unhide HV _ (unhide HB1))).mono ?_
    rintro E w2 ⟨rfl, hB⟩
    have HB2 := hide ((unhide HB1).trans (hB.mono (unhide HB1).size))
    clear hB
    obtain ⟨W, hW⟩ : ∃ W, W = w2.alloc (.cells #[.int .i64 c, .int .i64 n] 25) := ⟨_, rfl⟩
    have hba : Below w2.heap.size w2 W := by rw [hW]; exact (Below.refl _ _).alloc (Nat.le_refl _) _
    have HBW := hide ((unhide HB2).trans (hba.mono (unhide HB2).size))
    have HF : Hid (FAtR W w2.heap.size c n) := by rw [hW]; exact FAtR.new w2 c n
    have hsz : w.heap.size ≤ w2.heap.size := (unhide HB2).size
    clear hba
    go_wp2_with fail
    rw [← hW]
    clear hW
    refine (unhide C2 _ _ (unhide HM _ (unhide HBW)) (unhide HV _ (unhide HBW))).mono ?_
    rintro E w3 ⟨ad3, cap3, t3, p3, rfl, hp3, hB⟩
    have HB3 := hide ((unhide HBW).trans (hB.mono (unhide HBW).size))
    have HF3 := hide ((unhide HF).below hB)
    have HE3 := hide (fits_hist (unhide HFit) hp3)
    clear hB hp3
    go_wp2_with fail
    refine (unhide C3 _ _ (unhide HM _ (unhide HB3)) (unhide HV _ (unhide HB3))).mono ?_
    rintro E w4 ⟨t4, p4, rfl, hp4, hB⟩
    have HB4 := hide ((unhide HB3).trans (hB.mono (unhide HB3).size))
    have HF4 := hide ((unhide HF3).below hB)
    have HE4 := hide ((unhide HE3).below hB)
    have HG4 := hide (fits_hist (unhide HFit) hp4)
    clear hB hp4
    go_wp2_with fail
    refine (unhide C4 _ _ (unhide HM _ (unhide HB4)) (unhide HV _ (unhide HB4))).mono ?_
    rintro E w5 ⟨t5, p5, rfl, hp5, hB⟩
    have HB5 := hide ((unhide HB4).trans (hB.mono (unhide HB4).size))
    have HF5 := hide ((unhide HF4).below hB)
    have HE5 := hide ((unhide HE4).below hB)
    have HG5 := hide ((unhide HG4).below hB)
    have HH5 := hide (fits_hist (unhide HFit) hp5)
    clear hB hp5
    obtain ⟨f0, f1, _, _⟩ := (unhide HF5).f
    go_wp2_with fail
    refine (faulted_ok a _ (unhide HS _ (unhide HB5)) (unhide HE5)).mono ?_
    rintro E w6 ⟨rfl, hB⟩
    have HB6 := hide ((unhide HB5).trans (hB.mono (unhide HB5).size))
    have HF6 := hide ((unhide HF5).below hB)
    have HG6 := hide ((unhide HG5).below hB)
    have HH6 := hide ((unhide HH5).below hB)
    clear hB f0 f1
    obtain ⟨f0, f1, _, _⟩ := (unhide HF6).f
    go_wp2_with fail
    refine (faulted_ok a _ (unhide HS _ (unhide HB6)) (unhide HG6)).mono ?_
    rintro E w7 ⟨rfl, hB⟩
    have HB7 := hide ((unhide HB6).trans (hB.mono (unhide HB6).size))
    have HF7 := hide ((unhide HF6).below hB)
    have HH7 := hide ((unhide HH6).below hB)
    clear hB f0 f1
    obtain ⟨f0, f1, _, _⟩ := (unhide HF7).f
    go_wp2_with fail
    refine (faulted_ok a _ (unhide HS _ (unhide HB7)) (unhide HH7)).mono ?_
    rintro E w8 ⟨rfl, hB⟩
    have HB8 := hide ((unhide HB7).trans (hB.mono (unhide HB7).size))
    have HF8 := hide ((unhide HF7).below hB)
    clear hB f0 f1
    obtain ⟨f0, f1, _, _⟩ := (unhide HF8).f
    go_wp2_with fail
    clear f0 f1
    refine (unhide C8 _ (unhide HM _ (unhide HB8))).mono ?_
    rintro E wa ⟨va, ea, rfl, hva, hga, hB⟩
    have HBa := hide ((unhide HB8).trans (hB.mono (unhide HB8).size))
    have HFa := hide ((unhide HF8).below hB)
    have HVa := hide hva
    have HGa := hide hga
    clear hB hva hga
    go_wp2_with fail
    refine (unhide C9 _).mono ?_
    rintro E wb ⟨vb, c', n', rfl, hvb, hfit, hB⟩
    have HBb := hide ((unhide HBa).trans (hB.mono (unhide HBa).size))
    have HFb := hide ((unhide HFa).below hB)
    have HVb := hide ((unhide HVa).below hB)
    have HWb := hide hvb
    have HGb := hide (hfit _ _ (unhide HKeep _ _ _ (unhide HGa) hB))
    clear hB hvb hfit
    obtain ⟨f0, f1, g0, g1⟩ := (unhide HFb).f
    go_wp2_with fail
    obtain ⟨Wc, hWc⟩ : ∃ Wc, Wc = (wb.setCell ⟨w2.heap.size, 0, none⟩ (.int .i64 c')).setCell ⟨w2.heap.size, 1, none⟩ (.int .i64 n') := ⟨_, rfl⟩
    have HBc : Hid (Below w.heap.size w Wc) := by rw [hWc]; exact ((unhide HBb).setCell (p := ⟨w2.heap.size, 0, none⟩) hsz _).setCell (p := ⟨w2.heap.size, 1, none⟩) hsz _
    have HGc : Hid (ErrFits a Wc ea c' n') := by rw [hWc]; exact (unhide HGb).set (unhide HFb).f _ _
    have HVc : Hid (EntsIn Wc va ys) := by rw [hWc]; exact ents_set (unhide HVb) (unhide HFb) _ _
    have HXc : Hid (EntsIn Wc vb ys) := by rw [hWc]; exact ents_set (unhide HWb) (unhide HFb) _ _
    rw [← hWc]
    clear hWc f0 f1 g0 g1
    refine (faulted_ok a _ (unhide HS _ (unhide HBc)) (unhide HGc)).mono ?_
    rintro E wd ⟨rfl, hB⟩
    have HBd := hide ((unhide HBc).trans (hB.mono (unhide HBc).size))
    have HVd := hide ((unhide HVc).below hB)
    have HXd := hide ((unhide HXc).below hB)
    clear hB
    go_wp2_with fail
    refine (same_ents _ _ ys _ (unhide HVd) (unhide HXd) (unhide HFew)).mono ?_
    rintro E we ⟨rfl, nd, rfl⟩
    go_wp2
    go_ret
    exact ⟨rfl, below_draw (unhide HBd) _⟩
set_option maxRecDepth 100000 in
set_option maxHeartbeats 2000000 in
theorem ftells_ok (a : Nat → Addr) (M : World → Prop) (hS : ∀ w, M w → Sent a w) (P : FoldP M (eF a)) (CF : FoldedT M) (v : Value) (l : List Ent) (s : ByteArray) (ys : List Ent) (G : World → Value → Prop) (w : World) (m : M w) (hv : EntsIn w v l) (hN : NearS l.length s.size) (T : RTold a M s ys G) (h : histOk l) :
    Calls Tryz.prog 3 #[v, .string s] w fun r w' => r = .returned (.bool true) ∧ Below w.heap.size w w' := by
  have HK := hide (CF w m)
  have HM : Hid (∀ w', Below w.heap.size w w' → M w') := fun w' hB => P.keep w w' m hB
  have HS : Hid (∀ w', Below w.heap.size w w' → Sent a w') := fun w' hB => hS w' (P.keep w w' m hB)
  have HV := hide (fun w' (hB : Below w.heap.size w w') => hv.below hB)
  have C8 := hide T.re
  have C9 := hide T.rh
  have HKeep := hide T.keep
  have HFew := hide T.few
  have C1 := hide (fun v w (hv : EntsIn w v l) => histFault_ok v l w hv h)
  have C2 := hide (fun w v m hv => P.laO w v l m hv h)
  have C3 := hide (fun w v m hv => P.toO w v l m hv h)
  have C4 := hide (fun w v m hv => P.teO w v l m hv h)
  have C5 := hide (fun w v hv => lastOf_ok v l w hv (by have := h.1; omega))
  have C6 := hide (fun w v hv => totalOf_ok v l w hv h)
  have C7 := hide (fun w v hv => histText_ok v l w hv h)
  obtain ⟨ad, cap, rfl, _⟩ := EntsIn.at hv
  obtain ⟨h1, h2⟩ := hN
  generalize l.length = ln at *
  clear m hv h T P CF hS
  rcases h1 with h1 | ⟨h1, h3⟩ <;> rcases h2 with h2 | ⟨h2, h4⟩
  all_goals
    go_enter Tryz.func3, Tryz.ntmps3
    go_wp2_with fail
    refine (unhide HK).mono ?_
    rintro E w1 ⟨rfl, hB⟩
    have HB1 := hide hB
    clear hB
    go_wp2_with fail
    refine (unhide C1 _ _ (unhide HV _ (unhide HB1))).mono ?_
    rintro E w2 ⟨rfl, hB⟩
    have HB2 := hide ((unhide HB1).trans (hB.mono (unhide HB1).size))
    clear hB
    obtain ⟨W, hW⟩ : ∃ W, W = w2.alloc (.cells #[.int .i64 0, .int .i64 (-1)] 25) := ⟨_, rfl⟩
    have hba : Below w2.heap.size w2 W := by rw [hW]; exact (Below.refl _ _).alloc (Nat.le_refl _) _
    have HBW := hide ((unhide HB2).trans (hba.mono (unhide HB2).size))
    have HF : Hid (FAtR W w2.heap.size 0 (-1)) := by rw [hW]; exact FAtR.new w2 0 (-1)
    have hsz : w.heap.size ≤ w2.heap.size := (unhide HB2).size
    clear hba
    go_wp2_with fail
    rw [← hW]
    clear hW
    refine (unhide C2 _ _ (unhide HM _ (unhide HBW)) (unhide HV _ (unhide HBW))).mono ?_
    rintro E w3 ⟨g3, o3, cap3, rfl, _, hr3, hB⟩
    have HB3 := hide ((unhide HBW).trans (hB.mono (unhide HBW).size))
    have HF3 := hide ((unhide HF).below hB)
    have HR3 := hide hr3
    have HE3 := hide (fits_nilF a w3)
    clear hB hr3
    go_wp2_with fail
    refine (unhide C3 _ _ (unhide HM _ (unhide HB3)) (unhide HV _ (unhide HB3))).mono ?_
    rintro E w4 ⟨rfl, hB⟩
    have HB4 := hide ((unhide HB3).trans (hB.mono (unhide HB3).size))
    have HF4 := hide ((unhide HF3).below hB)
    have HR4 := hide ((unhide HR3).below hB)
    have HE4 := hide (fits_nilF a w4)
    have HG4 := hide (fits_nilF a w4)
    clear hB
    go_wp2_with fail
    refine (unhide C4 _ _ (unhide HM _ (unhide HB4)) (unhide HV _ (unhide HB4))).mono ?_
    rintro E w5 ⟨rfl, hB⟩
    have HB5 := hide ((unhide HB4).trans (hB.mono (unhide HB4).size))
    have HF5 := hide ((unhide HF4).below hB)
    have HR5 := hide ((unhide HR4).below hB)
    have HE5 := hide (fits_nilF a w5)
    have HG5 := hide (fits_nilF a w5)
    have HH5 := hide (fits_nilF a w5)
    clear hB
    obtain ⟨f0, f1, _, _⟩ := (unhide HF5).f
    go_wp2_with fail
    refine (faulted_ok a _ (unhide HS _ (unhide HB5)) (unhide HE5)).mono ?_
    rintro E w6 ⟨rfl, hB⟩
    have HB6 := hide ((unhide HB5).trans (hB.mono (unhide HB5).size))
    have HF6 := hide ((unhide HF5).below hB)
    have HR6 := hide ((unhide HR5).below hB)
    have HG6 := hide ((unhide HG5).below hB)
    have HH6 := hide ((unhide HH5).below hB)
    clear hB f0 f1
    obtain ⟨f0, f1, _, _⟩ := (unhide HF6).f
    go_wp2_with fail
    refine (faulted_ok a _ (unhide HS _ (unhide HB6)) (unhide HG6)).mono ?_
    rintro E w7 ⟨rfl, hB⟩
    have HB7 := hide ((unhide HB6).trans (hB.mono (unhide HB6).size))
    have HF7 := hide ((unhide HF6).below hB)
    have HR7 := hide ((unhide HR6).below hB)
    have HH7 := hide ((unhide HH6).below hB)
    clear hB f0 f1
    obtain ⟨f0, f1, _, _⟩ := (unhide HF7).f
    go_wp2_with fail
    refine (faulted_ok a _ (unhide HS _ (unhide HB7)) (unhide HH7)).mono ?_
    rintro E w8 ⟨rfl, hB⟩
    have HB8 := hide ((unhide HB7).trans (hB.mono (unhide HB7).size))
    have HF8 := hide ((unhide HF7).below hB)
    have HR8 := hide ((unhide HR7).below hB)
    clear hB f0 f1
    obtain ⟨f0, f1, _, _⟩ := (unhide HF8).f
    go_wp2_with fail
    refine (unhide C5 _ _ (unhide HV _ (unhide HB8))).mono ?_
    rintro E w9 ⟨o9, rfl, hr9, hB⟩
    have HB9 := hide ((unhide HB8).trans (hB.mono (unhide HB8).size))
    have HF9 := hide ((unhide HF8).below hB)
    have HI := hide (same_ints_in _ _ (lastL 16 l) (lastL 16 l) w9 (OwnRow.in (cap := cap3) ((unhide HR8).below hB)) (IntsAt.in' (intsAt_of_owns (by rw [lastL_len]; exact hr9))) (by rw [lastL_len]; unfold maxLen; omega))
    rw [lastL_len, beq_self_eq_true] at HI
    clear hB hr9 f0 f1
    obtain ⟨f0, f1, _, _⟩ := (unhide HF9).f
    go_wp2_with fail
    refine (unhide HI).mono ?_
    rintro E wx ⟨rfl, nx, rfl⟩
    have HB10 := hide (below_draw (unhide HB9) nx)
    have HF10 := hide ((unhide HF9).below (below_draw (Below.refl _ _) nx))
    clear f0 f1
    go_wp2_with fail
    refine (unhide C6 _ _ (unhide HV _ (unhide HB10))).mono ?_
    rintro E w11 ⟨rfl, hB⟩
    have HB11 := hide ((unhide HB10).trans (hB.mono (unhide HB10).size))
    have HF11 := hide ((unhide HF10).below hB)
    clear hB
    go_wp2_with fail
    refine (unhide C7 _ _ (unhide HV _ (unhide HB11))).mono ?_
    rintro E w12 ⟨s12, rfl, hs12, hB⟩
    have HB12 := hide ((unhide HB11).trans (hB.mono (unhide HB11).size))
    have HF12 := hide ((unhide HF11).below hB)
    have es : s12 = ⟨(histL l).toArray⟩ := by
      obtain ⟨⟨q⟩⟩ := s12
      rw [← hs12]
    subst es
    clear hB hs12
    go_wp2_with fail
    refine (unhide C8 _ (unhide HM _ (unhide HB12))).mono ?_
    rintro E wa ⟨va, ea, rfl, hva, hga, hB⟩
    have HBa := hide ((unhide HB12).trans (hB.mono (unhide HB12).size))
    have HFa := hide ((unhide HF12).below hB)
    have HVa := hide hva
    have HGa := hide hga
    clear hB hva hga
    go_wp2_with fail
    refine (unhide C9 _).mono ?_
    rintro E wb ⟨vb, c', n', rfl, hvb, hfit, hB⟩
    have HBb := hide ((unhide HBa).trans (hB.mono (unhide HBa).size))
    have HFb := hide ((unhide HFa).below hB)
    have HVb := hide ((unhide HVa).below hB)
    have HWb := hide hvb
    have HGb := hide (hfit _ _ (unhide HKeep _ _ _ (unhide HGa) hB))
    clear hB hvb hfit
    obtain ⟨f0, f1, g0, g1⟩ := (unhide HFb).f
    go_wp2_with fail
    obtain ⟨Wc, hWc⟩ : ∃ Wc, Wc = (wb.setCell ⟨w2.heap.size, 0, none⟩ (.int .i64 c')).setCell ⟨w2.heap.size, 1, none⟩ (.int .i64 n') := ⟨_, rfl⟩
    have HBc : Hid (Below w.heap.size w Wc) := by rw [hWc]; exact ((unhide HBb).setCell (p := ⟨w2.heap.size, 0, none⟩) hsz _).setCell (p := ⟨w2.heap.size, 1, none⟩) hsz _
    have HGc : Hid (ErrFits a Wc ea c' n') := by rw [hWc]; exact (unhide HGb).set (unhide HFb).f _ _
    have HVc : Hid (EntsIn Wc va ys) := by rw [hWc]; exact ents_set (unhide HVb) (unhide HFb) _ _
    have HXc : Hid (EntsIn Wc vb ys) := by rw [hWc]; exact ents_set (unhide HWb) (unhide HFb) _ _
    rw [← hWc]
    clear hWc f0 f1 g0 g1
    refine (faulted_ok a _ (unhide HS _ (unhide HBc)) (unhide HGc)).mono ?_
    rintro E wd ⟨rfl, hB⟩
    have HBd := hide ((unhide HBc).trans (hB.mono (unhide HBc).size))
    have HVd := hide ((unhide HVc).below hB)
    have HXd := hide ((unhide HXc).below hB)
    clear hB
    go_wp2_with fail
    refine (same_ents _ _ ys _ (unhide HVd) (unhide HXd) (unhide HFew)).mono ?_
    rintro E we ⟨rfl, nd, rfl⟩
    go_wp2
    go_ret
    exact ⟨rfl, below_draw (unhide HBd) _⟩
theorem ftells_all (a : Nat → Addr) (M : World → Prop) (hS : ∀ w, M w → Sent a w) (P : FoldP M (eF a)) (v : Value) (l : List Ent) (s : ByteArray) (hs : s.size ≤ maxLen) (w : World) (m : M w) (hv : EntsIn w v l) :
    Calls Tryz.prog 3 #[v, .string s] w fun r w' => r = .returned (.bool true) ∧ Below w.heap.size w w' := by
  have CF : FoldedT M := fun w m => folded_ok M (eF a) P w m
  by_cases h1 : 60 < l.length ∧ l.length ≠ 201
  · exact ftells_far M CF v l s w m hv (Or.inl h1)
  by_cases h2 : 600 < s.size ∧ s.size ≠ 4001
  · exact ftells_far M CF v l s w m hv (Or.inr ⟨by omega, h2⟩)
  obtain ⟨ys, G, T⟩ := rtold_any a M P s hs
  by_cases h : histOk l
  · exact ftells_ok a M hS P CF v l s ys G w m hv (near_of (by omega) (by omega)) T h
  · exact ftells_no a M hS P CF v l s ys G w m hv (near_of (by omega) (by omega)) T h
end Go.Proofs.YtglhapkclpllfadGreatDoor
