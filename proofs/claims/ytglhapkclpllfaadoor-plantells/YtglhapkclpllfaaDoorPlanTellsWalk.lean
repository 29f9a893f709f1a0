/-
  The walk of the law PlanTells: whatever the plan, the node and the slot are, it answers true, and nothing that was in memory has turned.
  Conditions: package api's errors lie as laid (structure Sent).
-/
import Derived.Test.YtglhapkclpllfaaDoorPlanTells
import Derived.Test.YtglhapkclpllfaaDoorAppend
import Derived.Deep.RegionHeld3
namespace Go.Proofs.YtglhapkclpllfaaDoor
open Go.RowKit

/-- A fault in memory of the call's own. -/
structure FAt (w : World) (b : Nat) (c n : Int) : Prop where
  c0 : w.cell? ⟨b, 0, none⟩ = some (.int .i64 c)
  c1 : w.cell? ⟨b, 0 + 1, none⟩ = some (.int .i64 n)
  f0 : w.frozen? ⟨b, 0, none⟩ = false
  f1 : w.frozen? ⟨b, 0 + 1, none⟩ = false
theorem FAt.below {w w' : World} {b : Nat} {c n : Int} (h : FAt w b c n) (hB : Below w.heap.size w w') : FAt w' b c n :=
  ⟨below_cell hB h.c0, below_cell hB h.c1, (hB.frozen (cell_lt h.c0)).trans h.f0, (hB.frozen (cell_lt h.c1)).trans h.f1⟩
theorem FAt.new (w : World) (c n : Int) : FAt (w.alloc (.cells #[.int .i64 c, .int .i64 n] 51)) w.heap.size c n := ⟨by simp, by simp, by simp, by simp⟩
theorem FAt.set {w : World} {b : Nat} {c n : Int} (h : FAt w b c n) (c' n' : Int) : FAt ((w.setCell ⟨b, 0, none⟩ (.int .i64 c')).setCell ⟨b, 1, none⟩ (.int .i64 n')) b c' n' := by
  obtain ⟨c0, c1, f0, f1⟩ := h
  refine ⟨?_, ?_, by simp [f0], by simpa using f1⟩
  · rw [World.cell?_setCell_other _ _ _ _ (by simp)]
    exact World.cell?_setCell_same _ _ _ c0
  · exact World.cell?_setCell_same _ _ _ (u := .int .i64 n) (by rw [World.cell?_setCell_other _ _ _ _ (by simp)]; exact c1)
theorem ErrFits.set {a : Nat → Addr} {w : World} {ev : Value} {c n : Int} {b : Nat} {c' n' : Int} (h : ErrFits a w ev c n) (F : FAt w b c' n') (x y : Value) : ErrFits a ((w.setCell ⟨b, 0, none⟩ x).setCell ⟨b, 1, none⟩ y) ev c n := by
  rcases h with h | ⟨pb, k, h1, h2, h3, h4, h5⟩ | h
  · exact Or.inl h
  · have hne : b ≠ pb := fun e => by
      subst e
      have := F.c1.symm.trans h5
      cases this
    have hne2 : ∀ i j, (⟨b, i, none⟩ : Addr) ≠ ⟨pb, j, none⟩ := fun i j e => hne (by injection e)
    exact Or.inr (Or.inl ⟨pb, k, h1, h2, h3, by rw [World.cell?_setCell_other _ _ _ _ (hne2 _ _), World.cell?_setCell_other _ _ _ _ (hne2 _ _)]; exact h4, by rw [World.cell?_setCell_other _ _ _ _ (hne2 _ _), World.cell?_setCell_other _ _ _ _ (hne2 _ _)]; exact h5⟩)
  · exact Or.inr (Or.inr h)
theorem below_set {w0 w : World} (hB : Below w0.heap.size w0 w) (x y : Value) : Below w0.heap.size w0 ((w.setCell ⟨w0.heap.size, 0, none⟩ x).setCell ⟨w0.heap.size, 1, none⟩ y) :=
  (hB.setCell (p := ⟨w0.heap.size, 0, none⟩) (Nat.le_refl _) _).setCell (p := ⟨w0.heap.size, 1, none⟩) (Nat.le_refl _) _
set_option maxHeartbeats 1000000 in
set_option maxRecDepth 100000 in
theorem ptells_far (a : Nat → Addr) (v : Value) (xs : List Int) (node s : Int) (w : World) (S : Sent a w) (hv : IntsIn w v xs) (h : 40 < xs.length) :
    Calls Tryd.prog 6 #[v, .int .i64 node, .int .i64 s] w fun r w' => r = .returned (.bool true) ∧ Below w.heap.size w w' := by
  obtain ⟨ad, cap, rfl, _⟩ := hv
  have HS := hide S
  clear S
  go_enter Tryd.func6, Tryd.ntmps6
  go_wp2_with (go_at_call 22; refine (planned_ok (eS a) w (unhide HS).plan).mono ?_; rintro E w1 ⟨rfl, hB1⟩)
  go_ret
  exact ⟨rfl, hB1⟩
set_option maxHeartbeats 4000000 in
set_option maxRecDepth 100000 in
theorem ptells_bad1 (a : Nat → Addr) (v : Value) (xs : List Int) (node : Int) (s cP nP cN nN nx : Int) (w : World) (S : Sent a w) (hv : IntsIn w v xs) (h40 : xs.length ≤ 40) (T : Told a xs node s cP nP cP nP cN nN 0 0 0 0 0 nx) (hc : 0 < cP) (hx : 0 < xs.length) :
    Calls Tryd.prog 6 #[v, .int .i64 node, .int .i64 s] w fun r w' => r = .returned (.bool true) ∧ Below w.heap.size w w' := by
  have HV := hide hv
  obtain ⟨ad, cap, rfl, hcells⟩ := hv
  have HS := hide S
  have HT := hide T
  have h40' : ¬ (40 : Int) < (xs.length : Int) := by omega
  have hlen : (0 : Int) < (xs.length : Int) := by omega
  have hcP : (cP == 0) = false := by simp; omega
  have hcP' : ¬ cP = 0 := by omega
  obtain ⟨i0, hi, hz0, hz1, hz2⟩ := info_parts Tryd.infoInt'
  clear S T hcells hx
  go_enter Tryd.func6, Tryd.ntmps6
  go_wp2_with fail
  refine (planned_ok (eS a) w (unhide HS).plan).mono ?_
  rintro E w1 ⟨rfl, hB1⟩
  have HB1 := hide hB1
  clear hB1
  go_wp2_with (at_builtin; refine wpList_append_ints rfl _ _ 22 rfl 3 i0 Tryd.underlying22 hi hz0 hz1 hz2 rfl _ xs rfl ((unhide HV).below (unhide HB1)) (by omega) ?_; intro vo w2 hv2 hB2; have HO2 := hide hv2.in'; have HB2 := hide ((unhide HB1).trans (hB2.mono (unhide HB1).size)); clear hv2 hB2)
  refine ((unhide HT).pf _ _ ((unhide HV).below (unhide HB2))).mono ?_
  rintro E w3 ⟨rfl, hB3⟩
  have HO3 := hide ((unhide HO2).below hB3)
  have HB3 := hide ((unhide HB2).trans (hB3.mono (unhide HB2).size))
  have HL3 := hide ((unhide HV).below (unhide HB3))
  have HS3 := hide ((unhide HS).below (unhide HB3))
  have HK4 : Hid (Below w3.heap.size w3 (w3.alloc (.cells #[.int .i64 cP, .int .i64 nP] 51))) := (Below.refl _ _).alloc (Nat.le_refl _) _
  have HF4 := hide (FAt.new w3 cP nP)
  clear hB3
  go_wp2_with fail
  refine ((unhide HT).cr _ _ ((unhide HS3).below (unhide HK4)) ((unhide HO3).below (unhide HK4))).mono ?_
  rintro E w5 ⟨ev5, rfl, hf5, hB5⟩
  have HK5 := hide ((unhide HK4).trans (hB5.mono (unhide HK4).size))
  have HF5 := hide ((unhide HF4).below hB5)
  have HE5 := hide hf5
  clear hB5 hf5
  have q0 := (unhide HF5).c0
  have q1 := (unhide HF5).c1
  go_wp2_with fail
  have HKd := hide (unhide HK5).drew
  have HFd := hide ((unhide HF5).below (Below.refl _ w5).drew)
  have HEd := hide ((unhide HE5).below (Below.refl _ w5).drew)
  go_region_held3 (fun w' => w'.cell? ⟨w3.heap.size, 0, none⟩ = some (.int .i64 cP) ∧ w'.cell? ⟨w3.heap.size, 0 + 1, none⟩ = some (.int .i64 nP)) (first | exact ⟨(unhide HF8).c0, (unhide HF8).c1⟩ | exact ⟨(unhide HF7).c0, (unhide HF7).c1⟩ | exact ⟨(unhide HF6).c0, (unhide HF6).c1⟩ | exact ⟨(unhide HFd).c0, (unhide HFd).c1⟩)
    (first
      | (go_at_call 23; refine ((unhide HT).ck _ _ ((unhide HS3).below (unhide HKd)) ((unhide HO3).below (unhide HKd))).mono ?_; rintro E w6 ⟨ev6, rfl, hf6, hB6⟩; have HK6 := hide ((unhide HKd).trans (hB6.mono (unhide HKd).size)); have HF6 := hide ((unhide HFd).below hB6); have HE6 := hide ((unhide HEd).below hB6); have HG6 := hide hf6; clear hB6 hf6)
      | (go_at_call_of 31 ev6; refine (faulted_ok a _ ((unhide HS3).below (unhide HK6)) (unhide HG6)).mono ?_; rintro E w7 ⟨rfl, hB7⟩; have HK7 := hide ((unhide HK6).trans (hB7.mono (unhide HK6).size)); have HF7 := hide ((unhide HF6).below hB7); have HE7 := hide ((unhide HE6).below hB7); clear hB7)
      | (go_at_call_of 31 ev5; refine (faulted_ok a _ ((unhide HS3).below (unhide HK7)) (unhide HE7)).mono ?_; rintro E w8 ⟨rfl, hB8⟩; have HK8 := hide ((unhide HK7).trans (hB8.mono (unhide HK7).size)); have HF8 := hide ((unhide HF7).below hB8); clear hB8))
  clear q0 q1
  have q0 := (unhide HF8).c0
  go_wp2_with fail
  refine wp_loop_rounds 1 ?_
  rw [rounds_succ]
  go_wp2_with fail
  refine ((unhide HT).sf _ _ ((unhide HL3).below (unhide HK8))).mono ?_
  rintro E w9 ⟨rfl, hB9⟩
  have HK9 := hide ((unhide HK8).trans (hB9.mono (unhide HK8).size))
  have HF9 := hide ((unhide HF8).below hB9)
  clear hB9 q0
  have q0 := (unhide HF9).c0
  have q1 := (unhide HF9).c1
  have r0 := (unhide HF9).f0
  have r1 := (unhide HF9).f1
  have HKa := hide (below_set (unhide HK9) (.int .i64 cP) (.int .i64 nP))
  have HFa := hide ((unhide HF9).set cP nP)
  go_wp2_with fail
  refine ((unhide HT).wh _ _ ((unhide HS3).below (unhide HKa)) ((unhide HO3).below (unhide HKa))).mono ?_
  rintro E wb ⟨evb, rfl, hfb, hBb⟩
  have HKb := hide ((unhide HKa).trans (hBb.mono (unhide HKa).size))
  have HFb := hide ((unhide HFa).below hBb)
  have HEb := hide hfb
  clear hBb hfb q0 q1 r0 r1
  go_wp2_with fail
  refine ((unhide HT).ro _ _ ((unhide HS3).below (unhide HKb)) ((unhide HO3).below (unhide HKb))).mono ?_
  rintro E wd ⟨evd, rfl, hfd, hBd⟩
  have HKd' := hide ((unhide HKb).trans (hBd.mono (unhide HKb).size))
  have HFd' := hide ((unhide HFb).below hBd)
  have HEd' := hide ((unhide HEb).below hBd)
  have HGd := hide hfd
  clear hBd hfd
  have q0 := (unhide HFd').c0
  have q1 := (unhide HFd').c1
  go_wp2_with fail
  refine (faulted_ok a _ ((unhide HS3).below (unhide HKd')) (unhide HEd')).mono ?_
  rintro E we ⟨rfl, hBe⟩
  have HKe := hide ((unhide HKd').trans (hBe.mono (unhide HKd').size))
  have HFe := hide ((unhide HFd').below hBe)
  have HGe := hide ((unhide HGd).below hBe)
  clear hBe q0 q1
  have q0 := (unhide HFe).c0
  have q1 := (unhide HFe).c1
  go_wp2_with fail
  refine (faulted_ok a _ ((unhide HS3).below (unhide HKe)) (unhide HGe)).mono ?_
  rintro E wf ⟨rfl, hBf⟩
  have HKf := hide ((unhide HKe).trans (hBf.mono (unhide HKe).size))
  have HFf := hide ((unhide HFe).below hBf)
  clear hBf q0 q1
  go_wp2_with fail
  refine ((unhide HT).sh _ _ ((unhide HS3).below (unhide HKf)) ((unhide HO3).below (unhide HKf))).mono ?_
  rintro E wg ⟨rfl, hBg⟩
  have HKg := hide ((unhide HKf).trans (hBg.mono (unhide HKf).size))
  have HFg := hide ((unhide HFf).below hBg)
  clear hBg
  go_wp2_with fail
  refine ((unhide HT).ne _ _ ((unhide HS3).below (unhide HKg)) ((unhide HO3).below (unhide HKg))).mono ?_
  rintro E wh ⟨evh, rfl, hfh, hBh⟩
  have HKh := hide ((unhide HKg).trans (hBh.mono (unhide HKg).size))
  have HFh := hide ((unhide HFg).below hBh)
  have HEh := hide hfh
  clear hBh hfh
  go_wp2_with fail
  refine ((unhide HT).no _ _ ((unhide HL3).below (unhide HKh))).mono ?_
  rintro E wi ⟨rfl, hBi⟩
  have HKi := hide ((unhide HKh).trans (hBi.mono (unhide HKh).size))
  have HFi := hide ((unhide HFh).below hBi)
  have HEi := hide ((unhide HEh).below hBi)
  clear hBi
  have q0 := (unhide HFi).c0
  have q1 := (unhide HFi).c1
  have r0 := (unhide HFi).f0
  have r1 := (unhide HFi).f1
  have HKj := hide (below_set (unhide HKi) (.int .i64 cN) (.int .i64 nN))
  have HFj := hide ((unhide HFi).set cN nN)
  have HEj := hide (ErrFits.set (unhide HEi) (unhide HFi) (.int .i64 cN) (.int .i64 nN))
  go_wp2_with fail
  refine (faulted_ok a _ ((unhide HS3).below (unhide HKj)) (unhide HEj)).mono ?_
  rintro E wk ⟨rfl, hBk⟩
  have HKk := hide ((unhide HKj).trans (hBk.mono (unhide HKj).size))
  clear hBk q0 q1 r0 r1
  go_wp2_with fail
  refine (same_ints_in _ _ xs xs _ ((unhide HO3).below (unhide HKk)) ((unhide HL3).below (unhide HKk)) (by unfold maxLen; omega)).mono ?_
  rintro E wl ⟨rfl, dn, rfl⟩
  have hsame : (xs == xs) = true := by simp
  rw [hsame]
  go_wp2
  go_ret
  exact ⟨rfl, (unhide HB3).trans (below_draw ((unhide HKk).mono (unhide HB3).size) _)⟩
set_option maxHeartbeats 4000000 in
set_option maxRecDepth 100000 in
theorem ptells_bad0 (a : Nat → Addr) (v : Value) (xs : List Int) (node : Int) (s cP nP cN nN nx : Int) (w : World) (S : Sent a w) (hv : IntsIn w v xs) (h40 : xs.length ≤ 40) (T : Told a xs node s cP nP cP nP cN nN 0 0 0 0 0 nx) (hc : 0 < cP) (hx : xs.length = 0) :
    Calls Tryd.prog 6 #[v, .int .i64 node, .int .i64 s] w fun r w' => r = .returned (.bool true) ∧ Below w.heap.size w w' := by
  have HV := hide hv
  obtain ⟨ad, cap, rfl, hcells⟩ := hv
  have HS := hide S
  have HT := hide T
  have h40' : ¬ (40 : Int) < (xs.length : Int) := by omega
  have hlen : ¬ (0 : Int) < (xs.length : Int) := by omega
  have hcP : (cP == 0) = false := by simp; omega
  have hcP' : ¬ cP = 0 := by omega
  obtain ⟨i0, hi, hz0, hz1, hz2⟩ := info_parts Tryd.infoInt'
  clear S T hcells hx
  go_enter Tryd.func6, Tryd.ntmps6
  go_wp2_with fail
  refine (planned_ok (eS a) w (unhide HS).plan).mono ?_
  rintro E w1 ⟨rfl, hB1⟩
  have HB1 := hide hB1
  clear hB1
  go_wp2_with (at_builtin; refine wpList_append_ints rfl _ _ 22 rfl 3 i0 Tryd.underlying22 hi hz0 hz1 hz2 rfl _ xs rfl ((unhide HV).below (unhide HB1)) (by omega) ?_; intro vo w2 hv2 hB2; have HO2 := hide hv2.in'; have HB2 := hide ((unhide HB1).trans (hB2.mono (unhide HB1).size)); clear hv2 hB2)
  refine ((unhide HT).pf _ _ ((unhide HV).below (unhide HB2))).mono ?_
  rintro E w3 ⟨rfl, hB3⟩
  have HO3 := hide ((unhide HO2).below hB3)
  have HB3 := hide ((unhide HB2).trans (hB3.mono (unhide HB2).size))
  have HL3 := hide ((unhide HV).below (unhide HB3))
  have HS3 := hide ((unhide HS).below (unhide HB3))
  have HK4 : Hid (Below w3.heap.size w3 (w3.alloc (.cells #[.int .i64 cP, .int .i64 nP] 51))) := (Below.refl _ _).alloc (Nat.le_refl _) _
  have HF4 := hide (FAt.new w3 cP nP)
  clear hB3
  go_wp2_with fail
  refine ((unhide HT).cr _ _ ((unhide HS3).below (unhide HK4)) ((unhide HO3).below (unhide HK4))).mono ?_
  rintro E w5 ⟨ev5, rfl, hf5, hB5⟩
  have HK5 := hide ((unhide HK4).trans (hB5.mono (unhide HK4).size))
  have HF5 := hide ((unhide HF4).below hB5)
  have HE5 := hide hf5
  clear hB5 hf5
  have q0 := (unhide HF5).c0
  have q1 := (unhide HF5).c1
  go_wp2_with fail
  have HKd := hide (unhide HK5).drew
  have HFd := hide ((unhide HF5).below (Below.refl _ w5).drew)
  have HEd := hide ((unhide HE5).below (Below.refl _ w5).drew)
  go_region_held3 (fun w' => w'.cell? ⟨w3.heap.size, 0, none⟩ = some (.int .i64 cP) ∧ w'.cell? ⟨w3.heap.size, 0 + 1, none⟩ = some (.int .i64 nP)) (first | exact ⟨(unhide HF8).c0, (unhide HF8).c1⟩ | exact ⟨(unhide HF7).c0, (unhide HF7).c1⟩ | exact ⟨(unhide HF6).c0, (unhide HF6).c1⟩ | exact ⟨(unhide HFd).c0, (unhide HFd).c1⟩)
    (first
      | (go_at_call 23; refine ((unhide HT).ck _ _ ((unhide HS3).below (unhide HKd)) ((unhide HO3).below (unhide HKd))).mono ?_; rintro E w6 ⟨ev6, rfl, hf6, hB6⟩; have HK6 := hide ((unhide HKd).trans (hB6.mono (unhide HKd).size)); have HF6 := hide ((unhide HFd).below hB6); have HE6 := hide ((unhide HEd).below hB6); have HG6 := hide hf6; clear hB6 hf6)
      | (go_at_call_of 31 ev6; refine (faulted_ok a _ ((unhide HS3).below (unhide HK6)) (unhide HG6)).mono ?_; rintro E w7 ⟨rfl, hB7⟩; have HK7 := hide ((unhide HK6).trans (hB7.mono (unhide HK6).size)); have HF7 := hide ((unhide HF6).below hB7); have HE7 := hide ((unhide HE6).below hB7); clear hB7)
      | (go_at_call_of 31 ev5; refine (faulted_ok a _ ((unhide HS3).below (unhide HK7)) (unhide HE7)).mono ?_; rintro E w8 ⟨rfl, hB8⟩; have HK8 := hide ((unhide HK7).trans (hB8.mono (unhide HK7).size)); have HF8 := hide ((unhide HF7).below hB8); clear hB8))
  clear q0 q1
  have q0 := (unhide HF8).c0
  go_wp2_with fail
  refine wp_loop_rounds 1 ?_
  rw [rounds_succ]
  go_wp2_with fail
  refine ((unhide HT).sf _ _ ((unhide HL3).below (unhide HK8))).mono ?_
  rintro E w9 ⟨rfl, hB9⟩
  have HK9 := hide ((unhide HK8).trans (hB9.mono (unhide HK8).size))
  have HF9 := hide ((unhide HF8).below hB9)
  clear hB9 q0
  have q0 := (unhide HF9).c0
  have q1 := (unhide HF9).c1
  have r0 := (unhide HF9).f0
  have r1 := (unhide HF9).f1
  have HKa := hide (below_set (unhide HK9) (.int .i64 cP) (.int .i64 nP))
  have HFa := hide ((unhide HF9).set cP nP)
  go_wp2_with fail
  refine ((unhide HT).wh _ _ ((unhide HS3).below (unhide HKa)) ((unhide HO3).below (unhide HKa))).mono ?_
  rintro E wb ⟨evb, rfl, hfb, hBb⟩
  have HKb := hide ((unhide HKa).trans (hBb.mono (unhide HKa).size))
  have HFb := hide ((unhide HFa).below hBb)
  have HEb := hide hfb
  clear hBb hfb q0 q1 r0 r1
  go_wp2_with fail
  refine ((unhide HT).ro _ _ ((unhide HS3).below (unhide HKb)) ((unhide HO3).below (unhide HKb))).mono ?_
  rintro E wd ⟨evd, rfl, hfd, hBd⟩
  have HKd' := hide ((unhide HKb).trans (hBd.mono (unhide HKb).size))
  have HFd' := hide ((unhide HFb).below hBd)
  have HEd' := hide ((unhide HEb).below hBd)
  have HGd := hide hfd
  clear hBd hfd
  have q0 := (unhide HFd').c0
  have q1 := (unhide HFd').c1
  go_wp2_with fail
  refine (faulted_ok a _ ((unhide HS3).below (unhide HKd')) (unhide HEd')).mono ?_
  rintro E we ⟨rfl, hBe⟩
  have HKe := hide ((unhide HKd').trans (hBe.mono (unhide HKd').size))
  have HFe := hide ((unhide HFd').below hBe)
  have HGe := hide ((unhide HGd).below hBe)
  clear hBe q0 q1
  have q0 := (unhide HFe).c0
  have q1 := (unhide HFe).c1
  go_wp2_with fail
  refine (faulted_ok a _ ((unhide HS3).below (unhide HKe)) (unhide HGe)).mono ?_
  rintro E wf ⟨rfl, hBf⟩
  have HKf := hide ((unhide HKe).trans (hBf.mono (unhide HKe).size))
  have HFf := hide ((unhide HFe).below hBf)
  clear hBf q0 q1
  go_wp2_with fail
  refine ((unhide HT).sh _ _ ((unhide HS3).below (unhide HKf)) ((unhide HO3).below (unhide HKf))).mono ?_
  rintro E wg ⟨rfl, hBg⟩
  have HKg := hide ((unhide HKf).trans (hBg.mono (unhide HKf).size))
  have HFg := hide ((unhide HFf).below hBg)
  clear hBg
  go_wp2_with fail
  refine ((unhide HT).ne _ _ ((unhide HS3).below (unhide HKg)) ((unhide HO3).below (unhide HKg))).mono ?_
  rintro E wh ⟨evh, rfl, hfh, hBh⟩
  have HKh := hide ((unhide HKg).trans (hBh.mono (unhide HKg).size))
  have HFh := hide ((unhide HFg).below hBh)
  have HEh := hide hfh
  clear hBh hfh
  go_wp2_with fail
  refine ((unhide HT).no _ _ ((unhide HL3).below (unhide HKh))).mono ?_
  rintro E wi ⟨rfl, hBi⟩
  have HKi := hide ((unhide HKh).trans (hBi.mono (unhide HKh).size))
  have HFi := hide ((unhide HFh).below hBi)
  have HEi := hide ((unhide HEh).below hBi)
  clear hBi
  have q0 := (unhide HFi).c0
  have q1 := (unhide HFi).c1
  have r0 := (unhide HFi).f0
  have r1 := (unhide HFi).f1
  have HKj := hide (below_set (unhide HKi) (.int .i64 cN) (.int .i64 nN))
  have HFj := hide ((unhide HFi).set cN nN)
  have HEj := hide (ErrFits.set (unhide HEi) (unhide HFi) (.int .i64 cN) (.int .i64 nN))
  go_wp2_with fail
  refine (faulted_ok a _ ((unhide HS3).below (unhide HKj)) (unhide HEj)).mono ?_
  rintro E wk ⟨rfl, hBk⟩
  have HKk := hide ((unhide HKj).trans (hBk.mono (unhide HKj).size))
  clear hBk q0 q1 r0 r1
  go_wp2_with fail
  refine (same_ints_in _ _ xs xs _ ((unhide HO3).below (unhide HKk)) ((unhide HL3).below (unhide HKk)) (by unfold maxLen; omega)).mono ?_
  rintro E wl ⟨rfl, dn, rfl⟩
  have hsame : (xs == xs) = true := by simp
  rw [hsame]
  go_wp2
  go_ret
  exact ⟨rfl, (unhide HB3).trans (below_draw ((unhide HKk).mono (unhide HB3).size) _)⟩
set_option maxHeartbeats 4000000 in
set_option maxRecDepth 100000 in
theorem ptells_farslot (a : Nat → Addr) (v : Value) (xs : List Int) (node : Int) (s : Int) (w : World) (S : Sent a w) (hv : IntsIn w v xs) (h40 : xs.length ≤ 40) (T : Told a xs node s 0 (-1) 2 (-1) 2 (-1) (Cm.ofN xs : Nat) 0 0 0 (xs.count node : Nat) 0) (hp : planOk xs) :
    Calls Tryd.prog 6 #[v, .int .i64 node, .int .i64 s] w fun r w' => r = .returned (.bool true) ∧ Below w.heap.size w w' := by
  have HV := hide hv
  obtain ⟨ad, cap, rfl, hcells⟩ := hv
  have HS := hide S
  have HT := hide T
  have h40' : ¬ (40 : Int) < (xs.length : Int) := by omega
  obtain ⟨i0, hi, hz0, hz1, hz2⟩ := info_parts Tryd.infoInt'
  have HPl := hide hp
  clear S T hcells hp
  go_enter Tryd.func6, Tryd.ntmps6
  go_wp2_with fail
  refine (planned_ok (eS a) w (unhide HS).plan).mono ?_
  rintro E w1 ⟨rfl, hB1⟩
  have HB1 := hide hB1
  clear hB1
  go_wp2_with (at_builtin; refine wpList_append_ints rfl _ _ 22 rfl 3 i0 Tryd.underlying22 hi hz0 hz1 hz2 rfl _ xs rfl ((unhide HV).below (unhide HB1)) (by omega) ?_; intro vo w2 hv2 hB2; have HO2 := hide hv2.in'; have HB2 := hide ((unhide HB1).trans (hB2.mono (unhide HB1).size)); clear hv2 hB2)
  refine ((unhide HT).pf _ _ ((unhide HV).below (unhide HB2))).mono ?_
  rintro E w3 ⟨rfl, hB3⟩
  have HO3 := hide ((unhide HO2).below hB3)
  have HB3 := hide ((unhide HB2).trans (hB3.mono (unhide HB2).size))
  have HL3 := hide ((unhide HV).below (unhide HB3))
  have HS3 := hide ((unhide HS).below (unhide HB3))
  have HK4 : Hid (Below w3.heap.size w3 (w3.alloc (.cells #[.int .i64 0, .int .i64 (-1)] 51))) := (Below.refl _ _).alloc (Nat.le_refl _) _
  have HF4 := hide (FAt.new w3 0 (-1))
  clear hB3
  go_wp2_with fail
  refine ((unhide HT).cr _ _ ((unhide HS3).below (unhide HK4)) ((unhide HO3).below (unhide HK4))).mono ?_
  rintro E w4b ⟨ev5, rfl, hf5, hB4b⟩
  have HK4b := hide ((unhide HK4).trans (hB4b.mono (unhide HK4).size))
  have HF4b := hide ((unhide HF4).below hB4b)
  have HE4b := hide hf5
  clear hB4b hf5
  have q0 := (unhide HF4b).c0
  go_wp2_with fail
  refine (crewOf_in _ xs _ ((unhide HL3).below (unhide HK4b)) (unhide HPl)).mono ?_
  rintro E w5 ⟨rfl, hB5⟩
  have HK5 := hide ((unhide HK4b).trans (hB5.mono (unhide HK4b).size))
  have HF5 := hide ((unhide HF4b).below hB5)
  have HE5 := hide ((unhide HE4b).below hB5)
  clear hB5 q0
  have q0 := (unhide HF5).c0
  have q1 := (unhide HF5).c1
  go_wp2_with fail
  have HKd := hide (unhide HK5).drew
  have HFd := hide ((unhide HF5).below (Below.refl _ w5).drew)
  have HEd := hide ((unhide HE5).below (Below.refl _ w5).drew)
  go_region_held3 (fun w' => w'.cell? ⟨w3.heap.size, 0, none⟩ = some (.int .i64 0) ∧ w'.cell? ⟨w3.heap.size, 0 + 1, none⟩ = some (.int .i64 (-1))) (first | exact ⟨(unhide HF8).c0, (unhide HF8).c1⟩ | exact ⟨(unhide HF7).c0, (unhide HF7).c1⟩ | exact ⟨(unhide HF6).c0, (unhide HF6).c1⟩ | exact ⟨(unhide HFd).c0, (unhide HFd).c1⟩)
    (first
      | (go_at_call 23; refine ((unhide HT).ck _ _ ((unhide HS3).below (unhide HKd)) ((unhide HO3).below (unhide HKd))).mono ?_; rintro E w6 ⟨ev6, rfl, hf6, hB6⟩; have HK6 := hide ((unhide HKd).trans (hB6.mono (unhide HKd).size)); have HF6 := hide ((unhide HFd).below hB6); have HE6 := hide ((unhide HEd).below hB6); have HG6 := hide hf6; clear hB6 hf6)
      | (go_at_call_of 31 ev6; refine (faulted_ok a _ ((unhide HS3).below (unhide HK6)) (unhide HG6)).mono ?_; rintro E w7 ⟨rfl, hB7⟩; have HK7 := hide ((unhide HK6).trans (hB7.mono (unhide HK6).size)); have HF7 := hide ((unhide HF6).below hB7); have HE7 := hide ((unhide HE6).below hB7); clear hB7)
      | (go_at_call_of 31 ev5; refine (faulted_ok a _ ((unhide HS3).below (unhide HK7)) (unhide HE7)).mono ?_; rintro E w8 ⟨rfl, hB8⟩; have HK8 := hide ((unhide HK7).trans (hB8.mono (unhide HK7).size)); have HF8 := hide ((unhide HF7).below hB8); clear hB8))
  clear q0 q1
  have q0 := (unhide HF8).c0
  go_wp2_with fail
  have HC8 : Hid (∀ w', Below w3.heap.size w3 w' → ∀ k, k < xs.length → ∃ b off, ad = some ⟨b, off, none⟩ ∧ w'.cell? ⟨b, off + k, none⟩ = some (.int .i64 (xs.getD k 0))) := fun w' hB k hk => by
    obtain ⟨ad', cap', e, hc⟩ := (unhide HL3).below hB
    cases e
    exact hc k hk
  go_loop [13, 14] (fun c i => ∃ k q : Nat, k ≤ xs.length ∧ i = .int .i64 k ∧ c = .int .i64 q ∧ q ≤ k ∧ Hid (q = (xs.take k).count node)) (fun _ i => xs.length - (intOf i).toNat)
  case atStart => exact ⟨0, 0, by omega, rfl, rfl, by omega, by show 0 = _; simp⟩
  case round =>
    obtain ⟨k, q', hk, rfl, rfl, hq', Hq⟩ := hrel
    by_cases hlt : k < xs.length
    · obtain ⟨b, off, rfl, hcell⟩ := unhide HC8 _ (unhide HK8) k hlt
      have HS' := hide (count_snoc xs k node hlt)
      rw [← unhide Hq] at HS'
      generalize xs.getD k 0 = z at *
      by_cases hz : z = node
      · subst hz
        go_wp2
        go_round
        case rel => exact ⟨k + 1, q' + 1, by omega, by go_num, by go_num, by omega, by have := unhide HS'; simp only [if_true] at this; exact this.symm⟩
        case measure => simp [intOf]; omega
      · go_wp2
        go_round
        case rel => exact ⟨k + 1, q', by omega, by go_num, rfl, by omega, by have := unhide HS'; rw [if_neg hz] at this; exact this.symm⟩
        case measure => simp [intOf]; omega
    · have hkn : k = xs.length := by omega
      subst hkn
      have hqc : q' = xs.count node := (unhide Hq).trans (by rw [List.take_of_length_le (Nat.le_refl _)])
      subst hqc
      go_wp2_with fail
      refine ((unhide HT).sf _ _ ((unhide HL3).below (unhide HK8))).mono ?_
      rintro E w9 ⟨rfl, hB9⟩
      have HK9 := hide ((unhide HK8).trans (hB9.mono (unhide HK8).size))
      have HF9 := hide ((unhide HF8).below hB9)
      clear hB9 q0
      have q0 := (unhide HF9).c0
      have q1 := (unhide HF9).c1
      have r0 := (unhide HF9).f0
      have r1 := (unhide HF9).f1
      have HKa := hide (below_set (unhide HK9) (.int .i64 2) (.int .i64 (-1)))
      have HFa := hide ((unhide HF9).set 2 (-1))
      go_wp2_with fail
      refine ((unhide HT).wh _ _ ((unhide HS3).below (unhide HKa)) ((unhide HO3).below (unhide HKa))).mono ?_
      rintro E wb ⟨evb, rfl, hfb, hBb⟩
      have HKb := hide ((unhide HKa).trans (hBb.mono (unhide HKa).size))
      have HFb := hide ((unhide HFa).below hBb)
      have HEb := hide hfb
      clear hBb hfb q0 q1 r0 r1
      go_wp2_with fail
      refine ((unhide HT).ro _ _ ((unhide HS3).below (unhide HKb)) ((unhide HO3).below (unhide HKb))).mono ?_
      rintro E wd ⟨evd, rfl, hfd, hBd⟩
      have HKd' := hide ((unhide HKb).trans (hBd.mono (unhide HKb).size))
      have HFd' := hide ((unhide HFb).below hBd)
      have HEd' := hide ((unhide HEb).below hBd)
      have HGd := hide hfd
      clear hBd hfd
      have q0 := (unhide HFd').c0
      have q1 := (unhide HFd').c1
      go_wp2_with fail
      refine (faulted_ok a _ ((unhide HS3).below (unhide HKd')) (unhide HEd')).mono ?_
      rintro E we ⟨rfl, hBe⟩
      have HKe := hide ((unhide HKd').trans (hBe.mono (unhide HKd').size))
      have HFe := hide ((unhide HFd').below hBe)
      have HGe := hide ((unhide HGd).below hBe)
      clear hBe q0 q1
      have q0 := (unhide HFe).c0
      have q1 := (unhide HFe).c1
      go_wp2_with fail
      refine (faulted_ok a _ ((unhide HS3).below (unhide HKe)) (unhide HGe)).mono ?_
      rintro E wf ⟨rfl, hBf⟩
      have HKf := hide ((unhide HKe).trans (hBf.mono (unhide HKe).size))
      have HFf := hide ((unhide HFe).below hBf)
      clear hBf q0 q1
      go_wp2_with fail
      refine ((unhide HT).sh _ _ ((unhide HS3).below (unhide HKf)) ((unhide HO3).below (unhide HKf))).mono ?_
      rintro E wg ⟨rfl, hBg⟩
      have HKg := hide ((unhide HKf).trans (hBg.mono (unhide HKf).size))
      have HFg := hide ((unhide HFf).below hBg)
      clear hBg
      go_wp2_with fail
      refine ((unhide HT).ne _ _ ((unhide HS3).below (unhide HKg)) ((unhide HO3).below (unhide HKg))).mono ?_
      rintro E wh ⟨evh, rfl, hfh, hBh⟩
      have HKh := hide ((unhide HKg).trans (hBh.mono (unhide HKg).size))
      have HFh := hide ((unhide HFg).below hBh)
      have HEh := hide hfh
      clear hBh hfh
      go_wp2_with fail
      refine ((unhide HT).no _ _ ((unhide HL3).below (unhide HKh))).mono ?_
      rintro E wi ⟨rfl, hBi⟩
      have HKi := hide ((unhide HKh).trans (hBi.mono (unhide HKh).size))
      have HFi := hide ((unhide HFh).below hBi)
      have HEi := hide ((unhide HEh).below hBi)
      clear hBi
      have q0 := (unhide HFi).c0
      have q1 := (unhide HFi).c1
      have r0 := (unhide HFi).f0
      have r1 := (unhide HFi).f1
      have HKj := hide (below_set (unhide HKi) (.int .i64 2) (.int .i64 (-1)))
      have HFj := hide ((unhide HFi).set 2 (-1))
      have HEj := hide (ErrFits.set (unhide HEi) (unhide HFi) (.int .i64 2) (.int .i64 (-1)))
      go_wp2_with fail
      refine (faulted_ok a _ ((unhide HS3).below (unhide HKj)) (unhide HEj)).mono ?_
      rintro E wk ⟨rfl, hBk⟩
      have HKk := hide ((unhide HKj).trans (hBk.mono (unhide HKj).size))
      clear hBk q0 q1 r0 r1
      go_wp2_with fail
      refine (same_ints_in _ _ xs xs _ ((unhide HO3).below (unhide HKk)) ((unhide HL3).below (unhide HKk)) (by unfold maxLen; omega)).mono ?_
      rintro E wl ⟨rfl, dn, rfl⟩
      have hsame : (xs == xs) = true := by simp
      rw [hsame]
      go_wp2
      go_ret
      exact ⟨rfl, (unhide HB3).trans (below_draw ((unhide HKk).mono (unhide HB3).size) _)⟩
set_option maxHeartbeats 4000000 in
set_option maxRecDepth 100000 in
theorem ptells_near (a : Nat → Addr) (v : Value) (xs : List Int) (node : Int) (s q r : Nat) (cN nN nx : Int) (w : World) (S : Sent a w) (hv : IntsIn w v xs) (h40 : xs.length ≤ 40) (T : Told a xs node s 0 (-1) 0 (-1) cN nN (Cm.ofN xs : Nat) (xs.getD r 0) q r (xs.count node : Nat) nx) (hp : planOk xs) (hq : (s : Int) / (xs.length : Int) = (q : Int)) (hqb : q ≤ 1000000) (hr : (s : Int).tmod (xs.length : Int) = (r : Int)) (hr' : r < xs.length) :
    Calls Tryd.prog 6 #[v, .int .i64 node, .int .i64 s] w fun r w' => r = .returned (.bool true) ∧ Below w.heap.size w w' := by
  have HV := hide hv
  obtain ⟨ad, cap, rfl, hcells⟩ := hv
  have HS := hide S
  have HT := hide T
  have h40' : ¬ (40 : Int) < (xs.length : Int) := by omega
  obtain ⟨i0, hi, hz0, hz1, hz2⟩ := info_parts Tryd.infoInt'
  have HPl := hide hp
  have hn0 : ¬ ((xs.length : Int) = 0) := by omega
  clear S T hcells hp
  go_enter Tryd.func6, Tryd.ntmps6
  go_wp2_with fail
  refine (planned_ok (eS a) w (unhide HS).plan).mono ?_
  rintro E w1 ⟨rfl, hB1⟩
  have HB1 := hide hB1
  clear hB1
  go_wp2_with (at_builtin; refine wpList_append_ints rfl _ _ 22 rfl 3 i0 Tryd.underlying22 hi hz0 hz1 hz2 rfl _ xs rfl ((unhide HV).below (unhide HB1)) (by omega) ?_; intro vo w2 hv2 hB2; have HO2 := hide hv2.in'; have HB2 := hide ((unhide HB1).trans (hB2.mono (unhide HB1).size)); clear hv2 hB2)
  refine ((unhide HT).pf _ _ ((unhide HV).below (unhide HB2))).mono ?_
  rintro E w3 ⟨rfl, hB3⟩
  have HO3 := hide ((unhide HO2).below hB3)
  have HB3 := hide ((unhide HB2).trans (hB3.mono (unhide HB2).size))
  have HL3 := hide ((unhide HV).below (unhide HB3))
  have HS3 := hide ((unhide HS).below (unhide HB3))
  have HK4 : Hid (Below w3.heap.size w3 (w3.alloc (.cells #[.int .i64 0, .int .i64 (-1)] 51))) := (Below.refl _ _).alloc (Nat.le_refl _) _
  have HF4 := hide (FAt.new w3 0 (-1))
  clear hB3
  go_wp2_with fail
  refine ((unhide HT).cr _ _ ((unhide HS3).below (unhide HK4)) ((unhide HO3).below (unhide HK4))).mono ?_
  rintro E w4b ⟨ev5, rfl, hf5, hB4b⟩
  have HK4b := hide ((unhide HK4).trans (hB4b.mono (unhide HK4).size))
  have HF4b := hide ((unhide HF4).below hB4b)
  have HE4b := hide hf5
  clear hB4b hf5
  have q0 := (unhide HF4b).c0
  go_wp2_with fail
  refine (crewOf_in _ xs _ ((unhide HL3).below (unhide HK4b)) (unhide HPl)).mono ?_
  rintro E w5 ⟨rfl, hB5⟩
  have HK5 := hide ((unhide HK4b).trans (hB5.mono (unhide HK4b).size))
  have HF5 := hide ((unhide HF4b).below hB5)
  have HE5 := hide ((unhide HE4b).below hB5)
  clear hB5 q0
  have q0 := (unhide HF5).c0
  have q1 := (unhide HF5).c1
  go_wp2_with fail
  have HKd := hide (unhide HK5).drew
  have HFd := hide ((unhide HF5).below (Below.refl _ w5).drew)
  have HEd := hide ((unhide HE5).below (Below.refl _ w5).drew)
  go_region_held3 (fun w' => w'.cell? ⟨w3.heap.size, 0, none⟩ = some (.int .i64 0) ∧ w'.cell? ⟨w3.heap.size, 0 + 1, none⟩ = some (.int .i64 (-1))) (first | exact ⟨(unhide HF8).c0, (unhide HF8).c1⟩ | exact ⟨(unhide HF7).c0, (unhide HF7).c1⟩ | exact ⟨(unhide HF6).c0, (unhide HF6).c1⟩ | exact ⟨(unhide HFd).c0, (unhide HFd).c1⟩)
    (first
      | (go_at_call 23; refine ((unhide HT).ck _ _ ((unhide HS3).below (unhide HKd)) ((unhide HO3).below (unhide HKd))).mono ?_; rintro E w6 ⟨ev6, rfl, hf6, hB6⟩; have HK6 := hide ((unhide HKd).trans (hB6.mono (unhide HKd).size)); have HF6 := hide ((unhide HFd).below hB6); have HE6 := hide ((unhide HEd).below hB6); have HG6 := hide hf6; clear hB6 hf6)
      | (go_at_call_of 31 ev6; refine (faulted_ok a _ ((unhide HS3).below (unhide HK6)) (unhide HG6)).mono ?_; rintro E w7 ⟨rfl, hB7⟩; have HK7 := hide ((unhide HK6).trans (hB7.mono (unhide HK6).size)); have HF7 := hide ((unhide HF6).below hB7); have HE7 := hide ((unhide HE6).below hB7); clear hB7)
      | (go_at_call_of 31 ev5; refine (faulted_ok a _ ((unhide HS3).below (unhide HK7)) (unhide HE7)).mono ?_; rintro E w8 ⟨rfl, hB8⟩; have HK8 := hide ((unhide HK7).trans (hB8.mono (unhide HK7).size)); have HF8 := hide ((unhide HF7).below hB8); clear hB8))
  clear q0 q1
  have q0 := (unhide HF8).c0
  go_wp2_with fail
  have HC8 : Hid (∀ w', Below w3.heap.size w3 w' → ∀ k, k < xs.length → ∃ b off, ad = some ⟨b, off, none⟩ ∧ w'.cell? ⟨b, off + k, none⟩ = some (.int .i64 (xs.getD k 0))) := fun w' hB k hk => by
    obtain ⟨ad', cap', e, hc⟩ := (unhide HL3).below hB
    cases e
    exact hc k hk
  go_loop [13, 14] (fun c i => ∃ k q : Nat, k ≤ xs.length ∧ i = .int .i64 k ∧ c = .int .i64 q ∧ q ≤ k ∧ Hid (q = (xs.take k).count node)) (fun _ i => xs.length - (intOf i).toNat)
  case atStart => exact ⟨0, 0, by omega, rfl, rfl, by omega, by show 0 = _; simp⟩
  case round =>
    obtain ⟨k, q', hk, rfl, rfl, hq', Hq⟩ := hrel
    by_cases hlt : k < xs.length
    · obtain ⟨b, off, rfl, hcell⟩ := unhide HC8 _ (unhide HK8) k hlt
      have HS' := hide (count_snoc xs k node hlt)
      rw [← unhide Hq] at HS'
      generalize xs.getD k 0 = z at *
      by_cases hz : z = node
      · subst hz
        go_wp2
        go_round
        case rel => exact ⟨k + 1, q' + 1, by omega, by go_num, by go_num, by omega, by have := unhide HS'; simp only [if_true] at this; exact this.symm⟩
        case measure => simp [intOf]; omega
      · go_wp2
        go_round
        case rel => exact ⟨k + 1, q', by omega, by go_num, rfl, by omega, by have := unhide HS'; rw [if_neg hz] at this; exact this.symm⟩
        case measure => simp [intOf]; omega
    · have hkn : k = xs.length := by omega
      subst hkn
      have hqc : q' = xs.count node := (unhide Hq).trans (by rw [List.take_of_length_le (Nat.le_refl _)])
      subst hqc
      go_wp2_with fail
      refine ((unhide HT).sf _ _ ((unhide HL3).below (unhide HK8))).mono ?_
      rintro E w9 ⟨rfl, hB9⟩
      have HK9 := hide ((unhide HK8).trans (hB9.mono (unhide HK8).size))
      have HF9 := hide ((unhide HF8).below hB9)
      clear hB9 q0
      have q0 := (unhide HF9).c0
      have q1 := (unhide HF9).c1
      have r0 := (unhide HF9).f0
      have r1 := (unhide HF9).f1
      have HKa := hide (below_set (unhide HK9) (.int .i64 0) (.int .i64 (-1)))
      have HFa := hide ((unhide HF9).set 0 (-1))
      obtain ⟨b, off, rfl, hcell⟩ := unhide HC8 _ (unhide HKa) r hr'
      generalize xs.getD r 0 = z at *
      go_wp2_with fail
      refine ((unhide HT).wh _ _ ((unhide HS3).below (unhide HKa)) ((unhide HO3).below (unhide HKa))).mono ?_
      rintro E wb ⟨evb, rfl, hfb, hBb⟩
      have HKb := hide ((unhide HKa).trans (hBb.mono (unhide HKa).size))
      have HFb := hide ((unhide HFa).below hBb)
      have HEb := hide hfb
      clear hBb hfb q0 q1 r0 r1
      go_wp2_with fail
      refine ((unhide HT).ro _ _ ((unhide HS3).below (unhide HKb)) ((unhide HO3).below (unhide HKb))).mono ?_
      rintro E wd ⟨evd, rfl, hfd, hBd⟩
      have HKd' := hide ((unhide HKb).trans (hBd.mono (unhide HKb).size))
      have HFd' := hide ((unhide HFb).below hBd)
      have HEd' := hide ((unhide HEb).below hBd)
      have HGd := hide hfd
      clear hBd hfd
      have q0 := (unhide HFd').c0
      have q1 := (unhide HFd').c1
      go_wp2_with fail
      refine (faulted_ok a _ ((unhide HS3).below (unhide HKd')) (unhide HEd')).mono ?_
      rintro E we ⟨rfl, hBe⟩
      have HKe := hide ((unhide HKd').trans (hBe.mono (unhide HKd').size))
      have HFe := hide ((unhide HFd').below hBe)
      have HGe := hide ((unhide HGd).below hBe)
      clear hBe q0 q1
      have q0 := (unhide HFe).c0
      have q1 := (unhide HFe).c1
      go_wp2_with fail
      refine (faulted_ok a _ ((unhide HS3).below (unhide HKe)) (unhide HGe)).mono ?_
      rintro E wf ⟨rfl, hBf⟩
      have HKf := hide ((unhide HKe).trans (hBf.mono (unhide HKe).size))
      have HFf := hide ((unhide HFe).below hBf)
      clear hBf q0 q1
      go_wp2_with fail
      refine ((unhide HT).sh _ _ ((unhide HS3).below (unhide HKf)) ((unhide HO3).below (unhide HKf))).mono ?_
      rintro E wg ⟨rfl, hBg⟩
      have HKg := hide ((unhide HKf).trans (hBg.mono (unhide HKf).size))
      have HFg := hide ((unhide HFf).below hBg)
      clear hBg
      go_wp2_with fail
      refine ((unhide HT).ne _ _ ((unhide HS3).below (unhide HKg)) ((unhide HO3).below (unhide HKg))).mono ?_
      rintro E wh ⟨evh, rfl, hfh, hBh⟩
      have HKh := hide ((unhide HKg).trans (hBh.mono (unhide HKg).size))
      have HFh := hide ((unhide HFg).below hBh)
      have HEh := hide hfh
      clear hBh hfh
      go_wp2_with fail
      refine ((unhide HT).no _ _ ((unhide HL3).below (unhide HKh))).mono ?_
      rintro E wi ⟨rfl, hBi⟩
      have HKi := hide ((unhide HKh).trans (hBi.mono (unhide HKh).size))
      have HFi := hide ((unhide HFh).below hBi)
      have HEi := hide ((unhide HEh).below hBi)
      clear hBi
      have q0 := (unhide HFi).c0
      have q1 := (unhide HFi).c1
      have r0 := (unhide HFi).f0
      have r1 := (unhide HFi).f1
      have HKj := hide (below_set (unhide HKi) (.int .i64 cN) (.int .i64 nN))
      have HFj := hide ((unhide HFi).set cN nN)
      have HEj := hide (ErrFits.set (unhide HEi) (unhide HFi) (.int .i64 cN) (.int .i64 nN))
      go_wp2_with fail
      refine (faulted_ok a _ ((unhide HS3).below (unhide HKj)) (unhide HEj)).mono ?_
      rintro E wk ⟨rfl, hBk⟩
      have HKk := hide ((unhide HKj).trans (hBk.mono (unhide HKj).size))
      clear hBk q0 q1 r0 r1
      go_wp2_with fail
      refine (same_ints_in _ _ xs xs _ ((unhide HO3).below (unhide HKk)) ((unhide HL3).below (unhide HKk)) (by unfold maxLen; omega)).mono ?_
      rintro E wl ⟨rfl, dn, rfl⟩
      have hsame : (xs == xs) = true := by simp
      rw [hsame]
      go_wp2
      go_ret
      exact ⟨rfl, (unhide HB3).trans (below_draw ((unhide HKk).mono (unhide HB3).size) _)⟩
theorem ptells_walk (a : Nat → Addr) (v : Value) (xs : List Int) (node s : Int) (w : World) (S : Sent a w) (hv : IntsIn w v xs) :
    Calls Tryd.prog 6 #[v, .int .i64 node, .int .i64 s] w fun r w' => r = .returned (.bool true) ∧ Below w.heap.size w w' := by
  by_cases h40 : 40 < xs.length
  · exact ptells_far a v xs node s w S hv h40
  by_cases hp : planOk xs
  · by_cases hs : 0 ≤ s ∧ s ≤ 1000000
    · obtain ⟨k, rfl⟩ : ∃ k : Nat, s = (k : Int) := ⟨s.toNat, by omega⟩
      obtain ⟨cN, nN, nx, T⟩ := told_near a xs node k hp (by omega)
      have h0 := hp.1
      exact ptells_near a v xs node k (k / xs.length) (k % xs.length) cN nN nx w S hv (by omega) T hp (by simp) (Nat.le_trans (Nat.div_le_self _ _) (by omega))
        (by rw [Int.tmod_eq_emod_of_nonneg (by omega)]; simp) (Nat.mod_lt _ (by omega))
    · exact ptells_farslot a v xs node s w S hv (by omega) (told_far a xs node s hp hs) hp
  · obtain ⟨c, n, hc, T⟩ := told_bad a xs node s hp
    by_cases h0 : xs.length = 0
    · exact ptells_bad0 a v xs node s c n c n 0 w S hv (by omega) T hc h0
    · exact ptells_bad1 a v xs node s c n c n 0 w S hv (by omega) T hc (by omega)
end Go.Proofs.YtglhapkclpllfaaDoor
