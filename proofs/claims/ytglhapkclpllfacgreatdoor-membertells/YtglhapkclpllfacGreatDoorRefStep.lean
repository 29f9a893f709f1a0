/-
  Contracts of the document's answer, chapter 7: StepOf, over what PlanFault, ViewError, HasNode, powerOf and ReadFrame answer.
-/
import Derived.Test.YtglhapkclpllfacGreatDoorRefPlan
import Derived.Test.YtglhapkclpllfacGreatDoorGq
import Derived.Deep.RegionHeld3
namespace Go.Proofs.YtglhapkclpllfacGreatDoor
open Go.RowKit

/-- The step's own cells: the view, the three results. -/
structure StepOwn (w W : World) (me mo sl : Int) : Prop where
  v : Own3 W w.heap.size (.int .i64 me) (.int .i64 mo) (.int .i64 sl)
  r1 : Own3 W (w.heap.size + 1) (.int .i64 0) (.int .i64 0) (.int .i64 0)
  r2 : Own4 W (w.heap.size + 1 + 1) (.int .i64 0) (.int .i64 0) (.bool false) (.int .i64 0)
  r3 : Own2 W (w.heap.size + 1 + 1 + 1) (.int .i64 0) (.int .i64 0)
  b : Below w.heap.size w W
theorem StepOwn.below {w W W' : World} {me mo sl : Int} (h : StepOwn w W me mo sl) (hB : Below W.heap.size W W') : StepOwn w W' me mo sl := ⟨h.v.below hB, h.r1.below hB, h.r2.below hB, h.r3.below hB, h.b.trans (hB.mono h.b.size)⟩
theorem StepOwn.new (w : World) (me mo sl : Int) (W : World) (hW : W = (((w.alloc (.cells #[.int .i64 me, .int .i64 mo, .int .i64 sl] 24)).alloc (.cells #[.int .i64 0, .int .i64 0, .int .i64 0] 24)).alloc (.cells #[.int .i64 0, .int .i64 0, .bool false, .int .i64 0] 32)).alloc (.cells #[.int .i64 0, .int .i64 0] 36)) : StepOwn w W me mo sl := by
  obtain ⟨w1, h1⟩ : ∃ w1, w1 = w.alloc (.cells #[.int .i64 me, .int .i64 mo, .int .i64 sl] 24) := ⟨_, rfl⟩
  obtain ⟨w2, h2⟩ : ∃ w2, w2 = w1.alloc (.cells #[.int .i64 0, .int .i64 0, .int .i64 0] 24) := ⟨_, rfl⟩
  obtain ⟨w3, h3⟩ : ∃ w3, w3 = w2.alloc (.cells #[.int .i64 0, .int .i64 0, .bool false, .int .i64 0] 32) := ⟨_, rfl⟩
  rw [← h1, ← h2, ← h3] at hW
  have s1 : w1.heap.size = w.heap.size + 1 := by rw [h1]; simp
  have s2 : w2.heap.size = w.heap.size + 1 + 1 := by rw [h2]; simp; omega
  have s3 : w3.heap.size = w.heap.size + 1 + 1 + 1 := by rw [h3]; simp; omega
  have b1 : Below w.heap.size w w1 := by rw [h1]; exact (Below.refl _ _).alloc (Nat.le_refl _) _
  have b2 : Below w1.heap.size w1 w2 := by rw [h2]; exact (Below.refl _ _).alloc (Nat.le_refl _) _
  have b3 : Below w2.heap.size w2 w3 := by rw [h3]; exact (Below.refl _ _).alloc (Nat.le_refl _) _
  have b4 : Below w3.heap.size w3 W := by rw [hW]; exact (Below.refl _ _).alloc (Nat.le_refl _) _
  have o0 : Own3 w1 w.heap.size (.int .i64 me) (.int .i64 mo) (.int .i64 sl) := by rw [h1]; exact Own3.new _ _ _ _ _
  have o1 : Own3 w2 w1.heap.size (.int .i64 0) (.int .i64 0) (.int .i64 0) := by rw [h2]; exact Own3.new _ _ _ _ _
  have o2 : Own4 w3 w2.heap.size (.int .i64 0) (.int .i64 0) (.bool false) (.int .i64 0) := by rw [h3]; exact Own4.new _ _ _ _ _ _
  have o3 : Own2 W w3.heap.size (.int .i64 0) (.int .i64 0) := by rw [hW]; exact Own2.new _ _ _ _
  refine ⟨((o0.below b2).below b3).below b4, ?_, ?_, ?_, ((b1.trans (b2.mono (by omega))).trans (b3.mono (by omega))).trans (b4.mono (by omega))⟩
  · rw [← s1]; exact (o1.below b3).below b4
  · rw [← s2]; exact o2.below b4
  · rw [← s3]; exact o3
theorem StepOwn.set {w W : World} {me mo sl : Int} (h : StepOwn w W me mo sl) {b : Nat} (hb : w.heap.size + 1 + 1 + 1 < b) (i : Nat) (u : Value) : StepOwn w (W.setCell ⟨b, i, none⟩ u) me mo sl :=
  ⟨h.v.other (by omega) i u, h.r1.other (by omega) i u, h.r2.other (by omega) i u, h.r3.other (by omega) i u, h.b.setCell (p := ⟨b, i, none⟩) (by show w.heap.size ≤ b; omega) _⟩
theorem below_nine {w w2 : World} (hB : Below w.heap.size w w2) (x0 x1 x2 y0 y1 y2 y3 z0 z1 : Value) : Below w.heap.size w (((((((((w2.setCell ⟨w.heap.size + 1, 0, none⟩ x0).setCell ⟨w.heap.size + 1, 1, none⟩ x1).setCell ⟨w.heap.size + 1, 2, none⟩ x2).setCell ⟨w.heap.size + 1 + 1, 0, none⟩ y0).setCell ⟨w.heap.size + 1 + 1, 1, none⟩ y1).setCell ⟨w.heap.size + 1 + 1, 2, none⟩ y2).setCell ⟨w.heap.size + 1 + 1, 3, none⟩ y3).setCell ⟨w.heap.size + 1 + 1 + 1, 0, none⟩ z0).setCell ⟨w.heap.size + 1 + 1 + 1, 1, none⟩ z1) := by
  exact (((((((((hB.setCell (p := ⟨w.heap.size + 1, 0, none⟩) (by show w.heap.size ≤ w.heap.size + 1; omega) _).setCell (p := ⟨w.heap.size + 1, 1, none⟩) (by show w.heap.size ≤ w.heap.size + 1; omega) _).setCell (p := ⟨w.heap.size + 1, 2, none⟩) (by show w.heap.size ≤ w.heap.size + 1; omega) _).setCell (p := ⟨w.heap.size + 1 + 1, 0, none⟩) (by show w.heap.size ≤ w.heap.size + 1 + 1; omega) _).setCell (p := ⟨w.heap.size + 1 + 1, 1, none⟩) (by show w.heap.size ≤ w.heap.size + 1 + 1; omega) _).setCell (p := ⟨w.heap.size + 1 + 1, 2, none⟩) (by show w.heap.size ≤ w.heap.size + 1 + 1; omega) _).setCell (p := ⟨w.heap.size + 1 + 1, 3, none⟩) (by show w.heap.size ≤ w.heap.size + 1 + 1; omega) _).setCell (p := ⟨w.heap.size + 1 + 1 + 1, 0, none⟩) (by show w.heap.size ≤ w.heap.size + 1 + 1 + 1; omega) _).setCell (p := ⟨w.heap.size + 1 + 1 + 1, 1, none⟩) (by show w.heap.size ≤ w.heap.size + 1 + 1 + 1; omega) _)
set_option maxRecDepth 100000 in
theorem stepOf_keep (v : Value) (xs : List Int) (me mo sl c n : Int) (s : ByteArray) (w : World) (hv : IntsIn w v xs)
    (hp : ∀ w', IntsIn w' v xs → Calls Tryz.prog 20 #[v] w' fun e w2 => e = .returned (.agg #[.int .i64 c, .int .i64 n]) ∧ Below w'.heap.size w' w2) (hc : 0 < c) :
    Calls Tryz.prog 9 #[v, .agg #[.int .i64 me, .int .i64 mo, .int .i64 sl], .string s] w fun e w' => e = .returned (.tuple #[.agg #[.int .i64 0, .int .i64 0, .int .i64 0], .agg #[.int .i64 0, .int .i64 0, .bool false, .int .i64 0], .agg #[.int .i64 c, .int .i64 n]]) ∧ Below w.heap.size w w' := by
  obtain ⟨W, hW⟩ : ∃ W, W = (((w.alloc (.cells #[.int .i64 me, .int .i64 mo, .int .i64 sl] 24)).alloc (.cells #[.int .i64 0, .int .i64 0, .int .i64 0] 24)).alloc (.cells #[.int .i64 0, .int .i64 0, .bool false, .int .i64 0] 32)).alloc (.cells #[.int .i64 0, .int .i64 0] 36) := ⟨_, rfl⟩
  have O := StepOwn.new w me mo sl W hW
  have HP := hide (hp W (hv.below O.b))
  have HO := hide O
  obtain ⟨ad, cap, rfl, _⟩ := hv
  have q1 : (c == 0) = false := by simp; omega
  have q2 : ¬ c = 0 := by omega
  clear hp O
  go_enter Tryz.func9, Tryz.ntmps9
  go_wp2_with fail
  rw [← hW]
  refine (unhide HP).mono ?_
  rintro e w2 ⟨rfl, hB2⟩
  have hB3 : Below W.heap.size W (w2.alloc (.cells #[.int .i64 c, .int .i64 n] 36)) := hB2.alloc hB2.size _
  have O3 := (unhide HO).below hB3
  obtain ⟨_, ⟨a0, a1, a2, b0, b1, b2⟩, ⟨e0, e1, e2, e3, g0, g1, g2, g3⟩, ⟨i0, i1, j0, j1⟩, hB4⟩ := O3
  have HB := hide hB4
  have hlt : w.heap.size + 1 + 1 + 1 < w2.heap.size := Nat.lt_of_lt_of_le (cell_lt (unhide HO).r3.c0) hB2.size
  have n1 : ¬ w2.heap.size = w.heap.size + 1 := by omega
  have n2 : ¬ w2.heap.size = w.heap.size + 1 + 1 := by omega
  have n3 : ¬ w2.heap.size = w.heap.size + 1 + 1 + 1 := by omega
  have m1 : ¬ w.heap.size + 1 = w2.heap.size := by omega
  have m2 : ¬ w.heap.size + 1 + 1 = w2.heap.size := by omega
  have m3 : ¬ w.heap.size + 1 + 1 + 1 = w2.heap.size := by omega
  clear hB2 hB3 hB4
  go_wp2_with fail
  go_region
  all_goals (try go_wp2)
  exact bodyPost_ret (v := .tuple #[.agg #[.int .i64 0, .int .i64 0, .int .i64 0], .agg #[.int .i64 0, .int .i64 0, .bool false, .int .i64 0], .agg #[.int .i64 c, .int .i64 n]]) (by simp [results, Tryz.results9, go_sem, *]) rfl ⟨rfl, (below_nine (unhide HB) _ _ _ _ _ _ _ _ _).drew⟩
set_option maxRecDepth 100000 in
theorem stepOf_view (v : Value) (xs : List Int) (me mo sl cv : Int) (s : ByteArray) (w : World) (hv : IntsIn w v xs) (hp : planOk xs)
    (he : ∀ w', Calls Tryz.prog 7 #[.agg #[.int .i64 me, .int .i64 mo, .int .i64 sl]] w' fun e w2 => e = .returned (.int .i64 cv) ∧ Below w'.heap.size w' w2) (hc : 0 < cv) :
    Calls Tryz.prog 9 #[v, .agg #[.int .i64 me, .int .i64 mo, .int .i64 sl], .string s] w fun e w' => e = .returned (.tuple #[.agg #[.int .i64 0, .int .i64 0, .int .i64 0], .agg #[.int .i64 0, .int .i64 0, .bool false, .int .i64 0], .agg #[.int .i64 cv, .int .i64 (-1)]]) ∧ Below w.heap.size w w' := by
  obtain ⟨W, hW⟩ : ∃ W, W = (((w.alloc (.cells #[.int .i64 me, .int .i64 mo, .int .i64 sl] 24)).alloc (.cells #[.int .i64 0, .int .i64 0, .int .i64 0] 24)).alloc (.cells #[.int .i64 0, .int .i64 0, .bool false, .int .i64 0] 32)).alloc (.cells #[.int .i64 0, .int .i64 0] 36) := ⟨_, rfl⟩
  have O := StepOwn.new w me mo sl W hW
  have HP := hide (planFault_ok v xs W (hv.below O.b) hp)
  have HO := hide O
  have HE := hide he
  obtain ⟨ad, cap, rfl, _⟩ := hv
  have q1 : (cv == 0) = false := by simp; omega
  have q2 : ¬ cv = 0 := by omega
  clear hp O he
  go_enter Tryz.func9, Tryz.ntmps9
  go_wp2_with fail
  rw [← hW]
  refine (unhide HP).mono ?_
  rintro e w2 ⟨rfl, hB2⟩
  have hB3 : Below W.heap.size W (w2.alloc (.cells #[.int .i64 0, .int .i64 (-1)] 36)) := hB2.alloc hB2.size _
  have hlt : w.heap.size + 1 + 1 + 1 < w2.heap.size := Nat.lt_of_lt_of_le (cell_lt (unhide HO).r3.c0) hB2.size
  have HF := hide (Own2.new w2 36 (.int .i64 0) (.int .i64 (-1)))
  have HO3 := hide ((unhide HO).below hB3)
  obtain ⟨v0, v1, v2, _, _, _⟩ := (unhide HO3).v
  have n0 : ¬ w2.heap.size = w.heap.size := by omega
  have n1 : ¬ w2.heap.size = w.heap.size + 1 := by omega
  have n2 : ¬ w2.heap.size = w.heap.size + 1 + 1 := by omega
  have n3 : ¬ w2.heap.size = w.heap.size + 1 + 1 + 1 := by omega
  have m0 : ¬ w.heap.size = w2.heap.size := by omega
  have m1 : ¬ w.heap.size + 1 = w2.heap.size := by omega
  have m2 : ¬ w.heap.size + 1 + 1 = w2.heap.size := by omega
  have m3 : ¬ w.heap.size + 1 + 1 + 1 = w2.heap.size := by omega
  clear hB2 hB3
  go_wp2_with fail
  refine (unhide HE _).mono ?_
  rintro e w4 ⟨rfl, hB4⟩
  have HO4 := hide ((unhide HO3).below hB4)
  have HF4 := hide ((unhide HF).below hB4)
  clear hB4 v0 v1 v2
  go_wp2_with fail
  refine (bare_ok cv _).mono ?_
  rintro e w5 ⟨rfl, hB5⟩
  obtain ⟨_, ⟨a0, a1, a2, b0, b1, b2⟩, ⟨e0, e1, e2, e3, g0, g1, g2, g3⟩, ⟨i0, i1, j0, j1⟩, hB6⟩ := (unhide HO4).below hB5
  obtain ⟨k0, k1, l0, l1⟩ := (unhide HF4).below hB5
  have HB := hide hB6
  clear hB5 hB6
  go_wp2_with fail
  go_region
  all_goals (try go_wp2)
  exact bodyPost_ret (v := .tuple #[.agg #[.int .i64 0, .int .i64 0, .int .i64 0], .agg #[.int .i64 0, .int .i64 0, .bool false, .int .i64 0], .agg #[.int .i64 cv, .int .i64 (-1)]]) (by simp [results, Tryz.results9, go_sem, *]) rfl
    ⟨rfl, (below_nine (((unhide HB).setCell (p := ⟨w2.heap.size, 0, none⟩) (by show w.heap.size ≤ w2.heap.size; omega) _).setCell (p := ⟨w2.heap.size, 1, none⟩) (by show w.heap.size ≤ w2.heap.size; omega) _) _ _ _ _ _ _ _ _ _).drew⟩
set_option maxHeartbeats 4000000 in
set_option maxRecDepth 100000 in
theorem stepOf_full (v : Value) (xs : List Int) (me mo : Int) (s : ByteArray) (w : World) (hv : IntsIn w v xs) (hp : planOk xs)
    (he : ∀ w', Calls Tryz.prog 7 #[.agg #[.int .i64 me, .int .i64 mo, .int .i64 1000000]] w' fun e w2 => e = .returned (.int .i64 0) ∧ Below w'.heap.size w' w2) :
    Calls Tryz.prog 9 #[v, .agg #[.int .i64 me, .int .i64 mo, .int .i64 1000000], .string s] w fun e w' => e = .returned (.tuple #[.agg #[.int .i64 0, .int .i64 0, .int .i64 0], .agg #[.int .i64 0, .int .i64 0, .bool false, .int .i64 0], .agg #[.int .i64 7, .int .i64 (-1)]]) ∧ Below w.heap.size w w' := by
  obtain ⟨W, hW⟩ : ∃ W, W = (((w.alloc (.cells #[.int .i64 me, .int .i64 mo, .int .i64 1000000] 24)).alloc (.cells #[.int .i64 0, .int .i64 0, .int .i64 0] 24)).alloc (.cells #[.int .i64 0, .int .i64 0, .bool false, .int .i64 0] 32)).alloc (.cells #[.int .i64 0, .int .i64 0] 36) := ⟨_, rfl⟩
  have O := StepOwn.new w me mo 1000000 W hW
  have HP := hide (planFault_ok v xs W (hv.below O.b) hp)
  have HO := hide O
  have HE := hide he
  obtain ⟨ad, cap, rfl, _⟩ := hv
  clear hp O he
  go_enter Tryz.func9, Tryz.ntmps9
  go_wp2_with fail
  rw [← hW]
  refine (unhide HP).mono ?_
  rintro e w2 ⟨rfl, hB2⟩
  have hB3 : Below W.heap.size W (w2.alloc (.cells #[.int .i64 0, .int .i64 (-1)] 36)) := hB2.alloc hB2.size _
  have hlt2 : w.heap.size + 1 + 1 + 1 < w2.heap.size := Nat.lt_of_lt_of_le (cell_lt (unhide HO).r3.c0) hB2.size
  have HF := hide (Own2.new w2 36 (.int .i64 0) (.int .i64 (-1)))
  have HO3 := hide ((unhide HO).below hB3)
  obtain ⟨v0, v1, v2, _, _, _⟩ := (unhide HO3).v
  have n0 : ¬ w2.heap.size = w.heap.size := by omega
  have n1 : ¬ w2.heap.size = w.heap.size + 1 := by omega
  have n2 : ¬ w2.heap.size = w.heap.size + 1 + 1 := by omega
  have n3 : ¬ w2.heap.size = w.heap.size + 1 + 1 + 1 := by omega
  have m0 : ¬ w.heap.size = w2.heap.size := by omega
  have m1 : ¬ w.heap.size + 1 = w2.heap.size := by omega
  have m2 : ¬ w.heap.size + 1 + 1 = w2.heap.size := by omega
  have m3 : ¬ w.heap.size + 1 + 1 + 1 = w2.heap.size := by omega
  clear hB2 hB3
  go_wp2_with fail
  refine (unhide HE _).mono ?_
  rintro e w4 ⟨rfl, hB4⟩
  have HO4 := hide ((unhide HO3).below hB4)
  have HF4 := hide ((unhide HF).below hB4)
  clear hB4 v0 v1 v2
  go_wp2_with fail
  refine (bare_ok 0 _).mono ?_
  rintro e w5 ⟨rfl, hB5⟩
  have HO5 := hide ((unhide HO4).below hB5)
  have HF5 := hide ((unhide HF4).below hB5)
  obtain ⟨k0, k1, l0, l1⟩ := unhide HF5
  obtain ⟨v0, v1, v2, _, _, _⟩ := (unhide HO5).v
  clear hB5
  go_wp2_with fail
  obtain ⟨W6, hW6⟩ : ∃ W6, W6 = (w5.setCell ⟨w2.heap.size, 0, none⟩ (.int .i64 0)).setCell ⟨w2.heap.size, 1, none⟩ (.int .i64 (-1)) := ⟨_, rfl⟩
  rw [← hW6]
  have HO6 : Hid (StepOwn w W6 me mo 1000000) := by rw [hW6]; exact ((unhide HO5).set hlt2 0 _).set hlt2 1 _
  have HF6 : Hid (Own2 W6 w2.heap.size (.int .i64 0) (.int .i64 (-1))) := by rw [hW6]; exact (unhide HF5).set _ _
  clear v0 v1 v2 k0 k1 l0 l1 hW6
  refine (bare_ok 7 _).mono ?_
  rintro e w7 ⟨rfl, hB7⟩
  obtain ⟨_, ⟨a0, a1, a2, b0, b1, b2⟩, ⟨e0, e1, e2, e3, g0, g1, g2, g3⟩, ⟨i0, i1, j0, j1⟩, hB8⟩ := (unhide HO6).below hB7
  obtain ⟨k0, k1, l0, l1⟩ := (unhide HF6).below hB7
  have HB := hide hB8
  clear hB7 hB8
  go_wp2_with fail
  go_region
  all_goals (try go_wp2)
  exact bodyPost_ret (v := .tuple #[.agg #[.int .i64 0, .int .i64 0, .int .i64 0], .agg #[.int .i64 0, .int .i64 0, .bool false, .int .i64 0], .agg #[.int .i64 7, .int .i64 (-1)]]) (by simp [results, Tryz.results9, go_sem, *]) rfl
    ⟨rfl, (below_nine (((unhide HB).setCell (p := ⟨w2.heap.size, 0, none⟩) (by show w.heap.size ≤ w2.heap.size; omega) _).setCell (p := ⟨w2.heap.size, 1, none⟩) (by show w.heap.size ≤ w2.heap.size; omega) _) _ _ _ _ _ _ _ _ _).drew⟩
/-- Old cells of the step behind the three new blocks. -/
theorem tail_facts {w w8 : World} {me mo sl : Int} {b2 : Nat} (h : StepOwn w w8 me mo sl) (hf : Own2 w8 b2 (.int .i64 0) (.int .i64 (-1))) (_hb : b2 < w8.heap.size) :
    (∀ o, (w8.alloc o).cell? ⟨w.heap.size, 1, none⟩ = some (.int .i64 mo)) ∧ (∀ o, (w8.alloc o).cell? ⟨w.heap.size, 2, none⟩ = some (.int .i64 sl)) ∧
    (∀ o o', ((w8.alloc o).alloc o').cell? ⟨w.heap.size, 1, none⟩ = some (.int .i64 mo)) ∧ (∀ o o', ((w8.alloc o).alloc o').cell? ⟨w.heap.size, 2, none⟩ = some (.int .i64 sl)) ∧
    (∀ o o' o'', (((w8.alloc o).alloc o').alloc o'').cell? ⟨w.heap.size + 1, 0, none⟩ = some (.int .i64 0)) ∧ (∀ o o' o'', (((w8.alloc o).alloc o').alloc o'').cell? ⟨w.heap.size + 1, 1, none⟩ = some (.int .i64 0)) ∧ (∀ o o' o'', (((w8.alloc o).alloc o').alloc o'').cell? ⟨w.heap.size + 1, 2, none⟩ = some (.int .i64 0)) ∧
    (∀ o o' o'', (((w8.alloc o).alloc o').alloc o'').frozen? ⟨w.heap.size + 1, 0, none⟩ = false) ∧ (∀ o o' o'', (((w8.alloc o).alloc o').alloc o'').frozen? ⟨w.heap.size + 1, 1, none⟩ = false) ∧ (∀ o o' o'', (((w8.alloc o).alloc o').alloc o'').frozen? ⟨w.heap.size + 1, 2, none⟩ = false) ∧
    (∀ o o' o'', (((w8.alloc o).alloc o').alloc o'').cell? ⟨w.heap.size + 1 + 1, 0, none⟩ = some (.int .i64 0)) ∧ (∀ o o' o'', (((w8.alloc o).alloc o').alloc o'').cell? ⟨w.heap.size + 1 + 1, 1, none⟩ = some (.int .i64 0)) ∧ (∀ o o' o'', (((w8.alloc o).alloc o').alloc o'').cell? ⟨w.heap.size + 1 + 1, 2, none⟩ = some (.bool false)) ∧ (∀ o o' o'', (((w8.alloc o).alloc o').alloc o'').cell? ⟨w.heap.size + 1 + 1, 3, none⟩ = some (.int .i64 0)) ∧
    (∀ o o' o'', (((w8.alloc o).alloc o').alloc o'').frozen? ⟨w.heap.size + 1 + 1, 0, none⟩ = false) ∧ (∀ o o' o'', (((w8.alloc o).alloc o').alloc o'').frozen? ⟨w.heap.size + 1 + 1, 1, none⟩ = false) ∧ (∀ o o' o'', (((w8.alloc o).alloc o').alloc o'').frozen? ⟨w.heap.size + 1 + 1, 2, none⟩ = false) ∧ (∀ o o' o'', (((w8.alloc o).alloc o').alloc o'').frozen? ⟨w.heap.size + 1 + 1, 3, none⟩ = false) ∧
    (∀ o o' o'', (((w8.alloc o).alloc o').alloc o'').cell? ⟨w.heap.size + 1 + 1 + 1, 0, none⟩ = some (.int .i64 0)) ∧ (∀ o o' o'', (((w8.alloc o).alloc o').alloc o'').cell? ⟨w.heap.size + 1 + 1 + 1, 1, none⟩ = some (.int .i64 0)) ∧ (∀ o o' o'', (((w8.alloc o).alloc o').alloc o'').frozen? ⟨w.heap.size + 1 + 1 + 1, 0, none⟩ = false) ∧ (∀ o o' o'', (((w8.alloc o).alloc o').alloc o'').frozen? ⟨w.heap.size + 1 + 1 + 1, 1, none⟩ = false) ∧
    (∀ o o' o'', (((w8.alloc o).alloc o').alloc o'').cell? ⟨b2, 0, none⟩ = some (.int .i64 0)) ∧ (∀ o o' o'', (((w8.alloc o).alloc o').alloc o'').cell? ⟨b2, 1, none⟩ = some (.int .i64 (-1))) :=
  ⟨old1 h.v.c1, old1 h.v.c2, old2 h.v.c1, old2 h.v.c2, old3 h.r1.c0, old3 h.r1.c1, old3 h.r1.c2, fro3 h.r1.c0 h.r1.f0, fro3 h.r1.c1 h.r1.f1, fro3 h.r1.c2 h.r1.f2, old3 h.r2.c0, old3 h.r2.c1, old3 h.r2.c2, old3 h.r2.c3, fro3 h.r2.c0 h.r2.f0, fro3 h.r2.c1 h.r2.f1, fro3 h.r2.c2 h.r2.f2, fro3 h.r2.c3 h.r2.f3, old3 h.r3.c0, old3 h.r3.c1, fro3 h.r3.c0 h.r3.f0, fro3 h.r3.c1 h.r3.f1, old3 hf.c0, old3 hf.c1⟩
/-- What a step comes to: the view, the entry. -/
def stepR (me' mo sl who : Int) (gd : Bool) (va : Int) : Value := .tuple #[.agg #[.int .i64 me', .int .i64 mo, .int .i64 (sl + 1)], .agg #[.int .i64 sl, .int .i64 who, .bool gd, .int .i64 va], .agg #[.int .i64 0, .int .i64 (-1)]]
set_option maxHeartbeats 4000000 in
set_option maxRecDepth 100000 in
theorem stepOf_ok (v : Value) (xs : List Int) (me mo sl i wi li : Nat) (s : ByteArray) (x0 x1 x2 x3 x4 ev : Int) (w : World) (hv : IntsIn w v xs) (hp : planOk xs) (hme : me ≤ 65535) (hsl : sl < 1000000)
    (hwho : xs.getD (sl % xs.length) 0 = (i : Int) + 1) (hi : i < 16) (hw : if me.testBit i then wi = me ∧ me = li + 2 ^ i else wi = me + 2 ^ i ∧ li = me)
    (he : ∀ w', Calls Tryz.prog 7 #[.agg #[.int .i64 me, .int .i64 mo, .int .i64 sl]] w' fun e w2 => e = .returned (.int .i64 0) ∧ Below w'.heap.size w' w2)
    (hh : ∀ w', Calls Tryz.prog 22 #[.int .i64 me, .int .i64 ((i : Int) + 1)] w' fun e w2 => e = .returned (.bool (me.testBit i)) ∧ w2 = w')
    (hr : ∀ w', Calls Tryz.prog 24 #[.string s] w' fun e w2 => e = .returned (.tuple #[.agg #[.int .i64 x0, .int .i64 x1, .int .i64 x2, .int .i64 x3, .int .i64 x4], .int .i64 ev]) ∧ Below w'.heap.size w' w2) :
    Calls Tryz.prog 9 #[v, .agg #[.int .i64 me, .int .i64 mo, .int .i64 sl], .string s] w fun e w' =>
      e = .returned (if ev = 0 ∧ x0 = (i : Int) + 1 ∧ x1 = wi ∧ x2 = mo ∧ x3 = sl then stepR wi mo sl ((i : Int) + 1) true x4 else stepR li mo sl ((i : Int) + 1) false 0) ∧ Below w.heap.size w w' := by
  obtain ⟨W, hW⟩ : ∃ W, W = (((w.alloc (.cells #[.int .i64 me, .int .i64 mo, .int .i64 sl] 24)).alloc (.cells #[.int .i64 0, .int .i64 0, .int .i64 0] 24)).alloc (.cells #[.int .i64 0, .int .i64 0, .bool false, .int .i64 0] 32)).alloc (.cells #[.int .i64 0, .int .i64 0] 36) := ⟨_, rfl⟩
  have O := StepOwn.new w me mo sl W hW
  have HP := hide (planFault_ok v xs W (hv.below O.b) hp)
  have HO := hide O
  have HE := hide he
  have HH := hide hh
  have HR := hide hr
  obtain ⟨q, hq⟩ : ∃ q, 2 ^ i = q := ⟨_, rfl⟩
  have HPo : Hid (∀ w', Calls Tryz.prog 23 #[.int .i64 ((i : Int) + 1)] w' fun e w2 => e = .returned (.int .i64 (q : Nat)) ∧ w2 = w') := fun w' => by rw [← hq]; exact powerOf_ok i (by omega) w'
  have hq1 : q ≤ 32768 := by rw [← hq]; exact (pow_small i (by omega)).2
  rw [hq] at hw
  obtain ⟨ad, cap, rfl, hcells⟩ := hv
  have hn0 : ¬ (xs.length : Int) = 0 := by have := hp.1; omega
  have hn32 := hp.2.1
  have hlt : sl % xs.length < xs.length := Nat.mod_lt _ (by have := hp.1; omega)
  have hmi : (sl : Int).tmod (xs.length : Int) = ((sl % xs.length : Nat) : Int) := by rw [Int.tmod_eq_emod_of_nonneg (by omega)]; simp
  obtain ⟨b, off, rfl, hc⟩ := hcells _ hlt
  rw [hwho] at hc
  have HC := hide hc
  have hsl' : ¬ (sl : Int) = 1000000 := by omega
  clear hp O he hh hr hcells hc hwho hq
  generalize sl % xs.length = r at *
  generalize xs.length = n at *
  obtain ⟨bt, hbt⟩ : ∃ bt, me.testBit i = bt := ⟨_, rfl⟩
  rw [hbt] at HH hw
  clear hbt
  go_enter Tryz.func9, Tryz.ntmps9
  go_wp2_with fail
  rw [← hW]
  refine (unhide HP).mono ?_
  rintro e w2 ⟨rfl, hB2⟩
  have hB3 : Below W.heap.size W (w2.alloc (.cells #[.int .i64 0, .int .i64 (-1)] 36)) := hB2.alloc hB2.size _
  have hlt2 : w.heap.size + 1 + 1 + 1 < w2.heap.size := Nat.lt_of_lt_of_le (cell_lt (unhide HO).r3.c0) hB2.size
  have HF := hide (Own2.new w2 36 (.int .i64 0) (.int .i64 (-1)))
  have HO3 := hide ((unhide HO).below hB3)
  obtain ⟨v0, v1, v2, _, _, _⟩ := (unhide HO3).v
  have n0 : ¬ w2.heap.size = w.heap.size := by omega
  have n1 : ¬ w2.heap.size = w.heap.size + 1 := by omega
  have n2 : ¬ w2.heap.size = w.heap.size + 1 + 1 := by omega
  have n3 : ¬ w2.heap.size = w.heap.size + 1 + 1 + 1 := by omega
  have m0 : ¬ w.heap.size = w2.heap.size := by omega
  have m1 : ¬ w.heap.size + 1 = w2.heap.size := by omega
  have m2 : ¬ w.heap.size + 1 + 1 = w2.heap.size := by omega
  have m3 : ¬ w.heap.size + 1 + 1 + 1 = w2.heap.size := by omega
  clear hB2 hB3
  go_wp2_with fail
  refine (unhide HE _).mono ?_
  rintro e w4 ⟨rfl, hB4⟩
  have HO4 := hide ((unhide HO3).below hB4)
  have HF4 := hide ((unhide HF).below hB4)
  clear hB4 v0 v1 v2
  go_wp2_with fail
  refine (bare_ok 0 _).mono ?_
  rintro e w5 ⟨rfl, hB5⟩
  have HO5 := hide ((unhide HO4).below hB5)
  have HF5 := hide ((unhide HF4).below hB5)
  obtain ⟨k0, k1, l0, l1⟩ := unhide HF5
  obtain ⟨v0, v1, v2, _, _, _⟩ := (unhide HO5).v
  have hcell := below_cell (unhide HO5).b (unhide HC)
  have lb : b < w.heap.size := cell_lt (unhide HC)
  have p0 : ¬ w2.heap.size = b := by omega
  have p1 : ¬ b = w2.heap.size := by omega
  have r0 : (0 : Int) ≤ (r : Int) := Int.natCast_nonneg _
  have r1 : (r : Int) < (n : Int) := by omega
  clear hB5
  go_wp2_with fail
  obtain ⟨W6, hW6⟩ : ∃ W6, W6 = (w5.setCell ⟨w2.heap.size, 0, none⟩ (.int .i64 0)).setCell ⟨w2.heap.size, 1, none⟩ (.int .i64 (-1)) := ⟨_, rfl⟩
  rw [← hW6]
  have HO6 : Hid (StepOwn w W6 me mo sl) := by rw [hW6]; exact ((unhide HO5).set hlt2 0 _).set hlt2 1 _
  have HF6 : Hid (Own2 W6 w2.heap.size (.int .i64 0) (.int .i64 (-1))) := by rw [hW6]; exact (unhide HF5).set _ _
  have hsz6 : W6.heap.size = w5.heap.size := by rw [hW6]; simp
  have hlt6 : w2.heap.size < W6.heap.size := cell_lt (unhide HF6).c0
  clear v0 v1 v2 k0 k1 l0 l1 hcell hW6 hsz6
  refine (unhide HH _).mono ?_
  rintro e w7 ⟨rfl, rfl⟩
  obtain ⟨v0, v1, v2, _, _, _⟩ := (unhide HO6).v
  have hgd : (ev = 0 ∧ x0 = (i : Int) + 1 ∧ x1 = wi ∧ x2 = mo ∧ x3 = sl) ∨ ¬ ev = 0 ∨ (ev = 0 ∧ ¬ x0 = (i : Int) + 1) ∨ (ev = 0 ∧ x0 = (i : Int) + 1 ∧ ¬ x1 = wi) ∨ (ev = 0 ∧ x0 = (i : Int) + 1 ∧ x1 = wi ∧ ¬ x2 = mo) ∨ (ev = 0 ∧ x0 = (i : Int) + 1 ∧ x1 = wi ∧ x2 = mo ∧ ¬ x3 = sl) := by omega
  have Hgd := hide hgd
  clear hgd
  cases bt with
  | true =>
    obtain ⟨hwi, hli⟩ : wi = me ∧ me = li + q := hw
    subst hwi
    have hli' : (wi : Int) - (q : Int) = (li : Int) := by omega
    have hli0 : li ≤ 65535 := by omega
    clear hli
    go_wp2_with fail
    refine (unhide HPo _).mono ?_
    rintro e w8 ⟨rfl, rfl⟩
    go_wp2_with fail
    refine (unhide HR _).mono ?_
    rintro e w8 ⟨rfl, hB8⟩
    have P := tail_facts ((unhide HO6).below hB8) ((unhide HF6).below hB8) (Nat.lt_of_lt_of_le hlt6 hB8.size)
    have HB := hide ((unhide HO6).below hB8).b
    have hlt8 : w2.heap.size < w8.heap.size := Nat.lt_of_lt_of_le hlt6 hB8.size
    clear v0 v1 v2 hB8
    clear hli'
    obtain ⟨u1, u2, u3, u4, a0, a1, a2, b0, b1, b2, e0, e1, e2, e3, g0, g1, g2, g3, i0, i1, j0, j1, k0, k1⟩ := P
    have s0 : ¬ w8.heap.size = w.heap.size := by omega
    rcases unhide Hgd with ⟨rfl, rfl, rfl, rfl, rfl⟩ | hd | ⟨rfl, hd⟩ | ⟨rfl, rfl, hd⟩ | ⟨rfl, rfl, rfl, hd⟩ | ⟨rfl, rfl, rfl, rfl, hd⟩
    · clear Hgd
      go_wp2_with fail
      go_region
      all_goals (try go_wp2)
      exact bodyPost_ret (v := stepR wi mo sl ((i : Int) + 1) true x4) (by simp [results, Tryz.results9, go_sem, stepR, *]) rfl ⟨by simp, (below_nine (below_three (unhide HB) _ _ _) _ _ _ _ _ _ _ _ _).drew⟩
    all_goals
      clear Hgd
      go_wp2_with fail
      go_region
      all_goals (try go_wp2)
      exact bodyPost_ret (v := stepR li mo sl ((i : Int) + 1) false 0) (by simp [results, Tryz.results9, go_sem, stepR, *]) rfl ⟨by simp, (below_nine (below_three (unhide HB) _ _ _) _ _ _ _ _ _ _ _ _).drew⟩
  | false =>
    obtain ⟨hwi, hli⟩ : wi = me + q ∧ li = me := hw
    subst hli
    have hwi' : (li : Int) + (q : Int) = (wi : Int) := by omega
    have hwi0 : wi ≤ 98303 := by omega
    clear hwi
    go_wp2_with fail
    refine (unhide HPo _).mono ?_
    rintro e w8 ⟨rfl, rfl⟩
    go_wp2_with fail
    refine (unhide HR _).mono ?_
    rintro e w8 ⟨rfl, hB8⟩
    have P := tail_facts ((unhide HO6).below hB8) ((unhide HF6).below hB8) (Nat.lt_of_lt_of_le hlt6 hB8.size)
    have HB := hide ((unhide HO6).below hB8).b
    have hlt8 : w2.heap.size < w8.heap.size := Nat.lt_of_lt_of_le hlt6 hB8.size
    clear v0 v1 v2 hB8
    clear hwi'
    obtain ⟨u1, u2, u3, u4, a0, a1, a2, b0, b1, b2, e0, e1, e2, e3, g0, g1, g2, g3, i0, i1, j0, j1, k0, k1⟩ := P
    have s0 : ¬ w8.heap.size = w.heap.size := by omega
    rcases unhide Hgd with ⟨rfl, rfl, rfl, rfl, rfl⟩ | hd | ⟨rfl, hd⟩ | ⟨rfl, rfl, hd⟩ | ⟨rfl, rfl, rfl, hd⟩ | ⟨rfl, rfl, rfl, rfl, hd⟩
    · clear Hgd
      go_wp2_with fail
      go_region
      all_goals (try go_wp2)
      exact bodyPost_ret (v := stepR wi mo sl ((i : Int) + 1) true x4) (by simp [results, Tryz.results9, go_sem, stepR, *]) rfl ⟨by simp, (below_nine (below_three (unhide HB) _ _ _) _ _ _ _ _ _ _ _ _).drew⟩
    all_goals
      clear Hgd
      go_wp2_with fail
      go_region
      all_goals (try go_wp2)
      exact bodyPost_ret (v := stepR li mo sl ((i : Int) + 1) false 0) (by simp [results, Tryz.results9, go_sem, stepR, *]) rfl ⟨by simp, (below_nine (below_three (unhide HB) _ _ _) _ _ _ _ _ _ _ _ _).drew⟩
end Go.Proofs.YtglhapkclpllfacGreatDoor
