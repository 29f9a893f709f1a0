/-
  Contracts of the document's answer, chapter 7: SendOf, over what PlanFault, ViewError, HasNode, powerOf and FrameText answer.
-/
import Derived.Test.YtglhapkclpllfacGreatDoorRefStep
import Derived.Deep.RegionWith
namespace Go.Proofs.YtglhapkclpllfacGreatDoor
open Go.RowKit

/-- The cells of a sending of its own: the view, the fault that is told. -/
structure SendOwn (w W : World) (me mo sl : Int) : Prop where
  v : Own3 W w.heap.size (.int .i64 me) (.int .i64 mo) (.int .i64 sl)
  r : Own2 W (w.heap.size + 1) (.int .i64 0) (.int .i64 0)
  b : Below w.heap.size w W
theorem SendOwn.below {w W W' : World} {me mo sl : Int} (h : SendOwn w W me mo sl) (hB : Below W.heap.size W W') : SendOwn w W' me mo sl := ⟨h.v.below hB, h.r.below hB, h.b.trans (hB.mono h.b.size)⟩
theorem SendOwn.new (w : World) (me mo sl : Int) (W : World) (hW : W = (w.alloc (.cells #[.int .i64 me, .int .i64 mo, .int .i64 sl] 24)).alloc (.cells #[.int .i64 0, .int .i64 0] 36)) : SendOwn w W me mo sl := by
  obtain ⟨w1, h1⟩ : ∃ w1, w1 = w.alloc (.cells #[.int .i64 me, .int .i64 mo, .int .i64 sl] 24) := ⟨_, rfl⟩
  rw [← h1] at hW
  have s1 : w1.heap.size = w.heap.size + 1 := by rw [h1]; simp
  have b1 : Below w.heap.size w w1 := by rw [h1]; exact (Below.refl _ _).alloc (Nat.le_refl _) _
  have b2 : Below w1.heap.size w1 W := by rw [hW]; exact (Below.refl _ _).alloc (Nat.le_refl _) _
  have o0 : Own3 w1 w.heap.size (.int .i64 me) (.int .i64 mo) (.int .i64 sl) := by rw [h1]; exact Own3.new _ _ _ _ _
  have o1 : Own2 W w1.heap.size (.int .i64 0) (.int .i64 0) := by rw [hW]; exact Own2.new _ _ _ _
  refine ⟨o0.below b2, ?_, b1.trans (b2.mono (by omega))⟩
  rw [← s1]; exact o1
theorem SendOwn.set {w W : World} {me mo sl : Int} (h : SendOwn w W me mo sl) {b : Nat} (hb : w.heap.size + 1 < b) (i : Nat) (u : Value) : SendOwn w (W.setCell ⟨b, i, none⟩ u) me mo sl :=
  ⟨h.v.other (by omega) i u, h.r.other (by omega) i u, h.b.setCell (p := ⟨b, i, none⟩) (by show w.heap.size ≤ b; omega) _⟩
theorem below_sent {w w2 : World} (hB : Below w.heap.size w w2) (x y : Value) : Below w.heap.size w ((w2.setCell ⟨w.heap.size + 1, 0, none⟩ x).setCell ⟨w.heap.size + 1, 1, none⟩ y) :=
  (hB.setCell (p := ⟨w.heap.size + 1, 0, none⟩) (by show w.heap.size ≤ w.heap.size + 1; omega) _).setCell (p := ⟨w.heap.size + 1, 1, none⟩) (by show w.heap.size ≤ w.heap.size + 1; omega) _
set_option maxRecDepth 100000 in
theorem sendOf_keep (v : Value) (xs : List Int) (me mo sl node value c n : Int) (w : World) (hv : IntsIn w v xs)
    (hp : ∀ w', IntsIn w' v xs → Calls Tryz.prog 20 #[v] w' fun e w2 => e = .returned (.agg #[.int .i64 c, .int .i64 n]) ∧ Below w'.heap.size w' w2) (hc : 0 < c) :
    Calls Tryz.prog 12 #[v, .agg #[.int .i64 me, .int .i64 mo, .int .i64 sl], .int .i64 node, .int .i64 value] w fun e w' => e = .returned (.tuple #[.string ⟨#[]⟩, .agg #[.int .i64 c, .int .i64 n]]) ∧ Below w.heap.size w w' := by
  obtain ⟨W, hW⟩ : ∃ W, W = (w.alloc (.cells #[.int .i64 me, .int .i64 mo, .int .i64 sl] 24)).alloc (.cells #[.int .i64 0, .int .i64 0] 36) := ⟨_, rfl⟩
  have O := SendOwn.new w me mo sl W hW
  have HP := hide (hp W (hv.below O.b))
  have HO := hide O
  obtain ⟨ad, cap, rfl, _⟩ := hv
  have q1 : (c == 0) = false := by simp; omega
  have q2 : ¬ c = 0 := by omega
  clear hp O
  go_enter Tryz.func12, Tryz.ntmps12
  go_wp2_with fail
  rw [← hW]
  refine (unhide HP).mono ?_
  rintro e w2 ⟨rfl, hB2⟩
  have hB3 : Below W.heap.size W (w2.alloc (.cells #[.int .i64 c, .int .i64 n] 36)) := hB2.alloc hB2.size _
  obtain ⟨_, ⟨i0, i1, j0, j1⟩, hB4⟩ := (unhide HO).below hB3
  obtain ⟨_, ⟨i2, i3, j2, j3⟩, hB5⟩ := (unhide HO).below hB2
  have HB2 := hide hB5
  have HB := hide hB4
  have hlt : w.heap.size + 1 < w2.heap.size := Nat.lt_of_lt_of_le (cell_lt (unhide HO).r.c0) hB2.size
  have n1 : ¬ w2.heap.size = w.heap.size + 1 := by omega
  have m1 : ¬ w.heap.size + 1 = w2.heap.size := by omega
  clear hB2 hB3 hB4 hB5
  go_wp2_with fail
  go_region
  all_goals (try go_wp2)
  exact bodyPost_ret (v := .tuple #[.string ⟨#[]⟩, .agg #[.int .i64 c, .int .i64 n]]) (by simp [results, Tryz.results12, go_sem, *]) rfl ⟨rfl, ((below_sent (unhide HB2) _ _).alloc (by simp; omega) _).drew⟩
set_option maxRecDepth 100000 in
theorem sendOf_view (v : Value) (xs : List Int) (me mo sl node value cv : Int) (w : World) (hv : IntsIn w v xs) (hp : planOk xs)
    (he : ∀ w', Calls Tryz.prog 7 #[.agg #[.int .i64 me, .int .i64 mo, .int .i64 sl]] w' fun e w2 => e = .returned (.int .i64 cv) ∧ Below w'.heap.size w' w2) (hc : 0 < cv) :
    Calls Tryz.prog 12 #[v, .agg #[.int .i64 me, .int .i64 mo, .int .i64 sl], .int .i64 node, .int .i64 value] w fun e w' => e = .returned (.tuple #[.string ⟨#[]⟩, .agg #[.int .i64 cv, .int .i64 (-1)]]) ∧ Below w.heap.size w w' := by
  obtain ⟨W, hW⟩ : ∃ W, W = (w.alloc (.cells #[.int .i64 me, .int .i64 mo, .int .i64 sl] 24)).alloc (.cells #[.int .i64 0, .int .i64 0] 36) := ⟨_, rfl⟩
  have O := SendOwn.new w me mo sl W hW
  have HP := hide (planFault_ok v xs W (hv.below O.b) hp)
  have HO := hide O
  have HE := hide he
  obtain ⟨ad, cap, rfl, _⟩ := hv
  have q1 : (cv == 0) = false := by simp; omega
  have q2 : ¬ cv = 0 := by omega
  clear hp O he
  go_enter Tryz.func12, Tryz.ntmps12
  go_wp2_with fail
  rw [← hW]
  refine (unhide HP).mono ?_
  rintro e w2 ⟨rfl, hB2⟩
  have hB3 : Below W.heap.size W (w2.alloc (.cells #[.int .i64 0, .int .i64 (-1)] 36)) := hB2.alloc hB2.size _
  have hlt : w.heap.size + 1 < w2.heap.size := Nat.lt_of_lt_of_le (cell_lt (unhide HO).r.c0) hB2.size
  have HF := hide (Own2.new w2 36 (.int .i64 0) (.int .i64 (-1)))
  have HO3 := hide ((unhide HO).below hB3)
  obtain ⟨v0, v1, v2, _, _, _⟩ := (unhide HO3).v
  have n0 : ¬ w2.heap.size = w.heap.size := by omega
  have n1 : ¬ w2.heap.size = w.heap.size + 1 := by omega
  have m0 : ¬ w.heap.size = w2.heap.size := by omega
  have m1 : ¬ w.heap.size + 1 = w2.heap.size := by omega
  clear hB2 hB3
  go_wp2_with fail
  refine (unhide HE _).mono ?_
  rintro e w4 ⟨rfl, hB4⟩
  have HO4 := hide ((unhide HO3).below hB4)
  have HF4 := hide ((unhide HF).below hB4)
  clear hB4 v0 v1 v2
  go_wp2_with fail
  refine (bare_ok cv _).mono ?_
  rintro e w5 ⟨rfl, hB5⟩
  obtain ⟨_, ⟨i0, i1, j0, j1⟩, hB6⟩ := (unhide HO4).below hB5
  obtain ⟨k0, k1, l0, l1⟩ := (unhide HF4).below hB5
  have HB := hide hB6
  clear hB5 hB6
  go_wp2_with fail
  go_region
  all_goals (try go_wp2)
  exact bodyPost_ret (v := .tuple #[.string ⟨#[]⟩, .agg #[.int .i64 cv, .int .i64 (-1)]]) (by simp [results, Tryz.results12, go_sem, *]) rfl
    ⟨rfl, (below_sent (((unhide HB).setCell (p := ⟨w2.heap.size, 0, none⟩) (by show w.heap.size ≤ w2.heap.size; omega) _).setCell (p := ⟨w2.heap.size, 1, none⟩) (by show w.heap.size ≤ w2.heap.size; omega) _) _ _).drew⟩
set_option maxHeartbeats 4000000 in
set_option maxRecDepth 100000 in
theorem sendOf_late (v : Value) (xs : List Int) (me mo sl : Nat) (node value : Int) (w : World) (hv : IntsIn w v xs) (hp : planOk xs) (hsl : sl ≤ 1000000) (hno : xs.getD (sl % xs.length) 0 ≠ node)
    (he : ∀ w', Calls Tryz.prog 7 #[.agg #[.int .i64 me, .int .i64 mo, .int .i64 sl]] w' fun e w2 => e = .returned (.int .i64 0) ∧ Below w'.heap.size w' w2) :
    Calls Tryz.prog 12 #[v, .agg #[.int .i64 me, .int .i64 mo, .int .i64 sl], .int .i64 node, .int .i64 value] w fun e w' => e = .returned (.tuple #[.string ⟨#[]⟩, .agg #[.int .i64 9, .int .i64 (-1)]]) ∧ Below w.heap.size w w' := by
  obtain ⟨W, hW⟩ : ∃ W, W = (w.alloc (.cells #[.int .i64 me, .int .i64 mo, .int .i64 sl] 24)).alloc (.cells #[.int .i64 0, .int .i64 0] 36) := ⟨_, rfl⟩
  have O := SendOwn.new w me mo sl W hW
  have HP := hide (planFault_ok v xs W (hv.below O.b) hp)
  have HO := hide O
  have HE := hide he
  obtain ⟨ad, cap, rfl, hcells⟩ := hv
  have hn0 : ¬ (xs.length : Int) = 0 := by have := hp.1; omega
  have hn32 := hp.2.1
  have hlt : sl % xs.length < xs.length := Nat.mod_lt _ (by have := hp.1; omega)
  have hmi : (sl : Int).tmod (xs.length : Int) = ((sl % xs.length : Nat) : Int) := by rw [Int.tmod_eq_emod_of_nonneg (by omega)]; simp
  obtain ⟨b, off, rfl, hc⟩ := hcells _ hlt
  have HC := hide hc
  clear hp O he hcells hc
  generalize xs.getD (sl % xs.length) 0 = who at *
  generalize sl % xs.length = r at *
  generalize xs.length = n at *
  go_enter Tryz.func12, Tryz.ntmps12
  go_wp2_with fail
  rw [← hW]
  refine (unhide HP).mono ?_
  rintro e w2 ⟨rfl, hB2⟩
  have hB3 : Below W.heap.size W (w2.alloc (.cells #[.int .i64 0, .int .i64 (-1)] 36)) := hB2.alloc hB2.size _
  have hlt2 : w.heap.size + 1 < w2.heap.size := Nat.lt_of_lt_of_le (cell_lt (unhide HO).r.c0) hB2.size
  have HF := hide (Own2.new w2 36 (.int .i64 0) (.int .i64 (-1)))
  have HO3 := hide ((unhide HO).below hB3)
  obtain ⟨v0, v1, v2, _, _, _⟩ := (unhide HO3).v
  have n0 : ¬ w2.heap.size = w.heap.size := by omega
  have n1 : ¬ w2.heap.size = w.heap.size + 1 := by omega
  have m0 : ¬ w.heap.size = w2.heap.size := by omega
  have m1 : ¬ w.heap.size + 1 = w2.heap.size := by omega
  clear hB2 hB3
  go_wp2_with fail
  refine (unhide HE _).mono ?_
  rintro e w4 ⟨rfl, hB4⟩
  have HO4 := hide ((unhide HO3).below hB4)
  have HF4 := hide ((unhide HF).below hB4)
  clear hB4 v0 v1 v2
  go_wp2_with fail
  refine (bare_ok 0 _).mono ?_
  rintro e w5 ⟨rfl, hB5⟩
  have HO5 := hide ((unhide HO4).below hB5)
  have HF5 := hide ((unhide HF4).below hB5)
  obtain ⟨k0, k1, l0, l1⟩ := unhide HF5
  obtain ⟨v0, v1, v2, _, _, _⟩ := (unhide HO5).v
  have hcell := below_cell (unhide HO5).b (unhide HC)
  have lb : b < w.heap.size := cell_lt (unhide HC)
  have p0 : ¬ w2.heap.size = b := by omega
  have p1 : ¬ b = w2.heap.size := by omega
  have r0 : (0 : Int) ≤ (r : Int) := Int.natCast_nonneg _
  have r1 : (r : Int) < (n : Int) := by omega
  clear hB5
  go_wp2_with fail
  obtain ⟨W6, hW6⟩ : ∃ W6, W6 = (w5.setCell ⟨w2.heap.size, 0, none⟩ (.int .i64 0)).setCell ⟨w2.heap.size, 1, none⟩ (.int .i64 (-1)) := ⟨_, rfl⟩
  rw [← hW6]
  have HO6 : Hid (SendOwn w W6 me mo sl) := by rw [hW6]; exact ((unhide HO5).set hlt2 0 _).set hlt2 1 _
  have HF6 : Hid (Own2 W6 w2.heap.size (.int .i64 0) (.int .i64 (-1))) := by rw [hW6]; exact (unhide HF5).set _ _
  clear v0 v1 v2 k0 k1 l0 l1 hcell hW6
  refine (bare_ok 9 _).mono ?_
  rintro e w7 ⟨rfl, hB7⟩
  obtain ⟨_, ⟨i0, i1, j0, j1⟩, hB8⟩ := (unhide HO6).below hB7
  obtain ⟨k0, k1, l0, l1⟩ := (unhide HF6).below hB7
  have HB := hide hB8
  clear hB7 hB8
  go_wp2_with fail
  go_region
  all_goals (try go_wp2)
  exact bodyPost_ret (v := .tuple #[.string ⟨#[]⟩, .agg #[.int .i64 9, .int .i64 (-1)]]) (by simp [results, Tryz.results12, go_sem, *]) rfl
    ⟨rfl, (below_sent (((unhide HB).setCell (p := ⟨w2.heap.size, 0, none⟩) (by show w.heap.size ≤ w2.heap.size; omega) _).setCell (p := ⟨w2.heap.size, 1, none⟩) (by show w.heap.size ≤ w2.heap.size; omega) _) _ _).drew⟩
set_option maxHeartbeats 4000000 in
set_option maxRecDepth 100000 in
theorem sendOf_ok (v : Value) (xs : List Int) (me mo sl i wi : Nat) (value ev : Int) (T : ByteArray) (w : World) (hv : IntsIn w v xs) (hp : planOk xs) (hsl : sl ≤ 1000000) (hme : me ≤ 65535) (hno : xs.getD (sl % xs.length) 0 = (i : Int) + 1) (hi : i < 16)
    (hw : if me.testBit i then wi = me else wi = me + 2 ^ i)
    (hh : ∀ w', Calls Tryz.prog 22 #[.int .i64 me, .int .i64 ((i : Int) + 1)] w' fun e w2 => e = .returned (.bool (me.testBit i)) ∧ w2 = w')
    (ht : ∀ w', Calls Tryz.prog 27 #[.agg #[.int .i64 ((i : Int) + 1), .int .i64 wi, .int .i64 mo, .int .i64 sl, .int .i64 value]] w' fun e w2 => e = .returned (.tuple #[.string T, .int .i64 ev]) ∧ Below w'.heap.size w' w2)
    (he : ∀ w', Calls Tryz.prog 7 #[.agg #[.int .i64 me, .int .i64 mo, .int .i64 sl]] w' fun e w2 => e = .returned (.int .i64 0) ∧ Below w'.heap.size w' w2) :
    Calls Tryz.prog 12 #[v, .agg #[.int .i64 me, .int .i64 mo, .int .i64 sl], .int .i64 ((i : Int) + 1), .int .i64 value] w fun e w' => e = .returned (.tuple #[.string T, .agg #[.int .i64 ev, .int .i64 (-1)]]) ∧ Below w.heap.size w w' := by
  obtain ⟨W, hW⟩ : ∃ W, W = (w.alloc (.cells #[.int .i64 me, .int .i64 mo, .int .i64 sl] 24)).alloc (.cells #[.int .i64 0, .int .i64 0] 36) := ⟨_, rfl⟩
  have O := SendOwn.new w me mo sl W hW
  have HP := hide (planFault_ok v xs W (hv.below O.b) hp)
  have HO := hide O
  have HE := hide he
  obtain ⟨ad, cap, rfl, hcells⟩ := hv
  have hn0 : ¬ (xs.length : Int) = 0 := by have := hp.1; omega
  have hn32 := hp.2.1
  have hlt : sl % xs.length < xs.length := Nat.mod_lt _ (by have := hp.1; omega)
  have hmi : (sl : Int).tmod (xs.length : Int) = ((sl % xs.length : Nat) : Int) := by rw [Int.tmod_eq_emod_of_nonneg (by omega)]; simp
  obtain ⟨b, off, rfl, hc⟩ := hcells _ hlt
  rw [hno] at hc
  have HC := hide hc
  have HH := hide hh
  have HT := hide ht
  obtain ⟨q, hq⟩ : ∃ q, 2 ^ i = q := ⟨_, rfl⟩
  have HPo : Hid (∀ w', Calls Tryz.prog 23 #[.int .i64 ((i : Int) + 1)] w' fun e w2 => e = .returned (.int .i64 (q : Nat)) ∧ w2 = w') := fun w' => by rw [← hq]; exact powerOf_ok i (by omega) w'
  have hq1 : q ≤ 32768 := by rw [← hq]; exact (pow_small i (by omega)).2
  rw [hq] at hw
  clear hp O he hcells hc hno hh ht hq
  generalize sl % xs.length = r at *
  generalize xs.length = n at *
  go_enter Tryz.func12, Tryz.ntmps12
  go_wp2_with fail
  rw [← hW]
  refine (unhide HP).mono ?_
  rintro e w2 ⟨rfl, hB2⟩
  have hB3 : Below W.heap.size W (w2.alloc (.cells #[.int .i64 0, .int .i64 (-1)] 36)) := hB2.alloc hB2.size _
  have hlt2 : w.heap.size + 1 < w2.heap.size := Nat.lt_of_lt_of_le (cell_lt (unhide HO).r.c0) hB2.size
  have HF := hide (Own2.new w2 36 (.int .i64 0) (.int .i64 (-1)))
  have HO3 := hide ((unhide HO).below hB3)
  obtain ⟨v0, v1, v2, _, _, _⟩ := (unhide HO3).v
  have n0 : ¬ w2.heap.size = w.heap.size := by omega
  have n1 : ¬ w2.heap.size = w.heap.size + 1 := by omega
  have m0 : ¬ w.heap.size = w2.heap.size := by omega
  have m1 : ¬ w.heap.size + 1 = w2.heap.size := by omega
  clear hB2 hB3
  go_wp2_with fail
  refine (unhide HE _).mono ?_
  rintro e w4 ⟨rfl, hB4⟩
  have HO4 := hide ((unhide HO3).below hB4)
  have HF4 := hide ((unhide HF).below hB4)
  clear hB4 v0 v1 v2
  go_wp2_with fail
  refine (bare_ok 0 _).mono ?_
  rintro e w5 ⟨rfl, hB5⟩
  have HO5 := hide ((unhide HO4).below hB5)
  have HF5 := hide ((unhide HF4).below hB5)
  obtain ⟨k0, k1, l0, l1⟩ := unhide HF5
  obtain ⟨v0, v1, v2, _, _, _⟩ := (unhide HO5).v
  have hcell := below_cell (unhide HO5).b (unhide HC)
  have lb : b < w.heap.size := cell_lt (unhide HC)
  have p0 : ¬ w2.heap.size = b := by omega
  have p1 : ¬ b = w2.heap.size := by omega
  have r0 : (0 : Int) ≤ (r : Int) := Int.natCast_nonneg _
  have r1 : (r : Int) < (n : Int) := by omega
  clear hB5
  go_wp2_with fail
  obtain ⟨W6, hW6⟩ : ∃ W6, W6 = (w5.setCell ⟨w2.heap.size, 0, none⟩ (.int .i64 0)).setCell ⟨w2.heap.size, 1, none⟩ (.int .i64 (-1)) := ⟨_, rfl⟩
  rw [← hW6]
  have HO6 : Hid (SendOwn w W6 me mo sl) := by rw [hW6]; exact ((unhide HO5).set hlt2 0 _).set hlt2 1 _
  have HF6 : Hid (Own2 W6 w2.heap.size (.int .i64 0) (.int .i64 (-1))) := by rw [hW6]; exact (unhide HF5).set _ _
  clear v0 v1 v2 k0 k1 l0 l1 hcell hW6
  refine (unhide HH _).mono ?_
  rintro e w7 ⟨rfl, rfl⟩
  obtain ⟨v0, v1, v2, f0, _, _⟩ := (unhide HO6).v
  cases hbt : me.testBit i with
  | true =>
    rw [hbt] at hw
    obtain rfl : wi = me := hw
    clear hbt
    go_wp2_with fail
    refine (unhide HT _).mono ?_
    rintro e w8 ⟨rfl, hB8⟩
    have HO8 := hide ((unhide HO6).below hB8)
    clear v0 v1 v2 f0 hB8
    go_wp2_with fail
    refine (bare_ok ev _).mono ?_
    rintro e w9 ⟨rfl, hB9⟩
    obtain ⟨_, ⟨i0, i1, j0, j1⟩, hB10⟩ := (unhide HO8).below hB9
    have HB := hide hB10
    clear hB9 hB10
    go_wp2_with fail
    exact bodyPost_ret (v := .tuple #[.string T, .agg #[.int .i64 ev, .int .i64 (-1)]]) (by simp [results, Tryz.results12, go_sem, *]) rfl ⟨rfl, below_sent (unhide HB) _ _⟩
  | false =>
    rw [hbt] at hw
    have hwi : wi = me + q := hw
    have hwi' : (me : Int) + (q : Int) = (wi : Int) := by omega
    clear hbt hw hwi
    go_wp2_with fail
    have HR8 : Hid (Own2 (w7.setCell ⟨w.heap.size, 0, none⟩ (.int .i64 (wi : Int))).drew (w.heap.size + 1) (.int .i64 0) (.int .i64 0)) := by
      have h := (unhide HO6).r.other (b' := w.heap.size) (by omega) 0 (.int .i64 (wi : Int))
      exact ⟨h.c0, h.c1, h.f0, h.f1⟩
    have HB8 : Hid (Below w.heap.size w (w7.setCell ⟨w.heap.size, 0, none⟩ (.int .i64 (wi : Int))).drew) := ((unhide HO6).b.setCell (p := ⟨w.heap.size, 0, none⟩) (Nat.le_refl _) _).drew
    go_region_with (go_at_call 23; refine (unhide HPo _).mono ?_; rintro E w8 ⟨rfl, rfl⟩)
    all_goals
      go_wp2_with fail
      refine (unhide HT _).mono ?_
      rintro e w8 ⟨rfl, hB8⟩
      have HR9 := hide ((unhide HR8).below hB8)
      have HB9 := hide ((unhide HB8).trans (hB8.mono (unhide HB8).size))
      clear v0 v1 v2 f0 hB8
      go_wp2_with fail
      refine (bare_ok ev _).mono ?_
      rintro e w9 ⟨rfl, hB9⟩
      obtain ⟨i0, i1, j0, j1⟩ := (unhide HR9).below hB9
      have HB := hide ((unhide HB9).trans (hB9.mono (unhide HB9).size))
      clear hB9
      go_wp2_with fail
      exact bodyPost_ret (v := .tuple #[.string T, .agg #[.int .i64 ev, .int .i64 (-1)]]) (by simp [results, Tryz.results12, go_sem, *]) rfl ⟨rfl, below_sent (unhide HB) _ _⟩
end Go.Proofs.YtglhapkclpllfacGreatDoor
