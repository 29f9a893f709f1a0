/-
  Blocks of two, three and four cells of a call's own; old cells behind new blocks.
-/
import Derived.Test.YtglhapkclpllfacGreatDoorBase
import Derived.Test.YtglhapkclpllfacGreatDoorGp
namespace Go.Proofs.YtglhapkclpllfacGreatDoor
open Go.RowKit

/-- A block of the call's own that holds these cells, none of them frozen. -/
structure Own3 (w : World) (b : Nat) (x y z : Value) : Prop where
  c0 : w.cell? ⟨b, 0, none⟩ = some x
  c1 : w.cell? ⟨b, 1, none⟩ = some y
  c2 : w.cell? ⟨b, 2, none⟩ = some z
  f0 : w.frozen? ⟨b, 0, none⟩ = false
  f1 : w.frozen? ⟨b, 1, none⟩ = false
  f2 : w.frozen? ⟨b, 2, none⟩ = false
theorem Own3.below {w w' : World} {b : Nat} {x y z : Value} (h : Own3 w b x y z) (hB : Below w.heap.size w w') : Own3 w' b x y z :=
  ⟨below_cell hB h.c0, below_cell hB h.c1, below_cell hB h.c2, (hB.frozen (cell_lt h.c0)).trans h.f0, (hB.frozen (cell_lt h.c1)).trans h.f1, (hB.frozen (cell_lt h.c2)).trans h.f2⟩
theorem Own3.new (w : World) (t : TypeId) (x y z : Value) : Own3 (w.alloc (.cells #[x, y, z] t)) w.heap.size x y z := ⟨by simp, by simp, by simp, by simp, by simp, by simp⟩
structure Own4 (w : World) (b : Nat) (x y z u : Value) : Prop where
  c0 : w.cell? ⟨b, 0, none⟩ = some x
  c1 : w.cell? ⟨b, 1, none⟩ = some y
  c2 : w.cell? ⟨b, 2, none⟩ = some z
  c3 : w.cell? ⟨b, 3, none⟩ = some u
  f0 : w.frozen? ⟨b, 0, none⟩ = false
  f1 : w.frozen? ⟨b, 1, none⟩ = false
  f2 : w.frozen? ⟨b, 2, none⟩ = false
  f3 : w.frozen? ⟨b, 3, none⟩ = false
theorem Own4.below {w w' : World} {b : Nat} {x y z u : Value} (h : Own4 w b x y z u) (hB : Below w.heap.size w w') : Own4 w' b x y z u :=
  ⟨below_cell hB h.c0, below_cell hB h.c1, below_cell hB h.c2, below_cell hB h.c3, (hB.frozen (cell_lt h.c0)).trans h.f0, (hB.frozen (cell_lt h.c1)).trans h.f1, (hB.frozen (cell_lt h.c2)).trans h.f2, (hB.frozen (cell_lt h.c3)).trans h.f3⟩
theorem Own4.new (w : World) (t : TypeId) (x y z u : Value) : Own4 (w.alloc (.cells #[x, y, z, u] t)) w.heap.size x y z u := ⟨by simp, by simp, by simp, by simp, by simp, by simp, by simp, by simp⟩
structure Own2 (w : World) (b : Nat) (x y : Value) : Prop where
  c0 : w.cell? ⟨b, 0, none⟩ = some x
  c1 : w.cell? ⟨b, 1, none⟩ = some y
  f0 : w.frozen? ⟨b, 0, none⟩ = false
  f1 : w.frozen? ⟨b, 1, none⟩ = false
theorem Own2.below {w w' : World} {b : Nat} {x y : Value} (h : Own2 w b x y) (hB : Below w.heap.size w w') : Own2 w' b x y :=
  ⟨below_cell hB h.c0, below_cell hB h.c1, (hB.frozen (cell_lt h.c0)).trans h.f0, (hB.frozen (cell_lt h.c1)).trans h.f1⟩
theorem Own2.new (w : World) (t : TypeId) (x y : Value) : Own2 (w.alloc (.cells #[x, y] t)) w.heap.size x y := ⟨by simp, by simp, by simp, by simp⟩
theorem Own3.other {w : World} {b b' : Nat} {x y z : Value} (h : Own3 w b x y z) (hne : b ≠ b') (i : Nat) (u : Value) : Own3 (w.setCell ⟨b', i, none⟩ u) b x y z :=
  ⟨by rw [World.cell?_setCell_other _ _ _ _ (fun e => hne (by injection e with e1; exact e1.symm))]; exact h.c0, by rw [World.cell?_setCell_other _ _ _ _ (fun e => hne (by injection e with e1; exact e1.symm))]; exact h.c1, by rw [World.cell?_setCell_other _ _ _ _ (fun e => hne (by injection e with e1; exact e1.symm))]; exact h.c2, by simpa using h.f0, by simpa using h.f1, by simpa using h.f2⟩
theorem Own4.other {w : World} {b b' : Nat} {x y z v : Value} (h : Own4 w b x y z v) (hne : b ≠ b') (i : Nat) (u : Value) : Own4 (w.setCell ⟨b', i, none⟩ u) b x y z v :=
  ⟨by rw [World.cell?_setCell_other _ _ _ _ (fun e => hne (by injection e with e1; exact e1.symm))]; exact h.c0, by rw [World.cell?_setCell_other _ _ _ _ (fun e => hne (by injection e with e1; exact e1.symm))]; exact h.c1, by rw [World.cell?_setCell_other _ _ _ _ (fun e => hne (by injection e with e1; exact e1.symm))]; exact h.c2, by rw [World.cell?_setCell_other _ _ _ _ (fun e => hne (by injection e with e1; exact e1.symm))]; exact h.c3, by simpa using h.f0, by simpa using h.f1, by simpa using h.f2, by simpa using h.f3⟩
theorem Own2.other {w : World} {b b' : Nat} {x y : Value} (h : Own2 w b x y) (hne : b ≠ b') (i : Nat) (u : Value) : Own2 (w.setCell ⟨b', i, none⟩ u) b x y :=
  ⟨by rw [World.cell?_setCell_other _ _ _ _ (fun e => hne (by injection e with e1; exact e1.symm))]; exact h.c0, by rw [World.cell?_setCell_other _ _ _ _ (fun e => hne (by injection e with e1; exact e1.symm))]; exact h.c1, by simpa using h.f0, by simpa using h.f1⟩
theorem Own2.set {w : World} {b : Nat} {x y : Value} (h : Own2 w b x y) (x' y' : Value) : Own2 ((w.setCell ⟨b, 0, none⟩ x').setCell ⟨b, 1, none⟩ y') b x' y' := by
  obtain ⟨c0, c1, f0, f1⟩ := h
  refine ⟨?_, ?_, by simp [f0], by simpa using f1⟩
  · rw [World.cell?_setCell_other _ _ _ _ (by simp)]
    exact World.cell?_setCell_same _ _ _ c0
  · exact World.cell?_setCell_same _ _ _ (u := y) (by rw [World.cell?_setCell_other _ _ _ _ (by simp)]; exact c1)
theorem Own3.put {w : World} {b : Nat} {x y z : Value} (h : Own3 w b x y z) (x' y' z' : Value) : Own3 (((w.setCell ⟨b, 0, none⟩ x').setCell ⟨b, 1, none⟩ y').setCell ⟨b, 2, none⟩ z') b x' y' z' := by
  obtain ⟨c0, c1, c2, f0, f1, f2⟩ := h
  refine ⟨?_, ?_, ?_, by simp [f0], by simp [f1], by simp [f2]⟩
  · rw [World.cell?_setCell_other _ _ _ _ (by simp), World.cell?_setCell_other _ _ _ _ (by simp)]
    exact World.cell?_setCell_same _ _ _ c0
  · rw [World.cell?_setCell_other _ _ _ _ (by simp)]
    exact World.cell?_setCell_same _ _ _ (u := y) (by rw [World.cell?_setCell_other _ _ _ _ (by simp)]; exact c1)
  · exact World.cell?_setCell_same _ _ _ (u := z) (by rw [World.cell?_setCell_other _ _ _ _ (by simp), World.cell?_setCell_other _ _ _ _ (by simp)]; exact c2)
theorem Own3.put2 {w : World} {b : Nat} {x y z : Value} (h : Own3 w b x y z) (z' : Value) : Own3 (w.setCell ⟨b, 2, none⟩ z') b x y z' := by
  obtain ⟨c0, c1, c2, f0, f1, f2⟩ := h
  refine ⟨?_, ?_, World.cell?_setCell_same _ _ _ c2, by simp [f0], by simp [f1], by simp [f2]⟩
  · rw [World.cell?_setCell_other _ _ _ _ (by simp)]; exact c0
  · rw [World.cell?_setCell_other _ _ _ _ (by simp)]; exact c1
theorem Own4.put23 {w : World} {b : Nat} {x y z u : Value} (h : Own4 w b x y z u) (z' u' : Value) : Own4 ((w.setCell ⟨b, 2, none⟩ z').setCell ⟨b, 3, none⟩ u') b x y z' u' := by
  obtain ⟨c0, c1, c2, c3, f0, f1, f2, f3⟩ := h
  refine ⟨?_, ?_, ?_, ?_, by simp [f0], by simp [f1], by simp [f2], by simp [f3]⟩
  · rw [World.cell?_setCell_other _ _ _ _ (by simp), World.cell?_setCell_other _ _ _ _ (by simp)]; exact c0
  · rw [World.cell?_setCell_other _ _ _ _ (by simp), World.cell?_setCell_other _ _ _ _ (by simp)]; exact c1
  · rw [World.cell?_setCell_other _ _ _ _ (by simp)]; exact World.cell?_setCell_same _ _ _ c2
  · exact World.cell?_setCell_same _ _ _ (u := u) (by rw [World.cell?_setCell_other _ _ _ _ (by simp)]; exact c3)
theorem below_three {w w8 : World} (h : Below w.heap.size w w8) (o o' o'' : Obj) : Below w.heap.size w (((w8.alloc o).alloc o').alloc o'') := by
  have hs := h.size
  exact ((h.alloc hs o).alloc (by simp; omega) o').alloc (by simp; omega) o''
/-- Old cells behind three new blocks. -/
theorem old3 {w : World} {p : Addr} {v : Value} (h : w.cell? p = some v) (o o' o'' : Obj) : (((w.alloc o).alloc o').alloc o'').cell? p = some v := by
  have hl := cell_lt h
  rw [World.cell?_alloc_lt _ _ _ (by simp; omega), World.cell?_alloc_lt _ _ _ (by simp; omega), World.cell?_alloc_lt _ _ _ hl]
  exact h
theorem old2 {w : World} {p : Addr} {v : Value} (h : w.cell? p = some v) (o o' : Obj) : ((w.alloc o).alloc o').cell? p = some v := by
  have hl := cell_lt h
  rw [World.cell?_alloc_lt _ _ _ (by simp; omega), World.cell?_alloc_lt _ _ _ hl]
  exact h
theorem old1 {w : World} {p : Addr} {v : Value} (h : w.cell? p = some v) (o : Obj) : (w.alloc o).cell? p = some v := by
  rw [World.cell?_alloc_lt _ _ _ (cell_lt h)]
  exact h
theorem fro3 {w : World} {p : Addr} {v : Value} (h : w.cell? p = some v) (hf : w.frozen? p = false) (o o' o'' : Obj) : (((w.alloc o).alloc o').alloc o'').frozen? p = false := by
  have hB : Below w.heap.size w (((w.alloc o).alloc o').alloc o'') := (((Below.refl _ _).alloc (Nat.le_refl _) _).alloc (by simp) _).alloc (by simp; omega) _
  exact (hB.frozen (cell_lt h)).trans hf
end Go.Proofs.YtglhapkclpllfacGreatDoor
/-
  Contracts of package member: Send.
  Conditions: what packages frame and guard's errors need (structure MOk).
-/
namespace Go.Proofs.YtglhapkclpllfacGreatDoor
open Go.RowKit

theorem sendM_P (e : Nat → TypeId × Value) (vl : Value) (xs : List Int) (v : Vw) (node value : Int) (w : World) (hv : IntsIn w vl xs) (hp : ¬ planOk xs) (m : MOk e w) :
    Calls Tryz.prog 11 #[vl, v.val, .int .i64 node, .int .i64 value] w fun r w' => ∃ t p, r = .returned (.tuple #[.string ⟨#[]⟩, .iface t p]) ∧ PlanErr e w' xs t p ∧ Below w.heap.size w w' := by
  have hb : Below w.heap.size w (w.alloc (.cells #[.int .i64 v.me, .int .i64 v.mo, .int .i64 v.sl] 24)) := (Below.refl _ _).alloc (Nat.le_refl _) _
  have HP := hide (senderP e vl xs v _ (hv.below hb) hp (m.g.p.below hb))
  have HB := hide hb
  obtain ⟨ad, cap, rfl, _⟩ := hv
  clear hp m hb
  unfold Vw.val at HP ⊢
  go_enter Tryz.func11, Tryz.ntmps11
  go_wp2_with fail
  refine (unhide HP).mono ?_
  rintro E w2 ⟨t, p, rfl, hP, hB⟩
  have HPE := hide hP
  have HB2 := hide ((unhide HB).trans (hB.mono (unhide HB).size))
  clear hP hB
  go_wp2
  go_ret2
  exact ⟨_, _, rfl, unhide HPE, unhide HB2⟩
theorem sendM_V (e : Nat → TypeId × Value) (vl : Value) (xs : List Int) (v : Vw) (node value : Int) (w : World) (hv : IntsIn w vl xs) (hp : planOk xs) (h : ¬ v.ok) (m : MOk e w) :
    Calls Tryz.prog 11 #[vl, v.val, .int .i64 node, .int .i64 value] w fun r w' => r = .returned (.tuple #[.string ⟨#[]⟩, .iface (e 1).1 (e 1).2]) ∧ Below w.heap.size w w' := by
  have hb : Below w.heap.size w (w.alloc (.cells #[.int .i64 v.me, .int .i64 v.mo, .int .i64 v.sl] 24)) := (Below.refl _ _).alloc (Nat.le_refl _) _
  have HP := hide (senderV e vl xs v _ (hv.below hb) hp h (m.g.p.below hb))
  have HB := hide hb
  obtain ⟨ad, cap, rfl, _⟩ := hv
  clear hp m hb h
  unfold Vw.val at HP ⊢
  go_enter Tryz.func11, Tryz.ntmps11
  go_wp2_with fail
  refine (unhide HP).mono ?_
  rintro E w2 ⟨rfl, hB⟩
  have HB2 := hide ((unhide HB).trans (hB.mono (unhide HB).size))
  clear hB
  go_wp2
  go_ret2
  exact ⟨rfl, unhide HB2⟩
theorem sendM_L (e : Nat → TypeId × Value) (vl : Value) (xs : List Int) (v : Vw) (node value : Int) (w : World) (hv : IntsIn w vl xs) (hp : planOk xs) (h : v.ok) (hne : whoV xs v ≠ node) (m : MOk e w) :
    Calls Tryz.prog 11 #[vl, v.val, .int .i64 node, .int .i64 value] w fun r w' => r = .returned (.tuple #[.string ⟨#[]⟩, .iface (e 8).1 (e 8).2]) ∧ Below w.heap.size w w' := by
  have hb : Below w.heap.size w (w.alloc (.cells #[.int .i64 v.me, .int .i64 v.mo, .int .i64 v.sl] 24)) := (Below.refl _ _).alloc (Nat.le_refl _) _
  have HP := hide (senderO e vl xs v _ (hv.below hb) hp h (m.g.p.below hb))
  have HE := hide (m.g.below hb).c8
  have HB := hide hb
  obtain ⟨ad, cap, rfl, _⟩ := hv
  clear hp m hb h
  generalize whoV xs v = x at *
  unfold Vw.val at HP ⊢
  go_enter Tryz.func11, Tryz.ntmps11
  go_wp2_with fail
  refine (unhide HP).mono ?_
  rintro E w2 ⟨rfl, hB⟩
  have HB2 := hide ((unhide HB).trans (hB.mono (unhide HB).size))
  have e8 := below_cell hB (unhide HE)
  clear hB
  go_wp2_with fail
  go_quiet (fail)
  go_wp2
  go_ret2
  exact ⟨rfl, below_draw (unhide HB2) _⟩
theorem sendM_O (e : Nat → TypeId × Value) (vl : Value) (xs : List Int) (v : Vw) (value : Int) (w : World) (hv : IntsIn w vl xs) (hp : planOk xs) (h : v.ok) (m : MOk e w) :
    Calls Tryz.prog 11 #[vl, v.val, .int .i64 (whoV xs v), .int .i64 value] w fun r w' => r = .returned (makeV (shE e) (sendF xs v (whoV xs v) value)) ∧ Below w.heap.size w w' := by
  have hb : Below w.heap.size w (w.alloc (.cells #[.int .i64 v.me, .int .i64 v.mo, .int .i64 v.sl] 24)) := (Below.refl _ _).alloc (Nat.le_refl _) _
  have HP := hide (senderO e vl xs v _ (hv.below hb) hp h (m.g.p.below hb))
  have HM : Hid (∀ w', Below w.heap.size w w' → Calls Tryz.prog 25 #[frmV (sendF xs v (whoV xs v) value)] w' fun r w2 => r = .returned (makeV (shE e) (sendF xs v (whoV xs v) value)) ∧ Below w'.heap.size w' w2) := fun w' hB => make_ok _ (shE e) w' (m.below hB).fr
  obtain ⟨h1, h2⟩ := who_at hp v
  have hc : v.me.toNat ≤ 65535 := by have := h.1; omega
  have hme : ((v.me.toNat : Nat) : Int) = v.me := by have := h.1; omega
  have HW : Hid (∀ w', Calls Tryz.prog 26 #[.agg #[.int .i64 v.me, .int .i64 v.mo, .int .i64 v.sl], .int .i64 (whoV xs v)] w' fun r w2 => r = .returned (.agg #[.int .i64 (withV xs v : Nat), .int .i64 v.mo, .int .i64 v.sl]) ∧ Below w'.heap.size w' w2) := fun w' => by
    have h3 := withM_ok v.me.toNat v.mo v.sl hc (atV xs v) h2 w'
    rw [hme, ← h1] at h3
    exact h3
  have HV := hide (VwAt.new w v)
  have HB := hide hb
  obtain ⟨ad, cap, rfl, _⟩ := hv
  clear hp m hb h h1 h2 hc hme
  unfold sendF at *
  obtain ⟨q1, q2, hq⟩ : ∃ q1 q2, makeV (shE e) ⟨whoV xs v, (withV xs v : Nat), v.mo, v.sl, value⟩ = .tuple #[q1, q2] := by
    unfold makeV
    split
    · exact ⟨_, _, rfl⟩
    · exact ⟨_, _, rfl⟩
  rw [hq] at HM ⊢
  clear hq
  generalize whoV xs v = x at *
  generalize withV xs v = y at *
  unfold Vw.val at HP ⊢
  unfold frmV at HM
  go_enter Tryz.func11, Tryz.ntmps11
  go_wp2_with fail
  refine (unhide HP).mono ?_
  rintro E w2 ⟨rfl, hB⟩
  obtain ⟨c0, c1, c2⟩ := (unhide HV).below hB
  have HB2 := hide ((unhide HB).trans (hB.mono (unhide HB).size))
  clear hB
  go_wp2_with fail
  refine (unhide HW _).mono ?_
  rintro E w3 ⟨rfl, hB⟩
  have HB3 := hide ((unhide HB2).trans (hB.mono (unhide HB2).size))
  clear hB c0 c1 c2
  go_wp2_with fail
  refine (unhide HM _ (unhide HB3)).mono ?_
  rintro E w4 ⟨rfl, hB⟩
  have HB4 := hide ((unhide HB3).trans (hB.mono (unhide HB3).size))
  clear hB
  go_wp2
  go_ret2
  exact ⟨rfl, unhide HB4⟩
end Go.Proofs.YtglhapkclpllfacGreatDoor
/-
  Contracts of package member: Step.
  Conditions: what packages frame and guard's errors need (structure MOk).
-/
namespace Go.Proofs.YtglhapkclpllfacGreatDoor
open Go.RowKit

/-- The step's own cells: the view, the two results. -/
structure MStep (w W : World) (me mo sl : Int) : Prop where
  v : Own3 W w.heap.size (.int .i64 me) (.int .i64 mo) (.int .i64 sl)
  r1 : Own3 W (w.heap.size + 1) (.int .i64 0) (.int .i64 0) (.int .i64 0)
  r2 : Own4 W (w.heap.size + 1 + 1) (.int .i64 0) (.int .i64 0) (.bool false) (.int .i64 0)
  b : Below w.heap.size w W
theorem MStep.below {w W W' : World} {me mo sl : Int} (h : MStep w W me mo sl) (hB : Below W.heap.size W W') : MStep w W' me mo sl := ⟨h.v.below hB, h.r1.below hB, h.r2.below hB, h.b.trans (hB.mono h.b.size)⟩
theorem MStep.new (w : World) (me mo sl : Int) (W : World) (hW : W = ((w.alloc (.cells #[.int .i64 me, .int .i64 mo, .int .i64 sl] 24)).alloc (.cells #[.int .i64 0, .int .i64 0, .int .i64 0] 24)).alloc (.cells #[.int .i64 0, .int .i64 0, .bool false, .int .i64 0] 32)) : MStep w W me mo sl := by
  obtain ⟨w1, h1⟩ : ∃ w1, w1 = w.alloc (.cells #[.int .i64 me, .int .i64 mo, .int .i64 sl] 24) := ⟨_, rfl⟩
  obtain ⟨w2, h2⟩ : ∃ w2, w2 = w1.alloc (.cells #[.int .i64 0, .int .i64 0, .int .i64 0] 24) := ⟨_, rfl⟩
  rw [← h1, ← h2] at hW
  have s1 : w1.heap.size = w.heap.size + 1 := by rw [h1]; simp
  have s2 : w2.heap.size = w.heap.size + 1 + 1 := by rw [h2]; simp; omega
  have b1 : Below w.heap.size w w1 := by rw [h1]; exact (Below.refl _ _).alloc (Nat.le_refl _) _
  have b2 : Below w1.heap.size w1 w2 := by rw [h2]; exact (Below.refl _ _).alloc (Nat.le_refl _) _
  have b3 : Below w2.heap.size w2 W := by rw [hW]; exact (Below.refl _ _).alloc (Nat.le_refl _) _
  have o0 : Own3 w1 w.heap.size (.int .i64 me) (.int .i64 mo) (.int .i64 sl) := by rw [h1]; exact Own3.new _ _ _ _ _
  have o1 : Own3 w2 w1.heap.size (.int .i64 0) (.int .i64 0) (.int .i64 0) := by rw [h2]; exact Own3.new _ _ _ _ _
  have o2 : Own4 W w2.heap.size (.int .i64 0) (.int .i64 0) (.bool false) (.int .i64 0) := by rw [hW]; exact Own4.new _ _ _ _ _ _
  refine ⟨(o0.below b2).below b3, ?_, ?_, (b1.trans (b2.mono (by omega))).trans (b3.mono (by omega))⟩
  · rw [← s1]; exact o1.below b3
  · rw [← s2]; exact o2
theorem MStep.set {w W : World} {me mo sl : Int} (h : MStep w W me mo sl) {b : Nat} (hb : w.heap.size + 1 + 1 < b) (i : Nat) (u : Value) : MStep w (W.setCell ⟨b, i, none⟩ u) me mo sl :=
  ⟨h.v.other (by omega) i u, h.r1.other (by omega) i u, h.r2.other (by omega) i u, h.b.setCell (p := ⟨b, i, none⟩) (by show w.heap.size ≤ b; omega) _⟩
theorem MStep.lt {w W : World} {me mo sl : Int} (h : MStep w W me mo sl) : w.heap.size + 1 + 1 < W.heap.size := cell_lt h.r2.c0
theorem below_seven {w w2 : World} (hB : Below w.heap.size w w2) (x0 x1 x2 y0 y1 y2 y3 : Value) : Below w.heap.size w (((((((w2.setCell ⟨w.heap.size + 1, 0, none⟩ x0).setCell ⟨w.heap.size + 1, 1, none⟩ x1).setCell ⟨w.heap.size + 1, 2, none⟩ x2).setCell ⟨w.heap.size + 1 + 1, 0, none⟩ y0).setCell ⟨w.heap.size + 1 + 1, 1, none⟩ y1).setCell ⟨w.heap.size + 1 + 1, 2, none⟩ y2).setCell ⟨w.heap.size + 1 + 1, 3, none⟩ y3) :=
  ((((((hB.setCell (p := ⟨w.heap.size + 1, 0, none⟩) (by show w.heap.size ≤ w.heap.size + 1; omega) _).setCell (p := ⟨w.heap.size + 1, 1, none⟩) (by show w.heap.size ≤ w.heap.size + 1; omega) _).setCell (p := ⟨w.heap.size + 1, 2, none⟩) (by show w.heap.size ≤ w.heap.size + 1; omega) _).setCell (p := ⟨w.heap.size + 1 + 1, 0, none⟩) (by show w.heap.size ≤ w.heap.size + 1 + 1; omega) _).setCell (p := ⟨w.heap.size + 1 + 1, 1, none⟩) (by show w.heap.size ≤ w.heap.size + 1 + 1; omega) _).setCell (p := ⟨w.heap.size + 1 + 1, 2, none⟩) (by show w.heap.size ≤ w.heap.size + 1 + 1; omega) _).setCell (p := ⟨w.heap.size + 1 + 1, 3, none⟩) (by show w.heap.size ≤ w.heap.size + 1 + 1; omega) _
theorem PlanErr.sets {e : Nat → TypeId × Value} {w : World} {xs : List Int} {t : TypeId} {p : Value} (h : PlanErr e w xs t p) {b1 b2 : Nat} {n1 n2 : Int} (h1 : w.cell? ⟨b1, 1, none⟩ = some (.int .i64 n1)) (h2 : w.cell? ⟨b2, 1, none⟩ = some (.int .i64 n2)) {W : World}
    (hW : ∀ b i, b ≠ b1 → b ≠ b2 → W.cell? ⟨b, i, none⟩ = w.cell? ⟨b, i, none⟩) : PlanErr e W xs t p := by
  rcases h with h | h | ⟨m, pb, a1, a2, a3, a4, a5, a6, a7, a8, a9⟩
  · exact Or.inl h
  · exact Or.inr (Or.inl h)
  · have d1 : pb ≠ b1 := by
      rintro rfl
      rw [show (⟨pb, 0 + 1, none⟩ : Addr) = ⟨pb, 1, none⟩ from rfl, h1] at a9
      cases a9
    have d2 : pb ≠ b2 := by
      rintro rfl
      rw [show (⟨pb, 0 + 1, none⟩ : Addr) = ⟨pb, 1, none⟩ from rfl, h2] at a9
      cases a9
    exact Or.inr (Or.inr ⟨m, pb, a1, a2, a3, a4, a5, a6, a7, (hW _ _ d1 d2).trans a8, (hW _ _ d1 d2).trans a9⟩)
theorem other_seven {w2 : World} {b1 b2 : Nat} (x0 x1 x2 y0 y1 y2 y3 : Value) (b i : Nat) (h1 : b ≠ b1) (h2 : b ≠ b2) : (((((((w2.setCell ⟨b1, 0, none⟩ x0).setCell ⟨b1, 1, none⟩ x1).setCell ⟨b1, 2, none⟩ x2).setCell ⟨b2, 0, none⟩ y0).setCell ⟨b2, 1, none⟩ y1).setCell ⟨b2, 2, none⟩ y2).setCell ⟨b2, 3, none⟩ y3).cell? ⟨b, i, none⟩ = w2.cell? ⟨b, i, none⟩ := by
  have d1 : ∀ k, (⟨b1, k, none⟩ : Addr) ≠ ⟨b, i, none⟩ := fun k e => h1 (by injection e with e1; exact e1.symm)
  have d2 : ∀ k, (⟨b2, k, none⟩ : Addr) ≠ ⟨b, i, none⟩ := fun k e => h2 (by injection e with e1; exact e1.symm)
  rw [World.cell?_setCell_other _ _ _ _ (d2 3), World.cell?_setCell_other _ _ _ _ (d2 2), World.cell?_setCell_other _ _ _ _ (d2 1), World.cell?_setCell_other _ _ _ _ (d2 0), World.cell?_setCell_other _ _ _ _ (d1 2), World.cell?_setCell_other _ _ _ _ (d1 1), World.cell?_setCell_other _ _ _ _ (d1 0)]
set_option maxRecDepth 100000 in
theorem stepM_P (e : Nat → TypeId × Value) (vl : Value) (xs : List Int) (v : Vw) (s : ByteArray) (w : World) (hv : IntsIn w vl xs) (hp : ¬ planOk xs) (m : MOk e w) :
    Calls Tryz.prog 8 #[vl, v.val, .string s] w fun r w' => ∃ ty p, r = .returned (.tuple #[Vw.none.val, Ent.zero.val, .iface ty p]) ∧ PlanErr e w' xs ty p ∧ Below w.heap.size w w' := by
  obtain ⟨W, hW⟩ : ∃ W, W = ((w.alloc (.cells #[.int .i64 v.me, .int .i64 v.mo, .int .i64 v.sl] 24)).alloc (.cells #[.int .i64 0, .int .i64 0, .int .i64 0] 24)).alloc (.cells #[.int .i64 0, .int .i64 0, .bool false, .int .i64 0] 32) := ⟨_, rfl⟩
  have O := MStep.new w v.me v.mo v.sl W hW
  have HP := hide (senderP e vl xs v W (hv.below O.b) hp (m.g.p.below O.b))
  have HO := hide O
  obtain ⟨ad, cap, rfl, _⟩ := hv
  clear hp m O
  unfold Vw.val at HP ⊢
  go_enter Tryz.func8, Tryz.ntmps8
  go_wp2_with fail
  rw [← hW]
  refine (unhide HP).mono ?_
  rintro E w2 ⟨t, p, rfl, hP, hB⟩
  have HPE := hide hP
  have HO2 := hide ((unhide HO).below hB)
  obtain ⟨_, ⟨a0, a1, a2, b0, b1, b2⟩, ⟨e0, e1, e2, e3, g0, g1, g2, g3⟩, _⟩ := unhide HO2
  clear hP hB
  go_wp2
  exact bodyPost_ret (v := .tuple #[.agg #[.int .i64 0, .int .i64 0, .int .i64 0], .agg #[.int .i64 0, .int .i64 0, .bool false, .int .i64 0], .iface t p]) (by simp [results, Tryz.results8, go_sem, *]) rfl ⟨_, _, rfl, (unhide HPE).sets (unhide HO2).r1.c1 (unhide HO2).r2.c1 (other_seven _ _ _ _ _ _ _), below_seven (unhide HO2).b _ _ _ _ _ _ _⟩
set_option maxRecDepth 100000 in
theorem stepM_V (e : Nat → TypeId × Value) (vl : Value) (xs : List Int) (v : Vw) (s : ByteArray) (w : World) (hv : IntsIn w vl xs) (hp : planOk xs) (h : ¬ v.ok) (m : MOk e w) :
    Calls Tryz.prog 8 #[vl, v.val, .string s] w fun r w' => r = .returned (.tuple #[Vw.none.val, Ent.zero.val, .iface (e 1).1 (e 1).2]) ∧ Below w.heap.size w w' := by
  obtain ⟨W, hW⟩ : ∃ W, W = ((w.alloc (.cells #[.int .i64 v.me, .int .i64 v.mo, .int .i64 v.sl] 24)).alloc (.cells #[.int .i64 0, .int .i64 0, .int .i64 0] 24)).alloc (.cells #[.int .i64 0, .int .i64 0, .bool false, .int .i64 0] 32) := ⟨_, rfl⟩
  have O := MStep.new w v.me v.mo v.sl W hW
  have HP := hide (senderV e vl xs v W (hv.below O.b) hp h (m.g.p.below O.b))
  have HO := hide O
  obtain ⟨ad, cap, rfl, _⟩ := hv
  clear hp m O h
  unfold Vw.val at HP ⊢
  go_enter Tryz.func8, Tryz.ntmps8
  go_wp2_with fail
  rw [← hW]
  refine (unhide HP).mono ?_
  rintro E w2 ⟨rfl, hB⟩
  have HO2 := hide ((unhide HO).below hB)
  obtain ⟨_, ⟨a0, a1, a2, b0, b1, b2⟩, ⟨e0, e1, e2, e3, g0, g1, g2, g3⟩, _⟩ := unhide HO2
  clear hB
  go_wp2
  exact bodyPost_ret (v := .tuple #[.agg #[.int .i64 0, .int .i64 0, .int .i64 0], .agg #[.int .i64 0, .int .i64 0, .bool false, .int .i64 0], .iface (e 1).1 (e 1).2]) (by simp [results, Tryz.results8, go_sem, *]) rfl ⟨rfl, below_seven (unhide HO2).b _ _ _ _ _ _ _⟩
set_option maxRecDepth 100000 in
theorem stepM_F (e : Nat → TypeId × Value) (vl : Value) (xs : List Int) (v : Vw) (s : ByteArray) (w : World) (hv : IntsIn w vl xs) (hp : planOk xs) (h : v.ok) (hsl : v.sl = 1000000) (m : MOk e w) :
    Calls Tryz.prog 8 #[vl, v.val, .string s] w fun r w' => r = .returned (.tuple #[Vw.none.val, Ent.zero.val, .iface (e 6).1 (e 6).2]) ∧ Below w.heap.size w w' := by
  obtain ⟨W, hW⟩ : ∃ W, W = ((w.alloc (.cells #[.int .i64 v.me, .int .i64 v.mo, .int .i64 v.sl] 24)).alloc (.cells #[.int .i64 0, .int .i64 0, .int .i64 0] 24)).alloc (.cells #[.int .i64 0, .int .i64 0, .bool false, .int .i64 0] 32) := ⟨_, rfl⟩
  have O := MStep.new w v.me v.mo v.sl W hW
  have HP := hide (senderO e vl xs v W (hv.below O.b) hp h (m.g.p.below O.b))
  have HE := hide (m.g.p.below O.b).c6
  have lE : 1 < w.heap.size := cell_lt m.g.p.c6
  have HO := hide O
  obtain ⟨ad, cap, rfl, _⟩ := hv
  clear hp m O h
  generalize whoV xs v = x at *
  obtain ⟨me, mo, sl⟩ := v
  simp only at hsl
  subst hsl
  unfold Vw.val at HP ⊢
  go_enter Tryz.func8, Tryz.ntmps8
  go_wp2_with fail
  rw [← hW]
  refine (unhide HP).mono ?_
  rintro E w2 ⟨rfl, hB⟩
  have HO2 := hide ((unhide HO).below hB)
  have e6 := below_cell hB (unhide HE)
  obtain ⟨⟨v0, v1, v2, _, _, _⟩, ⟨a0, a1, a2, b0, b1, b2⟩, ⟨e0, e1, e2, e3, g0, g1, g2, g3⟩, _⟩ := unhide HO2
  have n1 : ¬ w.heap.size + 1 = 1 := by omega
  have n2 : ¬ w.heap.size + 1 + 1 = 1 := by omega
  have m1 : ¬ 1 = w.heap.size + 1 := by omega
  have m2 : ¬ 1 = w.heap.size + 1 + 1 := by omega
  clear hB
  go_wp2_with fail
  go_region
  all_goals (try go_wp2)
  all_goals exact bodyPost_ret (v := .tuple #[.agg #[.int .i64 0, .int .i64 0, .int .i64 0], .agg #[.int .i64 0, .int .i64 0, .bool false, .int .i64 0], .iface (e 6).1 (e 6).2]) (by simp [results, Tryz.results8, go_sem, *]) rfl ⟨rfl, (below_seven (unhide HO2).b _ _ _ _ _ _ _).drew⟩
set_option maxHeartbeats 1000000 in
set_option maxRecDepth 100000 in
theorem stepM_A (vl : Value) (xs : List Int) (me mo sl x : Int) (li : Nat) (s : ByteArray) (f0 f1 f2 f3 f4 : Int) (t : TypeId) (p : Value) (w : World) (hv : IntsIn w vl xs) (hs0 : 0 ≤ sl) (hs1 : sl < 1000000)
    (hse : ∀ w', Below w.heap.size w w' → Calls Tryz.prog 16 #[vl, .agg #[.int .i64 me, .int .i64 mo, .int .i64 sl]] w' fun r w2 => r = .returned (.tuple #[.int .i64 x, .nilIface]) ∧ Below w'.heap.size w' w2)
    (hwo : ∀ w', Calls Tryz.prog 17 #[.agg #[.int .i64 me, .int .i64 mo, .int .i64 sl], .int .i64 x] w' fun r w2 => r = .returned (.agg #[.int .i64 (li : Int), .int .i64 mo, .int .i64 sl]) ∧ Below w'.heap.size w' w2)
    (hre : ∀ w', Below w.heap.size w w' → Calls Tryz.prog 18 #[.string s] w' fun r w2 => r = .returned (.tuple #[.agg #[.int .i64 f0, .int .i64 f1, .int .i64 f2, .int .i64 f3, .int .i64 f4], .iface t p]) ∧ Below w'.heap.size w' w2) :
    Calls Tryz.prog 8 #[vl, .agg #[.int .i64 me, .int .i64 mo, .int .i64 sl], .string s] w fun r w' => r = .returned (.tuple #[.agg #[.int .i64 (li : Int), .int .i64 mo, .int .i64 (sl + 1)], .agg #[.int .i64 sl, .int .i64 x, .bool false, .int .i64 0], .nilIface]) ∧ Below w.heap.size w w' := by
  obtain ⟨W, hW⟩ : ∃ W, W = ((w.alloc (.cells #[.int .i64 me, .int .i64 mo, .int .i64 sl] 24)).alloc (.cells #[.int .i64 0, .int .i64 0, .int .i64 0] 24)).alloc (.cells #[.int .i64 0, .int .i64 0, .bool false, .int .i64 0] 32) := ⟨_, rfl⟩
  have O := MStep.new w me mo sl W hW
  have HP := hide (hse W O.b)
  have HO := hide O
  have HWo := hide hwo
  have HR := hide hre
  obtain ⟨ad, cap, rfl, _⟩ := hv
  have hs2 : ¬ sl = 1000000 := by omega
  clear O hse hwo hre
  go_enter Tryz.func8, Tryz.ntmps8
  go_wp2_with fail
  rw [← hW]
  clear hW
  refine (unhide HP).mono ?_
  rintro E w2 ⟨rfl, hB⟩
  have HO2 := hide ((unhide HO).below hB)
  obtain ⟨v0, v1, v2, _, _, _⟩ := (unhide HO2).v
  clear hB
  go_wp2_with fail
  refine (unhide HWo _).mono ?_
  rintro E w3 ⟨rfl, hB⟩
  have HO3 := hide ((unhide HO2).below hB)
  have HO4 := hide ((unhide HO3).below ((Below.refl _ w3).alloc (Nat.le_refl _) (.cells #[.int .i64 (li : Int), .int .i64 mo, .int .i64 sl] 24)))
  clear v0 v1 v2 hB
  obtain ⟨v0, v1, v2, _, _, _⟩ := (unhide HO4).v
  have HN4 := hide (Own3.new w3 24 (.int .i64 (li : Int)) (.int .i64 mo) (.int .i64 sl))
  have lt3 := (unhide HO3).lt
  go_wp2_with fail
  obtain ⟨W5, hW5⟩ : ∃ W5, W5 = (w3.alloc (.cells #[.int .i64 (li : Int), .int .i64 mo, .int .i64 sl] 24)).alloc (.cells #[.int .i64 sl, .int .i64 x, .bool false, .int .i64 0] 32) := ⟨_, rfl⟩
  have hB5 : Below (w3.alloc (.cells #[.int .i64 (li : Int), .int .i64 mo, .int .i64 sl] 24)).heap.size (w3.alloc (.cells #[.int .i64 (li : Int), .int .i64 mo, .int .i64 sl] 24)) W5 := by rw [hW5]; exact (Below.refl _ _).alloc (Nat.le_refl _) _
  have HO5 := hide ((unhide HO4).below hB5)
  have HN5 := hide ((unhide HN4).below hB5)
  have HE5 : Hid (Own4 W5 (w3.heap.size + 1) (.int .i64 sl) (.int .i64 x) (.bool false) (.int .i64 0)) := by
    have h := Own4.new (w3.alloc (.cells #[.int .i64 (li : Int), .int .i64 mo, .int .i64 sl] 24)) 32 (.int .i64 sl) (.int .i64 x) (.bool false) (.int .i64 0)
    rw [World.size_alloc, ← hW5] at h
    exact h
  rw [← hW5]
  clear hW5 hB5 v0 v1 v2
  refine (unhide HR _ (unhide HO5).b).mono ?_
  rintro E w6 ⟨rfl, hB⟩
  have lt6 : w3.heap.size + 1 < w6.heap.size := Nat.lt_of_lt_of_le (cell_lt (unhide HE5).c0) hB.size
  have hB7 : Below W5.heap.size W5 (w6.alloc (.cells #[.int .i64 f0, .int .i64 f1, .int .i64 f2, .int .i64 f3, .int .i64 f4] 53)) := hB.alloc hB.size _
  have HO7 := hide ((unhide HO5).below hB7)
  have HN7 := hide ((unhide HN5).below hB7)
  have HE7 := hide ((unhide HE5).below hB7)
  have HF7 := hide (FrmAt.new w6 f0 f1 f2 f3 f4)
  clear hB hB7
  obtain ⟨n0, n1, n2, _, _, m2⟩ := unhide HN7
  go_wp2_with fail
  clear n0 n1 n2 m2
  obtain ⟨W9, hW9⟩ : ∃ W9, W9 = (w6.alloc (.cells #[.int .i64 f0, .int .i64 f1, .int .i64 f2, .int .i64 f3, .int .i64 f4] 53)).setCell ⟨w3.heap.size, 2, none⟩ (.int .i64 (sl + 1)) := ⟨_, rfl⟩
  have HO9 : Hid (MStep w W9 me mo sl) := by rw [hW9]; exact (unhide HO7).set lt3 2 _
  have HN9 : Hid (Own3 W9 w3.heap.size (.int .i64 (li : Int)) (.int .i64 mo) (.int .i64 (sl + 1))) := by rw [hW9]; exact (unhide HN7).put2 _
  have HE9 : Hid (Own4 W9 (w3.heap.size + 1) (.int .i64 sl) (.int .i64 x) (.bool false) (.int .i64 0)) := by rw [hW9]; exact (unhide HE7).other (by omega) 2 _
  rw [← hW9]
  clear hW9
  obtain ⟨n0, n1, n2, _, _, _⟩ := unhide HN9
  obtain ⟨k0, k1, k2, k3, _, _, _, _⟩ := unhide HE9
  obtain ⟨_, ⟨a0, a1, a2, b0, b1, b2⟩, ⟨e0, e1, e2, e3, g0, g1, g2, g3⟩, _⟩ := unhide HO9
  have d1 : ¬ w.heap.size + 1 = w3.heap.size := by omega
  have d2 : ¬ w.heap.size + 1 + 1 = w3.heap.size := by omega
  have d3 : ¬ w.heap.size + 1 = w3.heap.size + 1 := by omega
  have d4 : ¬ w.heap.size + 1 + 1 = w3.heap.size + 1 := by omega
  have d5 : ¬ w3.heap.size = w.heap.size + 1 := by omega
  have d6 : ¬ w3.heap.size = w.heap.size + 1 + 1 := by omega
  have d7 : ¬ w3.heap.size + 1 = w.heap.size + 1 := by omega
  have d8 : ¬ w3.heap.size + 1 = w.heap.size + 1 + 1 := by omega
  go_region
  all_goals (try go_wp2)
  all_goals exact bodyPost_ret (v := .tuple #[.agg #[.int .i64 (li : Int), .int .i64 mo, .int .i64 (sl + 1)], .agg #[.int .i64 sl, .int .i64 x, .bool false, .int .i64 0], .nilIface]) (by simp [results, Tryz.results8, go_sem, *]) rfl ⟨rfl, (below_seven (unhide HO9).b _ _ _ _ _ _ _).drew⟩
set_option maxHeartbeats 1000000 in
set_option maxRecDepth 100000 in
theorem stepM_B (vl : Value) (xs : List Int) (me mo sl x : Int) (li : Nat) (s : ByteArray) (f0 f1 f2 f3 f4 : Int) (w : World) (hv : IntsIn w vl xs) (hs0 : 0 ≤ sl) (hs1 : sl < 1000000)
    (hse : ∀ w', Below w.heap.size w w' → Calls Tryz.prog 16 #[vl, .agg #[.int .i64 me, .int .i64 mo, .int .i64 sl]] w' fun r w2 => r = .returned (.tuple #[.int .i64 x, .nilIface]) ∧ Below w'.heap.size w' w2)
    (hwo : ∀ w', Calls Tryz.prog 17 #[.agg #[.int .i64 me, .int .i64 mo, .int .i64 sl], .int .i64 x] w' fun r w2 => r = .returned (.agg #[.int .i64 (li : Int), .int .i64 mo, .int .i64 sl]) ∧ Below w'.heap.size w' w2)
    (hre : ∀ w', Below w.heap.size w w' → Calls Tryz.prog 18 #[.string s] w' fun r w2 => r = .returned (.tuple #[.agg #[.int .i64 f0, .int .i64 f1, .int .i64 f2, .int .i64 f3, .int .i64 f4], .nilIface]) ∧ Below w'.heap.size w' w2)
    (hg : ∀ w', Calls Tryz.prog 19 #[.agg #[.int .i64 f0, .int .i64 f1, .int .i64 f2, .int .i64 f3, .int .i64 f4], .agg #[.int .i64 me, .int .i64 mo, .int .i64 sl], .int .i64 x] w' fun r w2 => r = .returned (.bool false) ∧ Below w'.heap.size w' w2) :
    Calls Tryz.prog 8 #[vl, .agg #[.int .i64 me, .int .i64 mo, .int .i64 sl], .string s] w fun r w' => r = .returned (.tuple #[.agg #[.int .i64 (li : Int), .int .i64 mo, .int .i64 (sl + 1)], .agg #[.int .i64 sl, .int .i64 x, .bool false, .int .i64 0], .nilIface]) ∧ Below w.heap.size w w' := by
  obtain ⟨W, hW⟩ : ∃ W, W = ((w.alloc (.cells #[.int .i64 me, .int .i64 mo, .int .i64 sl] 24)).alloc (.cells #[.int .i64 0, .int .i64 0, .int .i64 0] 24)).alloc (.cells #[.int .i64 0, .int .i64 0, .bool false, .int .i64 0] 32) := ⟨_, rfl⟩
  have O := MStep.new w me mo sl W hW
  have HP := hide (hse W O.b)
  have HO := hide O
  have HWo := hide hwo
  have HR := hide hre
  have HG := hide hg
  clear hg
  obtain ⟨ad, cap, rfl, _⟩ := hv
  have hs2 : ¬ sl = 1000000 := by omega
  clear O hse hwo hre
  go_enter Tryz.func8, Tryz.ntmps8
  go_wp2_with fail
  rw [← hW]
  clear hW
  refine (unhide HP).mono ?_
  rintro E w2 ⟨rfl, hB⟩
  have HO2 := hide ((unhide HO).below hB)
  obtain ⟨v0, v1, v2, _, _, _⟩ := (unhide HO2).v
  clear hB
  go_wp2_with fail
  refine (unhide HWo _).mono ?_
  rintro E w3 ⟨rfl, hB⟩
  have HO3 := hide ((unhide HO2).below hB)
  have HO4 := hide ((unhide HO3).below ((Below.refl _ w3).alloc (Nat.le_refl _) (.cells #[.int .i64 (li : Int), .int .i64 mo, .int .i64 sl] 24)))
  clear v0 v1 v2 hB
  obtain ⟨v0, v1, v2, _, _, _⟩ := (unhide HO4).v
  have HN4 := hide (Own3.new w3 24 (.int .i64 (li : Int)) (.int .i64 mo) (.int .i64 sl))
  have lt3 := (unhide HO3).lt
  go_wp2_with fail
  obtain ⟨W5, hW5⟩ : ∃ W5, W5 = (w3.alloc (.cells #[.int .i64 (li : Int), .int .i64 mo, .int .i64 sl] 24)).alloc (.cells #[.int .i64 sl, .int .i64 x, .bool false, .int .i64 0] 32) := ⟨_, rfl⟩
  have hB5 : Below (w3.alloc (.cells #[.int .i64 (li : Int), .int .i64 mo, .int .i64 sl] 24)).heap.size (w3.alloc (.cells #[.int .i64 (li : Int), .int .i64 mo, .int .i64 sl] 24)) W5 := by rw [hW5]; exact (Below.refl _ _).alloc (Nat.le_refl _) _
  have HO5 := hide ((unhide HO4).below hB5)
  have HN5 := hide ((unhide HN4).below hB5)
  have HE5 : Hid (Own4 W5 (w3.heap.size + 1) (.int .i64 sl) (.int .i64 x) (.bool false) (.int .i64 0)) := by
    have h := Own4.new (w3.alloc (.cells #[.int .i64 (li : Int), .int .i64 mo, .int .i64 sl] 24)) 32 (.int .i64 sl) (.int .i64 x) (.bool false) (.int .i64 0)
    rw [World.size_alloc, ← hW5] at h
    exact h
  rw [← hW5]
  clear hW5 hB5 v0 v1 v2
  refine (unhide HR _ (unhide HO5).b).mono ?_
  rintro E w6 ⟨rfl, hB⟩
  have lt6 : w3.heap.size + 1 < w6.heap.size := Nat.lt_of_lt_of_le (cell_lt (unhide HE5).c0) hB.size
  have hB7 : Below W5.heap.size W5 (w6.alloc (.cells #[.int .i64 f0, .int .i64 f1, .int .i64 f2, .int .i64 f3, .int .i64 f4] 53)) := hB.alloc hB.size _
  have HO7 := hide ((unhide HO5).below hB7)
  have HN7 := hide ((unhide HN5).below hB7)
  have HE7 := hide ((unhide HE5).below hB7)
  have HF7 := hide (FrmAt.new w6 f0 f1 f2 f3 f4)
  clear hB hB7
  obtain ⟨v0, v1, v2, _, _, _⟩ := (unhide HO7).v
  go_wp2_with fail
  refine (unhide HG _).mono ?_
  rintro E w8 ⟨rfl, hB⟩
  have HO8 := hide ((unhide HO7).below hB)
  have HN8 := hide ((unhide HN7).below hB)
  have HE8 := hide ((unhide HE7).below hB)
  have HF8 := hide ((unhide HF7).below hB)
  clear hB v0 v1 v2
  obtain ⟨n0, n1, n2, m0, m1, m2⟩ := unhide HN8
  go_wp2_with fail
  clear n0 n1 n2 m0 m1 m2
  obtain ⟨W9, hW9⟩ : ∃ W9, W9 = w8.setCell ⟨w3.heap.size, 2, none⟩ (.int .i64 (sl + 1)) := ⟨_, rfl⟩
  have HO9 : Hid (MStep w W9 me mo sl) := by rw [hW9]; exact (unhide HO8).set lt3 2 _
  have HN9 : Hid (Own3 W9 w3.heap.size (.int .i64 (li : Int)) (.int .i64 mo) (.int .i64 (sl + 1))) := by rw [hW9]; exact (unhide HN8).put2 _
  have HE9 : Hid (Own4 W9 (w3.heap.size + 1) (.int .i64 sl) (.int .i64 x) (.bool false) (.int .i64 0)) := by rw [hW9]; exact (unhide HE8).other (by omega) 2 _
  rw [← hW9]
  clear hW9
  obtain ⟨n0, n1, n2, _, _, _⟩ := unhide HN9
  obtain ⟨k0, k1, k2, k3, _, _, _, _⟩ := unhide HE9
  obtain ⟨_, ⟨a0, a1, a2, b0, b1, b2⟩, ⟨e0, e1, e2, e3, g0, g1, g2, g3⟩, _⟩ := unhide HO9
  have d1 : ¬ w.heap.size + 1 = w3.heap.size := by omega
  have d2 : ¬ w.heap.size + 1 + 1 = w3.heap.size := by omega
  have d3 : ¬ w.heap.size + 1 = w3.heap.size + 1 := by omega
  have d4 : ¬ w.heap.size + 1 + 1 = w3.heap.size + 1 := by omega
  have d5 : ¬ w3.heap.size = w.heap.size + 1 := by omega
  have d6 : ¬ w3.heap.size = w.heap.size + 1 + 1 := by omega
  have d7 : ¬ w3.heap.size + 1 = w.heap.size + 1 := by omega
  have d8 : ¬ w3.heap.size + 1 = w.heap.size + 1 + 1 := by omega
  go_region
  all_goals (try go_wp2)
  all_goals exact bodyPost_ret (v := .tuple #[.agg #[.int .i64 (li : Int), .int .i64 mo, .int .i64 (sl + 1)], .agg #[.int .i64 sl, .int .i64 x, .bool false, .int .i64 0], .nilIface]) (by simp [results, Tryz.results8, go_sem, *]) rfl ⟨rfl, (below_seven (unhide HO9).b _ _ _ _ _ _ _).drew⟩
set_option maxHeartbeats 1000000 in
set_option maxRecDepth 100000 in
theorem stepM_C (vl : Value) (xs : List Int) (me mo sl x : Int) (li : Nat) (s : ByteArray) (f0 f1 f2 f3 f4 : Int) (w : World) (hv : IntsIn w vl xs) (hs0 : 0 ≤ sl) (hs1 : sl < 1000000) (q0 : 0 ≤ f3) (q1 : f3 < 1000000)
    (hse : ∀ w', Below w.heap.size w w' → Calls Tryz.prog 16 #[vl, .agg #[.int .i64 me, .int .i64 mo, .int .i64 sl]] w' fun r w2 => r = .returned (.tuple #[.int .i64 x, .nilIface]) ∧ Below w'.heap.size w' w2)
    (hwo : ∀ w', Calls Tryz.prog 17 #[.agg #[.int .i64 me, .int .i64 mo, .int .i64 sl], .int .i64 x] w' fun r w2 => r = .returned (.agg #[.int .i64 (li : Int), .int .i64 mo, .int .i64 sl]) ∧ Below w'.heap.size w' w2)
    (hre : ∀ w', Below w.heap.size w w' → Calls Tryz.prog 18 #[.string s] w' fun r w2 => r = .returned (.tuple #[.agg #[.int .i64 f0, .int .i64 f1, .int .i64 f2, .int .i64 f3, .int .i64 f4], .nilIface]) ∧ Below w'.heap.size w' w2)
    (hg : ∀ w', Calls Tryz.prog 19 #[.agg #[.int .i64 f0, .int .i64 f1, .int .i64 f2, .int .i64 f3, .int .i64 f4], .agg #[.int .i64 me, .int .i64 mo, .int .i64 sl], .int .i64 x] w' fun r w2 => r = .returned (.bool true) ∧ Below w'.heap.size w' w2) :
    Calls Tryz.prog 8 #[vl, .agg #[.int .i64 me, .int .i64 mo, .int .i64 sl], .string s] w fun r w' => r = .returned (.tuple #[.agg #[.int .i64 f1, .int .i64 f2, .int .i64 (f3 + 1)], .agg #[.int .i64 sl, .int .i64 x, .bool true, .int .i64 f4], .nilIface]) ∧ Below w.heap.size w w' := by
  obtain ⟨W, hW⟩ : ∃ W, W = ((w.alloc (.cells #[.int .i64 me, .int .i64 mo, .int .i64 sl] 24)).alloc (.cells #[.int .i64 0, .int .i64 0, .int .i64 0] 24)).alloc (.cells #[.int .i64 0, .int .i64 0, .bool false, .int .i64 0] 32) := ⟨_, rfl⟩
  have O := MStep.new w me mo sl W hW
  have HP := hide (hse W O.b)
  have HO := hide O
  have HWo := hide hwo
  have HR := hide hre
  have HG := hide hg
  clear hg
  obtain ⟨ad, cap, rfl, _⟩ := hv
  have hs2 : ¬ sl = 1000000 := by omega
  clear O hse hwo hre
  go_enter Tryz.func8, Tryz.ntmps8
  go_wp2_with fail
  rw [← hW]
  clear hW
  refine (unhide HP).mono ?_
  rintro E w2 ⟨rfl, hB⟩
  have HO2 := hide ((unhide HO).below hB)
  obtain ⟨v0, v1, v2, _, _, _⟩ := (unhide HO2).v
  clear hB
  go_wp2_with fail
  refine (unhide HWo _).mono ?_
  rintro E w3 ⟨rfl, hB⟩
  have HO3 := hide ((unhide HO2).below hB)
  have HO4 := hide ((unhide HO3).below ((Below.refl _ w3).alloc (Nat.le_refl _) (.cells #[.int .i64 (li : Int), .int .i64 mo, .int .i64 sl] 24)))
  clear v0 v1 v2 hB
  obtain ⟨v0, v1, v2, _, _, _⟩ := (unhide HO4).v
  have HN4 := hide (Own3.new w3 24 (.int .i64 (li : Int)) (.int .i64 mo) (.int .i64 sl))
  have lt3 := (unhide HO3).lt
  go_wp2_with fail
  obtain ⟨W5, hW5⟩ : ∃ W5, W5 = (w3.alloc (.cells #[.int .i64 (li : Int), .int .i64 mo, .int .i64 sl] 24)).alloc (.cells #[.int .i64 sl, .int .i64 x, .bool false, .int .i64 0] 32) := ⟨_, rfl⟩
  have hB5 : Below (w3.alloc (.cells #[.int .i64 (li : Int), .int .i64 mo, .int .i64 sl] 24)).heap.size (w3.alloc (.cells #[.int .i64 (li : Int), .int .i64 mo, .int .i64 sl] 24)) W5 := by rw [hW5]; exact (Below.refl _ _).alloc (Nat.le_refl _) _
  have HO5 := hide ((unhide HO4).below hB5)
  have HN5 := hide ((unhide HN4).below hB5)
  have HE5 : Hid (Own4 W5 (w3.heap.size + 1) (.int .i64 sl) (.int .i64 x) (.bool false) (.int .i64 0)) := by
    have h := Own4.new (w3.alloc (.cells #[.int .i64 (li : Int), .int .i64 mo, .int .i64 sl] 24)) 32 (.int .i64 sl) (.int .i64 x) (.bool false) (.int .i64 0)
    rw [World.size_alloc, ← hW5] at h
    exact h
  rw [← hW5]
  clear hW5 hB5 v0 v1 v2
  refine (unhide HR _ (unhide HO5).b).mono ?_
  rintro E w6 ⟨rfl, hB⟩
  have lt6 : w3.heap.size + 1 < w6.heap.size := Nat.lt_of_lt_of_le (cell_lt (unhide HE5).c0) hB.size
  have hB7 : Below W5.heap.size W5 (w6.alloc (.cells #[.int .i64 f0, .int .i64 f1, .int .i64 f2, .int .i64 f3, .int .i64 f4] 53)) := hB.alloc hB.size _
  have HO7 := hide ((unhide HO5).below hB7)
  have HN7 := hide ((unhide HN5).below hB7)
  have HE7 := hide ((unhide HE5).below hB7)
  have HF7 := hide (FrmAt.new w6 f0 f1 f2 f3 f4)
  clear hB hB7
  obtain ⟨v0, v1, v2, _, _, _⟩ := (unhide HO7).v
  go_wp2_with fail
  refine (unhide HG _).mono ?_
  rintro E w8 ⟨rfl, hB⟩
  have HO8 := hide ((unhide HO7).below hB)
  have HN8 := hide ((unhide HN7).below hB)
  have HE8 := hide ((unhide HE7).below hB)
  have HF8 := hide ((unhide HF7).below hB)
  clear hB v0 v1 v2
  obtain ⟨n0, n1, n2, m0, m1, m2⟩ := unhide HN8
  obtain ⟨h0, h1, h2, h3, h4⟩ := unhide HF8
  have d0 : ¬ w6.heap.size = w3.heap.size := by omega
  have d0' : ¬ w3.heap.size = w6.heap.size := by omega
  go_wp2_with fail
  obtain ⟨Wa, hWa⟩ : ∃ Wa, Wa = ((w8.setCell ⟨w3.heap.size, 0, none⟩ (.int .i64 f1)).setCell ⟨w3.heap.size, 1, none⟩ (.int .i64 f2)).setCell ⟨w3.heap.size, 2, none⟩ (.int .i64 f3) := ⟨_, rfl⟩
  have HOa : Hid (MStep w Wa me mo sl) := by rw [hWa]; exact (((unhide HO8).set lt3 0 _).set lt3 1 _).set lt3 2 _
  have HNa : Hid (Own3 Wa w3.heap.size (.int .i64 f1) (.int .i64 f2) (.int .i64 f3)) := by rw [hWa]; exact (unhide HN8).put _ _ _
  have HEa : Hid (Own4 Wa (w3.heap.size + 1) (.int .i64 sl) (.int .i64 x) (.bool false) (.int .i64 0)) := by rw [hWa]; exact (((unhide HE8).other (by omega) 0 _).other (by omega) 1 _).other (by omega) 2 _
  have hf4 : Wa.cell? ⟨w6.heap.size, 4, none⟩ = some (.int .i64 f4) := by
    rw [hWa, World.cell?_setCell_other _ _ _ _ (fun e => d0' (by injection e)), World.cell?_setCell_other _ _ _ _ (fun e => d0' (by injection e)), World.cell?_setCell_other _ _ _ _ (fun e => d0' (by injection e))]
    exact (unhide HF8).c4
  rw [← hWa]
  clear hWa n0 n1 n2 m0 m1 m2 h0 h1 h2 h3 h4
  obtain ⟨k0, k1, k2, k3, _, _, l2, l3⟩ := unhide HEa
  have d1 : ¬ w6.heap.size = w3.heap.size + 1 := by omega
  have d2 : ¬ w3.heap.size + 1 = w6.heap.size := by omega
  go_region
  obtain ⟨Wb, hWb⟩ : ∃ Wb, Wb = ((Wa.setCell ⟨w3.heap.size + 1, 2, none⟩ (.bool true)).setCell ⟨w3.heap.size + 1, 3, none⟩ (.int .i64 f4)).drew := ⟨_, rfl⟩
  have HOb : Hid (MStep w Wb me mo sl) := by rw [hWb]; exact (((unhide HOa).set (by omega) 2 _).set (by omega) 3 _).below (Below.refl _ _).drew
  have HNb : Hid (Own3 Wb w3.heap.size (.int .i64 f1) (.int .i64 f2) (.int .i64 f3)) := by rw [hWb]; exact (((unhide HNa).other (by omega) 2 _).other (by omega) 3 _).below (Below.refl _ _).drew
  have HEb : Hid (Own4 Wb (w3.heap.size + 1) (.int .i64 sl) (.int .i64 x) (.bool true) (.int .i64 f4)) := by rw [hWb]; exact ((unhide HEa).put23 _ _).below (Below.refl _ _).drew
  rw [← hWb]
  clear hWb k0 k1 k2 k3 l2 l3 hf4 d1 d2
  obtain ⟨n0, n1, n2, m0, m1, m2⟩ := unhide HNb
  go_wp2_with fail
  clear n0 n1 n2 m0 m1 m2
  obtain ⟨W9, hW9⟩ : ∃ W9, W9 = Wb.setCell ⟨w3.heap.size, 2, none⟩ (.int .i64 (f3 + 1)) := ⟨_, rfl⟩
  have HO9 : Hid (MStep w W9 me mo sl) := by rw [hW9]; exact (unhide HOb).set lt3 2 _
  have HN9 : Hid (Own3 W9 w3.heap.size (.int .i64 f1) (.int .i64 f2) (.int .i64 (f3 + 1))) := by rw [hW9]; exact (unhide HNb).put2 _
  have HE9 : Hid (Own4 W9 (w3.heap.size + 1) (.int .i64 sl) (.int .i64 x) (.bool true) (.int .i64 f4)) := by rw [hW9]; exact (unhide HEb).other (by omega) 2 _
  rw [← hW9]
  clear hW9
  obtain ⟨n0, n1, n2, _, _, _⟩ := unhide HN9
  obtain ⟨k0, k1, k2, k3, _, _, _, _⟩ := unhide HE9
  obtain ⟨_, ⟨a0, a1, a2, b0, b1, b2⟩, ⟨e0, e1, e2, e3, g0, g1, g2, g3⟩, _⟩ := unhide HO9
  have d1 : ¬ w.heap.size + 1 = w3.heap.size := by omega
  have d2 : ¬ w.heap.size + 1 + 1 = w3.heap.size := by omega
  have d3 : ¬ w.heap.size + 1 = w3.heap.size + 1 := by omega
  have d4 : ¬ w.heap.size + 1 + 1 = w3.heap.size + 1 := by omega
  have d5 : ¬ w3.heap.size = w.heap.size + 1 := by omega
  have d6 : ¬ w3.heap.size = w.heap.size + 1 + 1 := by omega
  have d7 : ¬ w3.heap.size + 1 = w.heap.size + 1 := by omega
  have d8 : ¬ w3.heap.size + 1 = w.heap.size + 1 + 1 := by omega
  go_region
  all_goals (try go_wp2)
  all_goals exact bodyPost_ret (v := .tuple #[.agg #[.int .i64 f1, .int .i64 f2, .int .i64 (f3 + 1)], .agg #[.int .i64 sl, .int .i64 x, .bool true, .int .i64 f4], .nilIface]) (by simp [results, Tryz.results8, go_sem, *]) rfl ⟨rfl, (below_seven (unhide HO9).b _ _ _ _ _ _ _).drew⟩
end Go.Proofs.YtglhapkclpllfacGreatDoor
/-
  Package member's answers, all of them (structure MProg).
  Conditions: what packages frame and guard's errors need (structure MOk).
-/
namespace Go.Proofs.YtglhapkclpllfacGreatDoor
open Go.RowKit

theorem goodM_no (f : Frm) (xs : List Int) (v : Vw) (hp : planOk xs) (h : v.ok) (hn : ¬ (f.fr = whoV xs v ∧ f.me = (withV xs v : Nat) ∧ f.mo = v.mo ∧ f.sl = v.sl)) (w : World) :
    Calls Tryz.prog 19 #[frmV f, v.val, .int .i64 (whoV xs v)] w fun r w' => r = .returned (.bool false) ∧ Below w.heap.size w w' := by
  obtain ⟨h1, h2⟩ := who_at hp v
  have hc : v.me.toNat ≤ 65535 := by have := h.1; omega
  have hme : ((v.me.toNat : Nat) : Int) = v.me := by have := h.1; omega
  by_cases c1 : f.fr = whoV xs v
  · have c1' : f.fr = ((atV xs v : Nat) : Int) + 1 := c1.trans h1
    have key : Calls Tryz.prog 19 #[frmV f, .agg #[.int .i64 (v.me.toNat : Nat), .int .i64 v.mo, .int .i64 v.sl], .int .i64 ((atV xs v : Int) + 1)] w fun r w' => r = .returned (.bool false) ∧ Below w.heap.size w w' := by
      by_cases c2 : f.me = (withV xs v : Nat)
      · by_cases c3 : f.mo = v.mo
        · by_cases c4 : f.sl = v.sl
          · exact absurd ⟨c1, c2, c3, c4⟩ hn
          · exact goodM_s f v.me.toNat v.mo v.sl hc (atV xs v) h2 c1' w ⟨c2, c3, c4⟩
        · exact goodM_o f v.me.toNat v.mo v.sl hc (atV xs v) h2 c1' w ⟨c2, c3⟩
      · exact goodM_m f v.me.toNat v.mo v.sl hc (atV xs v) h2 c1' w c2
    rw [hme, ← h1] at key
    exact key
  · exact goodM_far f v (whoV xs v) c1 w
theorem goodM_yes (f : Frm) (xs : List Int) (v : Vw) (hp : planOk xs) (h : v.ok) (hn : f.fr = whoV xs v ∧ f.me = (withV xs v : Nat) ∧ f.mo = v.mo ∧ f.sl = v.sl) (w : World) :
    Calls Tryz.prog 19 #[frmV f, v.val, .int .i64 (whoV xs v)] w fun r w' => r = .returned (.bool true) ∧ Below w.heap.size w w' := by
  obtain ⟨h1, h2⟩ := who_at hp v
  have hc : v.me.toNat ≤ 65535 := by have := h.1; omega
  have hme : ((v.me.toNat : Nat) : Int) = v.me := by have := h.1; omega
  have key := goodM_y f v.me.toNat v.mo v.sl hc (atV xs v) h2 (hn.1.trans h1) w hn.2
  rw [hme, ← h1] at key
  exact key
theorem stepM_O (e : Nat → TypeId × Value) (vl : Value) (xs : List Int) (v : Vw) (s : ByteArray) (w : World) (hv : IntsIn w vl xs) (hp : planOk xs) (h : v.ok) (hsl : v.sl < 1000000) (m : MOk e w) :
    Calls Tryz.prog 8 #[vl, v.val, .string s] w fun r w' => r = .returned (.tuple #[(nextV xs v (goodV xs v (readF s.data.toList))).val, (entV xs v (goodV xs v (readF s.data.toList))).val, .nilIface]) ∧ Below w.heap.size w w' := by
  obtain ⟨h1, h2⟩ := who_at hp v
  have hc : v.me.toNat ≤ 65535 := by have := h.1; omega
  have hme : ((v.me.toNat : Nat) : Int) = v.me := by have := h.1; omega
  have hs0 := h.2.2.1
  have hse : ∀ w', Below w.heap.size w w' → Calls Tryz.prog 16 #[vl, .agg #[.int .i64 v.me, .int .i64 v.mo, .int .i64 v.sl]] w' fun r w2 => r = .returned (.tuple #[.int .i64 (whoV xs v), .nilIface]) ∧ Below w'.heap.size w' w2 := fun w' hB => senderO e vl xs v w' (hv.below hB) hp h (m.below hB).g.p
  have hwo : ∀ w', Calls Tryz.prog 17 #[.agg #[.int .i64 v.me, .int .i64 v.mo, .int .i64 v.sl], .int .i64 (whoV xs v)] w' fun r w2 => r = .returned (.agg #[.int .i64 ((lessV xs v : Nat) : Int), .int .i64 v.mo, .int .i64 v.sl]) ∧ Below w'.heap.size w' w2 := fun w' => by
    have h3 := lessM_ok v.me.toNat v.mo v.sl hc (atV xs v) h2 w'
    rw [hme, ← h1] at h3
    exact h3
  have hre : ∀ w', Below w.heap.size w w' → Calls Tryz.prog 18 #[.string s] w' fun r w2 => r = .returned (readV (shE e) (readF s.data.toList)) ∧ Below w'.heap.size w' w2 := fun w' hB => fread_ok s (shE e) w' (m.below hB).fr
  cases hr : readF s.data.toList with
  | error k =>
    rw [hr] at hre
    exact stepM_A vl xs v.me v.mo v.sl (whoV xs v) (lessV xs v) s 0 0 0 0 0 (shE e k).1 (shE e k).2 w hv hs0 hsl hse hwo hre
  | ok f =>
    rw [hr] at hre
    by_cases hg : f.fr = whoV xs v ∧ f.me = (withV xs v : Nat) ∧ f.mo = v.mo ∧ f.sl = v.sl
    · have e1 : goodV xs v (.ok f) = some f.va := if_pos hg
      rw [e1]
      have key := stepM_C vl xs v.me v.mo v.sl (whoV xs v) (lessV xs v) s f.fr f.me f.mo f.sl f.va w hv hs0 hsl (by omega) (by omega) hse hwo hre (fun w' => goodM_yes f xs v hp h hg w')
      rw [hg.2.1, hg.2.2.1, hg.2.2.2] at key
      exact key
    · have e1 : goodV xs v (.ok f) = none := if_neg hg
      rw [e1]
      exact stepM_B vl xs v.me v.mo v.sl (whoV xs v) (lessV xs v) s f.fr f.me f.mo f.sl f.va w hv hs0 hsl hse hwo hre (fun w' => goodM_no f xs v hp h hg w')
theorem mprog (e : Nat → TypeId × Value) : MProg (MOk e) e where
  keep _ _ m hB := m.below hB
  plan _ m := m.g.p
  yes w x _ h := checkM_yes x h w
  no w x m h := checkM_no x h _ ⟨_, _, rfl⟩ w m.g.p.c1
  stP w vl xs v s m hv hp := stepM_P e vl xs v s w hv hp m
  stV w vl xs v s m hv hp h := stepM_V e vl xs v s w hv hp h m
  stF w vl xs v s m hv hp h hsl := stepM_F e vl xs v s w hv hp h hsl m
  stO w vl xs v s m hv hp h hsl := stepM_O e vl xs v s w hv hp h hsl m
  seP w vl xs v node value m hv hp := sendM_P e vl xs v node value w hv hp m
  seV w vl xs v node value m hv hp h := sendM_V e vl xs v node value w hv hp h m
  seL w vl xs v node value m hv hp h hne := sendM_L e vl xs v node value w hv hp h hne m
  seB w vl xs v value m hv hp h hval := by
    have key := sendM_O e vl xs v value w hv hp h m
    have he := send_err hp h value
    rw [if_neg hval] at he
    unfold makeV at key
    rw [he] at key
    exact key
  seO w vl xs v value m hv hp h hval := by
    have key := sendM_O e vl xs v value w hv hp h m
    have he := send_err hp h value
    rw [if_pos hval] at he
    unfold makeV at key
    rw [if_pos he] at key
    exact key
end Go.Proofs.YtglhapkclpllfacGreatDoor
