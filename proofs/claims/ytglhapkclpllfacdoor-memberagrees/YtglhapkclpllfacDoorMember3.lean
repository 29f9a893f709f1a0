/-
  Contracts of package member: Send.
  Conditions: what packages frame and guard's errors need (structure MOk).
-/
import Derived.Test.YtglhapkclpllfacDoorMember2
namespace Go.Proofs.YtglhapkclpllfacDoor
open Go.RowKit

theorem sendM_P (e : Nat → TypeId × Value) (vl : Value) (xs : List Int) (v : Vw) (node value : Int) (w : World) (hv : IntsIn w vl xs) (hp : ¬ planOk xs) (m : MOk e w) :
    Calls Tryd.prog 20 #[vl, v.val, .int .i64 node, .int .i64 value] w fun r w' => ∃ t p, r = .returned (.tuple #[.string ⟨#[]⟩, .iface t p]) ∧ PlanErr e w' xs t p ∧ Below w.heap.size w w' := by
  have hb : Below w.heap.size w (w.alloc (.cells #[.int .i64 v.me, .int .i64 v.mo, .int .i64 v.sl] 46)) := (Below.refl _ _).alloc (Nat.le_refl _) _
  have HP := hide (senderP e vl xs v _ (hv.below hb) hp (m.g.p.below hb))
  have HB := hide hb
  obtain ⟨ad, cap, rfl, _⟩ := hv
  clear hp m hb
  unfold Vw.val at HP ⊢
  go_enter Tryd.func20, Tryd.ntmps20
  go_wp2_with fail
  refine (unhide HP).mono ?_
  rintro E w2 ⟨t, p, rfl, hP, hB⟩
  have HPE := hide hP
  have HB2 := hide ((unhide HB).trans (hB.mono (unhide HB).size))
  clear hP hB
  go_wp2
  go_ret2
  exact ⟨_, _, rfl, unhide HPE, unhide HB2⟩
theorem sendM_V (e : Nat → TypeId × Value) (vl : Value) (xs : List Int) (v : Vw) (node value : Int) (w : World) (hv : IntsIn w vl xs) (hp : planOk xs) (h : ¬ v.ok) (m : MOk e w) :
    Calls Tryd.prog 20 #[vl, v.val, .int .i64 node, .int .i64 value] w fun r w' => r = .returned (.tuple #[.string ⟨#[]⟩, .iface (e 1).1 (e 1).2]) ∧ Below w.heap.size w w' := by
  have hb : Below w.heap.size w (w.alloc (.cells #[.int .i64 v.me, .int .i64 v.mo, .int .i64 v.sl] 46)) := (Below.refl _ _).alloc (Nat.le_refl _) _
  have HP := hide (senderV e vl xs v _ (hv.below hb) hp h (m.g.p.below hb))
  have HB := hide hb
  obtain ⟨ad, cap, rfl, _⟩ := hv
  clear hp m hb h
  unfold Vw.val at HP ⊢
  go_enter Tryd.func20, Tryd.ntmps20
  go_wp2_with fail
  refine (unhide HP).mono ?_
  rintro E w2 ⟨rfl, hB⟩
  have HB2 := hide ((unhide HB).trans (hB.mono (unhide HB).size))
  clear hB
  go_wp2
  go_ret2
  exact ⟨rfl, unhide HB2⟩
theorem sendM_L (e : Nat → TypeId × Value) (vl : Value) (xs : List Int) (v : Vw) (node value : Int) (w : World) (hv : IntsIn w vl xs) (hp : planOk xs) (h : v.ok) (hne : whoV xs v ≠ node) (m : MOk e w) :
    Calls Tryd.prog 20 #[vl, v.val, .int .i64 node, .int .i64 value] w fun r w' => r = .returned (.tuple #[.string ⟨#[]⟩, .iface (e 8).1 (e 8).2]) ∧ Below w.heap.size w w' := by
  have hb : Below w.heap.size w (w.alloc (.cells #[.int .i64 v.me, .int .i64 v.mo, .int .i64 v.sl] 46)) := (Below.refl _ _).alloc (Nat.le_refl _) _
  have HP := hide (senderO e vl xs v _ (hv.below hb) hp h (m.g.p.below hb))
  have HE := hide (m.g.below hb).c8
  have HB := hide hb
  obtain ⟨ad, cap, rfl, _⟩ := hv
  clear hp m hb h
  generalize whoV xs v = x at *
  unfold Vw.val at HP ⊢
  go_enter Tryd.func20, Tryd.ntmps20
  go_wp2_with fail
  refine (unhide HP).mono ?_
  rintro E w2 ⟨rfl, hB⟩
  have HB2 := hide ((unhide HB).trans (hB.mono (unhide HB).size))
  have e8 := below_cell hB (unhide HE)
  clear hB
  go_wp2_with fail
  go_quiet (fail)
  go_wp2
  go_ret2
  exact ⟨rfl, below_draw (unhide HB2) _⟩
theorem sendM_O (e : Nat → TypeId × Value) (vl : Value) (xs : List Int) (v : Vw) (value : Int) (w : World) (hv : IntsIn w vl xs) (hp : planOk xs) (h : v.ok) (m : MOk e w) :
    Calls Tryd.prog 20 #[vl, v.val, .int .i64 (whoV xs v), .int .i64 value] w fun r w' => r = .returned (makeV (shE e) (sendF xs v (whoV xs v) value)) ∧ Below w.heap.size w w' := by
  have hb : Below w.heap.size w (w.alloc (.cells #[.int .i64 v.me, .int .i64 v.mo, .int .i64 v.sl] 46)) := (Below.refl _ _).alloc (Nat.le_refl _) _
  have HP := hide (senderO e vl xs v _ (hv.below hb) hp h (m.g.p.below hb))
  have HM : Hid (∀ w', Below w.heap.size w w' → Calls Tryd.prog 37 #[frmV (sendF xs v (whoV xs v) value)] w' fun r w2 => r = .returned (makeV (shE e) (sendF xs v (whoV xs v) value)) ∧ Below w'.heap.size w' w2) := fun w' hB => make_ok _ (shE e) w' (m.below hB).fr
  obtain ⟨h1, h2⟩ := who_at hp v
  have hc : v.me.toNat ≤ 65535 := by have := h.1; omega
  have hme : ((v.me.toNat : Nat) : Int) = v.me := by have := h.1; omega
  have HW : Hid (∀ w', Calls Tryd.prog 38 #[.agg #[.int .i64 v.me, .int .i64 v.mo, .int .i64 v.sl], .int .i64 (whoV xs v)] w' fun r w2 => r = .returned (.agg #[.int .i64 (withV xs v : Nat), .int .i64 v.mo, .int .i64 v.sl]) ∧ Below w'.heap.size w' w2) := fun w' => by
    have h3 := withM_ok v.me.toNat v.mo v.sl hc (atV xs v) h2 w'
    rw [hme, ← h1] at h3
    exact h3
  have HV := hide (VwAt.new w v)
  have HB := hide hb
  obtain ⟨ad, cap, rfl, _⟩ := hv
  clear hp m hb h h1 h2 hc hme
  unfold sendF at *
  obtain ⟨q1, q2, hq⟩ : ∃ q1 q2, makeV (shE e) ⟨whoV xs v, (withV xs v : Nat), v.mo, v.sl, value⟩ = .tuple #[q1, q2] := by
    unfold makeV
    split
    · exact ⟨_, _, rfl⟩
    · exact ⟨_, _, rfl⟩
  rw [hq] at HM ⊢
  clear hq
  generalize whoV xs v = x at *
  generalize withV xs v = y at *
  unfold Vw.val at HP ⊢
  unfold frmV at HM
  go_enter Tryd.func20, Tryd.ntmps20
  go_wp2_with fail
  refine (unhide HP).mono ?_
  rintro E w2 ⟨rfl, hB⟩
  obtain ⟨c0, c1, c2⟩ := (unhide HV).below hB
  have HB2 := hide ((unhide HB).trans (hB.mono (unhide HB).size))
  clear hB
  go_wp2_with fail
  refine (unhide HW _).mono ?_
  rintro E w3 ⟨rfl, hB⟩
  have HB3 := hide ((unhide HB2).trans (hB.mono (unhide HB2).size))
  clear hB c0 c1 c2
  go_wp2_with fail
  refine (unhide HM _ (unhide HB3)).mono ?_
  rintro E w4 ⟨rfl, hB⟩
  have HB4 := hide ((unhide HB3).trans (hB.mono (unhide HB3).size))
  clear hB
  go_wp2
  go_ret2
  exact ⟨rfl, unhide HB4⟩
end Go.Proofs.YtglhapkclpllfacDoor
