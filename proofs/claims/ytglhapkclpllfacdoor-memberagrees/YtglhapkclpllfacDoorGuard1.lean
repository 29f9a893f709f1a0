/-
  Contracts of package guard: Slot, Pass, Wait, whatever the plan, the slot's length, the node and the tick are.
  Conditions: package api's errors lie as laid (structure GSent).
-/
import Derived.Test.YtglhapkclpllfacDoorGuardMath
import Derived.Test.YtglhapkclpllfacDoorPlan2
namespace Go.Proofs.YtglhapkclpllfacDoor
open Go.RowKit

/-- The errors of package api that package guard answers: those of package plan; e 8 is ErrLate. -/
structure GSent (e : Nat → TypeId × Value) (w : World) : Prop where
  p : PSent e w
  c8 : w.cell? ⟨2, 0, none⟩ = some (.iface (e 8).1 (e 8).2)
theorem GSent.below {e : Nat → TypeId × Value} {w w' : World} (S : GSent e w) (hb : Below w.heap.size w w') : GSent e w' := ⟨S.p.below hb, below_cell hb S.c8⟩
/-- A slot's length and a tick that are right. -/
def tickOk (long t : Int) : Prop := (1 ≤ long ∧ long ≤ 1000000) ∧ 0 ≤ t ∧ t ≤ 1000000
theorem slotG_yes (long t : Nat) (w : World) (h : tickOk long t) :
    Calls Tryd.prog 47 #[.int .i64 long, .int .i64 t] w fun r w' => r = .returned (.tuple #[.int .i64 ((t / long : Nat) : Int), .nilIface]) ∧ Below w.heap.size w w' := by
  obtain ⟨⟨h1, h2⟩, h3, h4⟩ := h
  have h0 : ¬ (long : Int) = 0 := by omega
  have HW := hide (quo_wrap t long (by omega))
  go_enter Tryd.func47, Tryd.ntmps47
  go_wp2
  exact bodyPost_ret (v := .tuple #[.int .i64 ((t / long : Nat) : Int), .nilIface]) (by simp [results, Tryd.results47, go_sem]; exact unhide HW) rfl ⟨rfl, Below.refl _ _⟩
theorem slotG_no (e : Nat → TypeId × Value) (long t : Int) (w : World) (h : ¬ tickOk long t) (S : PSent e w) :
    Calls Tryd.prog 47 #[.int .i64 long, .int .i64 t] w fun r w' => r = .returned (.tuple #[.int .i64 0, .iface (e 1).1 (e 1).2]) ∧ Below w.heap.size w w' := by
  have hE := S.c1
  clear S
  by_cases h1 : long < 1
  · clear h
    go_enter Tryd.func47, Tryd.ntmps47
    go_wp2
    go_quiet (fail)
    go_wp2
    go_ret2
    exact ⟨rfl, below_draw (Below.refl _ _) _⟩
  by_cases h2 : 1000000 < long
  · clear h
    go_enter Tryd.func47, Tryd.ntmps47
    go_wp2
    go_quiet (fail)
    go_wp2
    go_ret2
    exact ⟨rfl, below_draw (Below.refl _ _) _⟩
  by_cases h3 : t < 0
  · clear h
    go_enter Tryd.func47, Tryd.ntmps47
    go_wp2
    go_quiet (fail)
    go_wp2
    go_ret2
    exact ⟨rfl, below_draw (Below.refl _ _) _⟩
  have h4 : 1000000 < t := by unfold tickOk at h; omega
  clear h
  go_enter Tryd.func47, Tryd.ntmps47
  go_wp2
  go_quiet (fail)
  go_wp2
  go_ret2
  exact ⟨rfl, below_draw (Below.refl _ _) _⟩
theorem passG_tick (e : Nat → TypeId × Value) (v : Value) (xs : List Int) (long node t : Int) (w : World) (hv : IntsIn w v xs) (h : ¬ tickOk long t) (S : GSent e w) :
    Calls Tryd.prog 63 #[v, .int .i64 long, .int .i64 node, .int .i64 t] w fun r w' => r = .returned (.iface (e 1).1 (e 1).2) ∧ Below w.heap.size w w' := by
  have HO := hide (slotG_no e long t w h S.p)
  obtain ⟨ad, cap, rfl, _⟩ := hv
  clear h S
  go_enter Tryd.func63, Tryd.ntmps63
  go_wp2_with fail
  refine (unhide HO).mono ?_
  rintro E w1 ⟨rfl, hB1⟩
  have HB1 := hide hB1
  clear hB1
  go_wp2
  go_ret
  exact ⟨rfl, unhide HB1⟩
theorem passG_plan (e : Nat → TypeId × Value) (v : Value) (xs : List Int) (long t : Nat) (node : Int) (w : World) (hv : IntsIn w v xs) (h : tickOk long t) (hp : ¬ planOk xs) (S : GSent e w) :
    Calls Tryd.prog 63 #[v, .int .i64 long, .int .i64 node, .int .i64 t] w fun r w' => ∃ ty p, r = .returned (.iface ty p) ∧ PlanErr e w' xs ty p ∧ Below w.heap.size w w' := by
  have HO := hide (slotG_yes long t w h)
  have HP : Hid (∀ w', Below w.heap.size w w' → Calls Tryd.prog 12 #[v, .int .i64 ((t / long : Nat) : Int)] w' fun r w2 => ∃ ty p, r = .returned (.tuple #[.int .i64 0, .iface ty p]) ∧ PlanErr e w2 xs ty p ∧ Below w'.heap.size w' w2) := fun w' hB => whoP_no e v xs _ w' (hv.below hB) hp (S.p.below hB)
  obtain ⟨ad, cap, rfl, _⟩ := hv
  clear h S hp
  generalize t / long = q at *
  go_enter Tryd.func63, Tryd.ntmps63
  go_wp2_with fail
  refine (unhide HO).mono ?_
  rintro E w1 ⟨rfl, hB1⟩
  have HB1 := hide hB1
  clear hB1
  go_wp2_with fail
  refine (unhide HP _ (unhide HB1)).mono ?_
  rintro E w2 ⟨ty, p, rfl, hE, hB2⟩
  have HB2 := hide ((unhide HB1).trans (hB2.mono (unhide HB1).size))
  have HE := hide hE
  clear hB2 hE
  go_wp2
  go_ret
  exact ⟨_, _, rfl, unhide HE, unhide HB2⟩
/-- A right tick, and a right plan: the node whose slot it is may send; another one is late. -/
theorem passG_ok (e : Nat → TypeId × Value) (v : Value) (xs : List Int) (long t : Nat) (node : Int) (w : World) (hv : IntsIn w v xs) (h : tickOk long t) (hp : planOk xs) (S : GSent e w) :
    Calls Tryd.prog 63 #[v, .int .i64 long, .int .i64 node, .int .i64 t] w fun r w' => r = .returned (if ownerAt xs long t = node then .nilIface else .iface (e 8).1 (e 8).2) ∧ Below w.heap.size w w' := by
  have HO := hide (slotG_yes long t w h)
  have HP : Hid (∀ w', Below w.heap.size w w' → Calls Tryd.prog 12 #[v, .int .i64 ((t / long : Nat) : Int)] w' fun r w2 => r = .returned (.tuple #[.int .i64 (ownerAt xs long t), .nilIface]) ∧ Below w'.heap.size w' w2) := fun w' hB => whoP_yes e v xs _ w' (hv.below hB) hp (Nat.le_trans (Nat.div_le_self _ _) (by have := h.2.2; omega)) (S.p.below hB)
  have HE := hide S.c8
  obtain ⟨ad, cap, rfl, _⟩ := hv
  clear h S hp
  generalize t / long = q at *
  generalize ownerAt xs long t = x at *
  by_cases hx : x = node
  · subst hx
    rw [if_pos rfl]
    go_enter Tryd.func63, Tryd.ntmps63
    go_wp2_with fail
    refine (unhide HO).mono ?_
    rintro E w1 ⟨rfl, hB1⟩
    have HB1 := hide hB1
    clear hB1
    go_wp2_with fail
    refine (unhide HP _ (unhide HB1)).mono ?_
    rintro E w2 ⟨rfl, hB2⟩
    have HB2 := hide ((unhide HB1).trans (hB2.mono (unhide HB1).size))
    clear hB2
    go_wp2
    go_ret
    exact ⟨rfl, unhide HB2⟩
  · rw [if_neg hx]
    go_enter Tryd.func63, Tryd.ntmps63
    go_wp2_with fail
    refine (unhide HO).mono ?_
    rintro E w1 ⟨rfl, hB1⟩
    have HB1 := hide hB1
    clear hB1
    go_wp2_with fail
    refine (unhide HP _ (unhide HB1)).mono ?_
    rintro E w2 ⟨rfl, hB2⟩
    have HB2 := hide ((unhide HB1).trans (hB2.mono (unhide HB1).size))
    have hE := below_cell (unhide HB2) (unhide HE)
    clear hB2
    go_wp2
    go_ret
    exact ⟨rfl, unhide HB2⟩
end Go.Proofs.YtglhapkclpllfacDoor
