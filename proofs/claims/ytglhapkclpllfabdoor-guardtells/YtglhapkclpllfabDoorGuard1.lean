/-
  Contracts of package guard: Slot, Pass, Wait, whatever the plan, the slot's length, the node and the tick are.
  Conditions: package api's errors lie as laid (structure GSent).
-/
import Derived.Test.YtglhapkclpllfabDoorGuardMath
import Derived.Test.YtglhapkclpllfabDoorPlan2
namespace Go.Proofs.YtglhapkclpllfabDoor
open Go.RowKit

/-- The errors of package api that package guard answers: those of package plan; e 8 is ErrLate. -/
structure GSent (e : Nat → TypeId × Value) (w : World) : Prop where
  p : PSent e w
  c8 : w.cell? ⟨1, 0, none⟩ = some (.iface (e 8).1 (e 8).2)
theorem GSent.below {e : Nat → TypeId × Value} {w w' : World} (S : GSent e w) (hb : Below w.heap.size w w') : GSent e w' := ⟨S.p.below hb, below_cell hb S.c8⟩
/-- A slot's length and a tick that are right. -/
def tickOk (long t : Int) : Prop := (1 ≤ long ∧ long ≤ 1000000) ∧ 0 ≤ t ∧ t ≤ 1000000
theorem slotG_yes (long t : Nat) (w : World) (h : tickOk long t) :
    Calls Tryd.prog 18 #[.int .i64 long, .int .i64 t] w fun r w' => r = .returned (.tuple #[.int .i64 ((t / long : Nat) : Int), .nilIface]) ∧ Below w.heap.size w w' := by
  obtain ⟨⟨h1, h2⟩, h3, h4⟩ := h
  have h0 : ¬ (long : Int) = 0 := by omega
  have HW := hide (quo_wrap t long (by omega))
  go_enter Tryd.func18, Tryd.ntmps18
  go_wp2
  exact bodyPost_ret (v := .tuple #[.int .i64 ((t / long : Nat) : Int), .nilIface]) (by simp [results, Tryd.results18, go_sem]; exact unhide HW) rfl ⟨rfl, Below.refl _ _⟩
theorem slotG_no (e : Nat → TypeId × Value) (long t : Int) (w : World) (h : ¬ tickOk long t) (S : PSent e w) :
    Calls Tryd.prog 18 #[.int .i64 long, .int .i64 t] w fun r w' => r = .returned (.tuple #[.int .i64 0, .iface (e 1).1 (e 1).2]) ∧ Below w.heap.size w w' := by
  have hE := S.c1
  clear S
  by_cases h1 : long < 1
  · clear h
    go_enter Tryd.func18, Tryd.ntmps18
    go_wp2
    go_quiet (fail)
    go_wp2
    go_ret2
    exact ⟨rfl, below_draw (Below.refl _ _) _⟩
  by_cases h2 : 1000000 < long
  · clear h
    go_enter Tryd.func18, Tryd.ntmps18
    go_wp2
    go_quiet (fail)
    go_wp2
    go_ret2
    exact ⟨rfl, below_draw (Below.refl _ _) _⟩
  by_cases h3 : t < 0
  · clear h
    go_enter Tryd.func18, Tryd.ntmps18
    go_wp2
    go_quiet (fail)
    go_wp2
    go_ret2
    exact ⟨rfl, below_draw (Below.refl _ _) _⟩
  have h4 : 1000000 < t := by unfold tickOk at h; omega
  clear h
  go_enter Tryd.func18, Tryd.ntmps18
  go_wp2
  go_quiet (fail)
  go_wp2
  go_ret2
  exact ⟨rfl, below_draw (Below.refl _ _) _⟩
theorem passG_tick (e : Nat → TypeId × Value) (v : Value) (xs : List Int) (long node t : Int) (w : World) (hv : IntsIn w v xs) (h : ¬ tickOk long t) (S : GSent e w) :
    Calls Tryd.prog 20 #[v, .int .i64 long, .int .i64 node, .int .i64 t] w fun r w' => r = .returned (.iface (e 1).1 (e 1).2) ∧ Below w.heap.size w w' := by
  have HO := hide (slotG_no e long t w h S.p)
  obtain ⟨ad, cap, rfl, _⟩ := hv
  clear h S
  go_enter Tryd.func20, Tryd.ntmps20
  go_wp2_with fail
  refine (unhide HO).mono ?_
  rintro E w1 ⟨rfl, hB1⟩
  have HB1 := hide hB1
  clear hB1
  go_wp2
  go_ret
  exact ⟨rfl, unhide HB1⟩
theorem passG_plan (e : Nat → TypeId × Value) (v : Value) (xs : List Int) (long t : Nat) (node : Int) (w : World) (hv : IntsIn w v xs) (h : tickOk long t) (hp : ¬ planOk xs) (S : GSent e w) :
    Calls Tryd.prog 20 #[v, .int .i64 long, .int .i64 node, .int .i64 t] w fun r w' => ∃ ty p, r = .returned (.iface ty p) ∧ PlanErr e w' xs ty p ∧ Below w.heap.size w w' := by
  have HO := hide (slotG_yes long t w h)
  have HP : Hid (∀ w', Below w.heap.size w w' → Calls Tryd.prog 36 #[v, .int .i64 ((t / long : Nat) : Int)] w' fun r w2 => ∃ ty p, r = .returned (.tuple #[.int .i64 0, .iface ty p]) ∧ PlanErr e w2 xs ty p ∧ Below w'.heap.size w' w2) := fun w' hB => whoP_no e v xs _ w' (hv.below hB) hp (S.p.below hB)
  obtain ⟨ad, cap, rfl, _⟩ := hv
  clear h S hp
  generalize t / long = q at *
  go_enter Tryd.func20, Tryd.ntmps20
  go_wp2_with fail
  refine (unhide HO).mono ?_
  rintro E w1 ⟨rfl, hB1⟩
  have HB1 := hide hB1
  clear hB1
  go_wp2_with fail
  refine (unhide HP _ (unhide HB1)).mono ?_
  rintro E w2 ⟨ty, p, rfl, hE, hB2⟩
  have HB2 := hide ((unhide HB1).trans (hB2.mono (unhide HB1).size))
  have HE := hide hE
  clear hB2 hE
  go_wp2
  go_ret
  exact ⟨_, _, rfl, unhide HE, unhide HB2⟩
/-- A right tick, and a right plan: the node whose slot it is may send; another one is late. -/
theorem passG_ok (e : Nat → TypeId × Value) (v : Value) (xs : List Int) (long t : Nat) (node : Int) (w : World) (hv : IntsIn w v xs) (h : tickOk long t) (hp : planOk xs) (S : GSent e w) :
    Calls Tryd.prog 20 #[v, .int .i64 long, .int .i64 node, .int .i64 t] w fun r w' => r = .returned (if ownerAt xs long t = node then .nilIface else .iface (e 8).1 (e 8).2) ∧ Below w.heap.size w w' := by
  have HO := hide (slotG_yes long t w h)
  have HP : Hid (∀ w', Below w.heap.size w w' → Calls Tryd.prog 36 #[v, .int .i64 ((t / long : Nat) : Int)] w' fun r w2 => r = .returned (.tuple #[.int .i64 (ownerAt xs long t), .nilIface]) ∧ Below w'.heap.size w' w2) := fun w' hB => whoP_yes e v xs _ w' (hv.below hB) hp (Nat.le_trans (Nat.div_le_self _ _) (by have := h.2.2; omega)) (S.p.below hB)
  have HE := hide S.c8
  obtain ⟨ad, cap, rfl, _⟩ := hv
  clear h S hp
  generalize t / long = q at *
  generalize ownerAt xs long t = x at *
  by_cases hx : x = node
  · subst hx
    rw [if_pos rfl]
    go_enter Tryd.func20, Tryd.ntmps20
    go_wp2_with fail
    refine (unhide HO).mono ?_
    rintro E w1 ⟨rfl, hB1⟩
    have HB1 := hide hB1
    clear hB1
    go_wp2_with fail
    refine (unhide HP _ (unhide HB1)).mono ?_
    rintro E w2 ⟨rfl, hB2⟩
    have HB2 := hide ((unhide HB1).trans (hB2.mono (unhide HB1).size))
    clear hB2
    go_wp2
    go_ret
    exact ⟨rfl, unhide HB2⟩
  · rw [if_neg hx]
    go_enter Tryd.func20, Tryd.ntmps20
    go_wp2_with fail
    refine (unhide HO).mono ?_
    rintro E w1 ⟨rfl, hB1⟩
    have HB1 := hide hB1
    clear hB1
    go_wp2_with fail
    refine (unhide HP _ (unhide HB1)).mono ?_
    rintro E w2 ⟨rfl, hB2⟩
    have HB2 := hide ((unhide HB1).trans (hB2.mono (unhide HB1).size))
    have hE := below_cell (unhide HB2) (unhide HE)
    clear hB2
    go_wp2
    go_ret
    exact ⟨rfl, unhide HB2⟩
theorem waitG_tick (e : Nat → TypeId × Value) (v : Value) (xs : List Int) (long node t : Int) (w : World) (hv : IntsIn w v xs) (h : ¬ tickOk long t) (S : GSent e w) :
    Calls Tryd.prog 21 #[v, .int .i64 long, .int .i64 node, .int .i64 t] w fun r w' => r = .returned (.tuple #[.int .i64 0, .iface (e 1).1 (e 1).2]) ∧ Below w.heap.size w w' := by
  have HO := hide (slotG_no e long t w h S.p)
  obtain ⟨ad, cap, rfl, _⟩ := hv
  clear h S
  go_enter Tryd.func21, Tryd.ntmps21
  go_wp2_with fail
  refine (unhide HO).mono ?_
  rintro E w1 ⟨rfl, hB1⟩
  have HB1 := hide hB1
  clear hB1
  go_wp2
  go_ret2
  exact ⟨rfl, unhide HB1⟩
theorem waitG_plan (e : Nat → TypeId × Value) (v : Value) (xs : List Int) (long t : Nat) (node : Int) (w : World) (hv : IntsIn w v xs) (h : tickOk long t) (hp : ¬ planOk xs) (S : GSent e w) :
    Calls Tryd.prog 21 #[v, .int .i64 long, .int .i64 node, .int .i64 t] w fun r w' => ∃ ty p, r = .returned (.tuple #[.int .i64 0, .iface ty p]) ∧ PlanErr e w' xs ty p ∧ Below w.heap.size w w' := by
  have HO := hide (slotG_yes long t w h)
  have HP : Hid (∀ w', Below w.heap.size w w' → Calls Tryd.prog 37 #[v, .int .i64 node, .int .i64 ((t / long : Nat) : Int)] w' fun r w2 => ∃ ty p, r = .returned (.tuple #[.int .i64 0, .iface ty p]) ∧ PlanErr e w2 xs ty p ∧ Below w'.heap.size w' w2) := fun w' hB => nextP_no e v xs node _ w' (hv.below hB) hp (S.p.below hB)
  obtain ⟨ad, cap, rfl, _⟩ := hv
  clear h S hp
  generalize t / long = q at *
  go_enter Tryd.func21, Tryd.ntmps21
  go_wp2_with fail
  refine (unhide HO).mono ?_
  rintro E w1 ⟨rfl, hB1⟩
  have HB1 := hide hB1
  clear hB1
  go_wp2_with fail
  refine (unhide HP _ (unhide HB1)).mono ?_
  rintro E w2 ⟨ty, p, rfl, hE, hB2⟩
  have HB2 := hide ((unhide HB1).trans (hB2.mono (unhide HB1).size))
  have HE := hide hE
  clear hB2 hE
  go_wp2
  go_ret2
  exact ⟨_, _, rfl, unhide HE, unhide HB2⟩
theorem waitG_none (e : Nat → TypeId × Value) (v : Value) (xs : List Int) (long t : Nat) (node : Int) (w : World) (hv : IntsIn w v xs) (h : tickOk long t) (hp : planOk xs) (hno : node ∉ xs) (S : GSent e w) :
    Calls Tryd.prog 21 #[v, .int .i64 long, .int .i64 node, .int .i64 t] w fun r w' => r = .returned (.tuple #[.int .i64 0, .iface (e 4).1 (e 4).2]) ∧ Below w.heap.size w w' := by
  have HO := hide (slotG_yes long t w h)
  have HP : Hid (∀ w', Below w.heap.size w w' → Calls Tryd.prog 37 #[v, .int .i64 node, .int .i64 ((t / long : Nat) : Int)] w' fun r w2 => r = .returned (.tuple #[.int .i64 0, .iface (e 4).1 (e 4).2]) ∧ Below w'.heap.size w' w2) := fun w' hB => nextP_none e v xs node _ w' (hv.below hB) hp (Nat.le_trans (Nat.div_le_self _ _) (by have := h.2.2; omega)) (S.p.below hB) hno
  obtain ⟨ad, cap, rfl, _⟩ := hv
  clear h S hp hno
  generalize t / long = q at *
  go_enter Tryd.func21, Tryd.ntmps21
  go_wp2_with fail
  refine (unhide HO).mono ?_
  rintro E w1 ⟨rfl, hB1⟩
  have HB1 := hide hB1
  clear hB1
  go_wp2_with fail
  refine (unhide HP _ (unhide HB1)).mono ?_
  rintro E w2 ⟨rfl, hB2⟩
  have HB2 := hide ((unhide HB1).trans (hB2.mono (unhide HB1).size))
  clear hB2
  go_wp2
  go_ret2
  exact ⟨rfl, unhide HB2⟩
/-- The first tick from t on at which the node may send, or an error where that is above the last tick. -/
theorem waitG_ok (e : Nat → TypeId × Value) (v : Value) (xs : List Int) (long t m : Nat) (node : Int) (w : World) (hv : IntsIn w v xs) (h : tickOk long t) (hp : planOk xs) (S : GSent e w)
    (hm : m < xs.length) (hno : ∀ i, i < m → (rot xs (t / long % xs.length)).getD i 0 ≠ node) (hat : (rot xs (t / long % xs.length)).getD m 0 = node) :
    Calls Tryd.prog 21 #[v, .int .i64 long, .int .i64 node, .int .i64 t] w fun r w' => r = .returned (if waitAt long t m ≤ 1000000 then .tuple #[.int .i64 (waitAt long t m : Nat), .nilIface] else .tuple #[.int .i64 0, .iface (e 1).1 (e 1).2]) ∧ Below w.heap.size w w' := by
  have hq : t / long ≤ 1000000 := Nat.le_trans (Nat.div_le_self _ _) (by have := h.2.2; omega)
  have HO := hide (slotG_yes long t w h)
  have HP : Hid (∀ w', Below w.heap.size w w' → Calls Tryd.prog 37 #[v, .int .i64 node, .int .i64 ((t / long : Nat) : Int)] w' fun r w2 => r = .returned (.tuple #[.int .i64 ((t / long + m : Nat) : Int), .nilIface]) ∧ Below w'.heap.size w' w2) := fun w' hB => nextP_yes e v xs node _ m w' (hv.below hB) hp hq (S.p.below hB) hm hno hat
  have HE := hide S.p.c1
  obtain ⟨ad, cap, rfl, _⟩ := hv
  have hm32 : m < 32 := by have := hp.2.1; omega
  obtain ⟨⟨h1, h2⟩, h3, h4⟩ := h
  have hmul : (t / long + m) * long ≤ 1000031 * 1000000 := Nat.mul_le_mul (by omega) (by omega)
  have HW : Hid (waitAt long t m = max t ((t / long + m) * long)) := rfl
  clear S hp hno hat hm
  generalize waitAt long t m = z at *
  generalize t / long + m = s at *
  generalize t / long = q at *
  have hmi : (s : Int) * (long : Int) = ((s * long : Nat) : Int) := by simp
  generalize s * long = y at *
  have walk : ∀ r : Nat, (t : Int) ≤ (r : Int) → (y : Int) ≤ (r : Int) → (r = t ∧ y ≤ t ∨ r = y ∧ t < y) → Calls Tryd.prog 21 #[.slice ad xs.length cap, .int .i64 long, .int .i64 node, .int .i64 t] w fun R w' => R = .returned (if r ≤ 1000000 then .tuple #[.int .i64 (r : Int), .nilIface] else .tuple #[.int .i64 0, .iface (e 1).1 (e 1).2]) ∧ Below w.heap.size w w' := by
    intro r hr1 hr2 hr
    clear HW
    rcases hr with ⟨rfl, hyt⟩ | ⟨rfl, hty⟩
    · rw [if_pos (by omega)]
      go_enter Tryd.func21, Tryd.ntmps21
      go_wp2_with fail
      refine (unhide HO).mono ?_
      rintro E w1 ⟨rfl, hB1⟩
      have HB1 := hide hB1
      clear hB1
      go_wp2_with fail
      refine (unhide HP _ (unhide HB1)).mono ?_
      rintro E w2 ⟨rfl, hB2⟩
      have HB2 := hide ((unhide HB1).trans (hB2.mono (unhide HB1).size))
      clear hB2
      go_wp2
      go_ret2
      exact ⟨rfl, unhide HB2⟩
    · by_cases hz : r ≤ 1000000
      · rw [if_pos hz]
        go_enter Tryd.func21, Tryd.ntmps21
        go_wp2_with fail
        refine (unhide HO).mono ?_
        rintro E w1 ⟨rfl, hB1⟩
        have HB1 := hide hB1
        clear hB1
        go_wp2_with fail
        refine (unhide HP _ (unhide HB1)).mono ?_
        rintro E w2 ⟨rfl, hB2⟩
        have HB2 := hide ((unhide HB1).trans (hB2.mono (unhide HB1).size))
        clear hB2
        go_wp2
        go_ret2
        exact ⟨rfl, unhide HB2⟩
      · rw [if_neg hz]
        go_enter Tryd.func21, Tryd.ntmps21
        go_wp2_with fail
        refine (unhide HO).mono ?_
        rintro E w1 ⟨rfl, hB1⟩
        have HB1 := hide hB1
        clear hB1
        go_wp2_with fail
        refine (unhide HP _ (unhide HB1)).mono ?_
        rintro E w2 ⟨rfl, hB2⟩
        have HB2 := hide ((unhide HB1).trans (hB2.mono (unhide HB1).size))
        have hE := below_cell (unhide HB2) (unhide HE)
        clear hB2
        go_wp2
        go_quiet (fail)
        go_wp2
        go_ret2
        exact ⟨rfl, below_draw (unhide HB2) _⟩
  have hz := unhide HW
  rcases Nat.lt_or_ge t y with hty | hyt
  · rw [Nat.max_eq_right (Nat.le_of_lt hty)] at hz
    subst hz
    exact walk z (by omega) (by omega) (Or.inr ⟨rfl, hty⟩)
  · rw [Nat.max_eq_left hyt] at hz
    subst hz
    exact walk z (by omega) (by omega) (Or.inl ⟨rfl, hyt⟩)
end Go.Proofs.YtglhapkclpllfabDoor
