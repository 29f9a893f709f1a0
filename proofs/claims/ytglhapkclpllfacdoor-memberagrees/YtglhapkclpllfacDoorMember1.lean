/-
  Contracts of package member: bit, with, without, Check, sender.
  Conditions: package api's errors lie as laid (structure GSent).
-/
import Derived.Test.YtglhapkclpllfacDoorMemberWorld
import Derived.Deep.RegionHeld3
namespace Go.Proofs.YtglhapkclpllfacDoor
open Go.RowKit

theorem i64_less (a b : Nat) (ha : a ≤ 65535) (hb : b ≤ 65535) : bits .andNot .i64 (a : Int) (b : Int) = ((a &&& (65535 - b) : Nat) : Int) := by
  show IntKind.i64.wrap ((BitVec.ofInt 64 (a : Int) &&& ~~~BitVec.ofInt 64 (b : Int)).toNat : Int) = _
  have e1 : ∀ n : Nat, n ≤ 65535 → (BitVec.ofInt 64 (n : Int)).toNat = n := fun n hn => by
    rw [BitVec.ofInt_natCast, BitVec.toNat_ofNat]; exact Nat.mod_eq_of_lt (by omega)
  rw [BitVec.toNat_and, BitVec.toNat_not, e1 a ha, e1 b hb]
  have e2 : a &&& (2 ^ 64 - 1 - b) = a &&& (65535 - b) := by
    apply Nat.eq_of_testBit_eq
    intro i
    rw [Nat.testBit_and, Nat.testBit_and, show 2 ^ 64 - 1 - b = 2 ^ 64 - (b + 1) by omega, show 65535 - b = 2 ^ 16 - (b + 1) by omega, Nat.testBit_two_pow_sub_succ (by omega), Nat.testBit_two_pow_sub_succ (by omega)]
    by_cases hi : i < 16
    · have : i < 64 := by omega
      simp [hi, this]
    · have : a.testBit i = false := Nat.testBit_lt_two_pow (Nat.lt_of_lt_of_le (show a < 2 ^ 16 by omega) (Nat.pow_le_pow_right (by omega) (by omega)))
      simp [this]
  rw [e2, IntKind.wrap_i64]
  have := Cm.and_le a (65535 - b) ha
  omega
theorem bitM_ok (n : Nat) (h1 : 1 ≤ n) (h2 : n ≤ 16) (w : World) : Calls Tryd.prog 59 #[.int .i64 n] w fun e w' => e = .returned (.int .i64 ((2 ^ (n - 1) : Nat) : Int)) ∧ w' = w := by
  have h5 : ¬ ((n : Int) - 1 < 0) := by omega
  go_enter Tryd.func59, Tryd.ntmps59
  go_wp2
  go_ret
  exact ⟨ret_int (pow_wrap n h2), rfl⟩
/-- A view with a node among its members. -/
theorem withM_ok (c : Nat) (mo sl : Int) (hc : c ≤ 65535) (k : Nat) (hk : k < 16) (w : World) :
    Calls Tryd.prog 38 #[.agg #[.int .i64 c, .int .i64 mo, .int .i64 sl], .int .i64 ((k : Int) + 1)] w fun r w' => r = .returned (.agg #[.int .i64 (withN c k : Nat), .int .i64 mo, .int .i64 sl]) ∧ Below w.heap.size w w' := by
  have HBt : Hid (∀ w', Calls Tryd.prog 59 #[.int .i64 ((k : Int) + 1)] w' fun e w2 => e = .returned (.int .i64 ((2 ^ k : Nat) : Int)) ∧ w2 = w') := fun w' => bitM_ok (k + 1) (by omega) (by omega) w'
  have ho : bits .or .i64 (c : Int) ((2 ^ k : Nat) : Int) = ((withN c k : Nat) : Int) := i64_or c (2 ^ k) hc (pow_16 k hk)
  generalize 2 ^ k = q at *
  generalize withN c k = x at *
  go_enter Tryd.func38, Tryd.ntmps38
  go_wp2_with fail
  go_region_with (go_at_call 59; refine (unhide HBt _).mono ?_; rintro E w8 ⟨rfl, rfl⟩)
  all_goals (try go_wp2)
  all_goals exact bodyPost_ret (v := .agg #[.int .i64 x, .int .i64 mo, .int .i64 sl]) (by simp [results, Tryd.results38, go_sem]) rfl ⟨rfl, (((Below.refl _ w).alloc (Nat.le_refl _) _).alloc (by simp) _).drew⟩
/-- A view without a node among its members. -/
theorem lessM_ok (c : Nat) (mo sl : Int) (hc : c ≤ 65535) (k : Nat) (hk : k < 16) (w : World) :
    Calls Tryd.prog 39 #[.agg #[.int .i64 c, .int .i64 mo, .int .i64 sl], .int .i64 ((k : Int) + 1)] w fun r w' => r = .returned (.agg #[.int .i64 (lessN c k : Nat), .int .i64 mo, .int .i64 sl]) ∧ Below w.heap.size w w' := by
  have HBt : Hid (∀ w', Calls Tryd.prog 59 #[.int .i64 ((k : Int) + 1)] w' fun e w2 => e = .returned (.int .i64 ((2 ^ k : Nat) : Int)) ∧ w2 = w') := fun w' => bitM_ok (k + 1) (by omega) (by omega) w'
  have ho : bits .andNot .i64 (c : Int) ((2 ^ k : Nat) : Int) = ((lessN c k : Nat) : Int) := i64_less c (2 ^ k) hc (pow_16 k hk)
  generalize 2 ^ k = q at *
  generalize lessN c k = x at *
  go_enter Tryd.func39, Tryd.ntmps39
  go_wp2_with fail
  go_region_with (go_at_call 59; refine (unhide HBt _).mono ?_; rintro E w8 ⟨rfl, rfl⟩)
  all_goals (try go_wp2)
  all_goals exact bodyPost_ret (v := .agg #[.int .i64 x, .int .i64 mo, .int .i64 sl]) (by simp [results, Tryd.results39, go_sem]) rfl ⟨rfl, (((Below.refl _ w).alloc (Nat.le_refl _) _).alloc (by simp) _).drew⟩
theorem checkM_yes (x : Vw) (h : x.ok) (w : World) : Calls Tryd.prog 19 #[x.val] w fun r w' => r = .returned .nilIface ∧ Below w.heap.size w w' := by
  obtain ⟨me, mo, sl⟩ := x
  obtain ⟨⟨a1, a2⟩, ⟨a3, a4⟩, a5, a6⟩ := h
  simp only at a1 a2 a3 a4 a5 a6
  obtain ⟨c, rfl⟩ : ∃ c : Nat, me = (c : Int) := ⟨me.toNat, by omega⟩
  have HC := hide (check_ok c (by omega))
  have HB := hide (show Below w.heap.size w (w.alloc (.cells #[.int .i64 c, .int .i64 mo, .int .i64 sl] 46)) from (Below.refl _ _).alloc (Nat.le_refl _) _)
  have b1 : ¬ mo < 0 := by omega
  have b2 : ¬ 4 ≤ mo := by omega
  have b3 : ¬ sl < 0 := by omega
  have b4 : ¬ 1000000 < sl := by omega
  clear a1 a2 a3 a4 a5 a6
  unfold Vw.val
  go_enter Tryd.func19, Tryd.ntmps19
  go_wp2_with fail
  refine (unhide HC _).mono ?_
  rintro E w2 ⟨rfl, rfl⟩
  go_wp2
  go_ret
  exact ⟨rfl, unhide HB⟩
theorem checkM_no (x : Vw) (h : ¬ x.ok) (ev : Value) (hev : ∃ t p, ev = .iface t p) (w : World) (hE : w.cell? ⟨1, 0, none⟩ = some ev) : Calls Tryd.prog 19 #[x.val] w fun r w' => r = .returned ev ∧ Below w.heap.size w w' := by
  obtain ⟨ty, pv, rfl⟩ := hev
  obtain ⟨me, mo, sl⟩ := x
  have hb : Below w.heap.size w (w.alloc (.cells #[.int .i64 me, .int .i64 mo, .int .i64 sl] 46)) := (Below.refl _ _).alloc (Nat.le_refl _) _
  have hE1 := below_cell hb hE
  have HB := hide hb
  clear hb hE
  unfold Vw.val
  by_cases hc : me < 0 ∨ 65535 < me
  · have HC := hide (check_bad me hc)
    clear h hc
    go_enter Tryd.func19, Tryd.ntmps19
    go_wp2_with fail
    refine (unhide HC _ _ hE1).mono ?_
    rintro E w2 ⟨rfl, rfl⟩
    go_wp2
    go_ret
    exact ⟨rfl, unhide HB⟩
  obtain ⟨c, rfl⟩ : ∃ c : Nat, me = (c : Int) := ⟨me.toNat, by omega⟩
  have HC := hide (check_ok c (by omega))
  have h' : ¬ (0 ≤ mo ∧ mo ≤ 3 ∧ 0 ≤ sl ∧ sl ≤ 1000000) := fun hh => h ⟨⟨by show (0 : Int) ≤ (c : Int); omega, by show (c : Int) ≤ 65535; omega⟩, ⟨hh.1, hh.2.1⟩, hh.2.2⟩
  clear h hc
  by_cases b1 : mo < 0
  · clear h'
    go_enter Tryd.func19, Tryd.ntmps19
    go_wp2_with fail
    refine (unhide HC _).mono ?_
    rintro E w2 ⟨rfl, rfl⟩
    go_wp2
    go_ret
    exact ⟨rfl, unhide HB⟩
  by_cases b2 : 4 ≤ mo
  · clear h'
    go_enter Tryd.func19, Tryd.ntmps19
    go_wp2_with fail
    refine (unhide HC _).mono ?_
    rintro E w2 ⟨rfl, rfl⟩
    go_wp2
    go_ret
    exact ⟨rfl, unhide HB⟩
  by_cases b3 : sl < 0
  · clear h'
    go_enter Tryd.func19, Tryd.ntmps19
    go_wp2_with fail
    refine (unhide HC _).mono ?_
    rintro E w2 ⟨rfl, rfl⟩
    go_wp2
    go_ret
    exact ⟨rfl, unhide HB⟩
  · have b4 : 1000000 < sl := by omega
    clear h'
    go_enter Tryd.func19, Tryd.ntmps19
    go_wp2_with fail
    refine (unhide HC _).mono ?_
    rintro E w2 ⟨rfl, rfl⟩
    go_wp2
    go_ret
    exact ⟨rfl, unhide HB⟩
/-- A view's block, of the call's own. -/
structure VwAt (w : World) (b : Nat) (v : Vw) : Prop where
  c0 : w.cell? ⟨b, 0, none⟩ = some (.int .i64 v.me)
  c1 : w.cell? ⟨b, 1, none⟩ = some (.int .i64 v.mo)
  c2 : w.cell? ⟨b, 2, none⟩ = some (.int .i64 v.sl)
theorem VwAt.below {w w' : World} {b : Nat} {v : Vw} (h : VwAt w b v) (hB : Below w.heap.size w w') : VwAt w' b v := ⟨below_cell hB h.c0, below_cell hB h.c1, below_cell hB h.c2⟩
theorem VwAt.new (w : World) (v : Vw) : VwAt (w.alloc (.cells #[.int .i64 v.me, .int .i64 v.mo, .int .i64 v.sl] 46)) w.heap.size v := ⟨by simp, by simp, by simp⟩
theorem checkP_yesB (e : Nat → TypeId × Value) (v : Value) (xs : List Int) (w : World) (hv : IntsIn w v xs) (h : planOk xs) (S : PSent e w) : Calls Tryd.prog 18 #[v] w fun r w' => r = .returned .nilIface ∧ Below w.heap.size w w' :=
  (checkP_yes e v xs w hv h S).mono (by
    rintro r w' ⟨rfl, rfl⟩
    exact ⟨rfl, Below.refl _ _⟩)
/-- The sender: a plan that is not right. -/
theorem senderP (e : Nat → TypeId × Value) (vl : Value) (xs : List Int) (v : Vw) (w : World) (hv : IntsIn w vl xs) (hp : ¬ planOk xs) (S : PSent e w) :
    Calls Tryd.prog 36 #[vl, v.val] w fun r w' => ∃ t p, r = .returned (.tuple #[.int .i64 0, .iface t p]) ∧ PlanErr e w' xs t p ∧ Below w.heap.size w w' := by
  have hb : Below w.heap.size w (w.alloc (.cells #[.int .i64 v.me, .int .i64 v.mo, .int .i64 v.sl] 46)) := (Below.refl _ _).alloc (Nat.le_refl _) _
  have HP := hide (checkP_no e vl xs _ (hv.below hb) hp (S.below hb))
  have HB := hide hb
  obtain ⟨ad, cap, rfl, _⟩ := hv
  clear hp S hb
  unfold Vw.val
  go_enter Tryd.func36, Tryd.ntmps36
  go_wp2_with fail
  refine (unhide HP).mono ?_
  rintro E w2 ⟨t, p, rfl, hP, hB⟩
  have HPE := hide hP
  have HB2 := hide ((unhide HB).trans (hB.mono (unhide HB).size))
  clear hP hB
  go_wp2
  go_ret2
  exact ⟨_, _, rfl, unhide HPE, unhide HB2⟩
/-- The sender: a view that is not right. -/
theorem senderV (e : Nat → TypeId × Value) (vl : Value) (xs : List Int) (v : Vw) (w : World) (hv : IntsIn w vl xs) (hp : planOk xs) (h : ¬ v.ok) (S : PSent e w) :
    Calls Tryd.prog 36 #[vl, v.val] w fun r w' => r = .returned (.tuple #[.int .i64 0, .iface (e 1).1 (e 1).2]) ∧ Below w.heap.size w w' := by
  have hb : Below w.heap.size w (w.alloc (.cells #[.int .i64 v.me, .int .i64 v.mo, .int .i64 v.sl] 46)) := (Below.refl _ _).alloc (Nat.le_refl _) _
  have HP := hide (checkP_yesB e vl xs _ (hv.below hb) hp (S.below hb))
  have HC : Hid (∀ w', Below w.heap.size w w' → Calls Tryd.prog 19 #[v.val] w' fun r w2 => r = .returned (.iface (e 1).1 (e 1).2) ∧ Below w'.heap.size w' w2) := fun w' hB => checkM_no v h _ ⟨_, _, rfl⟩ w' (S.below hB).c1
  have HV := hide (VwAt.new w v)
  have HB := hide hb
  obtain ⟨ad, cap, rfl, _⟩ := hv
  clear hp S hb h
  unfold Vw.val at HC ⊢
  go_enter Tryd.func36, Tryd.ntmps36
  go_wp2_with fail
  refine (unhide HP).mono ?_
  rintro E w2 ⟨rfl, hB⟩
  obtain ⟨c0, c1, c2⟩ := (unhide HV).below hB
  have HB2 := hide ((unhide HB).trans (hB.mono (unhide HB).size))
  clear hB
  go_wp2_with fail
  refine (unhide HC _ (unhide HB2)).mono ?_
  rintro E w3 ⟨rfl, hB⟩
  have HB3 := hide ((unhide HB2).trans (hB.mono (unhide HB2).size))
  clear hB c0 c1 c2
  go_wp2
  go_ret2
  exact ⟨rfl, unhide HB3⟩
/-- The sender: who has the slot. -/
theorem senderO (e : Nat → TypeId × Value) (vl : Value) (xs : List Int) (v : Vw) (w : World) (hv : IntsIn w vl xs) (hp : planOk xs) (h : v.ok) (S : PSent e w) :
    Calls Tryd.prog 36 #[vl, v.val] w fun r w' => r = .returned (.tuple #[.int .i64 (whoV xs v), .nilIface]) ∧ Below w.heap.size w w' := by
  have hb : Below w.heap.size w (w.alloc (.cells #[.int .i64 v.me, .int .i64 v.mo, .int .i64 v.sl] 46)) := (Below.refl _ _).alloc (Nat.le_refl _) _
  have HP := hide (checkP_yesB e vl xs _ (hv.below hb) hp (S.below hb))
  have HC := hide (fun w' => checkM_yes v h w')
  have HW : Hid (∀ w', Below w.heap.size w w' → Calls Tryd.prog 12 #[vl, .int .i64 v.sl] w' fun r w2 => r = .returned (.tuple #[.int .i64 (whoV xs v), .nilIface]) ∧ Below w'.heap.size w' w2) := fun w' hB => by
    have h1 := whoP_yes e vl xs v.sl.toNat w' (hv.below hB) hp (by have := h.2.2; omega) (S.below hB)
    rw [Int.toNat_of_nonneg h.2.2.1] at h1
    exact h1
  have HV := hide (VwAt.new w v)
  have HB := hide hb
  obtain ⟨ad, cap, rfl, _⟩ := hv
  clear hp S hb h
  generalize whoV xs v = x at *
  unfold Vw.val at HC ⊢
  go_enter Tryd.func36, Tryd.ntmps36
  go_wp2_with fail
  refine (unhide HP).mono ?_
  rintro E w2 ⟨rfl, hB⟩
  have HV2 := hide ((unhide HV).below hB)
  obtain ⟨c0, c1, c2⟩ := unhide HV2
  have HB2 := hide ((unhide HB).trans (hB.mono (unhide HB).size))
  clear hB
  go_wp2_with fail
  refine (unhide HC _).mono ?_
  rintro E w3 ⟨rfl, hB⟩
  have HB3 := hide ((unhide HB2).trans (hB.mono (unhide HB2).size))
  clear c0 c1 c2
  obtain ⟨c0, c1, c2⟩ := (unhide HV2).below hB
  clear hB
  go_wp2_with fail
  refine (unhide HW _ (unhide HB3)).mono ?_
  rintro E w4 ⟨rfl, hB⟩
  have HB4 := hide ((unhide HB3).trans (hB.mono (unhide HB3).size))
  clear hB c0 c1 c2
  go_wp2
  go_ret2
  exact ⟨rfl, unhide HB4⟩
end Go.Proofs.YtglhapkclpllfacDoor
