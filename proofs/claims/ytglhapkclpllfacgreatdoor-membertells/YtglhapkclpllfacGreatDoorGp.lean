/-
  Plain mathematics of membership: what is good of what is heard; the frame that is sent.
-/
import Derived.Test.YtglhapkclpllfacGreatDoorGm
import Derived.Test.YtglhapkclpllfacGreatDoorFrameMath
import Derived.Test.YtglhapkclpllfacGreatDoorGa
import Derived.Test.YtglhapkclpllfacGreatDoorFrame5
import Derived.Deep.RegionHeld3
namespace Go.Proofs.YtglhapkclpllfacGreatDoor
open Go.RowKit

/-- It is good: its value. -/
def goodV (xs : List Int) (v : Vw) (r : Except Nat Frm) : Option Int := match r with
  | .ok f => if f.fr = whoV xs v ∧ f.me = (withV xs v : Nat) ∧ f.mo = v.mo ∧ f.sl = v.sl then some f.va else none
  | .error _ => none
/-- The frame that a node sends. -/
def sendF (xs : List Int) (v : Vw) (node value : Int) : Frm := ⟨node, (withV xs v : Nat), v.mo, v.sl, value⟩
/-- The frame that who has the slot sends is right, if its value is. -/
theorem send_err {xs : List Int} (h : planOk xs) {v : Vw} (hv : v.ok) (value : Int) : fErr (sendF xs v (whoV xs v) value) = if -1048576 ≤ value ∧ value ≤ 1048576 then 0 else 2 := by
  obtain ⟨h1, h2⟩ := who_at h v
  have h3 := (with_okV h hv).1
  have hb : (withV xs v).testBit (atV xs v) = true := by
    unfold withV
    rw [with_bit]
    simp
  unfold fErr sendF
  simp only [Int.toNat_natCast]
  rw [if_neg (by omega), if_neg (by omega)]
  have e : (whoV xs v).toNat - 1 = atV xs v := rfl
  rw [e, hb]
  obtain ⟨_, ⟨m1, m2⟩, s1, s2⟩ := hv
  by_cases hval : -1048576 ≤ value ∧ value ≤ 1048576
  · rw [if_neg (by simp), if_neg (fun hh => hh ⟨m1, m2, s1, s2, hval.1, hval.2⟩), if_pos hval]
  · rw [if_neg (by simp), if_pos (fun hh => hval ⟨hh.2.2.2.2.1, hh.2.2.2.2.2⟩), if_neg hval]
/-- What it sends is good for who has its view. -/
theorem send_good {xs : List Int} (v u : Vw) (value : Int) : goodV xs u (.ok (sendF xs v (whoV xs v) value)) = if whoV xs v = whoV xs u ∧ ((withV xs v : Nat) : Int) = (withV xs u : Nat) ∧ v.mo = u.mo ∧ v.sl = u.sl then some value else none := rfl
end Go.Proofs.YtglhapkclpllfacGreatDoor
/-
  What package member answers, whatever it is asked (structure MProg), and what follows: the closed fact that the laws of chapter 7 begin with.
  Conditions: those of the package's contracts (M).
-/
namespace Go.Proofs.YtglhapkclpllfacGreatDoor
open Go.RowKit

/-- Package member's answers: e 1 is ErrBound, e 6 ErrFull, e 8 ErrLate. -/
structure MProg (M : World → Prop) (e : Nat → TypeId × Value) : Prop where
  keep : ∀ w w', M w → Below w.heap.size w w' → M w'
  plan : ∀ w, M w → PSent e w
  yes : ∀ w (x : Vw), M w → x.ok → Calls Tryz.prog 6 #[x.val] w fun r w' => r = .returned .nilIface ∧ Below w.heap.size w w'
  no : ∀ w (x : Vw), M w → ¬ x.ok → Calls Tryz.prog 6 #[x.val] w fun r w' => r = .returned (.iface (e 1).1 (e 1).2) ∧ Below w.heap.size w w'
  stP : ∀ w vl xs (v : Vw) s, M w → IntsIn w vl xs → ¬ planOk xs → Calls Tryz.prog 8 #[vl, v.val, .string s] w fun r w' => ∃ ty p, r = .returned (.tuple #[Vw.none.val, Ent.zero.val, .iface ty p]) ∧ PlanErr e w' xs ty p ∧ Below w.heap.size w w'
  stV : ∀ w vl xs (v : Vw) s, M w → IntsIn w vl xs → planOk xs → ¬ v.ok → Calls Tryz.prog 8 #[vl, v.val, .string s] w fun r w' => r = .returned (.tuple #[Vw.none.val, Ent.zero.val, .iface (e 1).1 (e 1).2]) ∧ Below w.heap.size w w'
  stF : ∀ w vl xs (v : Vw) s, M w → IntsIn w vl xs → planOk xs → v.ok → v.sl = 1000000 → Calls Tryz.prog 8 #[vl, v.val, .string s] w fun r w' => r = .returned (.tuple #[Vw.none.val, Ent.zero.val, .iface (e 6).1 (e 6).2]) ∧ Below w.heap.size w w'
  stO : ∀ w vl xs (v : Vw) (s : ByteArray), M w → IntsIn w vl xs → planOk xs → v.ok → v.sl < 1000000 → Calls Tryz.prog 8 #[vl, v.val, .string s] w fun r w' => r = .returned (.tuple #[(nextV xs v (goodV xs v (readF s.data.toList))).val, (entV xs v (goodV xs v (readF s.data.toList))).val, .nilIface]) ∧ Below w.heap.size w w'
  seP : ∀ w vl xs (v : Vw) node value, M w → IntsIn w vl xs → ¬ planOk xs → Calls Tryz.prog 11 #[vl, v.val, .int .i64 node, .int .i64 value] w fun r w' => ∃ ty p, r = .returned (.tuple #[.string ⟨#[]⟩, .iface ty p]) ∧ PlanErr e w' xs ty p ∧ Below w.heap.size w w'
  seV : ∀ w vl xs (v : Vw) node value, M w → IntsIn w vl xs → planOk xs → ¬ v.ok → Calls Tryz.prog 11 #[vl, v.val, .int .i64 node, .int .i64 value] w fun r w' => r = .returned (.tuple #[.string ⟨#[]⟩, .iface (e 1).1 (e 1).2]) ∧ Below w.heap.size w w'
  seL : ∀ w vl xs (v : Vw) node value, M w → IntsIn w vl xs → planOk xs → v.ok → whoV xs v ≠ node → Calls Tryz.prog 11 #[vl, v.val, .int .i64 node, .int .i64 value] w fun r w' => r = .returned (.tuple #[.string ⟨#[]⟩, .iface (e 8).1 (e 8).2]) ∧ Below w.heap.size w w'
  seB : ∀ w vl xs (v : Vw) value, M w → IntsIn w vl xs → planOk xs → v.ok → ¬ (-1048576 ≤ value ∧ value ≤ 1048576) → Calls Tryz.prog 11 #[vl, v.val, .int .i64 (whoV xs v), .int .i64 value] w fun r w' => r = .returned (.tuple #[.string ⟨#[]⟩, .iface (e 1).1 (e 1).2]) ∧ Below w.heap.size w w'
  seO : ∀ w vl xs (v : Vw) value, M w → IntsIn w vl xs → planOk xs → v.ok → -1048576 ≤ value ∧ value ≤ 1048576 → Calls Tryz.prog 11 #[vl, v.val, .int .i64 (whoV xs v), .int .i64 value] w fun r w' => r = .returned (.tuple #[.string ⟨(frameL (sendF xs v (whoV xs v) value)).toArray⟩, .nilIface]) ∧ Below w.heap.size w w'
/-- What is sent so is read so. -/
theorem sent_read {xs : List Int} (h : planOk xs) {v : Vw} (hv : v.ok) {value : Int} (hval : -1048576 ≤ value ∧ value ≤ 1048576) : readF (ByteArray.mk (frameL (sendF xs v (whoV xs v) value)).toArray).data.toList = .ok (sendF xs v (whoV xs v) value) := by
  have he := send_err h hv value
  rw [if_pos hval] at he
  have := read_frame (sendF xs v (whoV xs v) value) he
  simpa using this
def v30 : Vw := ⟨3, 0, 0⟩
theorem two_okM : planOk [2, 1] := ⟨by decide, by decide, fun x hx => by
  simp at hx
  rcases hx with rfl | rfl
  · exact ⟨by omega, by omega⟩
  · exact ⟨by omega, by omega⟩⟩
theorem two_inM (w : World) : IntsIn (w.alloc (.cells #[.int .i64 2, .int .i64 1] 3)) (.slice (some ⟨w.heap.size, 0, none⟩) 2 2) [2, 1] :=
  IntsAt.in' (Or.inr ⟨w.heap.size, 0, 2, rfl, ints_new w [2, 1] 3 _ _ rfl rfl⟩)
theorem v30_ok : v30.ok := ⟨⟨by decide, by decide⟩, ⟨by decide, by decide⟩, by decide, by decide⟩
theorem old_n {w : World} {p : Addr} {v : Value} (h : w.cell? p = some v) (o : Obj) : (w.alloc o).cell? p = some v := by
  rw [World.cell?_alloc_lt _ _ _ (cell_lt h)]
  exact h
set_option maxRecDepth 100000 in
theorem stepped_ok (M : World → Prop) (e : Nat → TypeId × Value) (P : MProg M e) (w : World) (m : M w) : Calls Tryz.prog 4 #[] w fun r w' => r = .returned (.bool true) ∧ Below w.heap.size w w' := by
  have hval : (-1048576 : Int) ≤ 9 ∧ (9 : Int) ≤ 1048576 := by omega
  have hr := sent_read two_okM v30_ok hval
  obtain ⟨T, hT⟩ : ∃ T, T = ByteArray.mk (frameL (sendF [2, 1] v30 (whoV [2, 1] v30) 9)).toArray := ⟨_, rfl⟩
  rw [← hT] at hr
  have HS : Hid (∀ w' vl, M w' → IntsIn w' vl [2, 1] → Calls Tryz.prog 11 #[vl, .agg #[.int .i64 3, .int .i64 0, .int .i64 0], .int .i64 2, .int .i64 9] w' fun r w2 => r = .returned (.tuple #[.string T, .nilIface]) ∧ Below w'.heap.size w' w2) := fun w' vl m' hv => by
    have h := P.seO w' vl [2, 1] v30 9 m' hv two_okM v30_ok hval
    rw [← hT] at h
    exact h
  have HT : Hid (∀ w' vl, M w' → IntsIn w' vl [2, 1] → Calls Tryz.prog 8 #[vl, .agg #[.int .i64 3, .int .i64 0, .int .i64 0], .string T] w' fun r w2 => r = .returned (.tuple #[.agg #[.int .i64 3, .int .i64 0, .int .i64 1], .agg #[.int .i64 0, .int .i64 2, .bool true, .int .i64 9], .nilIface]) ∧ Below w'.heap.size w' w2) := fun w' vl m' hv => by
    have h := P.stO w' vl [2, 1] v30 T m' hv two_okM v30_ok (by decide)
    rw [hr] at h
    exact h
  have HM := hide (fun w' (hB : Below w.heap.size w w') => P.keep w w' m hB)
  have b1 : Below w.heap.size w (w.alloc (.cells #[.int .i64 3, .int .i64 0, .int .i64 0] 24)) := (Below.refl _ _).alloc (Nat.le_refl _) _
  have b2 : Below w.heap.size w ((w.alloc (.cells #[.int .i64 3, .int .i64 0, .int .i64 0] 24)).alloc (.cells #[.int .i64 2, .int .i64 1] 3)) := b1.alloc (by simp) _
  have HI := hide (two_inM (w.alloc (.cells #[.int .i64 3, .int .i64 0, .int .i64 0] 24)))
  have HB2 := hide b2
  have c0 := old_n (w := w.alloc (.cells #[.int .i64 3, .int .i64 0, .int .i64 0] 24)) (p := ⟨w.heap.size, 0, none⟩) (v := .int .i64 3) (by simp) (.cells #[.int .i64 2, .int .i64 1] 3)
  have c1 := old_n (w := w.alloc (.cells #[.int .i64 3, .int .i64 0, .int .i64 0] 24)) (p := ⟨w.heap.size, 1, none⟩) (v := .int .i64 0) (by simp) (.cells #[.int .i64 2, .int .i64 1] 3)
  have c2 := old_n (w := w.alloc (.cells #[.int .i64 3, .int .i64 0, .int .i64 0] 24)) (p := ⟨w.heap.size, 2, none⟩) (v := .int .i64 0) (by simp) (.cells #[.int .i64 2, .int .i64 1] 3)
  have HC := hide (And.intro c0 (And.intro c1 c2))
  clear b1 b2 m P hr hT
  go_enter Tryz.func4, Tryz.ntmps4
  go_wp2_with fail
  have hI : IntsIn ((w.alloc (.cells #[.int .i64 3, .int .i64 0, .int .i64 0] 24)).alloc (.cells #[.int .i64 2, .int .i64 1] 3)) (.slice (some ⟨w.heap.size + 1, 0, none⟩) 2 2) [2, 1] := by
    have h := unhide HI
    rw [World.size_alloc] at h
    exact h
  refine (unhide HS _ _ (unhide HM _ (unhide HB2)) hI).mono ?_
  rintro E w2 ⟨rfl, hB⟩
  have HB3 := hide ((unhide HB2).trans (hB.mono (unhide HB2).size))
  have d0 := below_cell hB (unhide HC).1
  have d1 := below_cell hB (unhide HC).2.1
  have d2 := below_cell hB (unhide HC).2.2
  have p0 := old_n d0
  have p1 := old_n d1
  have p2 := old_n d2
  clear hB hI c0 c1 c2 d0 d1 d2
  have HI2 := hide (two_inM w2)
  have HB4 := hide ((unhide HB3).alloc (unhide HB3).size (.cells #[.int .i64 2, .int .i64 1] 3))
  go_wp2_with fail
  refine (unhide HT _ _ (unhide HM _ (unhide HB4)) (unhide HI2)).mono ?_
  rintro E w3 ⟨rfl, hB⟩
  have HB5 := hide ((unhide HB4).trans (hB.mono (unhide HB4).size))
  clear hB p0 p1 p2
  go_wp2
  go_ret
  have hs := (unhide HB5).size
  exact ⟨rfl, ((unhide HB5).alloc hs _).alloc (by simp; omega) _⟩
end Go.Proofs.YtglhapkclpllfacGreatDoor
/-
  What package member's calls need of the world: what packages frame and guard's errors need (structure MOk).
-/
namespace Go.Proofs.YtglhapkclpllfacGreatDoor
open Go.RowKit

/-- The errors by their numbers, as package frame's contracts name them. -/
def shE (e : Nat → TypeId × Value) : Nat → TypeId × Value := fun k => e (k - 1)
structure MOk (e : Nat → TypeId × Value) (w : World) : Prop where
  fr : FrOk (shE e) w
  g : GSent e w
theorem MOk.below {e : Nat → TypeId × Value} {w w' : World} (h : MOk e w) (hb : Below w.heap.size w w') : MOk e w' := ⟨h.fr.below hb, h.g.below hb⟩
theorem MProg.mono {M M' : World → Prop} {e : Nat → TypeId × Value} (P : MProg M e) (h : ∀ w, M' w → M w) (hk : ∀ w w', M' w → Below w.heap.size w w' → M' w') : MProg M' e where
  keep := hk
  plan w m := P.plan w (h w m)
  yes w x m := P.yes w x (h w m)
  no w x m := P.no w x (h w m)
  stP w vl xs v s m := P.stP w vl xs v s (h w m)
  stV w vl xs v s m := P.stV w vl xs v s (h w m)
  stF w vl xs v s m := P.stF w vl xs v s (h w m)
  stO w vl xs v s m := P.stO w vl xs v s (h w m)
  seP w vl xs v node value m := P.seP w vl xs v node value (h w m)
  seV w vl xs v node value m := P.seV w vl xs v node value (h w m)
  seL w vl xs v node value m := P.seL w vl xs v node value (h w m)
  seB w vl xs v value m := P.seB w vl xs v value (h w m)
  seO w vl xs v value m := P.seO w vl xs v value (h w m)
end Go.Proofs.YtglhapkclpllfacGreatDoor
/-
  Contracts of package member: bit, with, without, Check, sender.
  Conditions: package api's errors lie as laid (structure GSent).
-/
namespace Go.Proofs.YtglhapkclpllfacGreatDoor
open Go.RowKit

theorem i64_less (a b : Nat) (ha : a ≤ 65535) (hb : b ≤ 65535) : bits .andNot .i64 (a : Int) (b : Int) = ((a &&& (65535 - b) : Nat) : Int) := by
  show IntKind.i64.wrap ((BitVec.ofInt 64 (a : Int) &&& ~~~BitVec.ofInt 64 (b : Int)).toNat : Int) = _
  have e1 : ∀ n : Nat, n ≤ 65535 → (BitVec.ofInt 64 (n : Int)).toNat = n := fun n hn => by
    rw [BitVec.ofInt_natCast, BitVec.toNat_ofNat]; exact Nat.mod_eq_of_lt (by omega)
  rw [BitVec.toNat_and, BitVec.toNat_not, e1 a ha, e1 b hb]
  have e2 : a &&& (2 ^ 64 - 1 - b) = a &&& (65535 - b) := by
    apply Nat.eq_of_testBit_eq
    intro i
    rw [Nat.testBit_and, Nat.testBit_and, show 2 ^ 64 - 1 - b = 2 ^ 64 - (b + 1) by omega, show 65535 - b = 2 ^ 16 - (b + 1) by omega, Nat.testBit_two_pow_sub_succ (by omega), Nat.testBit_two_pow_sub_succ (by omega)]
    by_cases hi : i < 16
    · have : i < 64 := by omega
      simp [hi, this]
    · have : a.testBit i = false := Nat.testBit_lt_two_pow (Nat.lt_of_lt_of_le (show a < 2 ^ 16 by omega) (Nat.pow_le_pow_right (by omega) (by omega)))
      simp [this]
  rw [e2, IntKind.wrap_i64]
  have := Cm.and_le a (65535 - b) ha
  omega
theorem bitM_ok (n : Nat) (h1 : 1 ≤ n) (h2 : n ≤ 16) (w : World) : Calls Tryz.prog 32 #[.int .i64 n] w fun e w' => e = .returned (.int .i64 ((2 ^ (n - 1) : Nat) : Int)) ∧ w' = w := by
  have h5 : ¬ ((n : Int) - 1 < 0) := by omega
  go_enter Tryz.func32, Tryz.ntmps32
  go_wp2
  go_ret
  exact ⟨ret_int (pow_wrap n h2), rfl⟩
/-- A view with a node among its members. -/
theorem withM_ok (c : Nat) (mo sl : Int) (hc : c ≤ 65535) (k : Nat) (hk : k < 16) (w : World) :
    Calls Tryz.prog 26 #[.agg #[.int .i64 c, .int .i64 mo, .int .i64 sl], .int .i64 ((k : Int) + 1)] w fun r w' => r = .returned (.agg #[.int .i64 (withN c k : Nat), .int .i64 mo, .int .i64 sl]) ∧ Below w.heap.size w w' := by
  have HBt : Hid (∀ w', Calls Tryz.prog 32 #[.int .i64 ((k : Int) + 1)] w' fun e w2 => e = .returned (.int .i64 ((2 ^ k : Nat) : Int)) ∧ w2 = w') := fun w' => bitM_ok (k + 1) (by omega) (by omega) w'
  have ho : bits .or .i64 (c : Int) ((2 ^ k : Nat) : Int) = ((withN c k : Nat) : Int) := i64_or c (2 ^ k) hc (pow_16 k hk)
  generalize 2 ^ k = q at *
  generalize withN c k = x at *
  go_enter Tryz.func26, Tryz.ntmps26
  go_wp2_with fail
  go_region_with (go_at_call 32; refine (unhide HBt _).mono ?_; rintro E w8 ⟨rfl, rfl⟩)
  all_goals (try go_wp2)
  all_goals exact bodyPost_ret (v := .agg #[.int .i64 x, .int .i64 mo, .int .i64 sl]) (by simp [results, Tryz.results26, go_sem]) rfl ⟨rfl, (((Below.refl _ w).alloc (Nat.le_refl _) _).alloc (by simp) _).drew⟩
/-- A view without a node among its members. -/
theorem lessM_ok (c : Nat) (mo sl : Int) (hc : c ≤ 65535) (k : Nat) (hk : k < 16) (w : World) :
    Calls Tryz.prog 17 #[.agg #[.int .i64 c, .int .i64 mo, .int .i64 sl], .int .i64 ((k : Int) + 1)] w fun r w' => r = .returned (.agg #[.int .i64 (lessN c k : Nat), .int .i64 mo, .int .i64 sl]) ∧ Below w.heap.size w w' := by
  have HBt : Hid (∀ w', Calls Tryz.prog 32 #[.int .i64 ((k : Int) + 1)] w' fun e w2 => e = .returned (.int .i64 ((2 ^ k : Nat) : Int)) ∧ w2 = w') := fun w' => bitM_ok (k + 1) (by omega) (by omega) w'
  have ho : bits .andNot .i64 (c : Int) ((2 ^ k : Nat) : Int) = ((lessN c k : Nat) : Int) := i64_less c (2 ^ k) hc (pow_16 k hk)
  generalize 2 ^ k = q at *
  generalize lessN c k = x at *
  go_enter Tryz.func17, Tryz.ntmps17
  go_wp2_with fail
  go_region_with (go_at_call 32; refine (unhide HBt _).mono ?_; rintro E w8 ⟨rfl, rfl⟩)
  all_goals (try go_wp2)
  all_goals exact bodyPost_ret (v := .agg #[.int .i64 x, .int .i64 mo, .int .i64 sl]) (by simp [results, Tryz.results17, go_sem]) rfl ⟨rfl, (((Below.refl _ w).alloc (Nat.le_refl _) _).alloc (by simp) _).drew⟩
theorem checkM_yes (x : Vw) (h : x.ok) (w : World) : Calls Tryz.prog 6 #[x.val] w fun r w' => r = .returned .nilIface ∧ Below w.heap.size w w' := by
  obtain ⟨me, mo, sl⟩ := x
  obtain ⟨⟨a1, a2⟩, ⟨a3, a4⟩, a5, a6⟩ := h
  simp only at a1 a2 a3 a4 a5 a6
  obtain ⟨c, rfl⟩ : ∃ c : Nat, me = (c : Int) := ⟨me.toNat, by omega⟩
  have HC := hide (check_ok c (by omega))
  have HB := hide (show Below w.heap.size w (w.alloc (.cells #[.int .i64 c, .int .i64 mo, .int .i64 sl] 24)) from (Below.refl _ _).alloc (Nat.le_refl _) _)
  have b1 : ¬ mo < 0 := by omega
  have b2 : ¬ 4 ≤ mo := by omega
  have b3 : ¬ sl < 0 := by omega
  have b4 : ¬ 1000000 < sl := by omega
  clear a1 a2 a3 a4 a5 a6
  unfold Vw.val
  go_enter Tryz.func6, Tryz.ntmps6
  go_wp2_with fail
  refine (unhide HC _).mono ?_
  rintro E w2 ⟨rfl, rfl⟩
  go_wp2
  go_ret
  exact ⟨rfl, unhide HB⟩
theorem checkM_no (x : Vw) (h : ¬ x.ok) (ev : Value) (hev : ∃ t p, ev = .iface t p) (w : World) (hE : w.cell? ⟨0, 0, none⟩ = some ev) : Calls Tryz.prog 6 #[x.val] w fun r w' => r = .returned ev ∧ Below w.heap.size w w' := by
  obtain ⟨ty, pv, rfl⟩ := hev
  obtain ⟨me, mo, sl⟩ := x
  have hb : Below w.heap.size w (w.alloc (.cells #[.int .i64 me, .int .i64 mo, .int .i64 sl] 24)) := (Below.refl _ _).alloc (Nat.le_refl _) _
  have hE1 := below_cell hb hE
  have HB := hide hb
  clear hb hE
  unfold Vw.val
  by_cases hc : me < 0 ∨ 65535 < me
  · have HC := hide (check_bad me hc)
    clear h hc
    go_enter Tryz.func6, Tryz.ntmps6
    go_wp2_with fail
    refine (unhide HC _ _ hE1).mono ?_
    rintro E w2 ⟨rfl, rfl⟩
    go_wp2
    go_ret
    exact ⟨rfl, unhide HB⟩
  obtain ⟨c, rfl⟩ : ∃ c : Nat, me = (c : Int) := ⟨me.toNat, by omega⟩
  have HC := hide (check_ok c (by omega))
  have h' : ¬ (0 ≤ mo ∧ mo ≤ 3 ∧ 0 ≤ sl ∧ sl ≤ 1000000) := fun hh => h ⟨⟨by show (0 : Int) ≤ (c : Int); omega, by show (c : Int) ≤ 65535; omega⟩, ⟨hh.1, hh.2.1⟩, hh.2.2⟩
  clear h hc
  by_cases b1 : mo < 0
  · clear h'
    go_enter Tryz.func6, Tryz.ntmps6
    go_wp2_with fail
    refine (unhide HC _).mono ?_
    rintro E w2 ⟨rfl, rfl⟩
    go_wp2
    go_ret
    exact ⟨rfl, unhide HB⟩
  by_cases b2 : 4 ≤ mo
  · clear h'
    go_enter Tryz.func6, Tryz.ntmps6
    go_wp2_with fail
    refine (unhide HC _).mono ?_
    rintro E w2 ⟨rfl, rfl⟩
    go_wp2
    go_ret
    exact ⟨rfl, unhide HB⟩
  by_cases b3 : sl < 0
  · clear h'
    go_enter Tryz.func6, Tryz.ntmps6
    go_wp2_with fail
    refine (unhide HC _).mono ?_
    rintro E w2 ⟨rfl, rfl⟩
    go_wp2
    go_ret
    exact ⟨rfl, unhide HB⟩
  · have b4 : 1000000 < sl := by omega
    clear h'
    go_enter Tryz.func6, Tryz.ntmps6
    go_wp2_with fail
    refine (unhide HC _).mono ?_
    rintro E w2 ⟨rfl, rfl⟩
    go_wp2
    go_ret
    exact ⟨rfl, unhide HB⟩
/-- A view's block, of the call's own. -/
structure VwAt (w : World) (b : Nat) (v : Vw) : Prop where
  c0 : w.cell? ⟨b, 0, none⟩ = some (.int .i64 v.me)
  c1 : w.cell? ⟨b, 1, none⟩ = some (.int .i64 v.mo)
  c2 : w.cell? ⟨b, 2, none⟩ = some (.int .i64 v.sl)
theorem VwAt.below {w w' : World} {b : Nat} {v : Vw} (h : VwAt w b v) (hB : Below w.heap.size w w') : VwAt w' b v := ⟨below_cell hB h.c0, below_cell hB h.c1, below_cell hB h.c2⟩
theorem VwAt.new (w : World) (v : Vw) : VwAt (w.alloc (.cells #[.int .i64 v.me, .int .i64 v.mo, .int .i64 v.sl] 24)) w.heap.size v := ⟨by simp, by simp, by simp⟩
theorem checkP_yesB (e : Nat → TypeId × Value) (v : Value) (xs : List Int) (w : World) (hv : IntsIn w v xs) (h : planOk xs) (S : PSent e w) : Calls Tryz.prog 30 #[v] w fun r w' => r = .returned .nilIface ∧ Below w.heap.size w w' :=
  (checkP_yes e v xs w hv h S).mono (by
    rintro r w' ⟨rfl, rfl⟩
    exact ⟨rfl, Below.refl _ _⟩)
/-- The sender: a plan that is not right. -/
theorem senderP (e : Nat → TypeId × Value) (vl : Value) (xs : List Int) (v : Vw) (w : World) (hv : IntsIn w vl xs) (hp : ¬ planOk xs) (S : PSent e w) :
    Calls Tryz.prog 16 #[vl, v.val] w fun r w' => ∃ t p, r = .returned (.tuple #[.int .i64 0, .iface t p]) ∧ PlanErr e w' xs t p ∧ Below w.heap.size w w' := by
  have hb : Below w.heap.size w (w.alloc (.cells #[.int .i64 v.me, .int .i64 v.mo, .int .i64 v.sl] 24)) := (Below.refl _ _).alloc (Nat.le_refl _) _
  have HP := hide (checkP_no e vl xs _ (hv.below hb) hp (S.below hb))
  have HB := hide hb
  obtain ⟨ad, cap, rfl, _⟩ := hv
  clear hp S hb
  unfold Vw.val
  go_enter Tryz.func16, Tryz.ntmps16
  go_wp2_with fail
  refine (unhide HP).mono ?_
  rintro E w2 ⟨t, p, rfl, hP, hB⟩
  have HPE := hide hP
  have HB2 := hide ((unhide HB).trans (hB.mono (unhide HB).size))
  clear hP hB
  go_wp2
  go_ret2
  exact ⟨_, _, rfl, unhide HPE, unhide HB2⟩
/-- The sender: a view that is not right. -/
theorem senderV (e : Nat → TypeId × Value) (vl : Value) (xs : List Int) (v : Vw) (w : World) (hv : IntsIn w vl xs) (hp : planOk xs) (h : ¬ v.ok) (S : PSent e w) :
    Calls Tryz.prog 16 #[vl, v.val] w fun r w' => r = .returned (.tuple #[.int .i64 0, .iface (e 1).1 (e 1).2]) ∧ Below w.heap.size w w' := by
  have hb : Below w.heap.size w (w.alloc (.cells #[.int .i64 v.me, .int .i64 v.mo, .int .i64 v.sl] 24)) := (Below.refl _ _).alloc (Nat.le_refl _) _
  have HP := hide (checkP_yesB e vl xs _ (hv.below hb) hp (S.below hb))
  have HC : Hid (∀ w', Below w.heap.size w w' → Calls Tryz.prog 6 #[v.val] w' fun r w2 => r = .returned (.iface (e 1).1 (e 1).2) ∧ Below w'.heap.size w' w2) := fun w' hB => checkM_no v h _ ⟨_, _, rfl⟩ w' (S.below hB).c1
  have HV := hide (VwAt.new w v)
  have HB := hide hb
  obtain ⟨ad, cap, rfl, _⟩ := hv
  clear hp S hb h
  unfold Vw.val at HC ⊢
  go_enter Tryz.func16, Tryz.ntmps16
  go_wp2_with fail
  refine (unhide HP).mono ?_
  rintro E w2 ⟨rfl, hB⟩
  obtain ⟨c0, c1, c2⟩ := (unhide HV).below hB
  have HB2 := hide ((unhide HB).trans (hB.mono (unhide HB).size))
  clear hB
  go_wp2_with fail
  refine (unhide HC _ (unhide HB2)).mono ?_
  rintro E w3 ⟨rfl, hB⟩
  have HB3 := hide ((unhide HB2).trans (hB.mono (unhide HB2).size))
  clear hB c0 c1 c2
  go_wp2
  go_ret2
  exact ⟨rfl, unhide HB3⟩
/-- The sender: who has the slot. -/
theorem senderO (e : Nat → TypeId × Value) (vl : Value) (xs : List Int) (v : Vw) (w : World) (hv : IntsIn w vl xs) (hp : planOk xs) (h : v.ok) (S : PSent e w) :
    Calls Tryz.prog 16 #[vl, v.val] w fun r w' => r = .returned (.tuple #[.int .i64 (whoV xs v), .nilIface]) ∧ Below w.heap.size w w' := by
  have hb : Below w.heap.size w (w.alloc (.cells #[.int .i64 v.me, .int .i64 v.mo, .int .i64 v.sl] 24)) := (Below.refl _ _).alloc (Nat.le_refl _) _
  have HP := hide (checkP_yesB e vl xs _ (hv.below hb) hp (S.below hb))
  have HC := hide (fun w' => checkM_yes v h w')
  have HW : Hid (∀ w', Below w.heap.size w w' → Calls Tryz.prog 31 #[vl, .int .i64 v.sl] w' fun r w2 => r = .returned (.tuple #[.int .i64 (whoV xs v), .nilIface]) ∧ Below w'.heap.size w' w2) := fun w' hB => by
    have h1 := whoP_yes e vl xs v.sl.toNat w' (hv.below hB) hp (by have := h.2.2; omega) (S.below hB)
    rw [Int.toNat_of_nonneg h.2.2.1] at h1
    exact h1
  have HV := hide (VwAt.new w v)
  have HB := hide hb
  obtain ⟨ad, cap, rfl, _⟩ := hv
  clear hp S hb h
  generalize whoV xs v = x at *
  unfold Vw.val at HC ⊢
  go_enter Tryz.func16, Tryz.ntmps16
  go_wp2_with fail
  refine (unhide HP).mono ?_
  rintro E w2 ⟨rfl, hB⟩
  have HV2 := hide ((unhide HV).below hB)
  obtain ⟨c0, c1, c2⟩ := unhide HV2
  have HB2 := hide ((unhide HB).trans (hB.mono (unhide HB).size))
  clear hB
  go_wp2_with fail
  refine (unhide HC _).mono ?_
  rintro E w3 ⟨rfl, hB⟩
  have HB3 := hide ((unhide HB2).trans (hB.mono (unhide HB2).size))
  clear c0 c1 c2
  obtain ⟨c0, c1, c2⟩ := (unhide HV2).below hB
  clear hB
  go_wp2_with fail
  refine (unhide HW _ (unhide HB3)).mono ?_
  rintro E w4 ⟨rfl, hB⟩
  have HB4 := hide ((unhide HB3).trans (hB.mono (unhide HB3).size))
  clear hB c0 c1 c2
  go_wp2
  go_ret2
  exact ⟨rfl, unhide HB4⟩
end Go.Proofs.YtglhapkclpllfacGreatDoor
/-
  Contracts of package member: isGood.
-/
namespace Go.Proofs.YtglhapkclpllfacGreatDoor
open Go.RowKit

theorem goodM_far (f : Frm) (v : Vw) (n : Int) (hn : f.fr ≠ n) (w : World) :
    Calls Tryz.prog 19 #[frmV f, v.val, .int .i64 n] w fun r w' => r = .returned (.bool false) ∧ Below w.heap.size w w' := by
  have hb : Below w.heap.size w ((w.alloc (.cells #[.int .i64 f.fr, .int .i64 f.me, .int .i64 f.mo, .int .i64 f.sl, .int .i64 f.va] 53)).alloc (.cells #[.int .i64 v.me, .int .i64 v.mo, .int .i64 v.sl] 24)) := ((Below.refl _ _).alloc (Nat.le_refl _) _).alloc (by simp) _
  have HB := hide hb
  clear hb
  unfold frmV Vw.val
  go_enter Tryz.func19, Tryz.ntmps19
  go_wp2_with fail
  go_quiet (fail)
  go_wp2
  go_ret
  exact ⟨rfl, below_draw (unhide HB) _⟩
theorem goodM_m (f : Frm) (c : Nat) (mo sl : Int) (hc : c ≤ 65535) (k : Nat) (hk : k < 16) (hn : f.fr = (k : Int) + 1) (w : World)
    (hcase : f.me ≠ (withN c k : Nat)) :
    Calls Tryz.prog 19 #[frmV f, .agg #[.int .i64 c, .int .i64 mo, .int .i64 sl], .int .i64 ((k : Int) + 1)] w fun r w' => r = .returned (.bool false) ∧ Below w.heap.size w w' := by
  have HW := hide (withM_ok c mo sl hc k hk)
  generalize withN c k = x at *
  obtain ⟨fr, me, fo, fl, va⟩ := f
  simp only at hn hcase
  subst hn
  generalize hK : (k : Int) + 1 = K at *
  obtain ⟨W, hW⟩ : ∃ W, W = (w.alloc (.cells #[.int .i64 K, .int .i64 me, .int .i64 fo, .int .i64 fl, .int .i64 va] 53)).alloc (.cells #[.int .i64 c, .int .i64 mo, .int .i64 sl] 24) := ⟨_, rfl⟩
  have hb : Below w.heap.size w W := by rw [hW]; exact ((Below.refl _ _).alloc (Nat.le_refl _) _).alloc (by simp) _
  have HB := hide hb
  have HV : Hid (VwAt W (w.heap.size + 1) ⟨c, mo, sl⟩) := by rw [hW]; have h := VwAt.new (w.alloc (.cells #[.int .i64 K, .int .i64 me, .int .i64 fo, .int .i64 fl, .int .i64 va] 53)) ⟨c, mo, sl⟩; rw [World.size_alloc] at h; exact h
  have HF : Hid (FrmAt W w.heap.size K me fo fl va) := by rw [hW]; exact (FrmAt.new w K me fo fl va).below ((Below.refl _ _).alloc (Nat.le_refl _) _)
  clear hb hc hk
  unfold frmV
  go_enter Tryz.func19, Tryz.ntmps19
  go_wp2_with fail
  rw [← hW]
  have HW' := hide hW
  clear hW
  have HF2 := hide ((unhide HF).below (Below.refl _ W).drew)
  have HV2 := hide ((unhide HV).below (Below.refl _ W).drew)
  go_region_held3 (fun w' => w'.cell? ⟨w.heap.size, 0, none⟩ = some (.int .i64 K) ∧ w'.cell? ⟨w.heap.size, 1, none⟩ = some (.int .i64 me) ∧ w'.cell? ⟨w.heap.size, 2, none⟩ = some (.int .i64 fo) ∧ w'.cell? ⟨w.heap.size, 3, none⟩ = some (.int .i64 fl) ∧ w'.cell? ⟨w.heap.size + 1, 0, none⟩ = some (.int .i64 c) ∧ w'.cell? ⟨w.heap.size + 1, 1, none⟩ = some (.int .i64 mo) ∧ w'.cell? ⟨w.heap.size + 1, 2, none⟩ = some (.int .i64 sl)) (first | exact ⟨(unhide HF3).c0, (unhide HF3).c1, (unhide HF3).c2, (unhide HF3).c3, (unhide HV3).c0, (unhide HV3).c1, (unhide HV3).c2⟩ | exact ⟨(unhide HF2).c0, (unhide HF2).c1, (unhide HF2).c2, (unhide HF2).c3, (unhide HV2).c0, (unhide HV2).c1, (unhide HV2).c2⟩)
    (first
      | (go_at_call 26; refine (unhide HW _).mono ?_; rintro E w3 ⟨rfl, hB⟩; have HB3 := hide ((unhide HB).drew.trans (hB.mono (unhide HB).drew.size)); have HF3 := hide ((unhide HF2).below hB); have HV3 := hide ((unhide HV2).below hB); clear hB))
  all_goals (try go_wp2)
  all_goals go_ret
  all_goals exact ⟨by simp [*], unhide HB3⟩
theorem goodM_o (f : Frm) (c : Nat) (mo sl : Int) (hc : c ≤ 65535) (k : Nat) (hk : k < 16) (hn : f.fr = (k : Int) + 1) (w : World)
    (hcase : f.me = (withN c k : Nat) ∧ f.mo ≠ mo) :
    Calls Tryz.prog 19 #[frmV f, .agg #[.int .i64 c, .int .i64 mo, .int .i64 sl], .int .i64 ((k : Int) + 1)] w fun r w' => r = .returned (.bool false) ∧ Below w.heap.size w w' := by
  have HW := hide (withM_ok c mo sl hc k hk)
  generalize withN c k = x at *
  obtain ⟨fr, me, fo, fl, va⟩ := f
  simp only at hn hcase
  obtain ⟨rfl, hcase⟩ := hcase
  subst hn
  generalize hK : (k : Int) + 1 = K at *
  obtain ⟨W, hW⟩ : ∃ W, W = (w.alloc (.cells #[.int .i64 K, .int .i64 (x : Int), .int .i64 fo, .int .i64 fl, .int .i64 va] 53)).alloc (.cells #[.int .i64 c, .int .i64 mo, .int .i64 sl] 24) := ⟨_, rfl⟩
  have hb : Below w.heap.size w W := by rw [hW]; exact ((Below.refl _ _).alloc (Nat.le_refl _) _).alloc (by simp) _
  have HB := hide hb
  have HV : Hid (VwAt W (w.heap.size + 1) ⟨c, mo, sl⟩) := by rw [hW]; have h := VwAt.new (w.alloc (.cells #[.int .i64 K, .int .i64 (x : Int), .int .i64 fo, .int .i64 fl, .int .i64 va] 53)) ⟨c, mo, sl⟩; rw [World.size_alloc] at h; exact h
  have HF : Hid (FrmAt W w.heap.size K (x : Int) fo fl va) := by rw [hW]; exact (FrmAt.new w K (x : Int) fo fl va).below ((Below.refl _ _).alloc (Nat.le_refl _) _)
  clear hb hc hk
  unfold frmV
  go_enter Tryz.func19, Tryz.ntmps19
  go_wp2_with fail
  rw [← hW]
  have HW' := hide hW
  clear hW
  have HF2 := hide ((unhide HF).below (Below.refl _ W).drew)
  have HV2 := hide ((unhide HV).below (Below.refl _ W).drew)
  go_region_held3 (fun w' => w'.cell? ⟨w.heap.size, 0, none⟩ = some (.int .i64 K) ∧ w'.cell? ⟨w.heap.size, 1, none⟩ = some (.int .i64 (x : Int)) ∧ w'.cell? ⟨w.heap.size, 2, none⟩ = some (.int .i64 fo) ∧ w'.cell? ⟨w.heap.size, 3, none⟩ = some (.int .i64 fl) ∧ w'.cell? ⟨w.heap.size + 1, 0, none⟩ = some (.int .i64 c) ∧ w'.cell? ⟨w.heap.size + 1, 1, none⟩ = some (.int .i64 mo) ∧ w'.cell? ⟨w.heap.size + 1, 2, none⟩ = some (.int .i64 sl)) (first | exact ⟨(unhide HF3).c0, (unhide HF3).c1, (unhide HF3).c2, (unhide HF3).c3, (unhide HV3).c0, (unhide HV3).c1, (unhide HV3).c2⟩ | exact ⟨(unhide HF2).c0, (unhide HF2).c1, (unhide HF2).c2, (unhide HF2).c3, (unhide HV2).c0, (unhide HV2).c1, (unhide HV2).c2⟩)
    (first
      | (go_at_call 26; refine (unhide HW _).mono ?_; rintro E w3 ⟨rfl, hB⟩; have HB3 := hide ((unhide HB).drew.trans (hB.mono (unhide HB).drew.size)); have HF3 := hide ((unhide HF2).below hB); have HV3 := hide ((unhide HV2).below hB); clear hB))
  all_goals (try go_wp2)
  all_goals go_ret
  all_goals exact ⟨by simp [*], unhide HB3⟩
theorem goodM_s (f : Frm) (c : Nat) (mo sl : Int) (hc : c ≤ 65535) (k : Nat) (hk : k < 16) (hn : f.fr = (k : Int) + 1) (w : World)
    (hcase : f.me = (withN c k : Nat) ∧ f.mo = mo ∧ f.sl ≠ sl) :
    Calls Tryz.prog 19 #[frmV f, .agg #[.int .i64 c, .int .i64 mo, .int .i64 sl], .int .i64 ((k : Int) + 1)] w fun r w' => r = .returned (.bool false) ∧ Below w.heap.size w w' := by
  have HW := hide (withM_ok c mo sl hc k hk)
  generalize withN c k = x at *
  obtain ⟨fr, me, fo, fl, va⟩ := f
  simp only at hn hcase
  obtain ⟨rfl, rfl, hcase⟩ := hcase
  subst hn
  generalize hK : (k : Int) + 1 = K at *
  obtain ⟨W, hW⟩ : ∃ W, W = (w.alloc (.cells #[.int .i64 K, .int .i64 (x : Int), .int .i64 fo, .int .i64 fl, .int .i64 va] 53)).alloc (.cells #[.int .i64 c, .int .i64 fo, .int .i64 sl] 24) := ⟨_, rfl⟩
  have hb : Below w.heap.size w W := by rw [hW]; exact ((Below.refl _ _).alloc (Nat.le_refl _) _).alloc (by simp) _
  have HB := hide hb
  have HV : Hid (VwAt W (w.heap.size + 1) ⟨c, fo, sl⟩) := by rw [hW]; have h := VwAt.new (w.alloc (.cells #[.int .i64 K, .int .i64 (x : Int), .int .i64 fo, .int .i64 fl, .int .i64 va] 53)) ⟨c, fo, sl⟩; rw [World.size_alloc] at h; exact h
  have HF : Hid (FrmAt W w.heap.size K (x : Int) fo fl va) := by rw [hW]; exact (FrmAt.new w K (x : Int) fo fl va).below ((Below.refl _ _).alloc (Nat.le_refl _) _)
  clear hb hc hk
  unfold frmV
  go_enter Tryz.func19, Tryz.ntmps19
  go_wp2_with fail
  rw [← hW]
  have HW' := hide hW
  clear hW
  have HF2 := hide ((unhide HF).below (Below.refl _ W).drew)
  have HV2 := hide ((unhide HV).below (Below.refl _ W).drew)
  go_region_held3 (fun w' => w'.cell? ⟨w.heap.size, 0, none⟩ = some (.int .i64 K) ∧ w'.cell? ⟨w.heap.size, 1, none⟩ = some (.int .i64 (x : Int)) ∧ w'.cell? ⟨w.heap.size, 2, none⟩ = some (.int .i64 fo) ∧ w'.cell? ⟨w.heap.size, 3, none⟩ = some (.int .i64 fl) ∧ w'.cell? ⟨w.heap.size + 1, 0, none⟩ = some (.int .i64 c) ∧ w'.cell? ⟨w.heap.size + 1, 1, none⟩ = some (.int .i64 fo) ∧ w'.cell? ⟨w.heap.size + 1, 2, none⟩ = some (.int .i64 sl)) (first | exact ⟨(unhide HF3).c0, (unhide HF3).c1, (unhide HF3).c2, (unhide HF3).c3, (unhide HV3).c0, (unhide HV3).c1, (unhide HV3).c2⟩ | exact ⟨(unhide HF2).c0, (unhide HF2).c1, (unhide HF2).c2, (unhide HF2).c3, (unhide HV2).c0, (unhide HV2).c1, (unhide HV2).c2⟩)
    (first
      | (go_at_call 26; refine (unhide HW _).mono ?_; rintro E w3 ⟨rfl, hB⟩; have HB3 := hide ((unhide HB).drew.trans (hB.mono (unhide HB).drew.size)); have HF3 := hide ((unhide HF2).below hB); have HV3 := hide ((unhide HV2).below hB); clear hB))
  all_goals (try go_wp2)
  all_goals go_ret
  all_goals exact ⟨by simp [*], unhide HB3⟩
theorem goodM_y (f : Frm) (c : Nat) (mo sl : Int) (hc : c ≤ 65535) (k : Nat) (hk : k < 16) (hn : f.fr = (k : Int) + 1) (w : World)
    (hcase : f.me = (withN c k : Nat) ∧ f.mo = mo ∧ f.sl = sl) :
    Calls Tryz.prog 19 #[frmV f, .agg #[.int .i64 c, .int .i64 mo, .int .i64 sl], .int .i64 ((k : Int) + 1)] w fun r w' => r = .returned (.bool true) ∧ Below w.heap.size w w' := by
  have HW := hide (withM_ok c mo sl hc k hk)
  generalize withN c k = x at *
  obtain ⟨fr, me, fo, fl, va⟩ := f
  simp only at hn hcase
  obtain ⟨rfl, rfl, rfl⟩ := hcase
  subst hn
  generalize hK : (k : Int) + 1 = K at *
  obtain ⟨W, hW⟩ : ∃ W, W = (w.alloc (.cells #[.int .i64 K, .int .i64 (x : Int), .int .i64 fo, .int .i64 fl, .int .i64 va] 53)).alloc (.cells #[.int .i64 c, .int .i64 fo, .int .i64 fl] 24) := ⟨_, rfl⟩
  have hb : Below w.heap.size w W := by rw [hW]; exact ((Below.refl _ _).alloc (Nat.le_refl _) _).alloc (by simp) _
  have HB := hide hb
  have HV : Hid (VwAt W (w.heap.size + 1) ⟨c, fo, fl⟩) := by rw [hW]; have h := VwAt.new (w.alloc (.cells #[.int .i64 K, .int .i64 (x : Int), .int .i64 fo, .int .i64 fl, .int .i64 va] 53)) ⟨c, fo, fl⟩; rw [World.size_alloc] at h; exact h
  have HF : Hid (FrmAt W w.heap.size K (x : Int) fo fl va) := by rw [hW]; exact (FrmAt.new w K (x : Int) fo fl va).below ((Below.refl _ _).alloc (Nat.le_refl _) _)
  clear hb hc hk
  unfold frmV
  go_enter Tryz.func19, Tryz.ntmps19
  go_wp2_with fail
  rw [← hW]
  have HW' := hide hW
  clear hW
  have HF2 := hide ((unhide HF).below (Below.refl _ W).drew)
  have HV2 := hide ((unhide HV).below (Below.refl _ W).drew)
  go_region_held3 (fun w' => w'.cell? ⟨w.heap.size, 0, none⟩ = some (.int .i64 K) ∧ w'.cell? ⟨w.heap.size, 1, none⟩ = some (.int .i64 (x : Int)) ∧ w'.cell? ⟨w.heap.size, 2, none⟩ = some (.int .i64 fo) ∧ w'.cell? ⟨w.heap.size, 3, none⟩ = some (.int .i64 fl) ∧ w'.cell? ⟨w.heap.size + 1, 0, none⟩ = some (.int .i64 c) ∧ w'.cell? ⟨w.heap.size + 1, 1, none⟩ = some (.int .i64 fo) ∧ w'.cell? ⟨w.heap.size + 1, 2, none⟩ = some (.int .i64 fl)) (first | exact ⟨(unhide HF3).c0, (unhide HF3).c1, (unhide HF3).c2, (unhide HF3).c3, (unhide HV3).c0, (unhide HV3).c1, (unhide HV3).c2⟩ | exact ⟨(unhide HF2).c0, (unhide HF2).c1, (unhide HF2).c2, (unhide HF2).c3, (unhide HV2).c0, (unhide HV2).c1, (unhide HV2).c2⟩)
    (first
      | (go_at_call 26; refine (unhide HW _).mono ?_; rintro E w3 ⟨rfl, hB⟩; have HB3 := hide ((unhide HB).drew.trans (hB.mono (unhide HB).drew.size)); have HF3 := hide ((unhide HF2).below hB); have HV3 := hide ((unhide HV2).below hB); clear hB))
  all_goals (try go_wp2)
  all_goals go_ret
  all_goals exact ⟨by simp [*], unhide HB3⟩
end Go.Proofs.YtglhapkclpllfacGreatDoor
