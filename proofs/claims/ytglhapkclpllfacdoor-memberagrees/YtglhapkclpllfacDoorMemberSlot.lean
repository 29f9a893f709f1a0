/-
  The walk of the law MemberSlot, over what package member answers: it answers true, and nothing that was in memory has turned.
  Conditions: those of the package's contracts (M).
-/
import Derived.Test.YtglhapkclpllfacDoorMemberView
import Derived.Test.YtglhapkclpllfacDoorPlan1
namespace Go.Proofs.YtglhapkclpllfacDoor
open Go.RowKit

/-- The closed fact, as the walks want it. -/
def Stepped (M : World → Prop) : Prop := ∀ w, M w → Calls Tryd.prog 17 #[] w fun r w' => r = .returned (.bool true) ∧ Below w.heap.size w w'
/-- Does a crew have a node? -/
def Haves : Prop := ∀ (c i : Nat) (w : World), c ≤ 65535 → i ≤ 15 → Calls Tryd.prog 22 #[.int .i64 c, .int .i64 ((i : Int) + 1)] w fun e w' => e = .returned (.bool (c.testBit i)) ∧ w' = w
theorem mslot_far (M : World → Prop) (hM : ∀ w w', M w → Below w.heap.size w w' → M w') (SP : Stepped M) (vl : Value) (xs : List Int) (v : Vw) (s : ByteArray) (hs : s.size ≤ maxLen) (w : World) (m : M w) (hv : IntsIn w vl xs) (h : 40 < xs.length ∨ 150 < s.size) :
    Calls Tryd.prog 6 #[vl, v.val, .string s] w fun r w' => r = .returned (.bool true) ∧ Below w.heap.size w w' := by
  have hA : Below w.heap.size w (w.alloc (.cells #[.int .i64 v.me, .int .i64 v.mo, .int .i64 v.sl] 46)) := (Below.refl _ _).alloc (Nat.le_refl _) _
  have HK := hide (SP _ (hM _ _ m hA))
  have HA := hide hA
  obtain ⟨ad, cap, rfl, _⟩ := hv
  unfold Vw.val
  unfold maxLen at hs
  clear m hA
  by_cases h1 : 40 < xs.length
  · have h1' : (40 : Int) < (xs.length : Int) := by omega
    clear h
    go_enter Tryd.func6, Tryd.ntmps6
    go_wp2_with (go_at_call 17; refine (unhide HK).mono ?_; rintro E w1 ⟨rfl, hB1⟩; have HB := hide ((unhide HA).trans (hB1.mono (unhide HA).size)); clear hB1)
    go_ret
    exact ⟨rfl, unhide HB⟩
  · have h1' : ¬ (40 : Int) < (xs.length : Int) := by omega
    have h2 : (150 : Int) < (s.size : Int) := by omega
    clear h
    go_enter Tryd.func6, Tryd.ntmps6
    go_wp2_with (go_at_call 17; refine (unhide HK).mono ?_; rintro E w1 ⟨rfl, hB1⟩; have HB := hide ((unhide HA).trans (hB1.mono (unhide HA).size)); clear hB1)
    go_ret
    exact ⟨rfl, unhide HB⟩
set_option maxRecDepth 100000 in
set_option maxHeartbeats 1000000 in
theorem mslot_err (M : World → Prop) (hM : ∀ w w', M w → Below w.heap.size w w' → M w') (SP : Stepped M) (vl : Value) (xs : List Int) (v : Vw) (s : ByteArray) (w : World) (m : M w) (hv : IntsIn w vl xs) (h1 : xs.length ≤ 40) (h2 : s.size ≤ 150)
    (T : ∀ w, M w → IntsIn w vl xs → Calls Tryd.prog 21 #[vl, v.val, .string s] w fun r w' => ∃ ty p, r = .returned (.tuple #[Vw.none.val, Ent.zero.val, .iface ty p]) ∧ Below w.heap.size w w') :
    Calls Tryd.prog 6 #[vl, v.val, .string s] w fun r w' => r = .returned (.bool true) ∧ Below w.heap.size w w' := by
  have hA : Below w.heap.size w (w.alloc (.cells #[.int .i64 v.me, .int .i64 v.mo, .int .i64 v.sl] 46)) := (Below.refl _ _).alloc (Nat.le_refl _) _
  have HK := hide (SP _ (hM _ _ m hA))
  have HT := hide T
  have HM := hide hM
  have HMw := hide m
  have HV := hide hv
  have HA := hide hA
  have Q0 : Hid ((w.alloc (.cells #[.int .i64 v.me, .int .i64 v.mo, .int .i64 v.sl] 46)).cell? ⟨w.heap.size, 0, none⟩ = some (.int .i64 v.me)) := by show _ = _; simp
  have Q1 : Hid ((w.alloc (.cells #[.int .i64 v.me, .int .i64 v.mo, .int .i64 v.sl] 46)).cell? ⟨w.heap.size, 1, none⟩ = some (.int .i64 v.mo)) := by show _ = _; simp
  have Q2 : Hid ((w.alloc (.cells #[.int .i64 v.me, .int .i64 v.mo, .int .i64 v.sl] 46)).cell? ⟨w.heap.size, 2, none⟩ = some (.int .i64 v.sl)) := by show _ = _; simp
  obtain ⟨ad, cap, rfl, _⟩ := hv
  unfold Vw.val Ent.val Vw.none Ent.zero at HT
  unfold Vw.val
  have h1' : ¬ (40 : Int) < (xs.length : Int) := by omega
  have h2' : ¬ (150 : Int) < (s.size : Int) := by omega
  clear m hA T hM
  go_enter Tryd.func6, Tryd.ntmps6
  go_wp2_with (first
    | (go_at_call 17; refine (unhide HK).mono ?_; rintro E w1 ⟨rfl, hB1⟩; have q0 := below_cell hB1 (unhide Q0); have q1 := below_cell hB1 (unhide Q1); have q2 := below_cell hB1 (unhide Q2); have HB := hide ((unhide HA).trans (hB1.mono (unhide HA).size)); clear hB1)
    | (go_at_call 21; refine (unhide HT _ (unhide HM _ _ (unhide HMw) (unhide HB)) ((unhide HV).below (unhide HB))).mono ?_; rintro E w2 ⟨ty, p, rfl, hB2⟩; have HB2 := hide ((unhide HB).trans (hB2.mono (unhide HB).size)); clear q0 q1 q2 hB2))
  go_ret
  refine ⟨rfl, ?_⟩
  have hs := (unhide HB2).size
  exact ((unhide HB2).alloc hs _).alloc (by simp; omega) _
/-- A law's own view, and the view and the entry that were told, in memory. -/
structure MAt (W : World) (bv bx be : Nat) (v x : Vw) (en : Ent) : Prop where
  v0 : W.cell? ⟨bv, 0, none⟩ = some (.int .i64 v.me)
  v1 : W.cell? ⟨bv, 1, none⟩ = some (.int .i64 v.mo)
  v2 : W.cell? ⟨bv, 2, none⟩ = some (.int .i64 v.sl)
  x0 : W.cell? ⟨bx, 0, none⟩ = some (.int .i64 x.me)
  x1 : W.cell? ⟨bx, 1, none⟩ = some (.int .i64 x.mo)
  x2 : W.cell? ⟨bx, 2, none⟩ = some (.int .i64 x.sl)
  e0 : W.cell? ⟨be, 0, none⟩ = some (.int .i64 en.slot)
  e1 : W.cell? ⟨be, 1, none⟩ = some (.int .i64 en.src)
  e2 : W.cell? ⟨be, 2, none⟩ = some (.bool en.heard)
  e3 : W.cell? ⟨be, 3, none⟩ = some (.int .i64 en.value)
theorem MAt.below {W W' : World} {bv bx be : Nat} {v x : Vw} {en : Ent} (h : MAt W bv bx be v x en) (hB : Below W.heap.size W W') : MAt W' bv bx be v x en :=
  ⟨below_cell hB h.v0, below_cell hB h.v1, below_cell hB h.v2, below_cell hB h.x0, below_cell hB h.x1, below_cell hB h.x2, below_cell hB h.e0, below_cell hB h.e1, below_cell hB h.e2, below_cell hB h.e3⟩
theorem MAt.new {w : World} {bv : Nat} {v : Vw} (x : Vw) (en : Ent) (tv te : TypeId) (v0 : w.cell? ⟨bv, 0, none⟩ = some (.int .i64 v.me)) (v1 : w.cell? ⟨bv, 1, none⟩ = some (.int .i64 v.mo)) (v2 : w.cell? ⟨bv, 2, none⟩ = some (.int .i64 v.sl)) :
    MAt ((w.alloc (.cells #[.int .i64 x.me, .int .i64 x.mo, .int .i64 x.sl] tv)).alloc (.cells #[.int .i64 en.slot, .int .i64 en.src, .bool en.heard, .int .i64 en.value] te)) bv w.heap.size (w.heap.size + 1) v x en := by
  obtain ⟨w1, h1⟩ : ∃ w1, w1 = w.alloc (.cells #[.int .i64 x.me, .int .i64 x.mo, .int .i64 x.sl] tv) := ⟨_, rfl⟩
  have s1 : w1.heap.size = w.heap.size + 1 := by rw [h1]; simp
  have b1 : Below w.heap.size w w1 := by rw [h1]; exact (Below.refl _ _).alloc (Nat.le_refl _) _
  have b2 : Below w1.heap.size w1 (w1.alloc (.cells #[.int .i64 en.slot, .int .i64 en.src, .bool en.heard, .int .i64 en.value] te)) := (Below.refl _ _).alloc (Nat.le_refl _) _
  have c0 : w1.cell? ⟨w.heap.size, 0, none⟩ = some (.int .i64 x.me) := by rw [h1]; simp
  have c1 : w1.cell? ⟨w.heap.size, 1, none⟩ = some (.int .i64 x.mo) := by rw [h1]; simp
  have c2 : w1.cell? ⟨w.heap.size, 2, none⟩ = some (.int .i64 x.sl) := by rw [h1]; simp
  rw [← h1, ← s1]
  exact ⟨below_cell b2 (below_cell b1 v0), below_cell b2 (below_cell b1 v1), below_cell b2 (below_cell b1 v2), below_cell b2 c0, below_cell b2 c1, below_cell b2 c2, by simp, by simp, by simp, by simp⟩
theorem old_two {w : World} {p : Addr} {v : Value} (h : w.cell? p = some v) (o o' : Obj) : ((w.alloc o).alloc o').cell? p = some v := by
  have hl := cell_lt h
  rw [World.cell?_alloc_lt _ _ _ (by simp; omega), World.cell?_alloc_lt _ _ _ hl]
  exact h
set_option maxRecDepth 100000 in
theorem mslot_ok (M : World → Prop) (hM : ∀ w w', M w → Below w.heap.size w w' → M w') (SP : Stepped M) (HN : Haves) (e : Nat → TypeId × Value) (hP : ∀ w, M w → PSent e w) (vl : Value) (xs : List Int) (v : Vw) (s : ByteArray) (g : Option Int) (w : World) (m : M w) (hv : IntsIn w vl xs) (h1 : xs.length ≤ 40) (h2 : s.size ≤ 150)
    (hp : planOk xs) (hok : v.ok) (hsl : v.sl < 1000000)
    (T : ∀ w, M w → IntsIn w vl xs → Calls Tryd.prog 21 #[vl, v.val, .string s] w fun r w' => r = .returned (.tuple #[(nextV xs v g).val, (entV xs v g).val, .nilIface]) ∧ Below w.heap.size w w')
    (C : ∀ w (x : Vw), M w → x.ok → Calls Tryd.prog 19 #[x.val] w fun r w' => r = .returned .nilIface ∧ Below w.heap.size w w') :
    Calls Tryd.prog 6 #[vl, v.val, .string s] w fun r w' => r = .returned (.bool true) ∧ Below w.heap.size w w' := by
  have hA : Below w.heap.size w (w.alloc (.cells #[.int .i64 v.me, .int .i64 v.mo, .int .i64 v.sl] 46)) := (Below.refl _ _).alloc (Nat.le_refl _) _
  have HK := hide (SP _ (hM _ _ m hA))
  have HT := hide T
  have HM := hide hM
  have HMw := hide m
  have HV := hide hv
  have HA := hide hA
  have Q0 : Hid ((w.alloc (.cells #[.int .i64 v.me, .int .i64 v.mo, .int .i64 v.sl] 46)).cell? ⟨w.heap.size, 0, none⟩ = some (.int .i64 v.me)) := by show _ = _; simp
  have Q1 : Hid ((w.alloc (.cells #[.int .i64 v.me, .int .i64 v.mo, .int .i64 v.sl] 46)).cell? ⟨w.heap.size, 1, none⟩ = some (.int .i64 v.mo)) := by show _ = _; simp
  have Q2 : Hid ((w.alloc (.cells #[.int .i64 v.me, .int .i64 v.mo, .int .i64 v.sl] 46)).cell? ⟨w.heap.size, 2, none⟩ = some (.int .i64 v.sl)) := by show _ = _; simp
  have HW : Hid (∀ w', M w' → IntsIn w' vl xs → Calls Tryd.prog 12 #[vl, .int .i64 v.sl] w' fun r w2 => r = .returned (.tuple #[.int .i64 (whoV xs v), .nilIface]) ∧ Below w'.heap.size w' w2) := fun w' m' hv' => by
    have hs : v.sl = ((v.sl.toNat : Nat) : Int) := by have := hok.2.2.1; omega
    have h := whoP_yes e vl xs v.sl.toNat w' hv' hp (by omega) (hP w' m')
    rw [← hs] at h
    exact h
  have HC : Hid (∀ w', M w' → Calls Tryd.prog 19 #[(nextV xs v g).val] w' fun r w2 => r = .returned .nilIface ∧ Below w'.heap.size w' w2) := fun w' m' => C w' _ m' (next_ok hp hok hsl g)
  have hxok := (next_ok hp hok hsl g).1
  obtain ⟨c, hc⟩ : ∃ c : Nat, (nextV xs v g).me = (c : Int) := ⟨(nextV xs v g).me.toNat, by omega⟩
  obtain ⟨d, hd⟩ : ∃ d : Nat, v.me = (d : Int) := ⟨v.me.toNat, by have := hok.1; omega⟩
  obtain ⟨hwho, hi⟩ := who_at hp v
  have HNc : Hid (∀ (k : Nat) w', k ≤ 15 → Calls Tryd.prog 22 #[.int .i64 (nextV xs v g).me, .int .i64 ((k : Int) + 1)] w' fun e w2 => e = .returned (.bool (if k = atV xs v then g.isSome else v.me.toNat.testBit k)) ∧ w2 = w') := fun k w' hk => by
    have h := HN c k w' (by omega) hk
    rw [← hc] at h
    have hb := next_bit hp hok g k (by omega)
    rw [hc, Int.toNat_natCast] at hb
    rw [← hb]
    exact h
  have HNd : Hid (∀ (k : Nat) w', k ≤ 15 → Calls Tryd.prog 22 #[.int .i64 v.me, .int .i64 ((k : Int) + 1)] w' fun e w2 => e = .returned (.bool (v.me.toNat.testBit k)) ∧ w2 = w') := fun k w' hk => by
    have h := HN d k w' (by have := hok.1; omega) hk
    rw [← hd] at h
    rw [hd, Int.toNat_natCast, ← hd]
    exact h
  have hv2 := hok.2.2
  obtain ⟨xm, hxm⟩ : ∃ xm, (nextV xs v g).me = xm := ⟨_, rfl⟩
  obtain ⟨gv, hgv⟩ : ∃ gv, g.getD 0 = gv := ⟨_, rfl⟩
  obtain ⟨gb, hgb⟩ : ∃ gb, g.isSome = gb := ⟨_, rfl⟩
  obtain ⟨i, hi'⟩ : ∃ i, atV xs v = i := ⟨_, rfl⟩
  have hX : nextV xs v g = ⟨xm, v.mo, v.sl + 1⟩ := by rw [← hxm]; rfl
  have hE : entV xs v g = ⟨v.sl, (i : Int) + 1, gb, gv⟩ := by rw [← hgb, ← hgv, ← hi', ← hwho]; rfl
  have Hgz : Hid (gb = false → gv = 0) := fun h => by
    cases g with
    | none => exact hgv.symm
    | some x => rw [← hgb] at h; cases h
  rw [hX, hE] at HT
  rw [hX] at HC
  rw [hxm, hgb, hi'] at HNc
  rw [hwho, hi'] at HW
  rw [hi'] at hi
  clear hc hd hxok m hA T hM hok C HN hP SP hp hX hE hwho hgv hgb hi' hxm
  obtain ⟨ad, cap, rfl, _⟩ := hv
  obtain ⟨me, mo, sl⟩ := v
  unfold Vw.val Ent.val at HT
  unfold Vw.val at HC
  unfold Vw.val
  simp only at HT HC HW HNc HNd Q0 Q1 Q2 HK HA hsl hv2 ⊢
  generalize me.toNat = d at *
  have h1' : ¬ (40 : Int) < (xs.length : Int) := by omega
  have h2' : ¬ (150 : Int) < (s.size : Int) := by omega
  go_enter Tryd.func6, Tryd.ntmps6
  go_wp2_with fail
  refine (unhide HK).mono ?_
  rintro E w1 ⟨rfl, hB1⟩
  have q0 := below_cell hB1 (unhide Q0)
  have q1 := below_cell hB1 (unhide Q1)
  have q2 := below_cell hB1 (unhide Q2)
  have HB := hide ((unhide HA).trans (hB1.mono (unhide HA).size))
  clear hB1
  go_wp2_with fail
  refine (unhide HT _ (unhide HM _ _ (unhide HMw) (unhide HB)) ((unhide HV).below (unhide HB))).mono ?_
  rintro E w2 ⟨rfl, hB2⟩
  have HM2 := hide (MAt.new (v := ⟨me, mo, sl⟩) ⟨xm, mo, sl + 1⟩ ⟨sl, (i : Int) + 1, gb, gv⟩ 46 52 (below_cell hB2 q0) (below_cell hB2 q1) (below_cell hB2 q2))
  have p2 := old_two (below_cell hB2 q2)
  have HB2 := hide ((unhide HB).trans (hB2.mono (unhide HB).size))
  clear q0 q1 q2 hB2
  go_wp2_with fail
  obtain ⟨W3, hW3⟩ : ∃ W3, W3 = (w2.alloc (.cells #[.int .i64 xm, .int .i64 mo, .int .i64 (sl + 1)] 46)).alloc (.cells #[.int .i64 sl, .int .i64 ((i : Int) + 1), .bool gb, .int .i64 gv] 52) := ⟨_, rfl⟩
  have HB3 : Hid (Below w.heap.size w W3) := by
    rw [hW3]
    have hs := (unhide HB2).size
    exact ((unhide HB2).alloc hs _).alloc (by simp; omega) _
  have HM3 : Hid (MAt W3 w.heap.size w2.heap.size (w2.heap.size + 1) ⟨me, mo, sl⟩ ⟨xm, mo, sl + 1⟩ ⟨sl, (i : Int) + 1, gb, gv⟩) := by rw [hW3]; exact unhide HM2
  rw [← hW3]
  clear hW3 HM2 p2
  refine (unhide HW _ (unhide HM _ _ (unhide HMw) (unhide HB3)) ((unhide HV).below (unhide HB3))).mono ?_
  rintro E w4 ⟨rfl, hB4⟩
  obtain ⟨c0, c1, c2, y0, y1, y2, z0, z1, z2, z3⟩ := (unhide HM3).below hB4
  have HM4 := hide ((unhide HM3).below hB4)
  have HB4 := hide ((unhide HB3).trans (hB4.mono (unhide HB3).size))
  simp only at c0 c1 c2 y0 y1 y2 z0 z1 z2 z3
  clear hB4
  go_wp2_with fail
  refine (unhide HC _ (unhide HM _ _ (unhide HMw) (unhide HB4))).mono ?_
  rintro E w5 ⟨rfl, hB5⟩
  clear c0 c1 c2 y0 y1 y2 z0 z1 z2 z3
  obtain ⟨c0, c1, c2, y0, y1, y2, z0, z1, z2, z3⟩ := (unhide HM4).below hB5
  have HB5 := hide ((unhide HB4).trans (hB5.mono (unhide HB4).size))
  simp only at c0 c1 c2 y0 y1 y2 z0 z1 z2 z3
  clear hB5
  go_wp2_with fail
  go_loopw [12] (fun q wr => ∃ k : Nat, k ≤ 16 ∧ q = .int .i64 ((k : Int) + 1) ∧ Hid (wr = w5)) (fun q _ => 17 - (intOf q).toNat)
  case atStart => exact ⟨0, by omega, by simp, hide rfl⟩
  case round =>
    obtain ⟨k, hk, rfl, hwr⟩ := hrel
    have hwr := unhide hwr
    subst hwr
    by_cases hlt : k < 16
    · have hle : ((k : Int) + 1) ≤ 16 := by omega
      have HN1 := hide (unhide HNc k wr (by omega))
      have HN2 := hide (unhide HNd k wr (by omega))
      by_cases hki : k = i
      · subst hki
        rw [if_pos rfl] at HN1
        generalize d.testBit k = bt at *
        go_wp2_with fail
        refine (unhide HN1).mono ?_
        rintro E w6 ⟨rfl, rfl⟩
        go_wp2_with fail
        refine (unhide HN2).mono ?_
        rintro E w7 ⟨rfl, rfl⟩
        go_wp2
        go_roundw
        case rel => exact ⟨k + 1, by omega, by go_num, by trivial⟩
        case measure => simp [intOf]; omega
      · rw [if_neg hki] at HN1
        have hki' : ¬ ((k : Int) + 1) = (i : Int) + 1 := by omega
        generalize d.testBit k = bt at *
        go_wp2_with fail
        refine (unhide HN1).mono ?_
        rintro E w6 ⟨rfl, rfl⟩
        go_wp2_with fail
        refine (unhide HN2).mono ?_
        rintro E w7 ⟨rfl, rfl⟩
        go_wp2
        go_roundw
        case rel => exact ⟨k + 1, by omega, by go_num, by trivial⟩
        case measure => simp [intOf]; omega
    · have hk16 : k = 16 := by omega
      subst hk16
      cases gb with
      | true =>
        go_wp2
        go_ret
        exact ⟨rfl, unhide HB5⟩
      | false =>
        obtain rfl := unhide Hgz rfl
        go_wp2
        go_ret
        exact ⟨rfl, unhide HB5⟩
end Go.Proofs.YtglhapkclpllfacDoor
