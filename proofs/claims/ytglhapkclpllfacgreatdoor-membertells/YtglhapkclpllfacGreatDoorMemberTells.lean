/-
  The walk of the law MemberTells: what package member and the document's answer tell, side by side (structure MTold), makes it answer true, and nothing that was in memory has turned.
  Conditions: those of the package's contracts (M).
-/
import Derived.Test.YtglhapkclpllfacGreatDoorGm
import Derived.Test.YtglhapkclpllfacGreatDoorFaultVar
import Derived.Deep.RegionHeld3
namespace Go.Proofs.YtglhapkclpllfacGreatDoor
open Go.RowKit

/-- Two answers that go together, call by call. -/
structure MTold (M : World → Prop) (a : Nat → Addr) (xs : List Int) (v : Vw) (s : ByteArray) (node value : Int) (ev0 : Value) (cv : Int) (x : Vw) (en : Ent) (c n : Int) (T : ByteArray) (c' n' : Int) : Prop where
  ck : ∀ w, M w → Calls Tryz.prog 6 #[v.val] w fun r w' => r = .returned ev0 ∧ Below w.heap.size w w'
  ve : ∀ w, Calls Tryz.prog 7 #[v.val] w fun r w' => r = .returned (.int .i64 cv) ∧ Below w.heap.size w w'
  co : ∀ w, M w → Calls Tryz.prog 5 #[ev0, .int .i64 cv] w fun r w' => r = .returned (.bool true) ∧ Below w.heap.size w w'
  st : ∀ w vl, M w → IntsIn w vl xs → Calls Tryz.prog 8 #[vl, v.val, .string s] w fun r w' => ∃ ev, r = .returned (.tuple #[x.val, en.val, ev]) ∧ ErrFits a w' ev c n ∧ Below w.heap.size w w'
  so : ∀ w vl, IntsIn w vl xs → Calls Tryz.prog 9 #[vl, v.val, .string s] w fun r w' => r = .returned (.tuple #[x.val, en.val, .agg #[.int .i64 c, .int .i64 n]]) ∧ Below w.heap.size w w'
  se : ∀ w vl, M w → IntsIn w vl xs → Calls Tryz.prog 11 #[vl, v.val, .int .i64 node, .int .i64 value] w fun r w' => ∃ ev, r = .returned (.tuple #[.string T, ev]) ∧ ErrFits a w' ev c' n' ∧ Below w.heap.size w w'
  sd : ∀ w vl, IntsIn w vl xs → Calls Tryz.prog 12 #[vl, v.val, .int .i64 node, .int .i64 value] w fun r w' => r = .returned (.tuple #[.string T, .agg #[.int .i64 c', .int .i64 n']]) ∧ Below w.heap.size w w'
/-- The closed fact, as the walk wants it. -/
def SteppedT (M : World → Prop) : Prop := ∀ w, M w → Calls Tryz.prog 4 #[] w fun r w' => r = .returned (.bool true) ∧ Below w.heap.size w w'
theorem mtells_far (M : World → Prop) (hM : ∀ w w', M w → Below w.heap.size w w' → M w') (SP : SteppedT M) (vl : Value) (xs : List Int) (v : Vw) (s : ByteArray) (node value : Int) (hs : s.size ≤ maxLen) (w : World) (m : M w) (hv : IntsIn w vl xs) (h : 40 < xs.length ∨ 150 < s.size) :
    Calls Tryz.prog 3 #[vl, v.val, .string s, .int .i64 node, .int .i64 value] w fun r w' => r = .returned (.bool true) ∧ Below w.heap.size w w' := by
  have hA : Below w.heap.size w (w.alloc (.cells #[.int .i64 v.me, .int .i64 v.mo, .int .i64 v.sl] 24)) := (Below.refl _ _).alloc (Nat.le_refl _) _
  have HK := hide (SP _ (hM _ _ m hA))
  have HA := hide hA
  obtain ⟨ad, cap, rfl, _⟩ := hv
  unfold Vw.val
  unfold maxLen at hs
  clear m hA
  by_cases h1 : 40 < xs.length
  · have h1' : (40 : Int) < (xs.length : Int) := by omega
    clear h
    go_enter Tryz.func3, Tryz.ntmps3
    go_wp2_with (go_at_call 4; refine (unhide HK).mono ?_; rintro E w1 ⟨rfl, hB1⟩; have HB := hide ((unhide HA).trans (hB1.mono (unhide HA).size)); clear hB1)
    go_ret
    exact ⟨rfl, unhide HB⟩
  · have h1' : ¬ (40 : Int) < (xs.length : Int) := by omega
    have h2 : (150 : Int) < (s.size : Int) := by omega
    clear h
    go_enter Tryz.func3, Tryz.ntmps3
    go_wp2_with (go_at_call 4; refine (unhide HK).mono ?_; rintro E w1 ⟨rfl, hB1⟩; have HB := hide ((unhide HA).trans (hB1.mono (unhide HA).size)); clear hB1)
    go_ret
    exact ⟨rfl, unhide HB⟩
/-- A view in memory. -/
structure VAt (W : World) (b : Nat) (v : Vw) : Prop where
  c0 : W.cell? ⟨b, 0, none⟩ = some (.int .i64 v.me)
  c1 : W.cell? ⟨b, 1, none⟩ = some (.int .i64 v.mo)
  c2 : W.cell? ⟨b, 2, none⟩ = some (.int .i64 v.sl)
theorem VAt.below {W W' : World} {b : Nat} {v : Vw} (h : VAt W b v) (hB : Below W.heap.size W W') : VAt W' b v := ⟨below_cell hB h.c0, below_cell hB h.c1, below_cell hB h.c2⟩
theorem VAt.all {W : World} {b : Nat} {v : Vw} (h : VAt W b v) : W.cell? ⟨b, 0, none⟩ = some (.int .i64 v.me) ∧ W.cell? ⟨b, 1, none⟩ = some (.int .i64 v.mo) ∧ W.cell? ⟨b, 2, none⟩ = some (.int .i64 v.sl) := ⟨h.c0, h.c1, h.c2⟩
theorem VAt.new (w : World) (v : Vw) (t : TypeId) : VAt (w.alloc (.cells #[.int .i64 v.me, .int .i64 v.mo, .int .i64 v.sl] t)) w.heap.size v := ⟨by simp, by simp, by simp⟩
/-- An entry in memory. -/
structure EAt (W : World) (b : Nat) (en : Ent) : Prop where
  c0 : W.cell? ⟨b, 0, none⟩ = some (.int .i64 en.slot)
  c1 : W.cell? ⟨b, 1, none⟩ = some (.int .i64 en.src)
  c2 : W.cell? ⟨b, 2, none⟩ = some (.bool en.heard)
  c3 : W.cell? ⟨b, 3, none⟩ = some (.int .i64 en.value)
theorem EAt.below {W W' : World} {b : Nat} {en : Ent} (h : EAt W b en) (hB : Below W.heap.size W W') : EAt W' b en := ⟨below_cell hB h.c0, below_cell hB h.c1, below_cell hB h.c2, below_cell hB h.c3⟩
theorem EAt.new (w : World) (en : Ent) (t : TypeId) : EAt (w.alloc (.cells #[.int .i64 en.slot, .int .i64 en.src, .bool en.heard, .int .i64 en.value] t)) w.heap.size en := ⟨by simp, by simp, by simp, by simp⟩
theorem old_2 {w : World} {p : Addr} {v : Value} (h : w.cell? p = some v) (o o' : Obj) : ((w.alloc o).alloc o').cell? p = some v := by
  have hl := cell_lt h
  rw [World.cell?_alloc_lt _ _ _ (by simp; omega), World.cell?_alloc_lt _ _ _ hl]
  exact h
set_option maxRecDepth 100000 in
set_option maxHeartbeats 1000000 in
theorem mtells_near (M : World → Prop) (hM : ∀ w w', M w → Below w.heap.size w w' → M w') (a : Nat → Addr) (hS : ∀ w, M w → Sent a w) (SP : SteppedT M) (vl : Value) (xs : List Int) (v : Vw) (s : ByteArray) (node value : Int) (ev0 : Value) (cv : Int) (x : Vw) (en : Ent) (c n : Int) (T : ByteArray) (c' n' : Int) (w : World) (m : M w) (hv : IntsIn w vl xs)
    (h1 : xs.length ≤ 40) (h2 : s.size ≤ 150) (MT : MTold M a xs v s node value ev0 cv x en c n T c' n') :
    Calls Tryz.prog 3 #[vl, v.val, .string s, .int .i64 node, .int .i64 value] w fun r w' => r = .returned (.bool true) ∧ Below w.heap.size w w' := by
  have hA : Below w.heap.size w (w.alloc (.cells #[.int .i64 v.me, .int .i64 v.mo, .int .i64 v.sl] 24)) := (Below.refl _ _).alloc (Nat.le_refl _) _
  have HK := hide (SP _ (hM _ _ m hA))
  have HA := hide hA
  have HM := hide (fun w' (hB : Below w.heap.size w w') => hM w w' m hB)
  have HS := hide hS
  have HV := hide hv
  have HV0 := hide (VAt.new w v 24)
  have C1 := hide MT.ck
  have C2 := hide MT.ve
  have C3 := hide MT.co
  have C4 := hide MT.st
  have C5 := hide MT.so
  have C6 := hide MT.se
  have C7 := hide MT.sd
  obtain ⟨ad, cap, rfl, _⟩ := hv
  obtain ⟨me, mo, sl⟩ := v
  obtain ⟨xme, xmo, xsl⟩ := x
  obtain ⟨esl, esr, ehe, eva⟩ := en
  unfold Vw.val at C1 C2 C6 C7 ⊢
  unfold Vw.val Ent.val at C4 C5
  have h1' : ¬ (40 : Int) < (xs.length : Int) := by omega
  have h2' : ¬ (150 : Int) < (s.size : Int) := by omega
  clear m hA MT hM hS SP
  go_enter Tryz.func3, Tryz.ntmps3
  go_wp2_with fail
  refine (unhide HK).mono ?_
  rintro E w1 ⟨rfl, hB⟩
  have HB1 := hide ((unhide HA).trans (hB.mono (unhide HA).size))
  have HV1 := hide ((unhide HV0).below hB)
  clear hB
  obtain ⟨q0, q1, q2⟩ := unhide HV1
  simp only at q0 q1 q2
  go_wp2_with fail
  have HB2 := hide (unhide HB1).drew
  have HV2 := hide ((unhide HV1).below (Below.refl _ w1).drew)
  go_region_held3 (fun w' => w'.cell? ⟨w.heap.size, 0, none⟩ = some (.int .i64 me) ∧ w'.cell? ⟨w.heap.size, 1, none⟩ = some (.int .i64 mo) ∧ w'.cell? ⟨w.heap.size, 2, none⟩ = some (.int .i64 sl)) (first | exact (unhide HV5).all | exact (unhide HV4).all | exact (unhide HV3).all | exact (unhide HV2).all)
    (first
      | (go_at_call 6; refine (unhide C1 _ (unhide HM _ (unhide HB2))).mono ?_; rintro E w3 ⟨rfl, hB⟩; have HB3 := hide ((unhide HB2).trans (hB.mono (unhide HB2).size)); have HV3 := hide ((unhide HV2).below hB); clear hB)
      | (go_at_call 7; refine (unhide C2 _).mono ?_; rintro E w4 ⟨rfl, hB⟩; have HB4 := hide ((unhide HB3).trans (hB.mono (unhide HB3).size)); have HV4 := hide ((unhide HV3).below hB); clear hB)
      | (go_at_call 5; refine (unhide C3 _ (unhide HM _ (unhide HB4))).mono ?_; rintro E w5 ⟨rfl, hB⟩; have HB5 := hide ((unhide HB4).trans (hB.mono (unhide HB4).size)); have HV5 := hide ((unhide HV4).below hB); clear hB))
  clear q0 q1 q2
  obtain ⟨q0, q1, q2⟩ := unhide HV5
  simp only at q0 q1 q2
  go_wp2_with fail
  refine (unhide C4 _ _ (unhide HM _ (unhide HB5)) ((unhide HV).below (unhide HB5))).mono ?_
  rintro E w6 ⟨ev6, rfl, hf6, hB⟩
  have HB6 := hide ((unhide HB5).trans (hB.mono (unhide HB5).size))
  have HV6 := hide ((unhide HV5).below hB)
  have HE6 := hide hf6
  clear hB q0 q1 q2 hf6
  obtain ⟨W7, hW7⟩ : ∃ W7, W7 = (w6.alloc (.cells #[.int .i64 xme, .int .i64 xmo, .int .i64 xsl] 24)).alloc (.cells #[.int .i64 esl, .int .i64 esr, .bool ehe, .int .i64 eva] 32) := ⟨_, rfl⟩
  have b61 : Below w6.heap.size w6 (w6.alloc (.cells #[.int .i64 xme, .int .i64 xmo, .int .i64 xsl] 24)) := (Below.refl _ _).alloc (Nat.le_refl _) _
  have s61 : (w6.alloc (.cells #[.int .i64 xme, .int .i64 xmo, .int .i64 xsl] 24)).heap.size = w6.heap.size + 1 := by simp
  have x61 := VAt.new w6 ⟨xme, xmo, xsl⟩ 24
  simp only at x61
  have b62 : Below (w6.alloc (.cells #[.int .i64 xme, .int .i64 xmo, .int .i64 xsl] 24)).heap.size (w6.alloc (.cells #[.int .i64 xme, .int .i64 xmo, .int .i64 xsl] 24)) W7 := by rw [hW7]; exact (Below.refl _ _).alloc (Nat.le_refl _) _
  have e62 := EAt.new (w6.alloc (.cells #[.int .i64 xme, .int .i64 xmo, .int .i64 xsl] 24)) ⟨esl, esr, ehe, eva⟩ 32
  simp only at e62
  rw [← hW7, s61] at e62
  have b6 : Below w6.heap.size w6 W7 := b61.trans (b62.mono (by rw [s61]; omega))
  have HX7 := hide (x61.below b62)
  have HN7 := hide e62
  have HV7 := hide ((unhide HV6).below b6)
  have HE7 := hide ((unhide HE6).below b6)
  have HB7 := hide ((unhide HB6).trans (b6.mono (unhide HB6).size))
  have p0 := old_2 (unhide HV6).c0
  have p1 := old_2 (unhide HV6).c1
  have p2 := old_2 (unhide HV6).c2
  simp only at p0 p1 p2
  clear b61 s61 x61 b62 e62 b6
  go_wp2_with fail
  rw [← hW7]
  clear hW7 p0 p1 p2
  refine (unhide C5 _ _ ((unhide HV).below (unhide HB7))).mono ?_
  rintro E w8 ⟨rfl, hB⟩
  have HB8 := hide ((unhide HB7).trans (hB.mono (unhide HB7).size))
  have HV8 := hide ((unhide HV7).below hB)
  have HX8 := hide ((unhide HX7).below hB)
  have HN8 := hide ((unhide HN7).below hB)
  have HE8 := hide ((unhide HE7).below hB)
  clear hB
  obtain ⟨y1, hy1⟩ : ∃ y1, y1 = w8.alloc (.cells #[.int .i64 xme, .int .i64 xmo, .int .i64 xsl] 24) := ⟨_, rfl⟩
  obtain ⟨y2, hy2⟩ : ∃ y2, y2 = y1.alloc (.cells #[.int .i64 esl, .int .i64 esr, .bool ehe, .int .i64 eva] 32) := ⟨_, rfl⟩
  obtain ⟨W9, hW9⟩ : ∃ W9, W9 = y2.alloc (.cells #[.int .i64 c, .int .i64 n] 36) := ⟨_, rfl⟩
  have t1 : y1.heap.size = w8.heap.size + 1 := by rw [hy1]; simp
  have t2 : y2.heap.size = w8.heap.size + 1 + 1 := by rw [hy2]; simp; omega
  have bb1 : Below w8.heap.size w8 y1 := by rw [hy1]; exact (Below.refl _ _).alloc (Nat.le_refl _) _
  have bb2 : Below y1.heap.size y1 y2 := by rw [hy2]; exact (Below.refl _ _).alloc (Nat.le_refl _) _
  have bb3 : Below y2.heap.size y2 W9 := by rw [hW9]; exact (Below.refl _ _).alloc (Nat.le_refl _) _
  have bb : Below w8.heap.size w8 W9 := (bb1.trans (bb2.mono (by omega))).trans (bb3.mono (by omega))
  have HY9 : Hid (VAt W9 w8.heap.size ⟨xme, xmo, xsl⟩) := by
    have h := VAt.new w8 ⟨xme, xmo, xsl⟩ 24
    simp only at h
    rw [← hy1] at h
    exact (h.below bb2).below bb3
  have HZ9 : Hid (EAt W9 (w8.heap.size + 1) ⟨esl, esr, ehe, eva⟩) := by
    have h := EAt.new y1 ⟨esl, esr, ehe, eva⟩ 32
    simp only at h
    rw [← hy2, t1] at h
    exact h.below bb3
  have HF9 : Hid (FAt W9 (w8.heap.size + 1 + 1) c n) := by
    have h := FAt.new y2 c n
    rw [← hW9, t2] at h
    exact h
  rw [hy2, hy1] at hW9
  have HB9 := hide ((unhide HB8).trans (bb.mono (unhide HB8).size))
  have HV9 := hide ((unhide HV8).below bb)
  have HX9 := hide ((unhide HX8).below bb)
  have HN9 := hide ((unhide HN8).below bb)
  have HE9 := hide ((unhide HE8).below bb)
  clear hy1 hy2 t1 t2 bb1 bb2 bb3 bb
  go_wp2_with fail
  rw [← hW9]
  clear hW9
  refine (faulted_ok a _ (unhide HS _ (unhide HM _ (unhide HB9))) (unhide HE9)).mono ?_
  rintro E w10 ⟨rfl, hB⟩
  have HB10 := hide ((unhide HB9).trans (hB.mono (unhide HB9).size))
  have HV10 := hide ((unhide HV9).below hB)
  have HF10 := hide ((unhide HF9).below hB)
  obtain ⟨x0, x1, x2⟩ := (unhide HX9).below hB
  obtain ⟨e0, e1, e2, e3⟩ := (unhide HN9).below hB
  obtain ⟨u0, u1, u2⟩ := (unhide HY9).below hB
  obtain ⟨z0, z1, z2, z3⟩ := (unhide HZ9).below hB
  obtain ⟨q0, q1, q2⟩ := unhide HV10
  simp only at q0 q1 q2 x0 x1 x2 e0 e1 e2 e3 u0 u1 u2 z0 z1 z2 z3
  clear hB
  go_wp2_with fail
  refine (unhide C6 _ _ (unhide HM _ (unhide HB10)) ((unhide HV).below (unhide HB10))).mono ?_
  rintro E w11 ⟨ev11, rfl, hf11, hB⟩
  have HB11 := hide ((unhide HB10).trans (hB.mono (unhide HB10).size))
  have HV11 := hide ((unhide HV10).below hB)
  have HF11 := hide ((unhide HF10).below hB)
  have HE11 := hide hf11
  clear hB hf11 q0 q1 q2 x0 x1 x2 e0 e1 e2 e3 u0 u1 u2 z0 z1 z2 z3
  obtain ⟨q0, q1, q2⟩ := unhide HV11
  simp only at q0 q1 q2
  go_wp2_with fail
  refine (unhide C7 _ _ ((unhide HV).below (unhide HB11))).mono ?_
  rintro E w12 ⟨rfl, hB⟩
  have HB12 := hide ((unhide HB11).trans (hB.mono (unhide HB11).size))
  have HF12 := hide ((unhide HF11).below hB)
  have HE12 := hide ((unhide HE11).below hB)
  clear hB q0 q1 q2
  obtain ⟨f0, f1, g0, g1⟩ := unhide HF12
  go_wp2_with fail
  have hle : w.heap.size ≤ w8.heap.size + 1 + 1 := by have := (unhide HB8).size; omega
  have HB13 : Hid (Below w.heap.size w ((w12.setCell ⟨w8.heap.size + 1 + 1, 0, none⟩ (.int .i64 c')).setCell ⟨w8.heap.size + 1 + 1, 1, none⟩ (.int .i64 n'))) := ((unhide HB12).setCell (p := ⟨w8.heap.size + 1 + 1, 0, none⟩) hle _).setCell (p := ⟨w8.heap.size + 1 + 1, 1, none⟩) hle _
  refine (faulted_ok a _ (unhide HS _ (unhide HM _ (unhide HB13))) ((unhide HE12).set (unhide HF12) _ _)).mono ?_
  rintro E w14 ⟨rfl, hB⟩
  have HB14 := hide ((unhide HB13).trans (hB.mono (unhide HB13).size))
  clear hB
  go_wp2
  go_ret
  exact ⟨rfl, unhide HB14⟩
theorem mtells_walk (M : World → Prop) (hM : ∀ w w', M w → Below w.heap.size w w' → M w') (a : Nat → Addr) (hS : ∀ w, M w → Sent a w) (SP : SteppedT M) (vl : Value) (xs : List Int) (v : Vw) (s : ByteArray) (node value : Int) (hs : s.size ≤ maxLen) (w : World) (m : M w) (hv : IntsIn w vl xs)
    (MT : s.size ≤ 150 → ∃ ev0 cv x en c n T c' n', MTold M a xs v s node value ev0 cv x en c n T c' n') :
    Calls Tryz.prog 3 #[vl, v.val, .string s, .int .i64 node, .int .i64 value] w fun r w' => r = .returned (.bool true) ∧ Below w.heap.size w w' := by
  by_cases h : 40 < xs.length ∨ 150 < s.size
  · exact mtells_far M hM SP vl xs v s node value hs w m hv h
  · have h1 : xs.length ≤ 40 := Nat.not_lt.1 fun hh => h (Or.inl hh)
    have h2 : s.size ≤ 150 := Nat.not_lt.1 fun hh => h (Or.inr hh)
    obtain ⟨ev0, cv, x, en, c, n, T, c', n', MT⟩ := MT h2
    exact mtells_near M hM a hS SP vl xs v s node value ev0 cv x en c n T c' n' w m hv h1 h2 MT
end Go.Proofs.YtglhapkclpllfacGreatDoor
