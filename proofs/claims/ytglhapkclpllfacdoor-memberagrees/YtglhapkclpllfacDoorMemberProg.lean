/-
  What package member answers, whatever it is asked (structure MProg), and what follows: the closed fact that the laws of chapter 7 begin with.
  Conditions: those of the package's contracts (M).
-/
import Derived.Test.YtglhapkclpllfacDoorMemberStep
import Derived.Test.YtglhapkclpllfacDoorPlan1
namespace Go.Proofs.YtglhapkclpllfacDoor
open Go.RowKit

/-- Package member's answers: e 1 is ErrBound, e 6 ErrFull, e 8 ErrLate. -/
structure MProg (M : World → Prop) (e : Nat → TypeId × Value) : Prop where
  keep : ∀ w w', M w → Below w.heap.size w w' → M w'
  plan : ∀ w, M w → PSent e w
  yes : ∀ w (x : Vw), M w → x.ok → Calls Tryd.prog 19 #[x.val] w fun r w' => r = .returned .nilIface ∧ Below w.heap.size w w'
  no : ∀ w (x : Vw), M w → ¬ x.ok → Calls Tryd.prog 19 #[x.val] w fun r w' => r = .returned (.iface (e 1).1 (e 1).2) ∧ Below w.heap.size w w'
  stP : ∀ w vl xs (v : Vw) s, M w → IntsIn w vl xs → ¬ planOk xs → Calls Tryd.prog 21 #[vl, v.val, .string s] w fun r w' => ∃ ty p, r = .returned (.tuple #[Vw.none.val, Ent.zero.val, .iface ty p]) ∧ PlanErr e w' xs ty p ∧ Below w.heap.size w w'
  stV : ∀ w vl xs (v : Vw) s, M w → IntsIn w vl xs → planOk xs → ¬ v.ok → Calls Tryd.prog 21 #[vl, v.val, .string s] w fun r w' => r = .returned (.tuple #[Vw.none.val, Ent.zero.val, .iface (e 1).1 (e 1).2]) ∧ Below w.heap.size w w'
  stF : ∀ w vl xs (v : Vw) s, M w → IntsIn w vl xs → planOk xs → v.ok → v.sl = 1000000 → Calls Tryd.prog 21 #[vl, v.val, .string s] w fun r w' => r = .returned (.tuple #[Vw.none.val, Ent.zero.val, .iface (e 6).1 (e 6).2]) ∧ Below w.heap.size w w'
  stO : ∀ w vl xs (v : Vw) (s : ByteArray), M w → IntsIn w vl xs → planOk xs → v.ok → v.sl < 1000000 → Calls Tryd.prog 21 #[vl, v.val, .string s] w fun r w' => r = .returned (.tuple #[(nextV xs v (goodV xs v (readF s.data.toList))).val, (entV xs v (goodV xs v (readF s.data.toList))).val, .nilIface]) ∧ Below w.heap.size w w'
  seP : ∀ w vl xs (v : Vw) node value, M w → IntsIn w vl xs → ¬ planOk xs → Calls Tryd.prog 20 #[vl, v.val, .int .i64 node, .int .i64 value] w fun r w' => ∃ ty p, r = .returned (.tuple #[.string ⟨#[]⟩, .iface ty p]) ∧ PlanErr e w' xs ty p ∧ Below w.heap.size w w'
  seV : ∀ w vl xs (v : Vw) node value, M w → IntsIn w vl xs → planOk xs → ¬ v.ok → Calls Tryd.prog 20 #[vl, v.val, .int .i64 node, .int .i64 value] w fun r w' => r = .returned (.tuple #[.string ⟨#[]⟩, .iface (e 1).1 (e 1).2]) ∧ Below w.heap.size w w'
  seL : ∀ w vl xs (v : Vw) node value, M w → IntsIn w vl xs → planOk xs → v.ok → whoV xs v ≠ node → Calls Tryd.prog 20 #[vl, v.val, .int .i64 node, .int .i64 value] w fun r w' => r = .returned (.tuple #[.string ⟨#[]⟩, .iface (e 8).1 (e 8).2]) ∧ Below w.heap.size w w'
  seB : ∀ w vl xs (v : Vw) value, M w → IntsIn w vl xs → planOk xs → v.ok → ¬ (-1048576 ≤ value ∧ value ≤ 1048576) → Calls Tryd.prog 20 #[vl, v.val, .int .i64 (whoV xs v), .int .i64 value] w fun r w' => r = .returned (.tuple #[.string ⟨#[]⟩, .iface (e 1).1 (e 1).2]) ∧ Below w.heap.size w w'
  seO : ∀ w vl xs (v : Vw) value, M w → IntsIn w vl xs → planOk xs → v.ok → -1048576 ≤ value ∧ value ≤ 1048576 → Calls Tryd.prog 20 #[vl, v.val, .int .i64 (whoV xs v), .int .i64 value] w fun r w' => r = .returned (.tuple #[.string ⟨(frameL (sendF xs v (whoV xs v) value)).toArray⟩, .nilIface]) ∧ Below w.heap.size w w'
/-- What is sent so is read so. -/
theorem sent_read {xs : List Int} (h : planOk xs) {v : Vw} (hv : v.ok) {value : Int} (hval : -1048576 ≤ value ∧ value ≤ 1048576) : readF (ByteArray.mk (frameL (sendF xs v (whoV xs v) value)).toArray).data.toList = .ok (sendF xs v (whoV xs v) value) := by
  have he := send_err h hv value
  rw [if_pos hval] at he
  have := read_frame (sendF xs v (whoV xs v) value) he
  simpa using this
def v30 : Vw := ⟨3, 0, 0⟩
theorem two_okM : planOk [2, 1] := ⟨by decide, by decide, fun x hx => by
  simp at hx
  rcases hx with rfl | rfl
  · exact ⟨by omega, by omega⟩
  · exact ⟨by omega, by omega⟩⟩
theorem two_inM (w : World) : IntsIn (w.alloc (.cells #[.int .i64 2, .int .i64 1] 3)) (.slice (some ⟨w.heap.size, 0, none⟩) 2 2) [2, 1] :=
  IntsAt.in' (Or.inr ⟨w.heap.size, 0, 2, rfl, ints_new w [2, 1] 3 _ _ rfl rfl⟩)
theorem v30_ok : v30.ok := ⟨⟨by decide, by decide⟩, ⟨by decide, by decide⟩, by decide, by decide⟩
theorem old_n {w : World} {p : Addr} {v : Value} (h : w.cell? p = some v) (o : Obj) : (w.alloc o).cell? p = some v := by
  rw [World.cell?_alloc_lt _ _ _ (cell_lt h)]
  exact h
set_option maxRecDepth 100000 in
theorem stepped_ok (M : World → Prop) (e : Nat → TypeId × Value) (P : MProg M e) (w : World) (m : M w) : Calls Tryd.prog 17 #[] w fun r w' => r = .returned (.bool true) ∧ Below w.heap.size w w' := by
  have hval : (-1048576 : Int) ≤ 9 ∧ (9 : Int) ≤ 1048576 := by omega
  have hr := sent_read two_okM v30_ok hval
  obtain ⟨T, hT⟩ : ∃ T, T = ByteArray.mk (frameL (sendF [2, 1] v30 (whoV [2, 1] v30) 9)).toArray := ⟨_, rfl⟩
  rw [← hT] at hr
  have HS : Hid (∀ w' vl, M w' → IntsIn w' vl [2, 1] → Calls Tryd.prog 20 #[vl, .agg #[.int .i64 3, .int .i64 0, .int .i64 0], .int .i64 2, .int .i64 9] w' fun r w2 => r = .returned (.tuple #[.string T, .nilIface]) ∧ Below w'.heap.size w' w2) := fun w' vl m' hv => by
    have h := P.seO w' vl [2, 1] v30 9 m' hv two_okM v30_ok hval
    rw [← hT] at h
    exact h
  have HT : Hid (∀ w' vl, M w' → IntsIn w' vl [2, 1] → Calls Tryd.prog 21 #[vl, .agg #[.int .i64 3, .int .i64 0, .int .i64 0], .string T] w' fun r w2 => r = .returned (.tuple #[.agg #[.int .i64 3, .int .i64 0, .int .i64 1], .agg #[.int .i64 0, .int .i64 2, .bool true, .int .i64 9], .nilIface]) ∧ Below w'.heap.size w' w2) := fun w' vl m' hv => by
    have h := P.stO w' vl [2, 1] v30 T m' hv two_okM v30_ok (by decide)
    rw [hr] at h
    exact h
  have HM := hide (fun w' (hB : Below w.heap.size w w') => P.keep w w' m hB)
  have b1 : Below w.heap.size w (w.alloc (.cells #[.int .i64 3, .int .i64 0, .int .i64 0] 46)) := (Below.refl _ _).alloc (Nat.le_refl _) _
  have b2 : Below w.heap.size w ((w.alloc (.cells #[.int .i64 3, .int .i64 0, .int .i64 0] 46)).alloc (.cells #[.int .i64 2, .int .i64 1] 3)) := b1.alloc (by simp) _
  have HI := hide (two_inM (w.alloc (.cells #[.int .i64 3, .int .i64 0, .int .i64 0] 46)))
  have HB2 := hide b2
  have c0 := old_n (w := w.alloc (.cells #[.int .i64 3, .int .i64 0, .int .i64 0] 46)) (p := ⟨w.heap.size, 0, none⟩) (v := .int .i64 3) (by simp) (.cells #[.int .i64 2, .int .i64 1] 3)
  have c1 := old_n (w := w.alloc (.cells #[.int .i64 3, .int .i64 0, .int .i64 0] 46)) (p := ⟨w.heap.size, 1, none⟩) (v := .int .i64 0) (by simp) (.cells #[.int .i64 2, .int .i64 1] 3)
  have c2 := old_n (w := w.alloc (.cells #[.int .i64 3, .int .i64 0, .int .i64 0] 46)) (p := ⟨w.heap.size, 2, none⟩) (v := .int .i64 0) (by simp) (.cells #[.int .i64 2, .int .i64 1] 3)
  have HC := hide (And.intro c0 (And.intro c1 c2))
  clear b1 b2 m P hr hT
  go_enter Tryd.func17, Tryd.ntmps17
  go_wp2_with fail
  have hI : IntsIn ((w.alloc (.cells #[.int .i64 3, .int .i64 0, .int .i64 0] 46)).alloc (.cells #[.int .i64 2, .int .i64 1] 3)) (.slice (some ⟨w.heap.size + 1, 0, none⟩) 2 2) [2, 1] := by
    have h := unhide HI
    rw [World.size_alloc] at h
    exact h
  refine (unhide HS _ _ (unhide HM _ (unhide HB2)) hI).mono ?_
  rintro E w2 ⟨rfl, hB⟩
  have HB3 := hide ((unhide HB2).trans (hB.mono (unhide HB2).size))
  have d0 := below_cell hB (unhide HC).1
  have d1 := below_cell hB (unhide HC).2.1
  have d2 := below_cell hB (unhide HC).2.2
  have p0 := old_n d0
  have p1 := old_n d1
  have p2 := old_n d2
  clear hB hI c0 c1 c2 d0 d1 d2
  have HI2 := hide (two_inM w2)
  have HB4 := hide ((unhide HB3).alloc (unhide HB3).size (.cells #[.int .i64 2, .int .i64 1] 3))
  go_wp2_with fail
  refine (unhide HT _ _ (unhide HM _ (unhide HB4)) (unhide HI2)).mono ?_
  rintro E w3 ⟨rfl, hB⟩
  have HB5 := hide ((unhide HB4).trans (hB.mono (unhide HB4).size))
  clear hB p0 p1 p2
  go_wp2
  go_ret
  have hs := (unhide HB5).size
  exact ⟨rfl, ((unhide HB5).alloc hs _).alloc (by simp; omega) _⟩
end Go.Proofs.YtglhapkclpllfacDoor
