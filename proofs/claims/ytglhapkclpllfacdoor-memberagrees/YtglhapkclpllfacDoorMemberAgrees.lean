/-
  The walk of the law MemberAgrees, over what package member answers: it answers true, and nothing that was in memory has turned.
  Conditions: those of the package's contracts (M).
-/
import Derived.Test.YtglhapkclpllfacDoorMemberSlot
namespace Go.Proofs.YtglhapkclpllfacDoor
open Go.RowKit

/-- The law's own two views, in memory. -/
structure TwoAt (W : World) (b : Nat) (v u : Vw) : Prop where
  v0 : W.cell? ⟨b, 0, none⟩ = some (.int .i64 v.me)
  v1 : W.cell? ⟨b, 1, none⟩ = some (.int .i64 v.mo)
  v2 : W.cell? ⟨b, 2, none⟩ = some (.int .i64 v.sl)
  u0 : W.cell? ⟨b + 1, 0, none⟩ = some (.int .i64 u.me)
  u1 : W.cell? ⟨b + 1, 1, none⟩ = some (.int .i64 u.mo)
  u2 : W.cell? ⟨b + 1, 2, none⟩ = some (.int .i64 u.sl)
theorem TwoAt.below {W W' : World} {b : Nat} {v u : Vw} (h : TwoAt W b v u) (hB : Below W.heap.size W W') : TwoAt W' b v u :=
  ⟨below_cell hB h.v0, below_cell hB h.v1, below_cell hB h.v2, below_cell hB h.u0, below_cell hB h.u1, below_cell hB h.u2⟩
theorem TwoAt.new (w : World) (v u : Vw) (t : TypeId) : TwoAt ((w.alloc (.cells #[.int .i64 v.me, .int .i64 v.mo, .int .i64 v.sl] t)).alloc (.cells #[.int .i64 u.me, .int .i64 u.mo, .int .i64 u.sl] t)) w.heap.size v u ∧
    Below w.heap.size w ((w.alloc (.cells #[.int .i64 v.me, .int .i64 v.mo, .int .i64 v.sl] t)).alloc (.cells #[.int .i64 u.me, .int .i64 u.mo, .int .i64 u.sl] t)) := by
  obtain ⟨w1, h1⟩ : ∃ w1, w1 = w.alloc (.cells #[.int .i64 v.me, .int .i64 v.mo, .int .i64 v.sl] t) := ⟨_, rfl⟩
  have s1 : w1.heap.size = w.heap.size + 1 := by rw [h1]; simp
  have b1 : Below w.heap.size w w1 := by rw [h1]; exact (Below.refl _ _).alloc (Nat.le_refl _) _
  have b2 : Below w1.heap.size w1 (w1.alloc (.cells #[.int .i64 u.me, .int .i64 u.mo, .int .i64 u.sl] t)) := (Below.refl _ _).alloc (Nat.le_refl _) _
  have c0 : w1.cell? ⟨w.heap.size, 0, none⟩ = some (.int .i64 v.me) := by rw [h1]; simp
  have c1 : w1.cell? ⟨w.heap.size, 1, none⟩ = some (.int .i64 v.mo) := by rw [h1]; simp
  have c2 : w1.cell? ⟨w.heap.size, 2, none⟩ = some (.int .i64 v.sl) := by rw [h1]; simp
  rw [← h1]
  refine ⟨⟨below_cell b2 c0, below_cell b2 c1, below_cell b2 c2, ?_, ?_, ?_⟩, b1.trans (b2.mono (by omega))⟩
  · rw [← s1]; simp
  · rw [← s1]; simp
  · rw [← s1]; simp
/-- What package member answers, as the law wants it. -/
structure MPack (M : World → Prop) (e : Nat → TypeId × Value) : Prop where
  keep : ∀ w w', M w → Below w.heap.size w w' → M w'
  plan : ∀ w, M w → PSent e w
  step : Stepped M
  yes : ∀ w (x : Vw), M w → x.ok → Calls Tryd.prog 19 #[x.val] w fun r w' => r = .returned .nilIface ∧ Below w.heap.size w w'
  no : ∀ w (x : Vw), M w → ¬ x.ok → Calls Tryd.prog 19 #[x.val] w fun r w' => ∃ ty p, r = .returned (.iface ty p) ∧ Below w.heap.size w w'
set_option maxRecDepth 100000 in
set_option maxHeartbeats 1000000 in
/-- The law's first test: what is not right is passed by. -/
theorem magree_far (M : World → Prop) (e : Nat → TypeId × Value) (P : MPack M e) (vl : Value) (xs : List Int) (v u : Vw) (value : Int) (w : World) (m : M w) (hv : IntsIn w vl xs)
    (h : 40 < xs.length ∨ ¬ planOk xs ∨ ¬ v.ok ∨ ¬ u.ok ∨ v.sl = 1000000 ∨ u.sl = 1000000) :
    Calls Tryd.prog 5 #[vl, v.val, u.val, .int .i64 value] w fun r w' => r = .returned (.bool true) ∧ Below w.heap.size w w' := by
  obtain ⟨hT, hA⟩ := TwoAt.new w v u 46
  have HK := hide (P.step _ (P.keep _ _ m hA))
  have HT := hide hT
  have HA := hide hA
  have HMk := hide P.keep
  have HMw := hide m
  have HV := hide hv
  by_cases h1 : 40 < xs.length
  · have h1' : (40 : Int) < (xs.length : Int) := by omega
    obtain ⟨ad, cap, rfl, _⟩ := hv
    unfold Vw.val
    clear h m hA hT P
    go_enter Tryd.func5, Tryd.ntmps5
    go_wp2_with (go_at_call 17; refine (unhide HK).mono ?_; rintro E w1 ⟨rfl, hB1⟩; have HB := hide ((unhide HA).trans (hB1.mono (unhide HA).size)); clear hB1)
    go_ret
    exact ⟨rfl, unhide HB⟩
  have h1' : ¬ (40 : Int) < (xs.length : Int) := by omega
  by_cases hp : planOk xs
  · have HP : Hid (∀ w', M w' → IntsIn w' vl xs → Calls Tryd.prog 18 #[vl] w' fun r w2 => r = .returned .nilIface ∧ w2 = w') := fun w' m' hv' => checkP_yes e vl xs w' hv' hp (P.plan w' m')
    by_cases hvo : v.ok
    · have HC1 : Hid (∀ w', M w' → Calls Tryd.prog 19 #[v.val] w' fun r w2 => r = .returned .nilIface ∧ Below w'.heap.size w' w2) := fun w' m' => P.yes w' v m' hvo
      by_cases huo : u.ok
      · have HC2 : Hid (∀ w', M w' → Calls Tryd.prog 19 #[u.val] w' fun r w2 => r = .returned .nilIface ∧ Below w'.heap.size w' w2) := fun w' m' => P.yes w' u m' huo
        have hs : v.sl = 1000000 ∨ u.sl = 1000000 := by
          rcases h with h | h | h | h | h
          · exact absurd h h1
          · exact absurd hp h
          · exact absurd hvo h
          · exact absurd huo h
          · exact h
        obtain ⟨ad, cap, rfl, _⟩ := hv
        unfold Vw.val at HC1 HC2 ⊢
        clear h m hA hT P hvo huo hp
        by_cases hs1 : v.sl = 1000000
        · clear hs
          obtain ⟨vme, vmo, vsl⟩ := v
          obtain rfl : vsl = 1000000 := hs1
          simp only at HC1 HK HA ⊢
          go_enter Tryd.func5, Tryd.ntmps5
          go_wp2_with (first
            | (go_at_call 17; refine (unhide HK).mono ?_; rintro E w1 ⟨rfl, hB1⟩; have HB := hide ((unhide HA).trans (hB1.mono (unhide HA).size)); have HT1 := hide ((unhide HT).below hB1); obtain ⟨c0, c1, c2, d0, d1, d2⟩ := unhide HT1; clear hB1)
            | (go_at_call 18; refine (unhide HP _ (unhide HMk _ _ (unhide HMw) (unhide HB)) ((unhide HV).below (unhide HB))).mono ?_; rintro E w2 ⟨rfl, rfl⟩)
            | (go_at_call 19; refine (unhide HC1 _ (unhide HMk _ _ (unhide HMw) (unhide HB))).mono ?_; rintro E w3 ⟨rfl, hB3⟩; have HB3 := hide ((unhide HB).trans (hB3.mono (unhide HB).size)); clear c0 c1 c2 d0 d1 d2; have HT3 := hide ((unhide HT1).below hB3); obtain ⟨c0, c1, c2, d0, d1, d2⟩ := unhide HT3; clear hB3 HC1)
            | (go_at_call 19; refine (unhide HC2 _ (unhide HMk _ _ (unhide HMw) (unhide HB3))).mono ?_; rintro E w4 ⟨rfl, hB4⟩; have HB4 := hide ((unhide HB3).trans (hB4.mono (unhide HB3).size)); clear c0 c1 c2 d0 d1 d2; obtain ⟨c0, c1, c2, d0, d1, d2⟩ := (unhide HT3).below hB4; clear hB4 HC2))
          go_ret
          exact ⟨rfl, unhide HB4⟩
        · have hs2 : u.sl = 1000000 := by omega
          clear hs
          obtain ⟨ume, umo, usl⟩ := u
          obtain rfl : usl = 1000000 := hs2
          simp only at HC2 HK HA ⊢
          go_enter Tryd.func5, Tryd.ntmps5
          go_wp2_with (first
            | (go_at_call 17; refine (unhide HK).mono ?_; rintro E w1 ⟨rfl, hB1⟩; have HB := hide ((unhide HA).trans (hB1.mono (unhide HA).size)); have HT1 := hide ((unhide HT).below hB1); obtain ⟨c0, c1, c2, d0, d1, d2⟩ := unhide HT1; clear hB1)
            | (go_at_call 18; refine (unhide HP _ (unhide HMk _ _ (unhide HMw) (unhide HB)) ((unhide HV).below (unhide HB))).mono ?_; rintro E w2 ⟨rfl, rfl⟩)
            | (go_at_call 19; refine (unhide HC1 _ (unhide HMk _ _ (unhide HMw) (unhide HB))).mono ?_; rintro E w3 ⟨rfl, hB3⟩; have HB3 := hide ((unhide HB).trans (hB3.mono (unhide HB).size)); clear c0 c1 c2 d0 d1 d2; have HT3 := hide ((unhide HT1).below hB3); obtain ⟨c0, c1, c2, d0, d1, d2⟩ := unhide HT3; clear hB3 HC1)
            | (go_at_call 19; refine (unhide HC2 _ (unhide HMk _ _ (unhide HMw) (unhide HB3))).mono ?_; rintro E w4 ⟨rfl, hB4⟩; have HB4 := hide ((unhide HB3).trans (hB4.mono (unhide HB3).size)); clear c0 c1 c2 d0 d1 d2; obtain ⟨c0, c1, c2, d0, d1, d2⟩ := (unhide HT3).below hB4; clear hB4 HC2))
          go_ret
          exact ⟨rfl, unhide HB4⟩
      · have HC2 : Hid (∀ w', M w' → Calls Tryd.prog 19 #[u.val] w' fun r w2 => ∃ ty p, r = .returned (.iface ty p) ∧ Below w'.heap.size w' w2) := fun w' m' => P.no w' u m' huo
        obtain ⟨ad, cap, rfl, _⟩ := hv
        unfold Vw.val at HC1 HC2 ⊢
        clear h m hA hT P hvo huo hp
        go_enter Tryd.func5, Tryd.ntmps5
        go_wp2_with (first
          | (go_at_call 17; refine (unhide HK).mono ?_; rintro E w1 ⟨rfl, hB1⟩; have HB := hide ((unhide HA).trans (hB1.mono (unhide HA).size)); have HT1 := hide ((unhide HT).below hB1); obtain ⟨c0, c1, c2, d0, d1, d2⟩ := unhide HT1; clear hB1)
          | (go_at_call 18; refine (unhide HP _ (unhide HMk _ _ (unhide HMw) (unhide HB)) ((unhide HV).below (unhide HB))).mono ?_; rintro E w2 ⟨rfl, rfl⟩)
          | (go_at_call 19; refine (unhide HC1 _ (unhide HMk _ _ (unhide HMw) (unhide HB))).mono ?_; rintro E w3 ⟨rfl, hB3⟩; have HB3 := hide ((unhide HB).trans (hB3.mono (unhide HB).size)); clear c0 c1 c2 d0 d1 d2; have HT3 := hide ((unhide HT1).below hB3); obtain ⟨c0, c1, c2, d0, d1, d2⟩ := unhide HT3; clear hB3 HC1)
          | (go_at_call 19; refine (unhide HC2 _ (unhide HMk _ _ (unhide HMw) (unhide HB3))).mono ?_; rintro E w4 ⟨ty, p, rfl, hB4⟩; have HB4 := hide ((unhide HB3).trans (hB4.mono (unhide HB3).size)); clear c0 c1 c2 d0 d1 d2 hB4 HC2))
        go_ret
        exact ⟨rfl, unhide HB4⟩
    · have HC1 : Hid (∀ w', M w' → Calls Tryd.prog 19 #[v.val] w' fun r w2 => ∃ ty p, r = .returned (.iface ty p) ∧ Below w'.heap.size w' w2) := fun w' m' => P.no w' v m' hvo
      obtain ⟨ad, cap, rfl, _⟩ := hv
      unfold Vw.val at HC1 ⊢
      clear h m hA hT P hvo hp
      go_enter Tryd.func5, Tryd.ntmps5
      go_wp2_with (first
        | (go_at_call 17; refine (unhide HK).mono ?_; rintro E w1 ⟨rfl, hB1⟩; have HB := hide ((unhide HA).trans (hB1.mono (unhide HA).size)); have HT1 := hide ((unhide HT).below hB1); obtain ⟨c0, c1, c2, d0, d1, d2⟩ := unhide HT1; clear hB1)
        | (go_at_call 18; refine (unhide HP _ (unhide HMk _ _ (unhide HMw) (unhide HB)) ((unhide HV).below (unhide HB))).mono ?_; rintro E w2 ⟨rfl, rfl⟩)
        | (go_at_call 19; refine (unhide HC1 _ (unhide HMk _ _ (unhide HMw) (unhide HB))).mono ?_; rintro E w3 ⟨ty, p, rfl, hB3⟩; have HB3 := hide ((unhide HB).trans (hB3.mono (unhide HB).size)); clear c0 c1 c2 d0 d1 d2 hB3 HC1))
      go_ret
      exact ⟨rfl, unhide HB3⟩
  · have HP : Hid (∀ w', M w' → IntsIn w' vl xs → Calls Tryd.prog 18 #[vl] w' fun r w2 => ∃ ty p, r = .returned (.iface ty p) ∧ PlanErr e w2 xs ty p ∧ Below w'.heap.size w' w2) := fun w' m' hv' => checkP_no e vl xs w' hv' hp (P.plan w' m')
    obtain ⟨ad, cap, rfl, _⟩ := hv
    unfold Vw.val
    clear h m hA hT P hp
    go_enter Tryd.func5, Tryd.ntmps5
    go_wp2_with (first
      | (go_at_call 17; refine (unhide HK).mono ?_; rintro E w1 ⟨rfl, hB1⟩; have HB := hide ((unhide HA).trans (hB1.mono (unhide HA).size)); clear hB1)
      | (go_at_call 18; refine (unhide HP _ (unhide HMk _ _ (unhide HMw) (unhide HB)) ((unhide HV).below (unhide HB))).mono ?_; rintro E w2 ⟨ty, p, rfl, _, hB2⟩; have HB2 := hide ((unhide HB).trans (hB2.mono (unhide HB).size)); clear hB2))
    go_ret
    exact ⟨rfl, unhide HB2⟩
set_option maxRecDepth 100000 in
set_option maxHeartbeats 1000000 in
theorem magree_send (M : World → Prop) (e : Nat → TypeId × Value) (P : MPack M e) (vl : Value) (xs : List Int) (v u : Vw) (value : Int) (w : World) (m : M w) (hv : IntsIn w vl xs) (h1 : xs.length ≤ 40) (hp : planOk xs) (hvo : v.ok) (huo : u.ok) (hvs : v.sl < 1000000) (hus : u.sl < 1000000)
    (hval : value < -1048576 ∨ 1048576 < value)
    (S : ∀ w, M w → IntsIn w vl xs → Calls Tryd.prog 20 #[vl, v.val, .int .i64 (whoV xs v), .int .i64 value] w fun r w' => ∃ ty p, r = .returned (.tuple #[.string ⟨#[]⟩, .iface ty p]) ∧ Below w.heap.size w w') :
    Calls Tryd.prog 5 #[vl, v.val, u.val, .int .i64 value] w fun r w' => r = .returned (.bool true) ∧ Below w.heap.size w w' := by
  obtain ⟨hT, hA⟩ := TwoAt.new w v u 46
  have HK := hide (P.step _ (P.keep _ _ m hA))
  have HT := hide hT
  have HA := hide hA
  have HMk := hide P.keep
  have HMw := hide m
  have HV := hide hv
  have h1' : ¬ (40 : Int) < (xs.length : Int) := by omega
  have HP : Hid (∀ w', M w' → IntsIn w' vl xs → Calls Tryd.prog 18 #[vl] w' fun r w2 => r = .returned .nilIface ∧ w2 = w') := fun w' m' hv' => checkP_yes e vl xs w' hv' hp (P.plan w' m')
  have HC1 : Hid (∀ w', M w' → Calls Tryd.prog 19 #[v.val] w' fun r w2 => r = .returned .nilIface ∧ Below w'.heap.size w' w2) := fun w' m' => P.yes w' v m' hvo
  have HC2 : Hid (∀ w', M w' → Calls Tryd.prog 19 #[u.val] w' fun r w2 => r = .returned .nilIface ∧ Below w'.heap.size w' w2) := fun w' m' => P.yes w' u m' huo
  have HW : Hid (∀ w', M w' → IntsIn w' vl xs → Calls Tryd.prog 12 #[vl, .int .i64 v.sl] w' fun r w2 => r = .returned (.tuple #[.int .i64 (whoV xs v), .nilIface]) ∧ Below w'.heap.size w' w2) := fun w' m' hv' => by
    have hs : v.sl = ((v.sl.toNat : Nat) : Int) := by have := hvo.2.2.1; omega
    have h := whoP_yes e vl xs v.sl.toNat w' hv' hp (by omega) (P.plan w' m')
    rw [← hs] at h
    exact h
  have hs1 : (v.sl == 1000000) = false := by simp; omega
  have hs2 : (u.sl == 1000000) = false := by simp; omega
  have h40 : decide ((40 : Int) < (xs.length : Int)) = false := by simp; omega
  have HS := hide S
  obtain ⟨ad, cap, rfl, _⟩ := hv
  unfold Vw.val at HC1 HC2 HS ⊢
  clear m hA hT P hvo huo hp S
  generalize whoV xs v = who at *
  by_cases hlo : value < -1048576
  · clear hval
    go_enter Tryd.func5, Tryd.ntmps5
    go_wp2_with (first
      | (go_at_call 17; refine (unhide HK).mono ?_; rintro E w1 ⟨rfl, hB1⟩; have HB := hide ((unhide HA).trans (hB1.mono (unhide HA).size)); have HT1 := hide ((unhide HT).below hB1); obtain ⟨c0, c1, c2, d0, d1, d2⟩ := unhide HT1; clear hB1)
      | (go_at_call 18; refine (unhide HP _ (unhide HMk _ _ (unhide HMw) (unhide HB)) ((unhide HV).below (unhide HB))).mono ?_; rintro E w2 ⟨rfl, rfl⟩)
      | (go_at_call 19; refine (unhide HC1 _ (unhide HMk _ _ (unhide HMw) (unhide HB))).mono ?_; rintro E w3 ⟨rfl, hB3⟩; have HB3 := hide ((unhide HB).trans (hB3.mono (unhide HB).size)); clear c0 c1 c2 d0 d1 d2; have HT3 := hide ((unhide HT1).below hB3); obtain ⟨c0, c1, c2, d0, d1, d2⟩ := unhide HT3; clear hB3 HC1)
      | (go_at_call 19; refine (unhide HC2 _ (unhide HMk _ _ (unhide HMw) (unhide HB3))).mono ?_; rintro E w4 ⟨rfl, hB4⟩; have HB4 := hide ((unhide HB3).trans (hB4.mono (unhide HB3).size)); clear c0 c1 c2 d0 d1 d2; have HT4 := hide ((unhide HT3).below hB4); obtain ⟨c0, c1, c2, d0, d1, d2⟩ := unhide HT4; clear hB4 HC2)
      | (go_at_call 12; refine (unhide HW _ (unhide HMk _ _ (unhide HMw) (unhide HB4)) ((unhide HV).below (unhide HB4))).mono ?_; rintro E w5 ⟨rfl, hB5⟩; have HB5 := hide ((unhide HB4).trans (hB5.mono (unhide HB4).size)); clear c0 c1 c2 d0 d1 d2; have HT5 := hide ((unhide HT4).below hB5); obtain ⟨c0, c1, c2, d0, d1, d2⟩ := unhide HT5; clear hB5)
      | (go_at_call 20; refine (unhide HS _ (unhide HMk _ _ (unhide HMw) (unhide HB5)) ((unhide HV).below (unhide HB5))).mono ?_; rintro E w6 ⟨ty, p, rfl, hB6⟩; have HB6 := hide ((unhide HB5).trans (hB6.mono (unhide HB5).size)); clear c0 c1 c2 d0 d1 d2 hB6))
    go_ret
    exact ⟨rfl, unhide HB6⟩
  · have hhi : 1048576 < value := by omega
    clear hval
    go_enter Tryd.func5, Tryd.ntmps5
    go_wp2_with (first
      | (go_at_call 17; refine (unhide HK).mono ?_; rintro E w1 ⟨rfl, hB1⟩; have HB := hide ((unhide HA).trans (hB1.mono (unhide HA).size)); have HT1 := hide ((unhide HT).below hB1); obtain ⟨c0, c1, c2, d0, d1, d2⟩ := unhide HT1; clear hB1)
      | (go_at_call 18; refine (unhide HP _ (unhide HMk _ _ (unhide HMw) (unhide HB)) ((unhide HV).below (unhide HB))).mono ?_; rintro E w2 ⟨rfl, rfl⟩)
      | (go_at_call 19; refine (unhide HC1 _ (unhide HMk _ _ (unhide HMw) (unhide HB))).mono ?_; rintro E w3 ⟨rfl, hB3⟩; have HB3 := hide ((unhide HB).trans (hB3.mono (unhide HB).size)); clear c0 c1 c2 d0 d1 d2; have HT3 := hide ((unhide HT1).below hB3); obtain ⟨c0, c1, c2, d0, d1, d2⟩ := unhide HT3; clear hB3 HC1)
      | (go_at_call 19; refine (unhide HC2 _ (unhide HMk _ _ (unhide HMw) (unhide HB3))).mono ?_; rintro E w4 ⟨rfl, hB4⟩; have HB4 := hide ((unhide HB3).trans (hB4.mono (unhide HB3).size)); clear c0 c1 c2 d0 d1 d2; have HT4 := hide ((unhide HT3).below hB4); obtain ⟨c0, c1, c2, d0, d1, d2⟩ := unhide HT4; clear hB4 HC2)
      | (go_at_call 12; refine (unhide HW _ (unhide HMk _ _ (unhide HMw) (unhide HB4)) ((unhide HV).below (unhide HB4))).mono ?_; rintro E w5 ⟨rfl, hB5⟩; have HB5 := hide ((unhide HB4).trans (hB5.mono (unhide HB4).size)); clear c0 c1 c2 d0 d1 d2; have HT5 := hide ((unhide HT4).below hB5); obtain ⟨c0, c1, c2, d0, d1, d2⟩ := unhide HT5; clear hB5)
      | (go_at_call 20; refine (unhide HS _ (unhide HMk _ _ (unhide HMw) (unhide HB5)) ((unhide HV).below (unhide HB5))).mono ?_; rintro E w6 ⟨ty, p, rfl, hB6⟩; have HB6 := hide ((unhide HB5).trans (hB6.mono (unhide HB5).size)); clear c0 c1 c2 d0 d1 d2 hB6))
    go_ret
    exact ⟨rfl, unhide HB6⟩
/-- The others are the same in both, of the first so many. -/
def preS (i a b k : Nat) : Bool := (List.range k).all fun j => decide (j = i) || (a.testBit j == b.testBit j)
theorem pre_succ (i a b k : Nat) : preS i a b (k + 1) = (preS i a b k && (decide (k = i) || (a.testBit k == b.testBit k))) := by
  unfold preS
  rw [List.range_succ, List.all_append]
  simp
/-- Two views, and what was told of each, in memory. -/
structure FourAt (W : World) (b bx be : Nat) (v u x : Vw) : Prop where
  two : TwoAt W b v u
  x0 : W.cell? ⟨bx, 0, none⟩ = some (.int .i64 x.me)
  x1 : W.cell? ⟨bx, 1, none⟩ = some (.int .i64 x.mo)
  x2 : W.cell? ⟨bx, 2, none⟩ = some (.int .i64 x.sl)
theorem FourAt.below {W W' : World} {b bx be : Nat} {v u x : Vw} (h : FourAt W b bx be v u x) (hB : Below W.heap.size W W') : FourAt W' b bx be v u x :=
  ⟨h.two.below hB, below_cell hB h.x0, below_cell hB h.x1, below_cell hB h.x2⟩
theorem two_blocks (w : World) (x : Vw) (en : Ent) (tv te : TypeId) : ∃ W, W = (w.alloc (.cells #[.int .i64 x.me, .int .i64 x.mo, .int .i64 x.sl] tv)).alloc (.cells #[.int .i64 en.slot, .int .i64 en.src, .bool en.heard, .int .i64 en.value] te) ∧ Below w.heap.size w W ∧
    (W.cell? ⟨w.heap.size, 0, none⟩ = some (.int .i64 x.me) ∧ W.cell? ⟨w.heap.size, 1, none⟩ = some (.int .i64 x.mo) ∧ W.cell? ⟨w.heap.size, 2, none⟩ = some (.int .i64 x.sl)) ∧
    (W.cell? ⟨w.heap.size + 1, 0, none⟩ = some (.int .i64 en.slot) ∧ W.cell? ⟨w.heap.size + 1, 1, none⟩ = some (.int .i64 en.src) ∧ W.cell? ⟨w.heap.size + 1, 2, none⟩ = some (.bool en.heard) ∧ W.cell? ⟨w.heap.size + 1, 3, none⟩ = some (.int .i64 en.value)) := by
  obtain ⟨w1, h1⟩ : ∃ w1, w1 = w.alloc (.cells #[.int .i64 x.me, .int .i64 x.mo, .int .i64 x.sl] tv) := ⟨_, rfl⟩
  have s1 : w1.heap.size = w.heap.size + 1 := by rw [h1]; simp
  have b1 : Below w.heap.size w w1 := by rw [h1]; exact (Below.refl _ _).alloc (Nat.le_refl _) _
  have b2 : Below w1.heap.size w1 (w1.alloc (.cells #[.int .i64 en.slot, .int .i64 en.src, .bool en.heard, .int .i64 en.value] te)) := (Below.refl _ _).alloc (Nat.le_refl _) _
  have c0 : w1.cell? ⟨w.heap.size, 0, none⟩ = some (.int .i64 x.me) := by rw [h1]; simp
  have c1 : w1.cell? ⟨w.heap.size, 1, none⟩ = some (.int .i64 x.mo) := by rw [h1]; simp
  have c2 : w1.cell? ⟨w.heap.size, 2, none⟩ = some (.int .i64 x.sl) := by rw [h1]; simp
  rw [← h1, ← s1]
  exact ⟨_, rfl, b1.trans (b2.mono (by omega)), ⟨below_cell b2 c0, below_cell b2 c1, below_cell b2 c2⟩, by simp, by simp, by simp, by simp⟩
set_option maxRecDepth 100000 in
set_option maxHeartbeats 1000000 in
theorem magree_ok (M : World → Prop) (e : Nat → TypeId × Value) (P : MPack M e) (HN : Haves) (vl : Value) (xs : List Int) (v u x y : Vw) (sl1 src1 sl2 src2 vd value : Int) (sm : Bool) (T : ByteArray) (w : World) (m : M w) (hv : IntsIn w vl xs) (h1 : xs.length ≤ 40) (hp : planOk xs) (hvo : v.ok) (huo : u.ok) (hvs : v.sl < 1000000) (hus : u.sl < 1000000)
    (hsm : sm = (decide (u.mo = v.mo ∧ u.sl = v.sl) && preS (atV xs v) u.me.toNat v.me.toNat 16)) (hxy : sm = true → y = x)
    (S : ∀ w, M w → IntsIn w vl xs → Calls Tryd.prog 20 #[vl, v.val, .int .i64 (whoV xs v), .int .i64 value] w fun r w' => r = .returned (.tuple #[.string T, .nilIface]) ∧ Below w.heap.size w w')
    (S1 : ∀ w, M w → IntsIn w vl xs → Calls Tryd.prog 21 #[vl, v.val, .string T] w fun r w' => r = .returned (.tuple #[x.val, (Ent.mk sl1 src1 true value).val, .nilIface]) ∧ Below w.heap.size w w')
    (S2 : ∀ w, M w → IntsIn w vl xs → Calls Tryd.prog 21 #[vl, u.val, .string T] w fun r w' => r = .returned (.tuple #[y.val, (Ent.mk sl2 src2 sm vd).val, .nilIface]) ∧ Below w.heap.size w w') :
    Calls Tryd.prog 5 #[vl, v.val, u.val, .int .i64 value] w fun r w' => r = .returned (.bool true) ∧ Below w.heap.size w w' := by
  obtain ⟨hT, hA⟩ := TwoAt.new w v u 46
  have HK := hide (P.step _ (P.keep _ _ m hA))
  have HT := hide hT
  have HA := hide hA
  have HMk := hide P.keep
  have HMw := hide m
  have HV := hide hv
  have h1' : ¬ (40 : Int) < (xs.length : Int) := by omega
  have HP : Hid (∀ w', M w' → IntsIn w' vl xs → Calls Tryd.prog 18 #[vl] w' fun r w2 => r = .returned .nilIface ∧ w2 = w') := fun w' m' hv' => checkP_yes e vl xs w' hv' hp (P.plan w' m')
  have HC1 : Hid (∀ w', M w' → Calls Tryd.prog 19 #[v.val] w' fun r w2 => r = .returned .nilIface ∧ Below w'.heap.size w' w2) := fun w' m' => P.yes w' v m' hvo
  have HC2 : Hid (∀ w', M w' → Calls Tryd.prog 19 #[u.val] w' fun r w2 => r = .returned .nilIface ∧ Below w'.heap.size w' w2) := fun w' m' => P.yes w' u m' huo
  have HW : Hid (∀ w', M w' → IntsIn w' vl xs → Calls Tryd.prog 12 #[vl, .int .i64 v.sl] w' fun r w2 => r = .returned (.tuple #[.int .i64 (whoV xs v), .nilIface]) ∧ Below w'.heap.size w' w2) := fun w' m' hv' => by
    have hs : v.sl = ((v.sl.toNat : Nat) : Int) := by have := hvo.2.2.1; omega
    have h := whoP_yes e vl xs v.sl.toNat w' hv' hp (by omega) (P.plan w' m')
    rw [← hs] at h
    exact h
  have hs1 : (v.sl == 1000000) = false := by simp; omega
  have hs2 : (u.sl == 1000000) = false := by simp; omega
  have h40 : decide ((40 : Int) < (xs.length : Int)) = false := by simp; omega
  have HS := hide S
  have HS1 := hide S1
  have HS2 := hide S2
  obtain ⟨hwho, hi⟩ := who_at hp v
  obtain ⟨vn, hvn⟩ : ∃ n : Nat, v.me = (n : Int) := ⟨v.me.toNat, by have := hvo.1; omega⟩
  obtain ⟨un, hun⟩ : ∃ n : Nat, u.me = (n : Int) := ⟨u.me.toNat, by have := huo.1; omega⟩
  have HN1 : Hid (∀ (k : Nat) w', k ≤ 15 → Calls Tryd.prog 22 #[.int .i64 u.me, .int .i64 ((k : Int) + 1)] w' fun e w2 => e = .returned (.bool (un.testBit k)) ∧ w2 = w') := fun k w' hk => by
    rw [hun]
    exact HN un k w' (by have := huo.1; omega) hk
  have HN2 : Hid (∀ (k : Nat) w', k ≤ 15 → Calls Tryd.prog 22 #[.int .i64 v.me, .int .i64 ((k : Int) + 1)] w' fun e w2 => e = .returned (.bool (vn.testBit k)) ∧ w2 = w') := fun k w' hk => by
    rw [hvn]
    exact HN vn k w' (by have := hvo.1; omega) hk
  rw [hvn, hun, Int.toNat_natCast, Int.toNat_natCast] at hsm
  rw [hwho] at HW HS
  generalize atV xs v = i at *
  have Hsm := hide hsm
  have Hxy := hide hxy
  obtain ⟨ad, cap, rfl, _⟩ := hv
  unfold Vw.val Ent.val at HS1 HS2
  unfold Vw.val at HC1 HC2 HS ⊢
  clear m hA hT P hvo huo hp S S1 S2 hwho hvn hun hsm hxy HN
  go_enter Tryd.func5, Tryd.ntmps5
  go_wp2_with (first
    | (go_at_call 17; refine (unhide HK).mono ?_; rintro E w1 ⟨rfl, hB1⟩; have HB := hide ((unhide HA).trans (hB1.mono (unhide HA).size)); have HT1 := hide ((unhide HT).below hB1); obtain ⟨c0, c1, c2, d0, d1, d2⟩ := unhide HT1; clear hB1)
    | (go_at_call 18; refine (unhide HP _ (unhide HMk _ _ (unhide HMw) (unhide HB)) ((unhide HV).below (unhide HB))).mono ?_; rintro E w2 ⟨rfl, rfl⟩)
    | (go_at_call 19; refine (unhide HC1 _ (unhide HMk _ _ (unhide HMw) (unhide HB))).mono ?_; rintro E w3 ⟨rfl, hB3⟩; have HB3 := hide ((unhide HB).trans (hB3.mono (unhide HB).size)); clear c0 c1 c2 d0 d1 d2; have HT3 := hide ((unhide HT1).below hB3); obtain ⟨c0, c1, c2, d0, d1, d2⟩ := unhide HT3; clear hB3 HC1)
    | (go_at_call 19; refine (unhide HC2 _ (unhide HMk _ _ (unhide HMw) (unhide HB3))).mono ?_; rintro E w4 ⟨rfl, hB4⟩; have HB4 := hide ((unhide HB3).trans (hB4.mono (unhide HB3).size)); clear c0 c1 c2 d0 d1 d2; have HT4 := hide ((unhide HT3).below hB4); obtain ⟨c0, c1, c2, d0, d1, d2⟩ := unhide HT4; clear hB4 HC2)
    | (go_at_call 12; refine (unhide HW _ (unhide HMk _ _ (unhide HMw) (unhide HB4)) ((unhide HV).below (unhide HB4))).mono ?_; rintro E w5 ⟨rfl, hB5⟩; have HB5 := hide ((unhide HB4).trans (hB5.mono (unhide HB4).size)); clear c0 c1 c2 d0 d1 d2; have HT5 := hide ((unhide HT4).below hB5); obtain ⟨c0, c1, c2, d0, d1, d2⟩ := unhide HT5; clear hB5)
    | (go_at_call 20; refine (unhide HS _ (unhide HMk _ _ (unhide HMw) (unhide HB5)) ((unhide HV).below (unhide HB5))).mono ?_; rintro E w6 ⟨rfl, hB6⟩; have HB6 := hide ((unhide HB5).trans (hB6.mono (unhide HB5).size)); clear c0 c1 c2 d0 d1 d2; have HT6 := hide ((unhide HT5).below hB6); obtain ⟨c0, c1, c2, d0, d1, d2⟩ := unhide HT6; clear hB6 HS)
    | (go_at_call 21; refine (unhide HS1 _ (unhide HMk _ _ (unhide HMw) (unhide HB6)) ((unhide HV).below (unhide HB6))).mono ?_; rintro E w7 ⟨rfl, hB7⟩; have HB7 := hide ((unhide HB6).trans (hB7.mono (unhide HB6).size)); clear c0 c1 c2 d0 d1 d2; have HT7 := hide ((unhide HT6).below hB7); have g0 := old_two (unhide HT7).u0; have g1 := old_two (unhide HT7).u1; have g2 := old_two (unhide HT7).u2; clear hB7 HS1))
  obtain ⟨W8, hW8, hBW8, ⟨x0, x1, x2⟩, ⟨e0, e1, e2, e3⟩⟩ := two_blocks w7 x ⟨sl1, src1, true, value⟩ 46 52
  simp only at hW8
  rw [← hW8]
  have HB8 := hide ((unhide HB7).trans (hBW8.mono (unhide HB7).size))
  have HT8 := hide ((unhide HT7).below hBW8)
  have HX8 := hide (And.intro x0 (And.intro x1 x2))
  clear hW8 hBW8 x0 x1 x2 e0 e1 e2 e3 g0 g1 g2
  refine (unhide HS2 _ (unhide HMk _ _ (unhide HMw) (unhide HB8)) ((unhide HV).below (unhide HB8))).mono ?_
  rintro E w9 ⟨rfl, hB9⟩
  have HB9 := hide ((unhide HB8).trans (hB9.mono (unhide HB8).size))
  have HT9 := hide ((unhide HT8).below hB9)
  have HX9 := hide (And.intro (below_cell hB9 (unhide HX8).1) (And.intro (below_cell hB9 (unhide HX8).2.1) (below_cell hB9 (unhide HX8).2.2)))
  clear hB9
  obtain ⟨W10, hW10, hBW10, ⟨y0, y1, y2⟩, ⟨f0, f1, f2, f3⟩⟩ := two_blocks w9 y ⟨sl2, src2, sm, vd⟩ 46 52
  simp only at hW10 f2
  have HB10 := hide ((unhide HB9).trans (hBW10.mono (unhide HB9).size))
  obtain ⟨c0, c1, c2, d0, d1, d2⟩ := (unhide HT9).below hBW10
  obtain ⟨x0, x1, x2⟩ := unhide HX9
  have x0 := below_cell hBW10 x0
  have x1 := below_cell hBW10 x1
  have x2 := below_cell hBW10 x2
  clear hBW10 f0 f1 f3
  have HF := hide (And.intro c0 (And.intro d0 (And.intro x0 (And.intro x1 (And.intro x2 (And.intro y0 (And.intro y1 (And.intro y2 f2))))))))
  rw [hW10] at c1 c2 d1 d2
  have HW10 := hide hW10
  clear c0 d0 x0 x1 x2 y0 y1 y2 f2 hW10
  have hcase : (∃ s0 : Bool, s0 = false ∧ ¬ u.mo = v.mo ∧ s0 = decide (u.mo = v.mo ∧ u.sl = v.sl)) ∨ (∃ s0 : Bool, s0 = false ∧ (u.mo = v.mo ∧ ¬ u.sl = v.sl) ∧ s0 = decide (u.mo = v.mo ∧ u.sl = v.sl)) ∨ ∃ s0 : Bool, s0 = true ∧ (u.mo = v.mo ∧ u.sl = v.sl) ∧ s0 = decide (u.mo = v.mo ∧ u.sl = v.sl) := by
    by_cases a1 : u.mo = v.mo
    · by_cases a2 : u.sl = v.sl
      · exact Or.inr (Or.inr ⟨true, rfl, ⟨a1, a2⟩, (decide_eq_true ⟨a1, a2⟩).symm⟩)
      · exact Or.inr (Or.inl ⟨false, rfl, ⟨a1, a2⟩, (decide_eq_false fun h => a2 h.2).symm⟩)
    · exact Or.inl ⟨false, rfl, a1, (decide_eq_false fun h => a1 h.1).symm⟩
  have Hcase := hide hcase
  clear hcase
  rcases unhide Hcase with ⟨s0, hs0, hne, hdec⟩ | ⟨s0, hs0, ⟨hn1, hne⟩, hdec⟩ | ⟨s0, hs0, ⟨hn1, hne⟩, hdec⟩
  all_goals
    have Hs0 := hide hs0
    have Hdec := hide hdec
    clear hdec Hcase hs0
    go_wp2_with fail
    go_loopw [17, 18] (fun sv q wr => ∃ k : Nat, k ≤ 16 ∧ q = .int .i64 ((k : Int) + 1) ∧ sv = .bool (s0 && preS i un vn k) ∧ Hid (wr = W10)) (fun _ q _ => 17 - (intOf q).toNat)
    case atStart => exact ⟨0, by omega, by simp, by first | (simp [unhide Hs0, preS]; done) | (simp [unhide Hs0, preS]; exact hne), hide (unhide HW10).symm⟩
    case round =>
      obtain ⟨k, hk, rfl, rfl, hwr⟩ := hrel
      have hwr := unhide hwr
      subst hwr
      obtain ⟨c0, d0, x0, x1, x2, y0, y1, y2, f2⟩ := unhide HF
      by_cases hlt : k < 16
      · have hle : ((k : Int) + 1) ≤ 16 := by omega
        have HA1 := hide (unhide HN1 k wr (by omega))
        have HA2 := hide (unhide HN2 k wr (by omega))
        have HPs := hide (pre_succ i un vn k)
        obtain ⟨sk, hsk⟩ : ∃ sk, (s0 && preS i un vn k) = sk := ⟨_, rfl⟩
        have Hsk := hide hsk
        rw [hsk]
        generalize un.testBit k = ua at *
        generalize vn.testBit k = va at *
        clear hsk
        cases sk with
        | false =>
          go_wp2_with (first | (go_at_call 22; refine (unhide HA1).mono ?_; rintro E w11 ⟨rfl, rfl⟩; clear HA1) | (go_at_call 22; refine (unhide HA2).mono ?_; rintro E w12 ⟨rfl, rfl⟩))
          go_roundw
          case rel => exact ⟨k + 1, by omega, by go_num, by rw [unhide HPs, ← Bool.and_assoc, unhide Hsk]; rfl, by trivial⟩
          case measure => simp [intOf]; omega
        | true =>
          by_cases hki : k = i
          · subst hki
            go_wp2_with (first | (go_at_call 22; refine (unhide HA1).mono ?_; rintro E w11 ⟨rfl, rfl⟩; clear HA1) | (go_at_call 22; refine (unhide HA2).mono ?_; rintro E w12 ⟨rfl, rfl⟩))
            go_roundw
            case rel => exact ⟨k + 1, by omega, by go_num, by rw [unhide HPs, ← Bool.and_assoc, unhide Hsk]; simp, by trivial⟩
            case measure => simp [intOf]; omega
          · have hki' : ¬ ((k : Int) + 1) = (i : Int) + 1 := by omega
            have hki2 : decide (k = i) = false := decide_eq_false hki
            go_wp2_with (first | (go_at_call 22; refine (unhide HA1).mono ?_; rintro E w11 ⟨rfl, rfl⟩; clear HA1) | (go_at_call 22; refine (unhide HA2).mono ?_; rintro E w12 ⟨rfl, rfl⟩))
            go_roundw
            case rel => exact ⟨k + 1, by omega, by go_num, by rw [unhide HPs, ← Bool.and_assoc, unhide Hsk, hki2]; simp; intro h; exact absurd (by omega) hki, by trivial⟩
            case measure => simp [intOf]; omega
      · have hk16 : k = 16 := by omega
        subst hk16
        have hse : (s0 && preS i un vn 16) = sm := by rw [unhide Hsm, unhide Hdec]
        rw [hse]
        cases sm with
        | true =>
          obtain rfl := unhide Hxy rfl
          go_wp2
          go_ret
          exact ⟨rfl, unhide HB10⟩
        | false =>
          go_wp2
          go_ret
          exact ⟨rfl, unhide HB10⟩
end Go.Proofs.YtglhapkclpllfacDoor
