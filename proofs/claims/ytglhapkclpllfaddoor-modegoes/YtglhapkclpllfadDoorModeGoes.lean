/-
  The walk of the law ModeGoes over what package mode answers (structure ModeP).
  Conditions: those of the package's contracts (M).
-/
import Derived.Test.YtglhapkclpllfadDoorModeFact
import Derived.Test.YtglhapkclpllfadDoorModeSent
import Derived.Deep.RegionHeld3
namespace Go.Proofs.YtglhapkclpllfadDoor
open Go.RowKit

theorem mgo_far (M : World → Prop) (CM : ModedO M) (v vs : Value) (l : List Pr) (xs : List Int) (w : World) (m : M w) (hv : PrsIn w v l) (hs : IntsIn w vs xs) (h : 20 < l.length ∨ ¬ 20 < l.length ∧ 60 < xs.length) :
    Calls Tryd.prog 7 #[v, vs] w fun r w' => r = .returned (.bool true) ∧ Below w.heap.size w w' := by
  have HK := hide (CM w m)
  obtain ⟨ad, cap, rfl, _⟩ := PrsIn.at hv
  obtain ⟨ads, caps, rfl, _⟩ := hs
  generalize l.length = n at *
  generalize xs.length = k at *
  have hh : decide ((20 : Int) < (n : Int)) = true ∨ (decide ((20 : Int) < (n : Int)) = false ∧ decide ((60 : Int) < (k : Int)) = true) := by
    rcases h with h | ⟨h, h1⟩
    · exact Or.inl (decide_eq_true (by omega))
    · exact Or.inr ⟨decide_eq_false (by omega), decide_eq_true (by omega)⟩
  clear h hv m CM
  rcases hh with h1 | ⟨h1, h2⟩
  all_goals
    go_enter Tryd.func7, Tryd.ntmps7
    go_wp2_with fail
    refine (unhide HK).mono ?_
    rintro E w1 ⟨rfl, hB⟩
    have HB := hide hB
    clear hB
    go_wp2
    go_ret
    exact ⟨rfl, unhide HB⟩
set_option maxRecDepth 100000 in
theorem mgo_no (M : World → Prop) (e : Nat → TypeId × Value) (B : World → (Nat → Prop) → Value → List Pr → Int → Int → Prop) (P : ModeP M e B) (CM : ModedO M) (v vs : Value) (l : List Pr) (xs : List Int) (w : World) (m : M w) (hv : PrsIn w v l) (hs : IntsIn w vs xs) (h1 : l.length ≤ 20) (h2 : xs.length ≤ 60) (h : ¬ prsOk l) :
    Calls Tryd.prog 7 #[v, vs] w fun r w' => r = .returned (.bool true) ∧ Below w.heap.size w w' := by
  have HK := hide (CM w m)
  have HM : Hid (∀ w', Below w.heap.size w w' → M w') := fun w' hB => P.keep w w' m hB
  have HV := hide hv
  have HP := hide (fun w' v' (m' : M w') (hv' : PrsIn w' v' l) => P.neN w' v' l m' hv' h)
  have HPs := hide (fun w' (hv' : PrsIn w' v l) => asPairs_ok v l w' hv' (by omega))
  obtain ⟨ad, cap, rfl, _⟩ := PrsIn.at hv
  obtain ⟨ads, caps, rfl, _⟩ := hs
  obtain ⟨nl, hnl⟩ : ∃ nl, l.length = nl := ⟨_, rfl⟩
  obtain ⟨nx, hnx⟩ : ∃ nx, xs.length = nx := ⟨_, rfl⟩
  rw [hnl] at h1 HV HPs ⊢
  rw [hnx] at h2 ⊢
  have q1 : decide ((20 : Int) < (nl : Int)) = false := decide_eq_false (by omega)
  have q2 : decide ((60 : Int) < (nx : Int)) = false := decide_eq_false (by omega)
  clear hv m CM P h hnl hnx
  go_enter Tryd.func7, Tryd.ntmps7
  go_wp2_with fail
  refine (unhide HK).mono ?_
  rintro E w1 ⟨rfl, hB⟩
  have HB1 := hide hB
  clear hB
  go_wp2_with fail
  refine (unhide HPs _ ((unhide HV).below (unhide HB1))).mono ?_
  rintro E w2 ⟨v', rfl, hv', hB⟩
  have hB2 := (unhide HB1).trans (hB.mono (unhide HB1).size)
  have HB2 := hide hB2
  have HC := hide (unhide HP w2 v' (unhide HM _ hB2) hv')
  clear hB hB2 hv'
  go_wp2_with fail
  refine (unhide HC).mono ?_
  rintro E w3 ⟨ty, q, rfl, _, hB⟩
  have HB3 := hide ((unhide HB2).trans (hB.mono (unhide HB2).size))
  clear hB HC
  go_wp2
  go_ret
  exact ⟨rfl, unhide HB3⟩
/-- A board, and that what is asked for is allowed. -/
structure GInv (B : World → (Nat → Prop) → Value → List Pr → Int → Int → Prop) (w0 : World) (p : Addr) (l : List Pr) (n a : Int) (F : Nat → Prop) (w : World) : Prop where
  b : B w F (.pointer (some p)) l n a
  ok : boardOk n a
  al : 0 ≤ a → allowB l n a = true
  lo : ∀ k, F k → w0.heap.size ≤ k
  bel : Below w0.heap.size w0 w
section
variable {M : World → Prop} {e : Nat → TypeId × Value} {B : World → (Nat → Prop) → Value → List Pr → Int → Int → Prop} {w0 : World} {p : Addr} {l : List Pr} {n a : Int} {F : Nat → Prop} {w : World}
theorem GInv.below (P : ModeP M e B) (h : GInv B w0 p l n a F w) {w' : World} (hB : Below w.heap.size w w') : GInv B w0 p l n a F w' :=
  ⟨P.below h.b hB, h.ok, h.al, h.lo, h.bel.trans (hB.mono h.bel.size)⟩
theorem GInv.step (h : GInv B w0 p l n a F w) {w' : World} {F' : Nat → Prop} {n' a' : Int} (hb : B w' F' (.pointer (some p)) l n' a') (hok : boardOk n' a') (hal : 0 ≤ a' → allowB l n' a' = true) (hF : ∀ k, F' k → F k ∨ w.heap.size ≤ k) (hO : Only F w w') : GInv B w0 p l n' a' F' w' := by
  refine ⟨hb, hok, hal, fun k hk => ?_, h.bel.trans (hO.below h.lo h.bel.size)⟩
  rcases hF k hk with h1 | h1
  · exact h.lo k h1
  · exact Nat.le_trans h.bel.size h1
end
theorem ask_al {l : List Pr} {n a to : Int} (h : 0 ≤ a → allowB l n a = true) : 0 ≤ askA l n a to → allowB l n (askA l n a to) = true := fun h0 => by
  unfold askA at h0 ⊢
  by_cases hc : askC l n a to = 0
  · rw [if_pos hc]; exact (ask_yes hc).2.2
  · rw [if_neg hc] at h0 ⊢; exact h h0
/-- Is the mode the same, or one of the first so many pairs this one? -/
def preA (l : List Pr) (was n : Int) (j : Nat) : Bool := decide (n = was) || (l.take j).any fun p => decide (p.src = was ∧ p.dst = n)
theorem preA_zero (l : List Pr) (was n : Int) : preA l was n 0 = decide (n = was) := by simp [preA]
theorem preA_succ (l : List Pr) (was n : Int) (j : Nat) (h : j < l.length) : preA l was n (j + 1) = (preA l was n j || decide ((l.getD j Pr.zero).src = was ∧ (l.getD j Pr.zero).dst = n)) := by
  unfold preA
  rw [List.take_succ_eq_append_getElem h, List.any_append, List.getD_eq_getElem?_getD, List.getElem?_eq_getElem h, Option.getD_some, Bool.or_assoc]
  simp
theorem preA_all (l : List Pr) (n a : Int) (hal : 0 ≤ a → allowB l n a = true) : preA l n (turnN n a) l.length = true := by
  unfold preA turnN
  rw [List.take_length]
  by_cases h : 0 ≤ a
  · rw [if_pos h]
    have h1 := hal h
    unfold allowB at h1
    rw [h1, Bool.or_true]
  · rw [if_neg h, decide_eq_true rfl, Bool.true_or]
set_option maxRecDepth 100000 in
set_option maxHeartbeats 1000000 in
theorem mgo_ok (M : World → Prop) (e : Nat → TypeId × Value) (B : World → (Nat → Prop) → Value → List Pr → Int → Int → Prop) (P : ModeP M e B) (CM : ModedO M) (v vs : Value) (l : List Pr) (xs : List Int) (w : World) (m : M w) (hv : PrsIn w v l) (hs : IntsIn w vs xs) (h1 : l.length ≤ 20) (h2 : xs.length ≤ 60) (h : prsOk l) :
    Calls Tryd.prog 7 #[v, vs] w fun r w' => r = .returned (.bool true) ∧ Below w.heap.size w w' := by
  have HK := hide (CM w m)
  have HM : Hid (∀ w', Below w.heap.size w w' → M w') := fun w' hB => P.keep w w' m hB
  have HV := hide hv
  have HP := hide P
  have HE := hide (fun w' v' (m' : M w') (hv' : PrsIn w' v' l) => P.neO w' v' l m' hv' h)
  have HPs := hide (fun w' (hv' : PrsIn w' v l) => asPairs_ok v l w' hv' (by omega))
  have HPr := hide (fun was n j => preA_succ l was n j)
  have HPa := hide (fun n b => preA_all l n b)
  obtain ⟨ad, cap, rfl, hcl⟩ := PrsIn.at hv
  have HL := hide hcl
  obtain ⟨ads, caps, rfl, hxs⟩ := hs
  have HX := hide hxs
  obtain ⟨nl, hnl⟩ : ∃ nl, l.length = nl := ⟨_, rfl⟩
  obtain ⟨nx, hnx⟩ : ∃ nx, xs.length = nx := ⟨_, rfl⟩
  rw [hnl] at h1 HV HPs HL HPr HPa ⊢
  rw [hnx] at h2 HX ⊢
  have q1 : decide ((20 : Int) < (nl : Int)) = false := decide_eq_false (by omega)
  have q2 : decide ((60 : Int) < (nx : Int)) = false := decide_eq_false (by omega)
  clear hv m CM P h hnl hnx hxs hcl
  go_enter Tryd.func7, Tryd.ntmps7
  go_wp2_with fail
  refine (unhide HK).mono ?_
  rintro E w1 ⟨rfl, hB⟩
  have HB1 := hide hB
  clear hB HK
  go_wp2_with fail
  refine (unhide HPs _ ((unhide HV).below (unhide HB1))).mono ?_
  rintro E w2 ⟨v', rfl, hv', hB⟩
  have hB2 := (unhide HB1).trans (hB.mono (unhide HB1).size)
  have HB2 := hide hB2
  have HC := hide (unhide HE w2 v' (unhide HM _ hB2) hv')
  clear hB hB2 hv' HE HPs
  go_wp2_with fail
  refine (unhide HC).mono ?_
  rintro E w3 ⟨p, F, rfl, hb, hF, hB⟩
  have HI5 : Hid (GInv B w p l 0 (-1) F w3) := ⟨hb, board_zero, fun h => absurd h (by decide), fun k hk => Nat.le_trans (unhide HB2).size (hF k hk), (unhide HB2).trans (hB.mono (unhide HB2).size)⟩
  clear hB HC hb hF
  go_wp2_with fail
  go_loopw [8] (fun q wr => ∃ (k : Nat) (n b : Int) (F : Nat → Prop), k ≤ nx ∧ q = .int .i64 (k : Int) ∧ Hid (GInv B w p l n b F wr)) (fun q _ => nx - (intOf q).toNat)
  case atStart => exact ⟨0, 0, -1, F, by omega, rfl, unhide HI5⟩
  case round =>
    obtain ⟨k, n, b, F, hk, rfl, HI⟩ := hrel
    by_cases hlt : k < nx
    · obtain ⟨bx, off, rfl, c0⟩ := unhide HX k hlt
      have HC0 := hide c0
      have k0 : (0 : Int) ≤ (k : Int) := Int.natCast_nonneg _
      have k1 : (k : Int) < (nx : Int) := by omega
      clear c0
      generalize xs.getD k 0 = x at *
      go_wp2_with fail
      refine ((unhide HP).nowB _ F _ l n b (unhide HM _ (unhide HI).bel) (unhide HI).b).mono ?_
      rintro E w4 ⟨rfl, hB⟩
      have HI4 := hide ((unhide HI).below (unhide HP) hB)
      clear hB
      go_wp2_with fail
      refine ((unhide HP).askedB _ F _ l n b (unhide HM _ (unhide HI4).bel) (unhide HI4).b).mono ?_
      rintro E w5 ⟨rfl, hB⟩
      have hI5 := (unhide HI4).below (unhide HP) hB
      have HI5 := hide hI5
      have d0 := below_cell hI5.bel (unhide HC0)
      clear hB hI5
      by_cases hx2 : x = -2
      · subst hx2
        go_wp2_with fail
        have HPs := hide (unhide HPa n b (unhide HI5).al)
        have Ht : Hid ((turnN n b = n ∧ b = -1) ∨ (turnN n b = b ∧ b ≠ -1)) := by
          have hok := (unhide HI5).ok.2
          show _ ∨ _
          unfold turnN
          by_cases h0 : 0 ≤ b
          · rw [if_pos h0]; exact Or.inr ⟨rfl, by omega⟩
          · rw [if_neg h0]; exact Or.inl ⟨rfl, by omega⟩
        refine ((unhide HP).turn _ F _ l n b (unhide HM _ (unhide HI5).bel) (unhide HI5).b (unhide HI5).ok).mono ?_
        rintro E w6 ⟨F6, rfl, hb, hF, hO⟩
        have hI6 := (unhide HI5).step hb (turn_board (unhide HI5).ok) (fun h => absurd h (by decide)) hF hO
        have HI6 := hide hI6
        clear hb hF hO hI6 d0
        generalize turnN n b = n' at *
        rcases unhide Ht with ⟨rfl, rfl⟩ | ⟨rfl, hb1⟩
        · clear Ht
          go_wp2_with fail
          refine ((unhide HP).nowB _ F6 _ l n' (-1) (unhide HM _ (unhide HI6).bel) (unhide HI6).b).mono ?_
          rintro E w7 ⟨rfl, hB⟩
          have HI7 := hide ((unhide HI6).below (unhide HP) hB)
          clear hB
          go_wp2_with fail
          refine ((unhide HP).askedB _ F6 _ l n' (-1) (unhide HM _ (unhide HI7).bel) (unhide HI7).b).mono ?_
          rintro E w8 ⟨rfl, hB⟩
          have HI8 := hide ((unhide HI7).below (unhide HP) hB)
          clear hB
          go_wp2_with fail
          go_loopw [13, 14] (fun z q wr' => ∃ (j : Nat) (zb : Bool), j ≤ nl ∧ q = .int .i64 (j : Int) ∧ z = .bool zb ∧ Hid (zb = preA l n' n' j) ∧ Hid (wr' = w8)) (fun _ q _ => nl - (intOf q).toNat)
          case atStart =>
            exact ⟨0, true, by omega, rfl, rfl, by show true = _; rw [preA_zero]; simp, by trivial⟩
          case round =>
            obtain ⟨j, zb, hj, rfl, rfl, Hz, hw⟩ := hrel
            have hw := unhide hw
            subst hw
            by_cases hjl : j < nl
            · obtain ⟨bl, ol, rfl, c0, c1⟩ := unhide HL j hjl
              have e0 := below_cell (unhide HI8).bel c0
              have e1 := below_cell (unhide HI8).bel c1
              have HS := hide (unhide HPr n' n' j hjl)
              rw [← unhide Hz] at HS
              have j0 : (0 : Int) ≤ (j : Int) := Int.natCast_nonneg _
              have j1 : (j : Int) < (nl : Int) := by omega
              clear c0 c1
              generalize (l.getD j Pr.zero).src = y0 at *
              generalize (l.getD j Pr.zero).dst = y1 at *
              cases zb with
              | true =>
                have HS2 : Hid (true = preA l n' n' (j + 1)) := by
                  have := unhide HS
                  rw [Bool.true_or] at this
                  exact this.symm
                clear HS
                go_wp2
                go_roundw
                case rel => exact ⟨j + 1, true, by omega, by go_num, rfl, unhide HS2, by trivial⟩
                case measure => simp [intOf]; omega
              | false =>
                have HS2 : Hid (decide (y0 = n' ∧ y1 = n') = preA l n' n' (j + 1)) := by
                  have := unhide HS
                  rw [Bool.false_or] at this
                  exact this.symm
                clear HS
                by_cases g0 : y0 = n'
                · by_cases g1 : y1 = n'
                  · have HS3 : Hid (true = preA l n' n' (j + 1)) := by
                      have := unhide HS2
                      rw [decide_eq_true ⟨g0, g1⟩] at this
                      exact this
                    clear HS2
                    subst g0
                    go_wp2
                    go_roundw
                    case rel => exact ⟨j + 1, true, by omega, by go_num, by first | rfl | simp [g1], unhide HS3, by trivial⟩
                    case measure => simp [intOf]; omega
                  · have HS3 : Hid (false = preA l n' n' (j + 1)) := by
                      have := unhide HS2
                      rw [decide_eq_false (fun h => g1 h.2)] at this
                      exact this
                    clear HS2
                    subst g0
                    go_wp2
                    go_roundw
                    case rel => exact ⟨j + 1, false, by omega, by go_num, by first | rfl | simp [g1], unhide HS3, by trivial⟩
                    case measure => simp [intOf]; omega
                · have HS3 : Hid (false = preA l n' n' (j + 1)) := by
                    have := unhide HS2
                    rw [decide_eq_false (fun h => g0 h.1)] at this
                    exact this
                  clear HS2
                  go_wp2
                  go_roundw
                  case rel => exact ⟨j + 1, false, by omega, by go_num, rfl, unhide HS3, by trivial⟩
                  case measure => simp [intOf]; omega
            · obtain rfl : j = nl := by omega
              obtain rfl : zb = true := (unhide Hz).trans (unhide HPs)
              go_wp2
              go_roundw
              case rel => exact ⟨k + 1, n', -1, F6, by omega, by go_num, unhide HI8⟩
              case measure => simp [intOf]; omega
        · clear Ht
          have hb1' : (n' == -1) = false := by simp [hb1]
          go_wp2_with fail
          refine ((unhide HP).nowB _ F6 _ l n' (-1) (unhide HM _ (unhide HI6).bel) (unhide HI6).b).mono ?_
          rintro E w7 ⟨rfl, hB⟩
          have HI7 := hide ((unhide HI6).below (unhide HP) hB)
          clear hB
          go_wp2_with fail
          refine ((unhide HP).askedB _ F6 _ l n' (-1) (unhide HM _ (unhide HI7).bel) (unhide HI7).b).mono ?_
          rintro E w8 ⟨rfl, hB⟩
          have HI8 := hide ((unhide HI7).below (unhide HP) hB)
          clear hB
          go_wp2_with fail
          go_loopw [13, 14] (fun z q wr' => ∃ (j : Nat) (zb : Bool), j ≤ nl ∧ q = .int .i64 (j : Int) ∧ z = .bool zb ∧ Hid (zb = preA l n n' j) ∧ Hid (wr' = w8)) (fun _ q _ => nl - (intOf q).toNat)
          case atStart =>
            exact ⟨0, (n' == n), by omega, rfl, rfl, by show _ = _; rw [preA_zero]; rfl, by trivial⟩
          case round =>
            obtain ⟨j, zb, hj, rfl, rfl, Hz, hw⟩ := hrel
            have hw := unhide hw
            subst hw
            by_cases hjl : j < nl
            · obtain ⟨bl, ol, rfl, c0, c1⟩ := unhide HL j hjl
              have e0 := below_cell (unhide HI8).bel c0
              have e1 := below_cell (unhide HI8).bel c1
              have HS := hide (unhide HPr n n' j hjl)
              rw [← unhide Hz] at HS
              have j0 : (0 : Int) ≤ (j : Int) := Int.natCast_nonneg _
              have j1 : (j : Int) < (nl : Int) := by omega
              clear c0 c1
              generalize (l.getD j Pr.zero).src = y0 at *
              generalize (l.getD j Pr.zero).dst = y1 at *
              cases zb with
              | true =>
                have HS2 : Hid (true = preA l n n' (j + 1)) := by
                  have := unhide HS
                  rw [Bool.true_or] at this
                  exact this.symm
                clear HS
                go_wp2
                go_roundw
                case rel => exact ⟨j + 1, true, by omega, by go_num, rfl, unhide HS2, by trivial⟩
                case measure => simp [intOf]; omega
              | false =>
                have HS2 : Hid (decide (y0 = n ∧ y1 = n') = preA l n n' (j + 1)) := by
                  have := unhide HS
                  rw [Bool.false_or] at this
                  exact this.symm
                clear HS
                by_cases g0 : y0 = n
                · by_cases g1 : y1 = n'
                  · have HS3 : Hid (true = preA l n n' (j + 1)) := by
                      have := unhide HS2
                      rw [decide_eq_true ⟨g0, g1⟩] at this
                      exact this
                    clear HS2
                    subst g0
                    go_wp2
                    go_roundw
                    case rel => exact ⟨j + 1, true, by omega, by go_num, by first | rfl | simp [g1], unhide HS3, by trivial⟩
                    case measure => simp [intOf]; omega
                  · have HS3 : Hid (false = preA l n n' (j + 1)) := by
                      have := unhide HS2
                      rw [decide_eq_false (fun h => g1 h.2)] at this
                      exact this
                    clear HS2
                    subst g0
                    go_wp2
                    go_roundw
                    case rel => exact ⟨j + 1, false, by omega, by go_num, by first | rfl | simp [g1], unhide HS3, by trivial⟩
                    case measure => simp [intOf]; omega
                · have HS3 : Hid (false = preA l n n' (j + 1)) := by
                    have := unhide HS2
                    rw [decide_eq_false (fun h => g0 h.1)] at this
                    exact this
                  clear HS2
                  go_wp2
                  go_roundw
                  case rel => exact ⟨j + 1, false, by omega, by go_num, rfl, unhide HS3, by trivial⟩
                  case measure => simp [intOf]; omega
            · obtain rfl : j = nl := by omega
              obtain rfl : zb = true := (unhide Hz).trans (unhide HPs)
              go_wp2
              go_roundw
              case rel => exact ⟨k + 1, n', -1, F6, by omega, by go_num, unhide HI8⟩
              case measure => simp [intOf]; omega
      · go_wp2_with fail
        refine ((unhide HP).ask _ F _ l n b x (unhide HM _ (unhide HI5).bel) (unhide HI5).b (unhide HI5).ok).mono ?_
        rintro E w6 ⟨F6, rfl, hb, hF, hO⟩
        have hI6 := (unhide HI5).step hb (ask_board (unhide HI5).ok) (ask_al (unhide HI5).al) hF hO
        have HI6 := hide hI6
        have d1 := below_cell hI6.bel (unhide HC0)
        clear hb hF hO hI6 d0
        have hok := (unhide HI5).ok.2
        have HNo := hide (fun dn => (unhide HP).now (w6.drewN dn) F6 _ l n (askA l n b x) (unhide HM _ (below_draw (unhide HI6).bel dn)) ((unhide HP).below (unhide HI6).b (below_draw (Below.refl _ _) dn)))
        have HAd := hide (fun dn => (unhide HP).asked (w6.drewN dn) F6 _ l n (askA l n b x) (unhide HM _ (below_draw (unhide HI6).bel dn)) ((unhide HP).below (unhide HI6).b (below_draw (Below.refl _ _) dn)))
        have HI9 := hide (fun dn => (unhide HI6).below (unhide HP) (below_draw (Below.refl _ w6) dn))
        by_cases hc : askC l n b x = 0
        · obtain ⟨_, hb0, _⟩ := ask_yes hc
          have hA : askA l n b x = x := by unfold askA; rw [if_pos hc]
          obtain rfl : b = -1 := by omega
          rw [hA] at HI9 HAd
          rw [hc, show errC e 0 = .nilIface from rfl]
          clear hc hA hok hb0
          go_wp2_with fail
          go_quiet (first | (go_at_call 31; exact Calls.quiet_of_same (unhide HNo _)) | (go_at_call 32; exact Calls.quiet_of_same (unhide HAd _)) | fail)
          go_wp2
          go_roundw
          case rel => exact ⟨k + 1, n, x, F6, by omega, by go_num, unhide HI9 _⟩
          case measure => simp [intOf]; omega
        · obtain ⟨et, ep, hE⟩ : ∃ et ep, errC e (askC l n b x) = .iface et ep := ⟨_, _, if_neg hc⟩
          have hA : askA l n b x = b := by unfold askA; rw [if_neg hc]
          rw [hA] at HI9 HAd
          rw [hE]
          clear hc hA hok hE
          go_wp2_with fail
          go_quiet (first | (go_at_call 31; exact Calls.quiet_of_same (unhide HNo _)) | (go_at_call 32; exact Calls.quiet_of_same (unhide HAd _)) | fail)
          go_wp2
          go_roundw
          case rel => exact ⟨k + 1, n, b, F6, by omega, by go_num, unhide HI9 _⟩
          case measure => simp [intOf]; omega
    · obtain rfl : k = nx := by omega
      go_wp2
      go_ret
      exact ⟨rfl, (unhide HI).bel⟩
theorem mgo_all (M : World → Prop) (e : Nat → TypeId × Value) (B : World → (Nat → Prop) → Value → List Pr → Int → Int → Prop) (P : ModeP M e B) (CD : CodedO M e) (v vs : Value) (l : List Pr) (xs : List Int) (w : World) (m : M w) (hv : PrsIn w v l) (hs : IntsIn w vs xs) :
    Calls Tryd.prog 7 #[v, vs] w fun r w' => r = .returned (.bool true) ∧ Below w.heap.size w w' := by
  have CM : ModedO M := moded_ok M e B P CD
  by_cases h1 : 20 < l.length
  · exact mgo_far M CM v vs l xs w m hv hs (Or.inl h1)
  by_cases h2 : 60 < xs.length
  · exact mgo_far M CM v vs l xs w m hv hs (Or.inr ⟨h1, h2⟩)
  by_cases h : prsOk l
  · exact mgo_ok M e B P CM v vs l xs w m hv hs (by omega) (by omega) h
  · exact mgo_no M e B P CM v vs l xs w m hv hs (by omega) (by omega) h
end Go.Proofs.YtglhapkclpllfadDoor
