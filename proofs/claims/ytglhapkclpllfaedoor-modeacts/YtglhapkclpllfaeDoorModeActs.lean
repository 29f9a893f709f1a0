/-
  The walk of the law ModeActs over what package mode answers (structure ModeP) and the document's answer.
  Conditions: package api's errors lie as laid (structure Sent); those of the package's contracts (M).
-/
import Derived.Test.YtglhapkclpllfaeDoorModeFact
import Derived.Test.YtglhapkclpllfaeDoorModeSent
import Derived.Test.YtglhapkclpllfaeDoorRefMode
import Derived.Test.YtglhapkclpllfaeDoorFits
import Derived.Test.YtglhapkclpllfaeDoorModeCoded
namespace Go.Proofs.YtglhapkclpllfaeDoor
open Go.RowKit

theorem mact_far (M : World → Prop) (CM : ModedO M) (v vs : Value) (l : List Pr) (xs : List Int) (w : World) (m : M w) (hv : PrsIn w v l) (hs : IntsIn w vs xs) (h : 20 < l.length ∨ ¬ 20 < l.length ∧ 60 < xs.length) :
    Calls Tryd.prog 3 #[v, vs] w fun r w' => r = .returned (.bool true) ∧ Below w.heap.size w w' := by
  have HK := hide (CM w m)
  obtain ⟨ad, cap, rfl, _⟩ := PrsIn.at hv
  obtain ⟨ads, caps, rfl, _⟩ := hs
  generalize l.length = n at *
  generalize xs.length = k at *
  have hh : decide ((20 : Int) < (n : Int)) = true ∨ (decide ((20 : Int) < (n : Int)) = false ∧ decide ((60 : Int) < (k : Int)) = true) := by
    rcases h with h | ⟨h, h1⟩
    · exact Or.inl (decide_eq_true (by omega))
    · exact Or.inr ⟨decide_eq_false (by omega), decide_eq_true (by omega)⟩
  clear h hv m CM
  rcases hh with h1 | ⟨h1, h2⟩
  all_goals
    go_enter Tryd.func3, Tryd.ntmps3
    go_wp2_with fail
    refine (unhide HK).mono ?_
    rintro E w1 ⟨rfl, hB⟩
    have HB := hide hB
    clear hB
    go_wp2
    go_ret
    exact ⟨rfl, unhide HB⟩
set_option maxRecDepth 100000 in
theorem mact_no (a : Nat → Addr) (M : World → Prop) (hS : ∀ w, M w → Sent a w) (B : World → (Nat → Prop) → Value → List Pr → Int → Int → Prop) (P : ModeP M (eM a) B) (CM : ModedO M) (v vs : Value) (l : List Pr) (xs : List Int) (w : World) (m : M w) (hv : PrsIn w v l) (hs : IntsIn w vs xs) (h1 : l.length ≤ 20) (h2 : xs.length ≤ 60) (h : ¬ prsOk l) :
    Calls Tryd.prog 3 #[v, vs] w fun r w' => r = .returned (.bool true) ∧ Below w.heap.size w w' := by
  have HK := hide (CM w m)
  have HM : Hid (∀ w', Below w.heap.size w w' → M w') := fun w' hB => P.keep w w' m hB
  have HV := hide hv
  obtain ⟨c, n, hc, HN, hE⟩ := newR_no l h
  have HN := hide HN
  have HP : Hid (∀ w' v', M w' → PrsIn w' v' l → Calls Tryd.prog 5 #[v'] w' fun r w2 => ∃ ev, r = .returned (.tuple #[.pointer none, ev]) ∧ ErrFits a w2 ev c n ∧ Below w'.heap.size w' w2) := fun w' v' m' hv' => by
    refine (P.neN w' v' l m' hv' h).mono ?_
    rintro r w2 ⟨ty, p, rfl, hp, hB⟩
    refine ⟨_, rfl, ?_, hB⟩
    rcases hp with ⟨g1, rfl, rfl⟩ | ⟨q, pb, g1, g2, g3, g4, rfl, rfl, c0, c1⟩
    · rcases hE with ⟨_, rfl, rfl⟩ | ⟨m2, k1, _⟩
      · exact Or.inr (Or.inr ⟨6, by decide, rfl, rfl, rfl⟩)
      · omega
    · rcases hE with ⟨k1, _⟩ | ⟨m2, k1, k2, k3, k4, rfl, rfl⟩
      · omega
      · have : q = m2 := by
          rcases Nat.lt_trichotomy q m2 with hh | hh | hh
          · exact absurd (k3 q hh) g4
          · exact hh
          · exact absurd (g3 m2 hh) k4
        subst this
        exact Or.inr (Or.inl ⟨pb, 1, by decide, rfl, rfl, c0, c1⟩)
  have HPs := hide (fun w' (hv' : PrsIn w' v l) => asPairs_ok v l w' hv' (by omega))
  have HF := hide (fun w' ev (S : Sent a w') (he : ErrFits a w' ev c n) => faulted_ok a w' S he)
  have HS := hide hS
  obtain ⟨ad, cap, rfl, _⟩ := PrsIn.at hv
  obtain ⟨ads, caps, rfl, _⟩ := hs
  obtain ⟨nl, hnl⟩ : ∃ nl, l.length = nl := ⟨_, rfl⟩
  obtain ⟨nx, hnx⟩ : ∃ nx, xs.length = nx := ⟨_, rfl⟩
  rw [hnl] at h1 HV HPs ⊢
  rw [hnx] at h2 ⊢
  have q1 : decide ((20 : Int) < (nl : Int)) = false := decide_eq_false (by omega)
  have q2 : decide ((60 : Int) < (nx : Int)) = false := decide_eq_false (by omega)
  clear hv m CM P h hS hnl hnx hE
  go_enter Tryd.func3, Tryd.ntmps3
  go_wp2_with fail
  refine (unhide HK).mono ?_
  rintro E w1 ⟨rfl, hB⟩
  have HB1 := hide hB
  clear hB
  go_wp2_with fail
  refine (unhide HPs _ ((unhide HV).below (unhide HB1))).mono ?_
  rintro E w2 ⟨v', rfl, hv', hB⟩
  have hB2 := (unhide HB1).trans (hB.mono (unhide HB1).size)
  have HB2 := hide hB2
  have HC := hide (unhide HP w2 v' (unhide HM _ hB2) hv')
  clear hB hB2 hv'
  go_wp2_with fail
  refine (unhide HC).mono ?_
  rintro E w3 ⟨ev, rfl, he, hB⟩
  have HB3 := hide ((unhide HB2).trans (hB.mono (unhide HB2).size))
  have HE := hide he
  clear hB he HC
  go_wp2_with fail
  refine (unhide HN _ _ ((unhide HV).below (unhide HB3))).mono ?_
  rintro E w4 ⟨rfl, hB⟩
  have hB4 := (unhide HB3).trans (hB.mono (unhide HB3).size)
  have hA : Below w4.heap.size w4 (w4.alloc (.cells #[.int .i64 c, .int .i64 n] 34)) := (Below.refl _ _).alloc (Nat.le_refl _) _
  have hB5 := hB4.trans (hA.mono hB4.size)
  have HB5 := hide hB5
  have HC := hide (unhide HF _ ev (unhide HS _ (unhide HM _ hB5)) (((unhide HE).below hB).below hA))
  clear hB hB4 hA hB5
  go_wp2_with fail
  refine (unhide HC).mono ?_
  rintro E w6 ⟨rfl, hB⟩
  have HB6 := hide ((unhide HB5).trans (hB.mono (unhide HB5).size))
  clear hB
  go_wp2
  go_ret
  exact ⟨rfl, unhide HB6⟩
/-- Both boards, side by side: package mode's with n and a, the document's with n2 and a2, each in blocks of its own. -/
structure MInv (B : World → (Nat → Prop) → Value → List Pr → Int → Int → Prop) (w0 : World) (p : Addr) (g : Nat) (v : Value) (l : List Pr) (n a n2 a2 : Int) (F : Nat → Prop) (w : World) : Prop where
  b : B w F (.pointer (some p)) l n a
  r : RAt w g v n2 a2
  ok : boardOk n a
  ne : ¬ F g
  lo : ∀ k, F k → w0.heap.size ≤ k
  hi : w0.heap.size ≤ g
  bel : Below w0.heap.size w0 w
section
variable {M : World → Prop} {e : Nat → TypeId × Value} {B : World → (Nat → Prop) → Value → List Pr → Int → Int → Prop} {w0 : World} {p : Addr} {g : Nat} {v : Value} {l : List Pr} {n a n2 a2 : Int} {F : Nat → Prop} {w : World}
theorem MInv.below (P : ModeP M e B) (h : MInv B w0 p g v l n a n2 a2 F w) {w' : World} (hB : Below w.heap.size w w') : MInv B w0 p g v l n a n2 a2 F w' :=
  ⟨P.below h.b hB, h.r.stay (hB.block g h.r.lt), h.ok, h.ne, h.lo, h.hi, h.bel.trans (hB.mono h.bel.size)⟩
theorem MInv.bstep (h : MInv B w0 p g v l n a n2 a2 F w) {w' : World} {F' : Nat → Prop} {n' a' : Int} (hb : B w' F' (.pointer (some p)) l n' a') (hok : boardOk n' a') (hF : ∀ k, F' k → F k ∨ w.heap.size ≤ k) (hO : Only F w w') : MInv B w0 p g v l n' a' n2 a2 F' w' := by
  have hg := h.r.lt
  refine ⟨hb, h.r.stay (hO.block g hg h.ne), hok, fun hf => ?_, fun k hk => ?_, h.hi, h.bel.trans (hO.below h.lo h.bel.size)⟩
  · rcases hF g hf with h1 | h1
    · exact h.ne h1
    · omega
  · rcases hF k hk with h1 | h1
    · exact h.lo k h1
    · exact Nat.le_trans h.bel.size h1
theorem MInv.rstep (P : ModeP M e B) (h : MInv B w0 p g v l n a n2 a2 F w) {w' : World} {n' a' : Int} (hr : RAt w' g v n' a') (hO : Only (fun k => k = g) w w') : MInv B w0 p g v l n a n' a' F w' :=
  ⟨P.stay _ _ _ _ _ _ _ h.b hO.size fun k hk => hO.block k (P.lt _ _ _ _ _ _ h.b k hk) fun e => h.ne (e ▸ hk), hr, h.ok, h.ne, h.lo, h.hi, h.bel.trans (hO.below (fun k hk => by rw [hk]; exact h.hi) h.bel.size)⟩
end
set_option maxRecDepth 100000 in
set_option maxHeartbeats 1000000 in
theorem mact_ok (a : Nat → Addr) (M : World → Prop) (B : World → (Nat → Prop) → Value → List Pr → Int → Int → Prop) (P : ModeP M (eM a) B) (CM : ModedO M) (CD : CodedO M (eM a)) (v vs : Value) (l : List Pr) (xs : List Int) (w : World) (m : M w) (hv : PrsIn w v l) (hs : IntsIn w vs xs) (h1 : l.length ≤ 20) (h2 : xs.length ≤ 60) (h : prsOk l) :
    Calls Tryd.prog 3 #[v, vs] w fun r w' => r = .returned (.bool true) ∧ Below w.heap.size w w' := by
  have HK := hide (CM w m)
  have HM : Hid (∀ w', Below w.heap.size w w' → M w') := fun w' hB => P.keep w w' m hB
  have HV := hide hv
  have HP := hide P
  have HCD := hide CD
  have HN := hide (fun w' (hv' : PrsIn w' v l) => newR_ok v l w' hv' h)
  have HE := hide (fun w' v' (m' : M w') (hv' : PrsIn w' v' l) => P.neO w' v' l m' hv' h)
  have HPs := hide (fun w' (hv' : PrsIn w' v l) => asPairs_ok v l w' hv' (by omega))
  have HAsk := hide (fun w' g n b to (hr : RAt w' g v n b) (hv' : PrsIn w' v l) => askR_ok g v l n b to w' hr hv' h.1)
  obtain ⟨ad, cap, rfl, _⟩ := PrsIn.at hv
  obtain ⟨ads, caps, rfl, hxs⟩ := hs
  have HX := hide hxs
  obtain ⟨nl, hnl⟩ : ∃ nl, l.length = nl := ⟨_, rfl⟩
  obtain ⟨nx, hnx⟩ : ∃ nx, xs.length = nx := ⟨_, rfl⟩
  rw [hnl] at h1 HV HPs HN HAsk ⊢
  rw [hnx] at h2 HX ⊢
  have q1 : decide ((20 : Int) < (nl : Int)) = false := decide_eq_false (by omega)
  have q2 : decide ((60 : Int) < (nx : Int)) = false := decide_eq_false (by omega)
  clear hv m CM CD P h hnl hnx hxs
  go_enter Tryd.func3, Tryd.ntmps3
  go_wp2_with fail
  refine (unhide HK).mono ?_
  rintro E w1 ⟨rfl, hB⟩
  have HB1 := hide hB
  clear hB HK
  go_wp2_with fail
  refine (unhide HPs _ ((unhide HV).below (unhide HB1))).mono ?_
  rintro E w2 ⟨v', rfl, hv', hB⟩
  have hB2 := (unhide HB1).trans (hB.mono (unhide HB1).size)
  have HB2 := hide hB2
  have HC := hide (unhide HE w2 v' (unhide HM _ hB2) hv')
  clear hB hB2 hv' HE HPs
  go_wp2_with fail
  refine (unhide HC).mono ?_
  rintro E w3 ⟨p, F, rfl, hb, hF, hB⟩
  have HB3 := hide ((unhide HB2).trans (hB.mono (unhide HB2).size))
  have HBd := hide hb
  have HF : Hid (∀ k, F k → w.heap.size ≤ k) := fun k hk => Nat.le_trans (unhide HB2).size (hF k hk)
  clear hB HC hb hF
  go_wp2_with fail
  refine (unhide HN _ ((unhide HV).below (unhide HB3))).mono ?_
  rintro E w4 ⟨g, hg, rfl, hr, hB⟩
  have hB4 := (unhide HB3).trans (hB.mono (unhide HB3).size)
  have hA : Below w4.heap.size w4 (w4.alloc (.cells #[.int .i64 0, .int .i64 (-1)] 34)) := (Below.refl _ _).alloc (Nat.le_refl _) _
  have HI : Hid (MInv B w p g (.slice ad nl cap) l 0 (-1) 0 (-1) F w4) := ⟨(unhide HP).below (unhide HBd) hB, hr, board_zero, fun hf => by have := (unhide HP).lt _ _ _ _ _ _ (unhide HBd) g hf; omega, unhide HF, Nat.le_trans (unhide HB3).size hg, hB4⟩
  have HI5 := hide ((unhide HI).below (unhide HP) hA)
  clear hB hB4 hA hr hg HN HI HBd HF
  go_wp2_with fail
  go_loopw [10] (fun q wr => ∃ (k : Nat) (n b : Int) (F : Nat → Prop), k ≤ nx ∧ q = .int .i64 (k : Int) ∧ Hid (MInv B w p g (.slice ad nl cap) l n b n b F wr)) (fun q _ => nx - (intOf q).toNat)
  case atStart => exact ⟨0, 0, -1, F, by omega, rfl, unhide HI5⟩
  case round =>
    obtain ⟨k, n, b, F, hk, rfl, HI⟩ := hrel
    by_cases hlt : k < nx
    · obtain ⟨bx, off, rfl, c0⟩ := unhide HX k hlt
      have d0 := below_cell (unhide HI).bel c0
      have HC0 := hide c0
      have k0 : (0 : Int) ≤ (k : Int) := Int.natCast_nonneg _
      have k1 : (k : Int) < (nx : Int) := by omega
      clear c0
      generalize xs.getD k 0 = x at *
      by_cases hx2 : x = -2
      · subst hx2
        go_wp2_with fail
        refine ((unhide HP).turn _ F _ l n b (unhide HM _ (unhide HI).bel) (unhide HI).b (unhide HI).ok).mono ?_
        rintro E w5 ⟨F5, rfl, hb, hF, hO⟩
        have hI5 := (unhide HI).bstep hb (turn_board (unhide HI).ok) hF hO
        have HI5 := hide hI5
        have HC := hide (turnR_ok g _ n b w5 hI5.r (unhide HI).ok)
        clear hb hF hO hI5
        generalize turnN n b = n' at *
        go_wp2_with fail
        refine (unhide HC).mono ?_
        rintro E w6 ⟨rfl, hr, hO⟩
        have hI6 := (unhide HI5).rstep (unhide HP) hr hO
        have HI6 := hide (hI6.below (unhide HP) (Below.refl _ w6).drew)
        have hr1 := hI6.r.c1
        have hr2 := hI6.r.c2
        clear hr hO hI6 HC
        go_wp2_with fail
        go_region_held3 (fun w' => w'.cell? ⟨g, 1, none⟩ = some (.int .i64 n') ∧ w'.cell? ⟨g, 2, none⟩ = some (.int .i64 (-1)))
          (first | exact ⟨(unhide HI8).r.c1, (unhide HI8).r.c2⟩ | exact ⟨(unhide HI7).r.c1, (unhide HI7).r.c2⟩ | exact ⟨(unhide HI6).r.c1, (unhide HI6).r.c2⟩)
          (first
            | (go_at_call 14; refine ((unhide HP).nowB _ F5 _ l n' (-1) (unhide HM _ (unhide HI6).bel) (unhide HI6).b).mono ?_; rintro E w7 ⟨rfl, hB⟩; have HI7 := hide ((unhide HI6).below (unhide HP) hB); clear hB)
            | (go_at_call 15; refine ((unhide HP).askedB _ F5 _ l n' (-1) (unhide HM _ (unhide HI7).bel) (unhide HI7).b).mono ?_; rintro E w8 ⟨rfl, hB⟩; have HI8 := hide ((unhide HI7).below (unhide HP) hB); clear hB))
        clear hr1 hr2
        go_wp2
        go_roundw
        case rel => exact ⟨k + 1, n', (-1), F5, by omega, by go_num, unhide HI8⟩
        case measure => simp [intOf]; omega
      · have hx2' : (x == -2) = false := by simp [hx2]
        go_wp2_with fail
        have HD0 := hide d0
        have HId := hide ((unhide HI).below (unhide HP) (Below.refl _ wr).drew)
        go_region_held3 (fun w' => w'.cell? ⟨bx, off + k, none⟩ = some (.int .i64 x))
          (first | exact unhide HD8 | exact unhide HD7 | exact unhide HD5 | exact unhide HD0)
          (first
            | (go_at_call 12; refine ((unhide HP).ask _ F _ l n b x (unhide HM _ (unhide HId).bel) (unhide HId).b (unhide HId).ok).mono ?_; rintro E w5 ⟨F5, rfl, hb, hF, hO⟩; have hI5 := (unhide HId).bstep hb (ask_board (unhide HId).ok) hF hO; have HI5 := hide hI5; have HD5 := hide (below_cell hI5.bel (unhide HC0)); clear hb hF hO hI5)
            | (go_at_call 13; refine (unhide HAsk _ g n b x (unhide HI5).r ((unhide HV).below (unhide HI5).bel)).mono ?_; rintro E w7 ⟨rfl, hr, hO⟩; have hI7 := (unhide HI5).rstep (unhide HP) hr hO; have HI7 := hide hI7; have HD7 := hide (below_cell hI7.bel (unhide HC0)); clear hr hO hI7)
            | (go_at_call 11; refine ((unhide HCD) _ (askC l n b x) (unhide HM _ (unhide HI7).bel) (by rcases askC_le l n b x with h | h | h | h <;> omega)).mono ?_; rintro E w8 ⟨rfl, hB⟩; have hI8 := (unhide HI7).below (unhide HP) hB; have HI6o := hide hI8; have HD8 := hide (below_cell hI8.bel (unhide HC0)); clear hB hI8))
        have hI6 := unhide HI6o
        have HI6 := hide (hI6.below (unhide HP) (Below.refl _ w8).drew)
        have hr1 := hI6.r.c1
        have hr2 := hI6.r.c2
        clear hI6 HI6o HI7 HI5 HId HD0 HD5 HD7 HD8 d0
        generalize askA l n b x = b' at *
        go_wp2_with fail
        go_region_held3 (fun w' => w'.cell? ⟨g, 1, none⟩ = some (.int .i64 n) ∧ w'.cell? ⟨g, 2, none⟩ = some (.int .i64 b'))
          (first | exact ⟨(unhide HI8).r.c1, (unhide HI8).r.c2⟩ | exact ⟨(unhide HI7).r.c1, (unhide HI7).r.c2⟩ | exact ⟨(unhide HI6).r.c1, (unhide HI6).r.c2⟩)
          (first
            | (go_at_call 14; refine ((unhide HP).nowB _ F5 _ l n b' (unhide HM _ (unhide HI6).bel) (unhide HI6).b).mono ?_; rintro E w9 ⟨rfl, hB⟩; have HI7 := hide ((unhide HI6).below (unhide HP) hB); clear hB)
            | (go_at_call 15; refine ((unhide HP).askedB _ F5 _ l n b' (unhide HM _ (unhide HI7).bel) (unhide HI7).b).mono ?_; rintro E w10 ⟨rfl, hB⟩; have HI8 := hide ((unhide HI7).below (unhide HP) hB); clear hB))
        clear hr1 hr2
        go_wp2
        go_roundw
        case rel => exact ⟨k + 1, n, b', F5, by omega, by go_num, unhide HI8⟩
        case measure => simp [intOf]; omega
    · obtain rfl : k = nx := by omega
      go_wp2_with fail
      refine ((unhide HP).copy _ F _ l n b (unhide HM _ (unhide HI).bel) (unhide HI).b).mono ?_
      rintro E w5 ⟨pc, F5, rfl, hb, hB⟩
      have hI5 := (unhide HI).below (unhide HP) hB
      have HI6 := hide (hI5.below (unhide HP) (Below.refl _ w5).drew)
      have HC6 := hide ((unhide HP).below hb (Below.refl _ w5).drew)
      have hr1 := hI5.r.c1
      have hr2 := hI5.r.c2
      clear hb hB hI5
      go_wp2_with fail
      go_region_held3 (fun w' => w'.cell? ⟨g, 1, none⟩ = some (.int .i64 n) ∧ w'.cell? ⟨g, 2, none⟩ = some (.int .i64 b))
        (first | exact ⟨(unhide HI8).r.c1, (unhide HI8).r.c2⟩ | exact ⟨(unhide HI7).r.c1, (unhide HI7).r.c2⟩ | exact ⟨(unhide HI6).r.c1, (unhide HI6).r.c2⟩)
        (first
          | (go_at_call 14; refine ((unhide HP).nowB _ F5 _ l n b (unhide HM _ (unhide HI6).bel) (unhide HC6)).mono ?_; rintro E w9 ⟨rfl, hB⟩; have HI7 := hide ((unhide HI6).below (unhide HP) hB); have HC7 := hide ((unhide HP).below (unhide HC6) hB); clear hB)
          | (go_at_call 15; refine ((unhide HP).askedB _ F5 _ l n b (unhide HM _ (unhide HI7).bel) (unhide HC7)).mono ?_; rintro E w10 ⟨rfl, hB⟩; have HI8 := hide ((unhide HI7).below (unhide HP) hB); clear hB))
      clear hr1 hr2
      go_wp2
      go_ret
      exact ⟨rfl, (unhide HI8).bel⟩
theorem mact_all (a : Nat → Addr) (M : World → Prop) (hS : ∀ w, M w → Sent a w) (B : World → (Nat → Prop) → Value → List Pr → Int → Int → Prop) (P : ModeP M (eM a) B) (CD : CodedO M (eM a)) (v vs : Value) (l : List Pr) (xs : List Int) (w : World) (m : M w) (hv : PrsIn w v l) (hs : IntsIn w vs xs) :
    Calls Tryd.prog 3 #[v, vs] w fun r w' => r = .returned (.bool true) ∧ Below w.heap.size w w' := by
  have CM : ModedO M := moded_ok M (eM a) B P CD
  by_cases h1 : 20 < l.length
  · exact mact_far M CM v vs l xs w m hv hs (Or.inl h1)
  by_cases h2 : 60 < xs.length
  · exact mact_far M CM v vs l xs w m hv hs (Or.inr ⟨h1, h2⟩)
  by_cases h : prsOk l
  · exact mact_ok a M B P CM CD v vs l xs w m hv hs (by omega) (by omega) h
  · exact mact_no a M hS B P CM v vs l xs w m hv hs (by omega) (by omega) h
end Go.Proofs.YtglhapkclpllfaeDoor
