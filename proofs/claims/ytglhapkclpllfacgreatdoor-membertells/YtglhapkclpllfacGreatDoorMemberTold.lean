/-
  What package member and the document's answer tell, side by side, case by case; then the walk of the law MemberTells, whole, over what package member answers (structure MProg).
  Conditions: those of the package's contracts (M).
-/
import Derived.Test.YtglhapkclpllfacGreatDoorMemberTells
import Derived.Test.YtglhapkclpllfacGreatDoorGp
import Derived.Test.YtglhapkclpllfacGreatDoorRefMem
import Derived.Test.YtglhapkclpllfacGreatDoorGuarded
namespace Go.Proofs.YtglhapkclpllfacGreatDoor
open Go.RowKit

theorem fits_nilM (a : Nat → Addr) (w : World) : ErrFits a w .nilIface 0 (-1) := Or.inl ⟨rfl, rfl, rfl⟩
theorem fits_esM (a : Nat → Addr) (w : World) (k : Nat) (hk : k < 11) (c : Int) (hc : c = (k : Int) + 1) : ErrFits a w (.iface (eG a k).1 (eG a k).2) c (-1) := Or.inr (Or.inr ⟨k, hk, rfl, hc, rfl⟩)
theorem mtold_any (M : World → Prop) (a : Nat → Addr) (hS : ∀ w, M w → Sent a w) (P : MProg M (eG a)) (hE : ∀ (l : List UInt8) k, readF l = .error k → k ≠ 0) (xs : List Int) (v : Vw) (s : ByteArray) (node value : Int) :
    ∃ ev0 cv x en c n T c' n', MTold M a xs v s node value ev0 cv x en c n T c' n' := by
  have hK : ∃ ev0 cv, (∀ w, M w → Calls Tryz.prog 6 #[v.val] w fun r w' => r = .returned ev0 ∧ Below w.heap.size w w') ∧ (∀ w, Calls Tryz.prog 7 #[v.val] w fun r w' => r = .returned (.int .i64 cv) ∧ Below w.heap.size w w') ∧ ∀ w, M w → Calls Tryz.prog 5 #[ev0, .int .i64 cv] w fun r w' => r = .returned (.bool true) ∧ Below w.heap.size w w' := by
    by_cases h : v.ok
    · exact ⟨_, 0, fun w m => P.yes w v m h, viewE_ok h, fun w _ => same_below (coded_nil w)⟩
    · exact ⟨_, 2, fun w m => P.no w v m h, viewE_no h, fun w m => coded_es a 1 (by omega) w (hS w m)⟩
  obtain ⟨ev0, cv, k1, k2, k3⟩ := hK
  by_cases hp : planOk xs
  · by_cases h : v.ok
    · have hSe : ∃ T c' n', (∀ w vl, M w → IntsIn w vl xs → Calls Tryz.prog 11 #[vl, v.val, .int .i64 node, .int .i64 value] w fun r w' => ∃ ev, r = .returned (.tuple #[.string T, ev]) ∧ ErrFits a w' ev c' n' ∧ Below w.heap.size w w') ∧
          ∀ w vl, IntsIn w vl xs → Calls Tryz.prog 12 #[vl, v.val, .int .i64 node, .int .i64 value] w fun r w' => r = .returned (.tuple #[.string T, .agg #[.int .i64 c', .int .i64 n']]) ∧ Below w.heap.size w w' := by
        obtain ⟨hw, hi⟩ := who_at hp v
        by_cases hn : whoV xs v = node
        · subst hn
          have hse := send_err hp h value
          obtain ⟨me, mo, sl, rfl, hme, hmo, hsl⟩ := view_nat h
          have hwi := with_if me (atV xs ⟨me, mo, sl⟩) hme hi
          have hwho : xs.getD (sl % xs.length) 0 = (atV xs ⟨me, mo, sl⟩ : Int) + 1 := by rw [← hw]; unfold whoV; simp
          have hft := frameText_ok (sendF xs ⟨me, mo, sl⟩ (whoV xs ⟨me, mo, sl⟩) value)
          unfold ftextV at hft
          rw [hse] at hft
          have hwe : (withV xs ⟨me, mo, sl⟩ : Nat) = withN me (atV xs ⟨me, mo, sl⟩) := by unfold withV; simp
          have hw2 : if me.testBit (atV xs ⟨me, mo, sl⟩) then withN me (atV xs ⟨me, mo, sl⟩) = me else withN me (atV xs ⟨me, mo, sl⟩) = me + 2 ^ atV xs ⟨me, mo, sl⟩ := by
            cases hb : me.testBit (atV xs ⟨me, mo, sl⟩) with
            | true => rw [hb] at hwi; exact hwi.1
            | false => rw [hb] at hwi; exact hwi.1
          by_cases hval : -1048576 ≤ value ∧ value ≤ 1048576
          · rw [if_pos hval] at hft
            refine ⟨_, 0, -1, fun w vl m hv => (P.seO w vl xs ⟨me, mo, sl⟩ value m hv hp h hval).mono fun _ _ h => ⟨_, h.1, fits_nilM a _, h.2⟩, fun w vl hv => ?_⟩
            have := sendOf_ok vl xs me mo sl (atV xs ⟨me, mo, sl⟩) (withN me (atV xs ⟨me, mo, sl⟩)) value 0 ⟨(frameL (sendF xs ⟨me, mo, sl⟩ (whoV xs ⟨me, mo, sl⟩) value)).toArray⟩ w hv hp hsl hme hwho hi hw2 (fun w' => hasN_ok me _ hme (by omega) w') (fun w' => by
              have := hft w'
              unfold frmV sendF at this
              rw [hwe, hw] at this
              unfold sendF
              rw [hwe, hw]
              exact this) (viewA_ok me mo sl h)
            rw [← hw] at this
            exact this
          · rw [if_neg hval] at hft
            refine ⟨_, 2, -1, fun w vl m hv => (P.seB w vl xs ⟨me, mo, sl⟩ value m hv hp h hval).mono fun _ _ h => ⟨_, h.1, fits_esM a _ 1 (by omega) 2 rfl, h.2⟩, fun w vl hv => ?_⟩
            have := sendOf_ok vl xs me mo sl (atV xs ⟨me, mo, sl⟩) (withN me (atV xs ⟨me, mo, sl⟩)) value 2 ⟨#[]⟩ w hv hp hsl hme hwho hi hw2 (fun w' => hasN_ok me _ hme (by omega) w') (fun w' => by
              have := hft w'
              unfold frmV sendF at this
              rw [hwe, hw] at this
              exact this) (viewA_ok me mo sl h)
            rw [← hw] at this
            exact this
        · refine ⟨_, 9, -1, fun w vl m hv => (P.seL w vl xs v node value m hv hp h hn).mono fun _ _ h => ⟨_, h.1, fits_esM a _ 8 (by omega) 9 rfl, h.2⟩, fun w vl hv => ?_⟩
          obtain ⟨me, mo, sl, rfl, hme, hmo, hsl⟩ := view_nat h
          have hn' : xs.getD (sl % xs.length) 0 ≠ node := by unfold whoV at hn; simpa using hn
          exact sendOf_late vl xs me mo sl node value w hv hp hsl hn' (viewA_ok me mo sl h)
      obtain ⟨T, c', n', e1, e2⟩ := hSe
      by_cases hsl : v.sl < 1000000
      · refine ⟨ev0, cv, nextV xs v (goodV xs v (readF s.data.toList)), entV xs v (goodV xs v (readF s.data.toList)), 0, -1, T, c', n', ⟨k1, k2, k3, fun w vl m hv => (P.stO w vl xs v s m hv hp h hsl).mono fun _ _ h => ⟨_, h.1, fits_nilM a _, h.2⟩, fun w vl hv => ?_, e1, e2⟩⟩
        clear e1 e2 k1 k2 k3
        obtain ⟨hw, hi⟩ := who_at hp v
        obtain ⟨x0, x1, x2, x3, x4, ev, hrf, hg⟩ := rf_nums xs v (readF s.data.toList) (hE _)
        have hrd : ∀ w', Calls Tryz.prog 24 #[.string s] w' fun e w2 => e = .returned (.tuple #[.agg #[.int .i64 x0, .int .i64 x1, .int .i64 x2, .int .i64 x3, .int .i64 x4], .int .i64 ev]) ∧ Below w'.heap.size w' w2 := fun w' => by
          have := readFrame_ok s w'
          rw [hrf] at this
          exact this
        obtain ⟨me, mo, sl, rfl, hme, hmo, hsl2⟩ := view_nat h
        have hwi := with_if me (atV xs ⟨me, mo, sl⟩) hme hi
        have hwho : xs.getD (sl % xs.length) 0 = (atV xs ⟨me, mo, sl⟩ : Int) + 1 := by rw [← hw]; unfold whoV; simp
        have hwe : (withV xs ⟨me, mo, sl⟩ : Nat) = withN me (atV xs ⟨me, mo, sl⟩) := by unfold withV; simp
        have hle : (lessV xs ⟨me, mo, sl⟩ : Nat) = lessN me (atV xs ⟨me, mo, sl⟩) := by unfold lessV; simp
        have hsl3 : sl < 1000000 := by simp only at hsl; omega
        have := stepOf_ok vl xs me mo sl (atV xs ⟨me, mo, sl⟩) (withN me (atV xs ⟨me, mo, sl⟩)) (lessN me (atV xs ⟨me, mo, sl⟩)) s x0 x1 x2 x3 x4 ev w hv hp hme hsl3 hwho hi hwi (viewA_ok me mo sl h) (fun w' => hasN_ok me _ hme (by omega) w') hrd
        refine this.mono fun _ _ hh => ⟨?_, hh.2⟩
        rw [hh.1, hg]
        rw [hw, hwe]
        simp only
        by_cases hc : ev = 0 ∧ x0 = (atV xs ⟨me, mo, sl⟩ : Int) + 1 ∧ x1 = (withN me (atV xs ⟨me, mo, sl⟩) : Nat) ∧ x2 = mo ∧ x3 = sl
        · rw [if_pos hc, if_pos hc]
          unfold stepR nextV entV Vw.val Ent.val
          rw [hwe, hw]
          rfl
        · rw [if_neg hc, if_neg hc]
          unfold stepR nextV entV Vw.val Ent.val
          rw [hle, hw]
          rfl
      · have hsl' : v.sl = 1000000 := by have := h.2.2.2; omega
        refine ⟨ev0, cv, Vw.none, Ent.zero, 7, -1, T, c', n', ⟨k1, k2, k3, fun w vl m hv => (P.stF w vl xs v s m hv hp h hsl').mono fun _ _ h => ⟨_, h.1, fits_esM a _ 6 (by omega) 7 rfl, h.2⟩, fun w vl hv => ?_, e1, e2⟩⟩
        obtain ⟨me, mo, sl⟩ := v
        obtain rfl : sl = 1000000 := hsl'
        exact stepOf_full vl xs me mo s w hv hp (viewA_ok me mo 1000000 h)
    · refine ⟨ev0, cv, Vw.none, Ent.zero, 2, -1, ⟨#[]⟩, 2, -1, ⟨k1, k2, k3, fun w vl m hv => (P.stV w vl xs v s m hv hp h).mono fun _ _ h => ⟨_, h.1, fits_esM a _ 1 (by omega) 2 rfl, h.2⟩, fun w vl hv => ?_, fun w vl m hv => (P.seV w vl xs v node value m hv hp h).mono fun _ _ h => ⟨_, h.1, fits_esM a _ 1 (by omega) 2 rfl, h.2⟩, fun w vl hv => ?_⟩⟩
      · exact stepOf_view vl xs v.me v.mo v.sl 2 s w hv hp (viewA_no v.me v.mo v.sl h) (by omega)
      · exact sendOf_view vl xs v.me v.mo v.sl node value 2 w hv hp (viewA_no v.me v.mo v.sl h) (by omega)
  · obtain ⟨c, n, hc, hF, hE'⟩ := planFault_no xs hp
    have fit : ∀ w ty p, PlanErr (eG a) w xs ty p → ErrFits a w (.iface ty p) c n := fun w ty p hp => by
      rcases hE' (eG a) w ty p hp with ⟨k, hk, rfl, rfl, rfl, rfl⟩ | ⟨pb, rfl, rfl, rfl, c0, c1⟩
      · exact fits_esM a w k (by omega) _ rfl
      · exact Or.inr (Or.inl ⟨pb, 3, by omega, rfl, rfl, c0, c1⟩)
    refine ⟨ev0, cv, Vw.none, Ent.zero, c, n, ⟨#[]⟩, c, n, ⟨k1, k2, k3, fun w vl m hv => ?_, fun w vl hv => stepOf_keep vl xs v.me v.mo v.sl c n s w hv (fun w' hv' => hF vl w' hv') hc, fun w vl m hv => ?_, fun w vl hv => sendOf_keep vl xs v.me v.mo v.sl node value c n w hv (fun w' hv' => hF vl w' hv') hc⟩⟩
    · refine (P.stP w vl xs v s m hv hp).mono ?_
      rintro r w' ⟨ty, p, rfl, hpe, hB⟩
      exact ⟨_, rfl, fit _ _ _ hpe, hB⟩
    · refine (P.seP w vl xs v node value m hv hp).mono ?_
      rintro r w' ⟨ty, p, rfl, hpe, hB⟩
      exact ⟨_, rfl, fit _ _ _ hpe, hB⟩
theorem mtells_all (M : World → Prop) (a : Nat → Addr) (hS : ∀ w, M w → Sent a w) (P : MProg M (eG a)) (hE : ∀ (l : List UInt8) k, readF l = .error k → k ≠ 0) (vl : Value) (xs : List Int) (v : Vw) (s : ByteArray) (node value : Int) (hs : s.size ≤ maxLen) (w : World) (m : M w) (hv : IntsIn w vl xs) :
    Calls Tryz.prog 3 #[vl, v.val, .string s, .int .i64 node, .int .i64 value] w fun r w' => r = .returned (.bool true) ∧ Below w.heap.size w w' :=
  mtells_walk M P.keep a hS (fun w m => stepped_ok M (eG a) P w m) vl xs v s node value hs w m hv fun _ => mtold_any M a hS P hE xs v s node value
end Go.Proofs.YtglhapkclpllfacGreatDoor
