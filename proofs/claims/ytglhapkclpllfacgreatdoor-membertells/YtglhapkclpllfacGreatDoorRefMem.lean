/-
  What the document's answer, chapter 7, tells of a view that is right: what is sent, and what a step makes of it.
-/
import Derived.Test.YtglhapkclpllfacGreatDoorGp
import Derived.Test.YtglhapkclpllfacGreatDoorRefSend
import Derived.Test.YtglhapkclpllfacGreatDoorRefFrame3
namespace Go.Proofs.YtglhapkclpllfacGreatDoor
open Go.RowKit

theorem view_ok {v : Vw} (h : v.ok) : vErr v.me v.mo v.sl = 0 := by unfold vErr; exact if_pos h
theorem view_no {v : Vw} (h : ¬ v.ok) : vErr v.me v.mo v.sl = 2 := by unfold vErr; exact if_neg h
theorem viewE_ok {v : Vw} (h : v.ok) (w : World) : Calls Tryz.prog 7 #[v.val] w fun e w' => e = .returned (.int .i64 0) ∧ Below w.heap.size w w' := by
  have := viewError_ok v.me v.mo v.sl w
  rw [view_ok h] at this
  exact this
theorem viewE_no {v : Vw} (h : ¬ v.ok) (w : World) : Calls Tryz.prog 7 #[v.val] w fun e w' => e = .returned (.int .i64 2) ∧ Below w.heap.size w w' := by
  have := viewError_ok v.me v.mo v.sl w
  rw [view_no h] at this
  exact this
theorem viewA_ok (me mo sl : Int) (h : (Vw.mk me mo sl).ok) : ∀ w, Calls Tryz.prog 7 #[.agg #[.int .i64 me, .int .i64 mo, .int .i64 sl]] w fun e w' => e = .returned (.int .i64 0) ∧ Below w.heap.size w w' := fun w => viewE_ok (v := ⟨me, mo, sl⟩) h w
theorem viewA_no (me mo sl : Int) (h : ¬ (Vw.mk me mo sl).ok) : ∀ w, Calls Tryz.prog 7 #[.agg #[.int .i64 me, .int .i64 mo, .int .i64 sl]] w fun e w' => e = .returned (.int .i64 2) ∧ Below w.heap.size w w' := fun w => viewE_no (v := ⟨me, mo, sl⟩) h w
/-- A view that is right, in whole numbers. -/
theorem view_nat {v : Vw} (h : v.ok) : ∃ me mo sl : Nat, v = ⟨me, mo, sl⟩ ∧ me ≤ 65535 ∧ mo ≤ 3 ∧ sl ≤ 1000000 := by
  obtain ⟨me, mo, sl⟩ := v
  obtain ⟨⟨h1, h2⟩, ⟨h3, h4⟩, h5, h6⟩ := h
  simp only at h1 h2 h3 h4 h5 h6
  refine ⟨me.toNat, mo.toNat, sl.toNat, ?_, by omega, by omega, by omega⟩
  rw [Int.toNat_of_nonneg h1, Int.toNat_of_nonneg h3, Int.toNat_of_nonneg h5]
/-- With and without the node, as the document reckons it. -/
theorem with_if (me i : Nat) (hme : me ≤ 65535) (hi : i < 16) : if me.testBit i then withN me i = me ∧ me = lessN me i + 2 ^ i else withN me i = me + 2 ^ i ∧ lessN me i = me := by
  cases hb : me.testBit i with
  | true =>
    obtain ⟨h1, h2⟩ := less_sub me i hme hi hb
    exact ⟨with_has me i hb, by omega⟩
  | false => exact ⟨(with_add me i hme hi hb).symm, less_has me i hme hi hb⟩
/-- What ReadFrame answers, in numbers; what is good of it. -/
theorem rf_nums (xs : List Int) (v : Vw) (r : Except Nat Frm) (hr : ∀ k, r = .error k → k ≠ 0) : ∃ x0 x1 x2 x3 x4 ev : Int, rfV r = .tuple #[.agg #[.int .i64 x0, .int .i64 x1, .int .i64 x2, .int .i64 x3, .int .i64 x4], .int .i64 ev] ∧
    goodV xs v r = if ev = 0 ∧ x0 = whoV xs v ∧ x1 = (withV xs v : Nat) ∧ x2 = v.mo ∧ x3 = v.sl then some x4 else none := by
  cases r with
  | ok f =>
    refine ⟨f.fr, f.me, f.mo, f.sl, f.va, 0, rfl, ?_⟩
    show (if _ then _ else _) = _
    by_cases h : f.fr = whoV xs v ∧ f.me = (withV xs v : Nat) ∧ f.mo = v.mo ∧ f.sl = v.sl
    · rw [if_pos h, if_pos ⟨rfl, h⟩]
    · rw [if_neg h, if_neg fun hh => h hh.2]
  | error k =>
    refine ⟨0, 0, 0, 0, 0, (k : Nat), rfl, ?_⟩
    have := hr k rfl
    rw [if_neg fun hh => this (by omega)]
    rfl
theorem fErr_leM (f : Frm) : fErr f ≤ 4 := by
  unfold fErr
  split
  · omega
  · split
    · omega
    · split
      · omega
      · split <;> omega
theorem readF_errM {l : List UInt8} {k : Nat} (h : readF l = .error k) : k ≠ 0 ∧ k ≤ 8 := by
  by_cases hl : l.length ≤ 100
  · cases hw : wordsF (spl 32 l) with
    | none => rw [readF_none hl hw] at h; cases h; exact ⟨by omega, by omega⟩
    | some x =>
      obtain ⟨p, w6, _, _, _, _, hr⟩ := readF_some hl (f := x.1) (su := x.2) hw
      rw [hr] at h
      split at h
      · cases h; exact ⟨by omega, by omega⟩
      · split at h
        · cases h
        · rename_i h0
          cases h
          exact ⟨h0, by have := fErr_leM x.1; omega⟩
  · rw [readF_long (by omega)] at h; cases h; exact ⟨by omega, by omega⟩
/-- What SendOf answers to who has the slot, with a view that is right. -/
theorem rsend_ok (vl : Value) (xs : List Int) (v : Vw) (value : Int) (w : World) (hv : IntsIn w vl xs) (hp : planOk xs) (h : v.ok) (hval : -1048576 ≤ value ∧ value ≤ 1048576) :
    Calls Tryz.prog 12 #[vl, v.val, .int .i64 (whoV xs v), .int .i64 value] w fun r w' => r = .returned (.tuple #[.string ⟨(frameL (sendF xs v (whoV xs v) value)).toArray⟩, .agg #[.int .i64 0, .int .i64 (-1)]]) ∧ Below w.heap.size w w' := by
  obtain ⟨hw, hi⟩ := who_at hp v
  have hse := send_err hp h value
  obtain ⟨me, mo, sl, rfl, hme, hmo, hsl⟩ := view_nat h
  have hwi := with_if me (atV xs ⟨me, mo, sl⟩) hme hi
  have hwho : xs.getD (sl % xs.length) 0 = (atV xs ⟨me, mo, sl⟩ : Int) + 1 := by rw [← hw]; unfold whoV; simp
  have hft := frameText_ok (sendF xs ⟨me, mo, sl⟩ (whoV xs ⟨me, mo, sl⟩) value)
  unfold ftextV at hft
  rw [hse] at hft
  have hwe : (withV xs ⟨me, mo, sl⟩ : Nat) = withN me (atV xs ⟨me, mo, sl⟩) := by unfold withV; simp
  have hw2 : if me.testBit (atV xs ⟨me, mo, sl⟩) then withN me (atV xs ⟨me, mo, sl⟩) = me else withN me (atV xs ⟨me, mo, sl⟩) = me + 2 ^ atV xs ⟨me, mo, sl⟩ := by
    cases hb : me.testBit (atV xs ⟨me, mo, sl⟩) with
    | true => rw [hb] at hwi; exact hwi.1
    | false => rw [hb] at hwi; exact hwi.1
  rw [if_pos hval] at hft
  have := sendOf_ok vl xs me mo sl (atV xs ⟨me, mo, sl⟩) (withN me (atV xs ⟨me, mo, sl⟩)) value 0 ⟨(frameL (sendF xs ⟨me, mo, sl⟩ (whoV xs ⟨me, mo, sl⟩) value)).toArray⟩ w hv hp hsl hme hwho hi hw2 (fun w' => hasN_ok me _ hme (by omega) w') (fun w' => by
    have := hft w'
    unfold frmV sendF at this
    rw [hwe, hw] at this
    unfold sendF
    rw [hwe, hw]
    exact this) (viewA_ok me mo sl h)
  rw [← hw] at this
  exact this
/-- What StepOf answers, with a view that is right. -/
theorem rstep_ok (vl : Value) (xs : List Int) (v : Vw) (s : ByteArray) (w : World) (hv : IntsIn w vl xs) (hp : planOk xs) (h : v.ok) (hsl : v.sl < 1000000) :
    Calls Tryz.prog 9 #[vl, v.val, .string s] w fun r w' => r = .returned (.tuple #[(nextV xs v (goodV xs v (readF s.data.toList))).val, (entV xs v (goodV xs v (readF s.data.toList))).val, .agg #[.int .i64 0, .int .i64 (-1)]]) ∧ Below w.heap.size w w' := by
  obtain ⟨hw, hi⟩ := who_at hp v
  obtain ⟨x0, x1, x2, x3, x4, ev, hrf, hg⟩ := rf_nums xs v (readF s.data.toList) (fun _ h => (readF_errM h).1)
  have hrd : ∀ w', Calls Tryz.prog 24 #[.string s] w' fun e w2 => e = .returned (.tuple #[.agg #[.int .i64 x0, .int .i64 x1, .int .i64 x2, .int .i64 x3, .int .i64 x4], .int .i64 ev]) ∧ Below w'.heap.size w' w2 := fun w' => by
    have := readFrame_ok s w'
    rw [hrf] at this
    exact this
  obtain ⟨me, mo, sl, rfl, hme, hmo, hsl2⟩ := view_nat h
  have hwi := with_if me (atV xs ⟨me, mo, sl⟩) hme hi
  have hwho : xs.getD (sl % xs.length) 0 = (atV xs ⟨me, mo, sl⟩ : Int) + 1 := by rw [← hw]; unfold whoV; simp
  have hwe : (withV xs ⟨me, mo, sl⟩ : Nat) = withN me (atV xs ⟨me, mo, sl⟩) := by unfold withV; simp
  have hle : (lessV xs ⟨me, mo, sl⟩ : Nat) = lessN me (atV xs ⟨me, mo, sl⟩) := by unfold lessV; simp
  have hsl3 : sl < 1000000 := by simp only at hsl; omega
  have := stepOf_ok vl xs me mo sl (atV xs ⟨me, mo, sl⟩) (withN me (atV xs ⟨me, mo, sl⟩)) (lessN me (atV xs ⟨me, mo, sl⟩)) s x0 x1 x2 x3 x4 ev w hv hp hme hsl3 hwho hi hwi (viewA_ok me mo sl h) (fun w' => hasN_ok me _ hme (by omega) w') hrd
  refine this.mono fun _ _ hh => ⟨?_, hh.2⟩
  rw [hh.1, hg]
  rw [hw, hwe]
  simp only
  by_cases hc : ev = 0 ∧ x0 = (atV xs ⟨me, mo, sl⟩ : Int) + 1 ∧ x1 = (withN me (atV xs ⟨me, mo, sl⟩) : Nat) ∧ x2 = mo ∧ x3 = sl
  · rw [if_pos hc, if_pos hc]
    unfold stepR nextV entV Vw.val Ent.val
    rw [hwe, hw]
    rfl
  · rw [if_neg hc, if_neg hc]
    unfold stepR nextV entV Vw.val Ent.val
    rw [hle, hw]
    rfl
end Go.Proofs.YtglhapkclpllfacGreatDoor
