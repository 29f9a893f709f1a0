/-
  Contracts of package frame: Number, readCount, whatever the word is.
  Conditions: the library's variables lie as laid (structure LibOk).
-/
import Derived.Test.YtglhapkclpllfaaDoorFrame1
import Derived.Test.YtglhapkclpllfaaDoorSplitMath
namespace Go.Proofs.YtglhapkclpllfaaDoor
open Go.RowKit Go.Shelf

/-- A number, and whether it is one. -/
def optV (o : Option Int) : Value := .tuple #[.int .i64 (o.getD 0), .bool o.isSome]
set_option maxHeartbeats 1000000 in
theorem readNumber_ok (s : ByteArray) (hs : s.size ≤ 281474976710656) (w : World) (L : LibOk w) :
    Calls Tryd.prog 79 #[.string s] w fun e w' => e = .returned (optV (numOf s.data.toList)) ∧ Below w.heap.size w w' := by
  have HL := hide L
  clear L
  go_enter Tryd.func79, Tryd.ntmps79
  go_wp2_with fail
  refine (atoi_any s hs w (unhide HL)).mono ?_
  rintro e w1 ⟨⟨v, hv, rfl⟩ | ⟨hno, n, N, rfl⟩, hB1⟩
  · have HL1 := hide ((unhide HL).below hB1)
    have hr := atoi_range hv
    have HB1 := hide hB1
    have Hv := hide hv
    clear hB1 hv
    go_wp2_with fail
    refine (Tryd.strconv_Itoa v hr.1 hr.2 _ (unhide HL1).pow).mono ?_
    rintro e w2 ⟨rfl, k, os, hw2⟩
    have hB2 : Below w1.heap.size w1 w2 := by rw [hw2]; exact Lib.below_grow _ _ (Nat.le_refl _) _ _
    have HB2 := hide ((unhide HB1).trans (hB2.mono (unhide HB1).size))
    clear hw2 hB2
    by_cases heq : Lib.itoa v = s.toList
    · by_cases hn : -9999999 ≤ v ∧ v ≤ 9999999
      · have Hs : Hid (numOf s.data.toList = some v) := by
          show _ = _
          rw [← toList_data, ← heq]
          exact numOf_of v hn.1 hn.2
        have g1 : inB v (-9999999) 9999999 = true := inB_yes hn.1 hn.2
        clear hn
        go_wp2_with (go_at_call 83; refine (within_any _ _ _ _).mono ?_; rintro E w' ⟨rfl, rfl⟩)
        go_ret2
        exact ⟨by rw [unhide Hs]; rfl, unhide HB2⟩
      · have Hs : Hid (numOf s.data.toList = none) := by
          show _ = _
          cases hx : numOf s.data.toList with
          | none => rfl
          | some n =>
            have h1 := num_atoi hx
            rw [unhide Hv] at h1
            cases h1
            exact absurd (numOf_itoa hx).2 hn
        have g1 : inB v (-9999999) 9999999 = false := inB_no hn
        clear hn
        go_wp2_with (go_at_call 83; refine (within_any _ _ _ _).mono ?_; rintro E w' ⟨rfl, rfl⟩)
        go_ret2
        exact ⟨by rw [unhide Hs]; rfl, unhide HB2⟩
    · have Hs : Hid (numOf s.data.toList = none) := by
        show _ = _
        cases hx : numOf s.data.toList with
        | none => rfl
        | some n =>
          have h1 := num_atoi hx
          rw [unhide Hv] at h1
          cases h1
          exact absurd ((numOf_itoa hx).1.trans (toList_data s).symm) heq
      go_wp2_with fail
      go_ret2
      exact ⟨by rw [unhide Hs]; rfl, unhide HB2⟩
  · have Hs : Hid (numOf s.data.toList = none) := by
      show _ = _
      cases hx : numOf s.data.toList with
      | none => rfl
      | some n => exact absurd (num_atoi hx) (hno n)
    have HB1 := hide hB1
    clear hB1 hno
    go_wp2_with fail
    go_ret2
    exact ⟨by rw [unhide Hs]; rfl, unhide HB1⟩
theorem readCount_ok (s : ByteArray) (hs : s.size ≤ 281474976710656) (w : World) (L : LibOk w) :
    Calls Tryd.prog 78 #[.string s] w fun e w' => e = .returned (optV (cntOf s.data.toList)) ∧ Below w.heap.size w w' := by
  have HR := hide (readNumber_ok s hs w L)
  clear L
  unfold cntOf
  cases hx : numOf s.data.toList with
  | none =>
    rw [hx] at HR
    clear hx
    go_enter Tryd.func78, Tryd.ntmps78
    go_wp2_with fail
    refine (unhide HR).mono ?_
    rintro e w1 ⟨rfl, hB1⟩
    have HB1 := hide hB1
    clear hB1
    unfold optV
    go_wp2_with fail
    go_ret2
    exact ⟨rfl, unhide HB1⟩
  | some n =>
    rw [hx] at HR
    clear hx
    by_cases hn : n < 0
    · simp only [if_pos hn]
      go_enter Tryd.func78, Tryd.ntmps78
      go_wp2_with fail
      refine (unhide HR).mono ?_
      rintro e w1 ⟨rfl, hB1⟩
      have HB1 := hide hB1
      clear hB1
      unfold optV
      go_wp2_with fail
      go_ret2
      exact ⟨rfl, unhide HB1⟩
    · simp only [if_neg hn]
      go_enter Tryd.func78, Tryd.ntmps78
      go_wp2_with fail
      refine (unhide HR).mono ?_
      rintro e w1 ⟨rfl, hB1⟩
      have HB1 := hide hB1
      clear hB1
      unfold optV
      go_wp2_with fail
      go_ret2
      exact ⟨rfl, unhide HB1⟩
end Go.Proofs.YtglhapkclpllfaaDoor
