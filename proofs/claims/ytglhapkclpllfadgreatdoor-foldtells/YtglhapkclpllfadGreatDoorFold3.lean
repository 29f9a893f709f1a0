/-
  Contracts of package fold: readWord, whatever the word is.
-/
import Derived.Test.YtglhapkclpllfadGreatDoorFold2
import Derived.Test.YtglhapkclpllfadGreatDoorGn
import Derived.Lib.IndexBytes
namespace Go.Proofs.YtglhapkclpllfadGreatDoor
open Go.RowKit Go.Shelf

set_option maxHeartbeats 1000000 in
theorem scut58_ok (s : ByteArray) (hs : s.size ≤ 281474976710656) (w : World) :
    Calls Tryz.prog 65 #[.string s, .string ⟨#[58]⟩] w fun e w' => ∃ x y : ByteArray, e = .returned (.tuple #[.string x, .string y, .bool (cutC 58 s.data.toList).2.2]) ∧ x.data.toList = (cutC 58 s.data.toList).1 ∧ y.data.toList = (cutC 58 s.data.toList).2.1 ∧ ∃ n, w' = w.drewN n := by
  by_cases hi : Lib.indexByte s.data.toList 58 = -1
  · have hc := cutC_no 58 _ hi
    rw [hc]
    have HI := hide hi
    clear hc hi
    go_enter Tryz.func65, Tryz.ntmps65
    go_wp2_with (go_at_call 73; refine (Tryz.stringslite_Index_one s 58 _).mono ?_; rw [unhide HI]; rintro e w' ⟨rfl, rfl⟩)
    go_ret3
    exact ⟨s, ⟨#[]⟩, rfl, rfl, rfl, 0, rfl⟩
  · have hge := Lib.indexByte_ge s.data.toList 58
    obtain ⟨i, hii⟩ : ∃ i : Nat, Lib.indexByte s.data.toList 58 = (i : Int) := ⟨(Lib.indexByte s.data.toList 58).toNat, by omega⟩
    obtain ⟨hlt, hc⟩ := cutC_yes 58 _ i hii
    rw [hc]
    have hsz : i < s.size := by simpa using hlt
    have HI := hide hii
    clear hc hi hii hge hlt
    go_enter Tryz.func65, Tryz.ntmps65
    go_wp2_with (go_at_call 73; refine (Tryz.stringslite_Index_one s 58 _).mono ?_; rw [unhide HI]; rintro e w' ⟨rfl, rfl⟩)
    go_quiet (fail)
    go_wp2
    go_ret3
    exact ⟨s.extract 0 i, s.extract (i + 1) s.size, rfl, by rw [Lib.extract_data]; simp, by rw [Lib.extract_data, List.take_of_length_le (by simp)], _, rfl⟩
theorem cut58_ok (s : ByteArray) (hs : s.size ≤ 281474976710656) (w : World) :
    Calls Tryz.prog 52 #[.string s, .string ⟨#[58]⟩] w fun e w' => ∃ x y : ByteArray, e = .returned (.tuple #[.string x, .string y, .bool (cutC 58 s.data.toList).2.2]) ∧ x.data.toList = (cutC 58 s.data.toList).1 ∧ y.data.toList = (cutC 58 s.data.toList).2.1 ∧ ∃ n, w' = w.drewN n := by
  obtain ⟨b, hb⟩ : ∃ b, (cutC 58 s.data.toList).2.2 = b := ⟨_, rfl⟩
  have HS := hide (scut58_ok s hs w)
  rw [hb] at HS ⊢
  clear hb
  go_enter Tryz.func52, Tryz.ntmps52
  go_wp2_with (go_at_call 65; refine (unhide HS).mono ?_; rintro e w' ⟨x, y, rfl, hx, hy, n, rfl⟩; have HX := hide hx; have HY := hide hy; clear hx hy)
  go_ret3
  exact ⟨x, y, rfl, unhide HX, unhide HY, _, rfl⟩
theorem below_four {w w2 : World} (hB : Below w.heap.size w w2) (x y z u : Value) : Below w.heap.size w ((((w2.setCell ⟨w.heap.size, 0, none⟩ x).setCell ⟨w.heap.size, 1, none⟩ y).setCell ⟨w.heap.size, 2, none⟩ z).setCell ⟨w.heap.size, 3, none⟩ u) :=
  (((hB.setCell (p := ⟨w.heap.size, 0, none⟩) (Nat.le_refl _) _).setCell (p := ⟨w.heap.size, 1, none⟩) (Nat.le_refl _) _).setCell (p := ⟨w.heap.size, 2, none⟩) (Nat.le_refl _) _).setCell (p := ⟨w.heap.size, 3, none⟩) (Nat.le_refl _) _
/-- What readWord answers: an entry with no Slot, and whether the word is one. -/
def wordV (l : List UInt8) : Value := .tuple #[.agg #[.int .i64 0, .int .i64 (rwOf l).1, .bool (rwOf l).2.1, .int .i64 (rwOf l).2.2.1], .bool (rwOf l).2.2.2]
theorem trim_len (l : List UInt8) : (Lib.trimSuffix l [33]).length ≤ l.length := by
  unfold Lib.trimSuffix
  split
  · simp
  · exact Nat.le_refl _
set_option maxRecDepth 100000 in
set_option maxHeartbeats 2000000 in
theorem readWord_ok (s : ByteArray) (hs : s.size ≤ 4000) (w : World) (L : LibOk w) :
    Calls Tryz.prog 38 #[.string s] w fun r w' => r = .returned (wordV s.data.toList) ∧ Below w.heap.size w w' := by
  have hb : Below w.heap.size w (w.alloc (.cells #[.int .i64 0, .int .i64 0, .bool false, .int .i64 0] 48)) := (Below.refl _ _).alloc (Nat.le_refl _) _
  have HB := hide hb
  have HL := hide (L.below hb)
  have HO := hide (Own4.new w 48 (.int .i64 0) (.int .i64 0) (.bool false) (.int .i64 0))
  have HX := hide (fun w => Tryz.strings_CutSuffix s ⟨#[33]⟩ w (by omega))
  have e33 : (ByteArray.mk #[33]).data.toList = [33] := rfl
  rw [e33] at HX
  unfold wordV rwOf
  by_cases hsuf : Lib.hasSuffix s.data.toList [33] = true
  · rw [if_pos hsuf]
    rw [hsuf] at HX
    have hz : (ByteArray.mk (Lib.trimSuffix s.data.toList [33]).toArray).size ≤ 281474976710656 := by
      show (Lib.trimSuffix s.data.toList [33]).toArray.size ≤ _
      have := trim_len s.data.toList
      simp at this ⊢
      omega
    have HN := hide (fun w L => readNumber_ok (ByteArray.mk (Lib.trimSuffix s.data.toList [33]).toArray) hz w L)
    have e1 : (ByteArray.mk (Lib.trimSuffix s.data.toList [33]).toArray).data.toList = Lib.trimSuffix s.data.toList [33] := rfl
    rw [e1] at HN
    unfold optV at HN
    simp only
    generalize (numOf (Lib.trimSuffix s.data.toList [33])).getD 0 = n at *
    generalize (numOf (Lib.trimSuffix s.data.toList [33])).isSome = b at *
    generalize ByteArray.mk (Lib.trimSuffix s.data.toList [33]).toArray = t at *
    clear hb L hsuf hs hz e1 e33
    go_enter Tryz.func38, Tryz.ntmps38
    go_wp2_with fail
    refine (unhide HX _).mono ?_
    rintro E w2 ⟨rfl, rfl⟩
    go_wp2_with fail
    refine (unhide HN _ (unhide HL)).mono ?_
    rintro E w3 ⟨rfl, hB⟩
    obtain ⟨c0, c1, c2, c3, f0, f1, f2, f3⟩ := (unhide HO).below hB
    have HB3 := hide ((unhide HB).trans (hB.mono (unhide HB).size))
    clear hB
    go_wp2_with fail
    exact bodyPost_ret (v := .tuple #[.agg #[.int .i64 0, .int .i64 n, .bool false, .int .i64 0], .bool b]) (by simp [results, Tryz.results38, go_sem, *]) rfl ⟨rfl, below_four (unhide HB3) _ _ _ _⟩
  · rw [if_neg hsuf]
    have hsuf' : Lib.hasSuffix s.data.toList [33] = false := by simpa using hsuf
    rw [hsuf'] at HX
    have HC := hide (cut58_ok s (by omega))
    have hl := cutC_len 58 s.data.toList
    have hsl : s.data.toList.length = s.size := by simp
    generalize cutC 58 s.data.toList = q at *
    obtain ⟨q1, q2, q3⟩ := q
    simp only at HC hl ⊢
    have HN1 : Hid (∀ (x : ByteArray) w, x.data.toList = q1 → LibOk w → Calls Tryz.prog 51 #[.string x] w fun r w' => r = .returned (.tuple #[.int .i64 ((numOf q1).getD 0), .bool (numOf q1).isSome]) ∧ Below w.heap.size w w') := fun x w hx L => by
      have := readNumber_ok x (size_of hx (by omega)) w L
      rw [hx] at this
      exact this
    have HN2 : Hid (∀ (x : ByteArray) w, x.data.toList = q2 → LibOk w → Calls Tryz.prog 51 #[.string x] w fun r w' => r = .returned (.tuple #[.int .i64 ((numOf q2).getD 0), .bool (numOf q2).isSome]) ∧ Below w.heap.size w w') := fun x w hx L => by
      have := readNumber_ok x (size_of hx (by omega)) w L
      rw [hx] at this
      exact this
    generalize (numOf q1).getD 0 = n1 at *
    generalize (numOf q1).isSome = b1 at *
    generalize (numOf q2).getD 0 = n2 at *
    generalize (numOf q2).isSome = b2 at *
    generalize ByteArray.mk (Lib.trimSuffix s.data.toList [33]).toArray = t at *
    clear hb L hsuf hs hsuf' e33 hl hsl
    go_enter Tryz.func38, Tryz.ntmps38
    go_wp2_with fail
    refine (unhide HX _).mono ?_
    rintro E w2 ⟨rfl, rfl⟩
    go_wp2_with fail
    refine (unhide HC _).mono ?_
    rintro E w2 ⟨x, y, rfl, hx, hy, dn, rfl⟩
    have HX1 := hide hx
    have HY1 := hide hy
    have HLd := hide ((unhide HL).below (below_draw (Below.refl _ _) dn))
    have HOd := hide ((unhide HO).below (below_draw (Below.refl _ _) dn))
    have HBd := hide (below_draw (unhide HB) dn)
    clear hx hy
    go_wp2_with fail
    refine (unhide HN1 x _ (unhide HX1) (unhide HLd)).mono ?_
    rintro E w3 ⟨rfl, hB⟩
    have HL3 := hide ((unhide HLd).below hB)
    have HO3 := hide ((unhide HOd).below hB)
    have HB3 := hide ((unhide HBd).trans (hB.mono (unhide HBd).size))
    clear hB
    go_wp2_with fail
    refine (unhide HN2 y _ (unhide HY1) (unhide HL3)).mono ?_
    rintro E w4 ⟨rfl, hB⟩
    obtain ⟨c0, c1, c2, c3, f0, f1, f2, f3⟩ := (unhide HO3).below hB
    have HB4 := hide ((unhide HB3).trans (hB.mono (unhide HB3).size))
    clear hB
    cases b1 <;>
    · go_wp2_with fail
      exact bodyPost_ret (v := .tuple #[.agg #[.int .i64 0, .int .i64 n1, .bool true, .int .i64 n2], .bool _]) (by simp [results, Tryz.results38, go_sem, *]) rfl ⟨rfl, below_four (unhide HB4) _ _ _ _⟩
end Go.Proofs.YtglhapkclpllfadGreatDoor
