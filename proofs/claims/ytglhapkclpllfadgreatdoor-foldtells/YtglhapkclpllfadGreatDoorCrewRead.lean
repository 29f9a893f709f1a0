/-
  The contract of crew.Read: any text: the crew that it writes, or ErrText.
  Conditions: the library's variables and ErrText lie as laid.
-/
import Derived.Test.YtglhapkclpllfadGreatDoorCrewAtoi
import Derived.Lib.IndexBytes
import Derived.Outline
namespace Go.Proofs.YtglhapkclpllfadGreatDoor
open Go.RowKit Go.Shelf

/-- A text cut at its first comma. -/
def cutL : List UInt8 → List UInt8 × List UInt8 × Bool
  | [] => ([], [], false)
  | b :: r => if b == 44 then ([], r, true) else (b :: (cutL r).1, (cutL r).2.1, (cutL r).2.2)
theorem cut_no : ∀ l, Lib.indexByte l 44 = -1 → cutL l = (l, [], false)
  | [], _ => rfl
  | b :: r, h => by
    unfold Lib.indexByte at h
    by_cases hb : (b == 44) = true
    · rw [if_pos hb] at h; simp at h
    · rw [if_neg hb] at h
      by_cases hr : (Lib.indexByte r 44 == -1) = true
      · have ih := cut_no r (eq_of_beq hr)
        simp [cutL, hb, ih]
      · rw [if_neg hr] at h
        have := Lib.indexByte_ge r 44
        simp at hr; omega
theorem cut_yes : ∀ l (i : Nat), Lib.indexByte l 44 = (i : Int) → i < l.length ∧ cutL l = (l.take i, l.drop (i + 1), true)
  | [], i, h => by simp [Lib.indexByte] at h
  | b :: r, i, h => by
    unfold Lib.indexByte at h
    by_cases hb : (b == 44) = true
    · rw [if_pos hb] at h
      have : i = 0 := by omega
      subst this
      simp [cutL, hb]
    · rw [if_neg hb] at h
      by_cases hr : (Lib.indexByte r 44 == -1) = true
      · rw [if_pos hr] at h; omega
      · rw [if_neg hr] at h
        have h0 := Lib.indexByte_ge r 44
        have hr' : Lib.indexByte r 44 ≠ -1 := by simpa using hr
        obtain ⟨j, rfl⟩ : ∃ j, i = j + 1 := ⟨i - 1, by omega⟩
        obtain ⟨hj, ih⟩ := cut_yes r j (by omega)
        simp [cutL, hb, ih, hj]
theorem cut_len : ∀ l, (cutL l).1.length ≤ l.length ∧ (cutL l).2.1.length ≤ l.length ∧ ((cutL l).2.2 = true → (cutL l).2.1.length < l.length)
  | [] => by simp [cutL]
  | b :: r => by
    have ih := cut_len r
    by_cases hb : (b == 44) = true
    · simp [cutL, hb]
    · simp only [cutL, hb]
      refine ⟨by simp; exact ih.1, by simp; omega, fun h => ?_⟩
      have := ih.2.2 (by simpa using h)
      simp; omega

set_option maxHeartbeats 1000000 in
theorem scut_ok (s : ByteArray) (hs : s.size ≤ 281474976710656) (w : World) :
    Calls Tryz.prog 65 #[.string s, .string ⟨#[44]⟩] w fun e w' => ∃ x y : ByteArray, e = .returned (.tuple #[.string x, .string y, .bool (cutL s.data.toList).2.2]) ∧ x.data.toList = (cutL s.data.toList).1 ∧ y.data.toList = (cutL s.data.toList).2.1 ∧ ∃ n, w' = w.drewN n := by
  by_cases hi : Lib.indexByte s.data.toList 44 = -1
  · have hc := cut_no _ hi
    rw [hc]
    have HI := hide hi
    clear hc hi
    go_enter Tryz.func65, Tryz.ntmps65
    go_wp2_with (go_at_call 73; refine (Tryz.stringslite_Index_one s 44 _).mono ?_; rw [unhide HI]; rintro e w' ⟨rfl, rfl⟩)
    go_ret3
    exact ⟨s, ⟨#[]⟩, rfl, rfl, rfl, 0, rfl⟩
  · have hge := Lib.indexByte_ge s.data.toList 44
    obtain ⟨i, hii⟩ : ∃ i : Nat, Lib.indexByte s.data.toList 44 = (i : Int) := ⟨(Lib.indexByte s.data.toList 44).toNat, by omega⟩
    obtain ⟨hlt, hc⟩ := cut_yes _ i hii
    rw [hc]
    have hsz : i < s.size := by simpa using hlt
    have HI := hide hii
    clear hc hi hii hge hlt
    go_enter Tryz.func65, Tryz.ntmps65
    go_wp2_with (go_at_call 73; refine (Tryz.stringslite_Index_one s 44 _).mono ?_; rw [unhide HI]; rintro e w' ⟨rfl, rfl⟩)
    go_quiet (fail)
    go_wp2
    go_ret3
    exact ⟨s.extract 0 i, s.extract (i + 1) s.size, rfl, by rw [Lib.extract_data]; simp, by rw [Lib.extract_data, List.take_of_length_le (by simp)], _, rfl⟩
theorem cut_ok (s : ByteArray) (hs : s.size ≤ 281474976710656) (w : World) :
    Calls Tryz.prog 52 #[.string s, .string ⟨#[44]⟩] w fun e w' => ∃ x y : ByteArray, e = .returned (.tuple #[.string x, .string y, .bool (cutL s.data.toList).2.2]) ∧ x.data.toList = (cutL s.data.toList).1 ∧ y.data.toList = (cutL s.data.toList).2.1 ∧ ∃ n, w' = w.drewN n := by
  obtain ⟨b, hb⟩ : ∃ b, (cutL s.data.toList).2.2 = b := ⟨_, rfl⟩
  have HS := hide (scut_ok s hs w)
  rw [hb] at HS ⊢
  clear hb
  go_enter Tryz.func52, Tryz.ntmps52
  go_wp2_with (go_at_call 65; refine (unhide HS).mono ?_; rintro e w' ⟨x, y, rfl, hx, hy, n, rfl⟩; have HX := hide hx; have HY := hide hy; clear hx hy)
  go_ret3
  exact ⟨x, y, rfl, unhide HX, unhide HY, _, rfl⟩

/-- What Read has to answer. -/
def readGo : Nat → List UInt8 → Nat → Nat → Option Nat
  | 0, _, _, _ => none
  | f + 1, l, c, last => if nodeOf (cutL l).1 ≤ last then none else if (cutL l).2.2 then readGo f (cutL l).2.1 (c ||| 2 ^ (nodeOf (cutL l).1 - 1)) (nodeOf (cutL l).1) else some (c ||| 2 ^ (nodeOf (cutL l).1 - 1))
def readOf (l : List UInt8) : Option Nat := if l = [45] then some 0 else readGo (l.length + 1) l 0 0
theorem nodeOf_le (l : List UInt8) : nodeOf l ≤ 16 := by
  unfold nodeOf
  cases (List.finRange 16).find? (fun x => dg x == l) with
  | none => simp
  | some x => have := x.isLt; simp; omega
def msr (s more : Value) : Nat := match s, more with
  | .string b, .bool true => b.size + 1
  | _, _ => 0

end Go.Proofs.YtglhapkclpllfadGreatDoor
