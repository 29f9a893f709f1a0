/-
  Contracts of package frame: within, Check, Sum, whatever they are given.
  Conditions: package api's errors lie as something (structure FSent).
-/
import Derived.Test.YtglhapkclpllfadGreatDoorGa
import Derived.Test.YtglhapkclpllfadGreatDoorFrameMath
import Derived.Test.YtglhapkclpllfadGreatDoorSplitMath
namespace Go.Proofs.YtglhapkclpllfadGreatDoor
open Go.RowKit

/-- Five errors of package api, by their numbers. -/
structure FSent (e : Nat → TypeId × Value) (w : World) : Prop where
  t : w.cell? ⟨1, 0, none⟩ = some (.iface (e 1).1 (e 1).2)
  b : w.cell? ⟨0, 0, none⟩ = some (.iface (e 2).1 (e 2).2)
  s : w.cell? ⟨3, 0, none⟩ = some (.iface (e 3).1 (e 3).2)
  n : w.cell? ⟨4, 0, none⟩ = some (.iface (e 4).1 (e 4).2)
  u : w.cell? ⟨7, 0, none⟩ = some (.iface (e 8).1 (e 8).2)
theorem FSent.below {e : Nat → TypeId × Value} {w w' : World} (S : FSent e w) (hb : Below w.heap.size w w') : FSent e w' :=
  ⟨below_cell hb S.t, below_cell hb S.b, below_cell hb S.s, below_cell hb S.n, below_cell hb S.u⟩
/-- The error of a number. -/
def errV (e : Nat → TypeId × Value) (k : Nat) : Value := if k = 0 then .nilIface else .iface (e k).1 (e k).2
/-- A frame as a value. -/
def frmV (f : Frm) : Value := .agg #[.int .i64 f.fr, .int .i64 f.me, .int .i64 f.mo, .int .i64 f.sl, .int .i64 f.va]

theorem within_yes (n a b : Int) (h1 : a ≤ n) (h2 : n ≤ b) (w : World) : Calls Tryz.prog 64 #[.int .i64 n, .int .i64 a, .int .i64 b] w fun e w' => e = .returned (.bool true) ∧ w' = w := by
  go_enter Tryz.func64, Tryz.ntmps64
  go_wp2
  go_ret
  exact ⟨rfl, rfl⟩
theorem within_no (n a b : Int) (h : ¬ (a ≤ n ∧ n ≤ b)) (w : World) : Calls Tryz.prog 64 #[.int .i64 n, .int .i64 a, .int .i64 b] w fun e w' => e = .returned (.bool false) ∧ w' = w := by
  by_cases h1 : a ≤ n
  · have h2 : ¬ n ≤ b := fun h2 => h ⟨h1, h2⟩
    clear h
    go_enter Tryz.func64, Tryz.ntmps64
    go_wp2
    go_ret
    exact ⟨rfl, rfl⟩
  · clear h
    go_enter Tryz.func64, Tryz.ntmps64
    go_wp2
    go_ret
    exact ⟨rfl, rfl⟩
/-- Is a number within bounds? -/
def inB (n a b : Int) : Bool := decide (a ≤ n ∧ n ≤ b)
theorem inB_yes {n a b : Int} (h1 : a ≤ n) (h2 : n ≤ b) : inB n a b = true := decide_eq_true ⟨h1, h2⟩
theorem inB_no {n a b : Int} (h : ¬ (a ≤ n ∧ n ≤ b)) : inB n a b = false := decide_eq_false h
theorem within_any (n a b : Int) (w : World) : Calls Tryz.prog 64 #[.int .i64 n, .int .i64 a, .int .i64 b] w fun e w' => e = .returned (.bool (inB n a b)) ∧ w' = w := by
  by_cases h : a ≤ n ∧ n ≤ b
  · rw [inB_yes h.1 h.2]; exact within_yes n a b h.1 h.2 w
  · rw [inB_no h]; exact within_no n a b h w

theorem fErr_cases (f : Frm) : (¬ (1 ≤ f.fr ∧ f.fr ≤ 16) ∧ fErr f = 4) ∨ ((1 ≤ f.fr ∧ f.fr ≤ 16) ∧ ((¬ (0 ≤ f.me ∧ f.me ≤ 65535) ∧ fErr f = 2) ∨ ((0 ≤ f.me ∧ f.me ≤ 65535) ∧ ((f.me.toNat.testBit (f.fr.toNat - 1) = false ∧ fErr f = 3) ∨ (f.me.toNat.testBit (f.fr.toNat - 1) = true ∧
    ((¬ (0 ≤ f.mo ∧ f.mo ≤ 3 ∧ 0 ≤ f.sl ∧ f.sl ≤ 1000000 ∧ -1048576 ≤ f.va ∧ f.va ≤ 1048576) ∧ fErr f = 2) ∨ ((0 ≤ f.mo ∧ f.mo ≤ 3 ∧ 0 ≤ f.sl ∧ f.sl ≤ 1000000 ∧ -1048576 ≤ f.va ∧ f.va ≤ 1048576) ∧ fErr f = 0))))))) := by
  unfold fErr
  by_cases h1 : 1 ≤ f.fr ∧ f.fr ≤ 16
  · refine Or.inr ⟨h1, ?_⟩
    rw [if_neg (fun e => e h1)]
    by_cases h2 : 0 ≤ f.me ∧ f.me ≤ 65535
    · refine Or.inr ⟨h2, ?_⟩
      rw [if_neg (fun e => e h2)]
      by_cases h3 : f.me.toNat.testBit (f.fr.toNat - 1) = false
      · exact Or.inl ⟨h3, by rw [if_pos h3]⟩
      · refine Or.inr ⟨by simpa using h3, ?_⟩
        rw [if_neg h3]
        by_cases h4 : 0 ≤ f.mo ∧ f.mo ≤ 3 ∧ 0 ≤ f.sl ∧ f.sl ≤ 1000000 ∧ -1048576 ≤ f.va ∧ f.va ≤ 1048576
        · exact Or.inr ⟨h4, by rw [if_neg (fun e => e h4)]⟩
        · exact Or.inl ⟨h4, by rw [if_pos h4]⟩
    · exact Or.inl ⟨h2, by rw [if_pos h2]⟩
  · exact Or.inl ⟨h1, by rw [if_pos h1]⟩

end Go.Proofs.YtglhapkclpllfadGreatDoor
/-
  Contracts of package frame: Number, readCount, whatever the word is.
  Conditions: the library's variables lie as laid (structure LibOk).
-/
namespace Go.Proofs.YtglhapkclpllfadGreatDoor
open Go.RowKit Go.Shelf

/-- A number, and whether it is one. -/
def optV (o : Option Int) : Value := .tuple #[.int .i64 (o.getD 0), .bool o.isSome]
set_option maxHeartbeats 1000000 in
theorem readNumber_ok (s : ByteArray) (hs : s.size ≤ 281474976710656) (w : World) (L : LibOk w) :
    Calls Tryz.prog 51 #[.string s] w fun e w' => e = .returned (optV (numOf s.data.toList)) ∧ Below w.heap.size w w' := by
  have HL := hide L
  clear L
  go_enter Tryz.func51, Tryz.ntmps51
  go_wp2_with fail
  refine (atoi_any s hs w (unhide HL)).mono ?_
  rintro e w1 ⟨⟨v, hv, rfl⟩ | ⟨hno, n, N, rfl⟩, hB1⟩
  · have HL1 := hide ((unhide HL).below hB1)
    have hr := atoi_range hv
    have HB1 := hide hB1
    have Hv := hide hv
    clear hB1 hv
    go_wp2_with fail
    refine (Tryz.strconv_Itoa v hr.1 hr.2 _ (unhide HL1).pow).mono ?_
    rintro e w2 ⟨rfl, k, os, hw2⟩
    have hB2 : Below w1.heap.size w1 w2 := by rw [hw2]; exact Lib.below_grow _ _ (Nat.le_refl _) _ _
    have HB2 := hide ((unhide HB1).trans (hB2.mono (unhide HB1).size))
    clear hw2 hB2
    by_cases heq : Lib.itoa v = s.toList
    · by_cases hn : -9999999 ≤ v ∧ v ≤ 9999999
      · have Hs : Hid (numOf s.data.toList = some v) := by
          show _ = _
          rw [← toList_data, ← heq]
          exact numOf_of v hn.1 hn.2
        have g1 : inB v (-9999999) 9999999 = true := inB_yes hn.1 hn.2
        clear hn
        go_wp2_with (go_at_call 64; refine (within_any _ _ _ _).mono ?_; rintro E w' ⟨rfl, rfl⟩)
        go_ret2
        exact ⟨by rw [unhide Hs]; rfl, unhide HB2⟩
      · have Hs : Hid (numOf s.data.toList = none) := by
          show _ = _
          cases hx : numOf s.data.toList with
          | none => rfl
          | some n =>
            have h1 := num_atoi hx
            rw [unhide Hv] at h1
            cases h1
            exact absurd (numOf_itoa hx).2 hn
        have g1 : inB v (-9999999) 9999999 = false := inB_no hn
        clear hn
        go_wp2_with (go_at_call 64; refine (within_any _ _ _ _).mono ?_; rintro E w' ⟨rfl, rfl⟩)
        go_ret2
        exact ⟨by rw [unhide Hs]; rfl, unhide HB2⟩
    · have Hs : Hid (numOf s.data.toList = none) := by
        show _ = _
        cases hx : numOf s.data.toList with
        | none => rfl
        | some n =>
          have h1 := num_atoi hx
          rw [unhide Hv] at h1
          cases h1
          exact absurd ((numOf_itoa hx).1.trans (toList_data s).symm) heq
      go_wp2_with fail
      go_ret2
      exact ⟨by rw [unhide Hs]; rfl, unhide HB2⟩
  · have Hs : Hid (numOf s.data.toList = none) := by
      show _ = _
      cases hx : numOf s.data.toList with
      | none => rfl
      | some n => exact absurd (num_atoi hx) (hno n)
    have HB1 := hide hB1
    clear hB1 hno
    go_wp2_with fail
    go_ret2
    exact ⟨by rw [unhide Hs]; rfl, unhide HB1⟩
end Go.Proofs.YtglhapkclpllfadGreatDoor
