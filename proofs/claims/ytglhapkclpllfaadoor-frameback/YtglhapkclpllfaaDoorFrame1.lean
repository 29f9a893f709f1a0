/-
  Contracts of package frame: within, Check, Sum, whatever they are given.
  Conditions: package api's errors lie as something (structure FSent).
-/
import Derived.Test.YtglhapkclpllfaaDoorCrew0
import Derived.Test.YtglhapkclpllfaaDoorFrameMath
namespace Go.Proofs.YtglhapkclpllfaaDoor
open Go.RowKit

/-- Five errors of package api, by their numbers. -/
structure FSent (e : Nat → TypeId × Value) (w : World) : Prop where
  t : w.cell? ⟨0, 0, none⟩ = some (.iface (e 1).1 (e 1).2)
  b : w.cell? ⟨1, 0, none⟩ = some (.iface (e 2).1 (e 2).2)
  s : w.cell? ⟨2, 0, none⟩ = some (.iface (e 3).1 (e 3).2)
  n : w.cell? ⟨3, 0, none⟩ = some (.iface (e 4).1 (e 4).2)
  u : w.cell? ⟨7, 0, none⟩ = some (.iface (e 8).1 (e 8).2)
theorem FSent.below {e : Nat → TypeId × Value} {w w' : World} (S : FSent e w) (hb : Below w.heap.size w w') : FSent e w' :=
  ⟨below_cell hb S.t, below_cell hb S.b, below_cell hb S.s, below_cell hb S.n, below_cell hb S.u⟩
/-- The error of a number. -/
def errV (e : Nat → TypeId × Value) (k : Nat) : Value := if k = 0 then .nilIface else .iface (e k).1 (e k).2
/-- A frame as a value. -/
def frmV (f : Frm) : Value := .agg #[.int .i64 f.fr, .int .i64 f.me, .int .i64 f.mo, .int .i64 f.sl, .int .i64 f.va]

theorem within_yes (n a b : Int) (h1 : a ≤ n) (h2 : n ≤ b) (w : World) : Calls Tryd.prog 83 #[.int .i64 n, .int .i64 a, .int .i64 b] w fun e w' => e = .returned (.bool true) ∧ w' = w := by
  go_enter Tryd.func83, Tryd.ntmps83
  go_wp2
  go_ret
  exact ⟨rfl, rfl⟩
theorem within_no (n a b : Int) (h : ¬ (a ≤ n ∧ n ≤ b)) (w : World) : Calls Tryd.prog 83 #[.int .i64 n, .int .i64 a, .int .i64 b] w fun e w' => e = .returned (.bool false) ∧ w' = w := by
  by_cases h1 : a ≤ n
  · have h2 : ¬ n ≤ b := fun h2 => h ⟨h1, h2⟩
    clear h
    go_enter Tryd.func83, Tryd.ntmps83
    go_wp2
    go_ret
    exact ⟨rfl, rfl⟩
  · clear h
    go_enter Tryd.func83, Tryd.ntmps83
    go_wp2
    go_ret
    exact ⟨rfl, rfl⟩
/-- Is a number within bounds? -/
def inB (n a b : Int) : Bool := decide (a ≤ n ∧ n ≤ b)
theorem inB_yes {n a b : Int} (h1 : a ≤ n) (h2 : n ≤ b) : inB n a b = true := decide_eq_true ⟨h1, h2⟩
theorem inB_no {n a b : Int} (h : ¬ (a ≤ n ∧ n ≤ b)) : inB n a b = false := decide_eq_false h
theorem within_any (n a b : Int) (w : World) : Calls Tryd.prog 83 #[.int .i64 n, .int .i64 a, .int .i64 b] w fun e w' => e = .returned (.bool (inB n a b)) ∧ w' = w := by
  by_cases h : a ≤ n ∧ n ≤ b
  · rw [inB_yes h.1 h.2]; exact within_yes n a b h.1 h.2 w
  · rw [inB_no h]; exact within_no n a b h w

set_option maxHeartbeats 1000000 in
theorem sum_ok (s : ByteArray) (hs : s.size ≤ maxLen) (w : World) : Calls Tryd.prog 56 #[.string s] w fun e w' => e = .returned (.int .i64 (sumF s.data.toList : Nat)) ∧ w' = w := by
  unfold maxLen at hs
  go_enter Tryd.func56, Tryd.ntmps56
  go_wp2
  go_loop [3, 7] (fun n i => ∃ k m : Nat, k ≤ s.size ∧ i = .int .i64 k ∧ n = .int .i64 m ∧ m < 65521 ∧ Hid (m = sumF (s.data.toList.take k))) (fun _ i => s.size - (intOf i).toNat)
  case atStart => exact ⟨0, 1, Nat.zero_le _, rfl, rfl, by omega, rfl⟩
  case round =>
    obtain ⟨k, m, hk, rfl, rfl, hm, HM⟩ := hrel
    by_cases hlt : k < s.size
    · have HS : Hid (sumF (s.data.toList.take (k + 1)) = sumStep m s[k]) := by
        show _ = _
        rw [take_byte s k hlt, sumF_snoc, ← unhide HM]
      have hb : (s[k].toNat : Int) ≤ 255 := by have := s[k].toNat_lt; omega
      go_wp2
      go_round
      case rel =>
        refine ⟨k + 1, sumStep m s[k], by omega, by go_num, ?_, sumStep_lt _ _, (unhide HS).symm⟩
        unfold sumStep
        congr 1
      case measure => simp [intOf]; omega
    · go_wp2
      go_ret
      exact ⟨ret_int (by rw [unhide HM, List.take_of_length_le (by simp; omega)]), rfl⟩

theorem fErr_cases (f : Frm) : (¬ (1 ≤ f.fr ∧ f.fr ≤ 16) ∧ fErr f = 4) ∨ ((1 ≤ f.fr ∧ f.fr ≤ 16) ∧ ((¬ (0 ≤ f.me ∧ f.me ≤ 65535) ∧ fErr f = 2) ∨ ((0 ≤ f.me ∧ f.me ≤ 65535) ∧ ((f.me.toNat.testBit (f.fr.toNat - 1) = false ∧ fErr f = 3) ∨ (f.me.toNat.testBit (f.fr.toNat - 1) = true ∧
    ((¬ (0 ≤ f.mo ∧ f.mo ≤ 3 ∧ 0 ≤ f.sl ∧ f.sl ≤ 1000000 ∧ -1048576 ≤ f.va ∧ f.va ≤ 1048576) ∧ fErr f = 2) ∨ ((0 ≤ f.mo ∧ f.mo ≤ 3 ∧ 0 ≤ f.sl ∧ f.sl ≤ 1000000 ∧ -1048576 ≤ f.va ∧ f.va ≤ 1048576) ∧ fErr f = 0))))))) := by
  unfold fErr
  by_cases h1 : 1 ≤ f.fr ∧ f.fr ≤ 16
  · refine Or.inr ⟨h1, ?_⟩
    rw [if_neg (fun e => e h1)]
    by_cases h2 : 0 ≤ f.me ∧ f.me ≤ 65535
    · refine Or.inr ⟨h2, ?_⟩
      rw [if_neg (fun e => e h2)]
      by_cases h3 : f.me.toNat.testBit (f.fr.toNat - 1) = false
      · exact Or.inl ⟨h3, by rw [if_pos h3]⟩
      · refine Or.inr ⟨by simpa using h3, ?_⟩
        rw [if_neg h3]
        by_cases h4 : 0 ≤ f.mo ∧ f.mo ≤ 3 ∧ 0 ≤ f.sl ∧ f.sl ≤ 1000000 ∧ -1048576 ≤ f.va ∧ f.va ≤ 1048576
        · exact Or.inr ⟨h4, by rw [if_neg (fun e => e h4)]⟩
        · exact Or.inl ⟨h4, by rw [if_pos h4]⟩
    · exact Or.inl ⟨h2, by rw [if_pos h2]⟩
  · exact Or.inl ⟨h1, by rw [if_pos h1]⟩

set_option maxHeartbeats 1000000 in
theorem fcheck_ok (f : Frm) (e : Nat → TypeId × Value) (w : World) (S : FSent e w) : Calls Tryd.prog 60 #[frmV f] w fun r w' => r = .returned (errV e (fErr f)) ∧ Below w.heap.size w w' := by
  obtain ⟨fr, me, mo, sl, va⟩ := f
  have hb : Below w.heap.size w (w.alloc (.cells #[.int .i64 fr, .int .i64 me, .int .i64 mo, .int .i64 sl, .int .i64 va] 63)) := (Below.refl _ _).alloc (Nat.le_refl _) _
  have S1 := S.below hb
  have HB := hide hb
  have e1 := S1.b
  have e2 := S1.s
  have e3 := S1.n
  clear S S1 hb
  unfold frmV
  rcases fErr_cases ⟨fr, me, mo, sl, va⟩ with ⟨h1, h0⟩ | ⟨h1, ⟨h2, h0⟩ | ⟨h2, ⟨h3, h0⟩ | ⟨h3, ⟨h4, h0⟩ | ⟨h4, h0⟩⟩⟩⟩
  · rw [h0]
    have g1 : inB fr 1 16 = false := inB_no h1
    clear h0 h1
    go_enter Tryd.func60, Tryd.ntmps60
    go_wp2_with (first | (go_at_call 83; refine (within_any _ _ _ _).mono ?_; rintro E w' ⟨rfl, rfl⟩))
    go_ret
    exact ⟨rfl, unhide HB⟩
  · rw [h0]
    have g1 : inB fr 1 16 = true := inB_yes h1.1 h1.2
    have H2 := hide (check_bad me (by simp only at h2; omega))
    clear h0 h1 h2
    go_enter Tryd.func60, Tryd.ntmps60
    go_wp2_with (first | (go_at_call 83; refine (within_any _ _ _ _).mono ?_; rintro E w' ⟨rfl, rfl⟩) | (go_at_call 13; refine (unhide H2 _ _ e1).mono ?_; rintro E w' ⟨rfl, rfl⟩))
    go_ret
    exact ⟨rfl, unhide HB⟩
  · rw [h0]
    simp only at h1 h2 h3
    obtain ⟨n, rfl⟩ : ∃ n : Nat, fr = (n : Int) := ⟨fr.toNat, by omega⟩
    obtain ⟨c, rfl⟩ : ∃ c : Nat, me = (c : Int) := ⟨me.toNat, by omega⟩
    have g1 : inB n 1 16 = true := inB_yes h1.1 h1.2
    have H2 := hide (check_ok c (by omega))
    have H3 := hide (has_ok c n (by omega) (by omega) (by omega))
    rw [Int.toNat_natCast, Int.toNat_natCast] at h3
    rw [h3] at H3
    clear h0 h1 h2 h3
    go_enter Tryd.func60, Tryd.ntmps60
    go_wp2_with (first | (go_at_call 83; refine (within_any _ _ _ _).mono ?_; rintro E w' ⟨rfl, rfl⟩) | (go_at_call 13; refine (unhide H2 _).mono ?_; rintro E w' ⟨rfl, rfl⟩) | (go_at_call 26; refine (unhide H3 _).mono ?_; rintro E w' ⟨rfl, rfl⟩))
    go_ret
    exact ⟨rfl, unhide HB⟩
  · rw [h0]
    simp only at h1 h2 h3 h4
    obtain ⟨n, rfl⟩ : ∃ n : Nat, fr = (n : Int) := ⟨fr.toNat, by omega⟩
    obtain ⟨c, rfl⟩ : ∃ c : Nat, me = (c : Int) := ⟨me.toNat, by omega⟩
    have g1 : inB n 1 16 = true := inB_yes h1.1 h1.2
    have H2 := hide (check_ok c (by omega))
    have H3 := hide (has_ok c n (by omega) (by omega) (by omega))
    rw [Int.toNat_natCast, Int.toNat_natCast] at h3
    rw [h3] at H3
    by_cases hm : 0 ≤ mo ∧ mo ≤ 3
    · have g4 : inB mo 0 3 = true := inB_yes hm.1 hm.2
      by_cases hs : 0 ≤ sl ∧ sl ≤ 1000000
      · have g5 : inB sl 0 1000000 = true := inB_yes hs.1 hs.2
        have g6 : inB va (-1048576) 1048576 = false := inB_no (fun hv => h4 ⟨hm.1, hm.2, hs.1, hs.2, hv.1, hv.2⟩)
        clear h0 h1 h2 h3 h4 hm hs
        go_enter Tryd.func60, Tryd.ntmps60
        go_wp2_with (first | (go_at_call 83; refine (within_any _ _ _ _).mono ?_; rintro E w' ⟨rfl, rfl⟩) | (go_at_call 13; refine (unhide H2 _).mono ?_; rintro E w' ⟨rfl, rfl⟩) | (go_at_call 26; refine (unhide H3 _).mono ?_; rintro E w' ⟨rfl, rfl⟩))
        go_ret
        exact ⟨rfl, unhide HB⟩
      · have g5 : inB sl 0 1000000 = false := inB_no hs
        clear h0 h1 h2 h3 h4 hm hs
        go_enter Tryd.func60, Tryd.ntmps60
        go_wp2_with (first | (go_at_call 83; refine (within_any _ _ _ _).mono ?_; rintro E w' ⟨rfl, rfl⟩) | (go_at_call 13; refine (unhide H2 _).mono ?_; rintro E w' ⟨rfl, rfl⟩) | (go_at_call 26; refine (unhide H3 _).mono ?_; rintro E w' ⟨rfl, rfl⟩))
        go_ret
        exact ⟨rfl, unhide HB⟩
    · have g4 : inB mo 0 3 = false := inB_no hm
      clear h0 h1 h2 h3 h4 hm
      go_enter Tryd.func60, Tryd.ntmps60
      go_wp2_with (first | (go_at_call 83; refine (within_any _ _ _ _).mono ?_; rintro E w' ⟨rfl, rfl⟩) | (go_at_call 13; refine (unhide H2 _).mono ?_; rintro E w' ⟨rfl, rfl⟩) | (go_at_call 26; refine (unhide H3 _).mono ?_; rintro E w' ⟨rfl, rfl⟩))
      go_ret
      exact ⟨rfl, unhide HB⟩
  · rw [h0]
    simp only at h1 h2 h3 h4
    obtain ⟨n, rfl⟩ : ∃ n : Nat, fr = (n : Int) := ⟨fr.toNat, by omega⟩
    obtain ⟨c, rfl⟩ : ∃ c : Nat, me = (c : Int) := ⟨me.toNat, by omega⟩
    have g1 : inB n 1 16 = true := inB_yes h1.1 h1.2
    have H2 := hide (check_ok c (by omega))
    have H3 := hide (has_ok c n (by omega) (by omega) (by omega))
    rw [Int.toNat_natCast, Int.toNat_natCast] at h3
    rw [h3] at H3
    have g4 : inB mo 0 3 = true := inB_yes h4.1 h4.2.1
    have g5 : inB sl 0 1000000 = true := inB_yes h4.2.2.1 h4.2.2.2.1
    have g6 : inB va (-1048576) 1048576 = true := inB_yes h4.2.2.2.2.1 h4.2.2.2.2.2
    clear h0 h1 h2 h3 h4
    go_enter Tryd.func60, Tryd.ntmps60
    go_wp2_with (first | (go_at_call 83; refine (within_any _ _ _ _).mono ?_; rintro E w' ⟨rfl, rfl⟩) | (go_at_call 13; refine (unhide H2 _).mono ?_; rintro E w' ⟨rfl, rfl⟩) | (go_at_call 26; refine (unhide H3 _).mono ?_; rintro E w' ⟨rfl, rfl⟩))
    go_ret
    exact ⟨rfl, unhide HB⟩
end Go.Proofs.YtglhapkclpllfaaDoor
