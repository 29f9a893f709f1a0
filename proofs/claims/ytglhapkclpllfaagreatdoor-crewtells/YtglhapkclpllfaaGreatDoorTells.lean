/-
  The walk of the law CrewTells: whatever the numbers and the text are, it answers true, and nothing that was in memory has turned.
  Conditions: the library's variables and package api's errors lie as laid (structure TellOk).
-/
import Derived.Test.YtglhapkclpllfaaGreatDoorCrewed
import Derived.Test.YtglhapkclpllfaaGreatDoorCoded
import Derived.Test.YtglhapkclpllfaaGreatDoorFits
import Derived.Test.YtglhapkclpllfaaGreatDoorSame
import Derived.Test.YtglhapkclpllfaaGreatDoorRef6
import Derived.Test.YtglhapkclpllfaaGreatDoorMost
import Derived.Test.YtglhapkclpllfaaGreatDoorBad
import Derived.Outline
namespace Go.Proofs.YtglhapkclpllfaaGreatDoor
open Go.RowKit Go.Shelf

structure TellOk (a : Nat → Addr) (w : World) : Prop where
  lib : LibOk w
  sent : Sent a w
theorem TellOk.below {a : Nat → Addr} {w w' : World} (T : TellOk a w) (hb : Below w.heap.size w w') : TellOk a w' := ⟨T.lib.below hb, T.sent.below hb⟩
theorem TellOk.crew {a : Nat → Addr} {w : World} (T : TellOk a w) : CrewOk w where
  lib := T.lib
  eN := ⟨_, _, T.sent.c3⟩
  eT := ⟨_, _, T.sent.c0⟩
  eB := ⟨_, _, T.sent.c1⟩
/-- Two answers, of the program and of the document, that go together: a number and an error. -/
def Pair (a : Nat → Addr) (f g : FuncId) (args : Array Value) : Prop := ∃ (n : Int) (ev : Value) (c : Int),
  (∀ w, TellOk a w → Calls Tryz.prog f args w fun e w' => e = .returned (.tuple #[.int .i64 n, ev]) ∧ Below w.heap.size w w') ∧
  (∀ w, TellOk a w → Calls Tryz.prog g args w fun e w' => e = .returned (.tuple #[.int .i64 n, .int .i64 c]) ∧ Below w.heap.size w w') ∧
  (∀ w, TellOk a w → Calls Tryz.prog 8 #[ev, .int .i64 c] w fun e w' => e = .returned (.bool true) ∧ Below w.heap.size w w')
theorem coded_two (a : Nat → Addr) (w : World) (T : TellOk a w) : Calls Tryz.prog 8 #[.iface 146 (.pointer (some (a 1))), .int .i64 2] w fun e w' => e = .returned (.bool true) ∧ Below w.heap.size w w' := coded_es a 1 (by omega) w T.sent
theorem both_pair (a : Nat → Addr) (x y : Int) : Pair a 16 17 #[.int .i64 x, .int .i64 y] := by
  by_cases h : okC x ∧ okC y
  · obtain ⟨m, rfl, hm⟩ := okC_nat h.1
    obtain ⟨n, rfl, hn⟩ := okC_nat h.2
    exact ⟨_, _, _, fun w _ => same_below (both_ok m n hm hn w), fun w _ => same_below (bothOf_yes m n hm hn w), fun w _ => same_below (coded_nil w)⟩
  · exact ⟨_, _, _, fun w T => same_below (both_bad x y h _ _ w T.sent.c1), fun w _ => same_below (bothOf_no x y h w), fun w T => coded_two a w T⟩
theorem either_pair (a : Nat → Addr) (x y : Int) : Pair a 18 19 #[.int .i64 x, .int .i64 y] := by
  by_cases h : okC x ∧ okC y
  · obtain ⟨m, rfl, hm⟩ := okC_nat h.1
    obtain ⟨n, rfl, hn⟩ := okC_nat h.2
    exact ⟨_, _, _, fun w _ => same_below (either_ok m n hm hn w), fun w _ => same_below (eitherOf_yes m n hm hn w), fun w _ => same_below (coded_nil w)⟩
  · exact ⟨_, _, _, fun w T => same_below (either_bad x y h _ _ w T.sent.c1), fun w _ => same_below (eitherOf_no x y h w), fun w T => coded_two a w T⟩
theorem less_pair (a : Nat → Addr) (x y : Int) : Pair a 20 21 #[.int .i64 x, .int .i64 y] := by
  by_cases h : okC x ∧ okC y
  · obtain ⟨m, rfl, hm⟩ := okC_nat h.1
    obtain ⟨n, rfl, hn⟩ := okC_nat h.2
    exact ⟨_, _, _, fun w _ => same_below (less_ok m n hm hn w), fun w _ => same_below (lessOf_yes m n hm hn w), fun w _ => same_below (coded_nil w)⟩
  · exact ⟨_, _, _, fun w T => same_below (less_bad x y h _ _ w T.sent.c1), fun w _ => same_below (lessOf_no x y h w), fun w T => coded_two a w T⟩
theorem read_pair (a : Nat → Addr) (s : ByteArray) (hs : s.size ≤ 100) : Pair a 22 23 #[.string s] := by
  cases hr : readOf s.data.toList with
  | none =>
    refine ⟨0, .iface 146 (.pointer (some (a 0))), 1, fun w T => ?_, fun w _ => ?_, fun w T => coded_es a 0 (by omega) w T.sent⟩
    · refine (read_ok s (by omega) _ _ w T.lib T.sent.c0).mono ?_
      rintro e w' ⟨⟨c, _, hc, _⟩ | ⟨_, rfl⟩, hB⟩
      · rw [hr] at hc; cases hc
      · exact ⟨rfl, hB⟩
    · refine (readCrew_ok s (by omega) w).mono ?_
      rintro e w' ⟨⟨c, hc, _⟩ | ⟨_, rfl⟩, hB⟩
      · rw [hr] at hc; cases hc
      · exact ⟨rfl, hB⟩
  | some c0 =>
    refine ⟨c0, .nilIface, 0, fun w T => ?_, fun w _ => ?_, fun w _ => same_below (coded_nil w)⟩
    · refine (read_ok s (by omega) _ _ w T.lib T.sent.c0).mono ?_
      rintro e w' ⟨⟨c, _, hc, rfl⟩ | ⟨hno, _⟩, hB⟩
      · rw [hr] at hc; cases hc; exact ⟨rfl, hB⟩
      · rw [hr] at hno; cases hno
    · refine (readCrew_ok s (by omega) w).mono ?_
      rintro e w' ⟨⟨c, hc, rfl⟩ | ⟨hno, _⟩, hB⟩
      · rw [hr] at hc; cases hc; exact ⟨rfl, hB⟩
      · rw [hr] at hno; cases hno
theorem of_pair (a : Nat → Addr) (xs : List Int) (hl : xs.length ≤ maxLen) : ∃ (n c at' : Int),
    (∀ w v, TellOk a w → IntsAt w v xs → Calls Tryz.prog 24 #[v] w fun e w' => ∃ ev, e = .returned (.tuple #[.int .i64 n, ev]) ∧ ErrFits a w' ev c at' ∧ Below w.heap.size w w') ∧
    (∀ w v, TellOk a w → IntsIn w v xs → Calls Tryz.prog 25 #[v] w fun e w' => e = .returned (.tuple #[.int .i64 n, .agg #[.int .i64 c, .int .i64 at']]) ∧ Below w.heap.size w w') := by
  obtain ⟨m, h1, h2, h3⟩ := first_bad xs
  by_cases hm : m < xs.length
  · refine ⟨0, 4, m, fun w v T hv => ?_, fun w v _ hv => ?_⟩
    · refine (of_walk v xs m _ _ w hv.in' hl h1 h2 h3 T.sent.c3).mono ?_
      rintro e w' (⟨h, _⟩ | ⟨_, rfl, c0, c1, hB⟩)
      · omega
      · exact ⟨_, rfl, Or.inr (Or.inl ⟨w.heap.size, 3, by omega, rfl, rfl, c0, c1⟩), hB⟩
    · refine (crewOf_walk v xs m w hv hl h1 h2 h3).mono ?_
      rintro e w' ⟨⟨h, _⟩ | ⟨_, rfl⟩, hB⟩
      · omega
      · exact ⟨rfl, hB⟩
  · have hmx : m = xs.length := by omega
    refine ⟨(Cm.ofN xs : Nat), 0, -1, fun w v T hv => ?_, fun w v _ hv => ?_⟩
    · refine (of_walk v xs m _ _ w hv.in' hl h1 h2 h3 T.sent.c3).mono ?_
      rintro e w' (⟨_, rfl, rfl⟩ | ⟨h, _⟩)
      · exact ⟨_, rfl, Or.inl ⟨rfl, rfl, rfl⟩, Below.refl _ _⟩
      · omega
    · refine (crewOf_walk v xs m w hv hl h1 h2 h3).mono ?_
      rintro e w' ⟨⟨_, rfl⟩ | ⟨h, _⟩, hB⟩
      · exact ⟨rfl, hB⟩
      · omega
/-- What is told of one crew. -/
theorem one_tells (a : Nat → Addr) (x : Int) : ∃ (ev : Value) (c : Int) (xs : List Int) (tx : ByteArray), xs.length ≤ 16 ∧ tx.size ≤ 48 ∧
    (∀ w, TellOk a w → Calls Tryz.prog 9 #[.int .i64 x] w fun e w' => e = .returned ev ∧ w' = w) ∧
    (∀ w, Calls Tryz.prog 5 #[.int .i64 x, .int .i64 0] w fun e w' => e = .returned (.int .i64 c) ∧ w' = w) ∧
    (∀ w, TellOk a w → Calls Tryz.prog 8 #[ev, .int .i64 c] w fun e w' => e = .returned (.bool true) ∧ Below w.heap.size w w') ∧
    (∀ w, TellOk a w → Calls Tryz.prog 11 #[.int .i64 x] w fun e w' => ∃ v, e = .returned v ∧ IntsAt w' v xs ∧ Below w.heap.size w w') ∧
    (∀ w, Calls Tryz.prog 6 #[.int .i64 x] w fun e w' => ∃ v, e = .returned v ∧ IntsAt w' v xs ∧ Below w.heap.size w w') ∧
    (∀ w, TellOk a w → Calls Tryz.prog 12 #[.int .i64 x] w fun e w' => e = .returned (.int .i64 xs.length) ∧ w' = w) ∧
    (∀ w, TellOk a w → Calls Tryz.prog 14 #[.int .i64 x] w fun e w' => e = .returned (.string tx) ∧ Below w.heap.size w w') ∧
    (∀ w, Calls Tryz.prog 15 #[.int .i64 x] w fun e w' => e = .returned (.string tx) ∧ Below w.heap.size w w') := by
  by_cases h : okC x
  · obtain ⟨m, rfl, hm⟩ := okC_nat h
    have hlen : (ints (Cm.nodes m)).length = Cm.many m := by
      have h2 := Cm.len_nodes m
      simp [ints]; omega
    have hml := Cm.many_le m
    have htl := textOf_len m
    refine ⟨.nilIface, 0, ints (Cm.nodes m), ⟨(textOf m).toArray⟩, by omega, by show (textOf m).toArray.size ≤ 48; simpa using htl, fun w _ => check_ok m hm w, fun w => twoError_yes m 0 h (by unfold okC; omega) w, fun w _ => same_below (coded_nil w), fun w T => list_ok m hm w T.lib.size T.lib.tab, fun w => listOf_ok m hm w, fun w _ => by rw [hlen]; exact many_ok m hm w, fun w T => text_ok m hm w T.lib.size T.lib.tab, fun w => ?_⟩
    refine (crewText_ok m hm w).mono ?_
    rintro e w' ⟨s, rfl, hs, hB⟩
    refine ⟨?_, hB⟩
    rw [← hs]
  · exact ⟨_, 2, [], ⟨#[]⟩, by simp, by decide, fun w T => check_bad x (not_okC h) _ w T.sent.c1, fun w => twoError_no x 0 (fun h2 => h h2.1) w, fun w T => coded_two a w T, fun w T => list_bad x h _ _ w T.sent.c1, fun w => listOf_no x h w, fun w T => many_bad x h _ _ w T.sent.c1, fun w T => same_below (text_bad x h _ _ w T.sent.c1), fun w => same_below (crewText_no x h w)⟩
theorem has_tells (a : Nat → Addr) (x n : Int) : ∃ b : Bool, (∀ w, TellOk a w → Calls Tryz.prog 13 #[.int .i64 x, .int .i64 n] w fun e w' => e = .returned (.bool b) ∧ w' = w) ∧
    (∀ w, Calls Tryz.prog 7 #[.int .i64 x, .int .i64 n] w fun e w' => e = .returned (.bool b) ∧ w' = w) := by
  by_cases h : (0 ≤ x ∧ x ≤ 65535) ∧ Cm.isNode n
  · obtain ⟨m, rfl, hm⟩ := okC_nat h.1
    obtain ⟨i, rfl, hi⟩ : ∃ i : Nat, n = (i : Int) + 1 ∧ i ≤ 15 := ⟨n.toNat - 1, by have := h.2; unfold Cm.isNode at this; omega, by have := h.2; unfold Cm.isNode at this; omega⟩
    refine ⟨m.testBit i, fun w _ => ?_, fun w => hasN_ok m i hm hi w⟩
    have := has_ok m (i + 1) hm (by omega) (by omega) w
    simpa using this
  · exact ⟨false, fun w T => has_bad x n h _ _ w T.sent.c1, fun w => hasN_no x n h w⟩
end Go.Proofs.YtglhapkclpllfaaGreatDoor
