/-
  The contract of the law text faulted: an error, its number and its place.
-/
import Derived.Test.YtglhapkclpllfaaDoorCode
namespace Go.Proofs.YtglhapkclpllfaaDoor
open Go.RowKit

theorem faulted_nil (w : World) : Calls Tryd.prog 31 #[.nilIface, .agg #[.int .i64 0, .int .i64 (-1)]] w fun e w' => e = .returned (.bool true) ∧ Below w.heap.size w w' := by
  go_enter Tryd.func31, Tryd.ntmps31
  go_wp2_with (go_at_call 9; refine (code_nil _).mono ?_; rintro e w' ⟨rfl, rfl⟩)
  go_ret
  exact ⟨rfl, (Below.refl _ _).alloc (Nat.le_refl _) _⟩
theorem faulted_at (a : Nat → Addr) (k : Nat) (hk : k < 11) (pb : Nat) (n : Int) (w : World) (S : Sent a w) (hp0 : w.cell? ⟨pb, 0, none⟩ = some (.int .i64 n)) (hp : w.cell? ⟨pb, 0 + 1, none⟩ = some (.iface 73 (.pointer (some (a k))))) :
    Calls Tryd.prog 31 #[.iface 29 (.pointer (some ⟨pb, 0, none⟩)), .agg #[.int .i64 ((k : Int) + 1), .int .i64 n]] w fun e w' => e = .returned (.bool true) ∧ Below w.heap.size w w' := by
  obtain ⟨cb, tb, hb⟩ := S.row k hk
  have hA : Below w.heap.size w (w.alloc (.cells #[.int .i64 ((k : Int) + 1), .int .i64 n] 51)) := (Below.refl _ _).alloc (Nat.le_refl _) _
  have HC := hide (code_fault a (a k) pb 0 n cb tb _ (S.below hA) (below_row hA hb) (below_cell hA hp0) (below_cell hA hp))
  have Q0 : Hid ((w.alloc (.cells #[.int .i64 ((k : Int) + 1), .int .i64 n] 51)).cell? ⟨w.heap.size, 0, none⟩ = some (.int .i64 ((k : Int) + 1))) := by show _ = _; simp
  have Q1 : Hid ((w.alloc (.cells #[.int .i64 ((k : Int) + 1), .int .i64 n] 51)).cell? ⟨w.heap.size, 1, none⟩ = some (.int .i64 n)) := by show _ = _; simp
  have HS := hide S
  have HA := hide hA
  have hn0 : (((k : Int) + 1) == 0) = false := by simp; omega
  clear S hb hp0 hp hA
  go_enter Tryd.func31, Tryd.ntmps31
  go_wp2_with (go_at_call 9; refine (unhide HC).mono ?_; rintro e w' ⟨c, rfl, hc, hB⟩; obtain rfl := codeIs_at (unhide HS) hk hc; have q0 := below_cell hB (unhide Q0); have q1 := below_cell hB (unhide Q1))
  go_ret
  exact ⟨rfl, (unhide HA).trans (hB.mono (unhide HA).size)⟩
theorem faulted_es (a : Nat → Addr) (k : Nat) (hk : k < 11) (w : World) (S : Sent a w) :
    Calls Tryd.prog 31 #[.iface 73 (.pointer (some (a k))), .agg #[.int .i64 ((k : Int) + 1), .int .i64 (-1)]] w fun e w' => e = .returned (.bool true) ∧ Below w.heap.size w w' := by
  obtain ⟨cb, tb, hb⟩ := S.row k hk
  have hA : Below w.heap.size w (w.alloc (.cells #[.int .i64 ((k : Int) + 1), .int .i64 (-1)] 51)) := (Below.refl _ _).alloc (Nat.le_refl _) _
  have HC := hide (code_es a (a k) cb tb _ (S.below hA) (below_row hA hb))
  have Q0 : Hid ((w.alloc (.cells #[.int .i64 ((k : Int) + 1), .int .i64 (-1)] 51)).cell? ⟨w.heap.size, 0, none⟩ = some (.int .i64 ((k : Int) + 1))) := by show _ = _; simp
  have Q1 : Hid ((w.alloc (.cells #[.int .i64 ((k : Int) + 1), .int .i64 (-1)] 51)).cell? ⟨w.heap.size, 1, none⟩ = some (.int .i64 (-1))) := by show _ = _; simp
  have HS := hide S
  have HA := hide hA
  have hn0 : (((k : Int) + 1) == 0) = false := by simp; omega
  clear S hb hA
  go_enter Tryd.func31, Tryd.ntmps31
  go_wp2_with (go_at_call 9; refine (unhide HC).mono ?_; rintro e w' ⟨c, rfl, hc, hB⟩; obtain rfl := codeIs_at (unhide HS) hk hc; have q0 := below_cell hB (unhide Q0); have q1 := below_cell hB (unhide Q1))
  go_ret
  exact ⟨rfl, (unhide HA).trans (hB.mono (unhide HA).size)⟩
/-- An error, and its number and place. -/
def ErrFits (a : Nat → Addr) (w : World) (ev : Value) (c n : Int) : Prop :=
  (ev = .nilIface ∧ c = 0 ∧ n = -1) ∨ (∃ pb k : Nat, k < 11 ∧ ev = .iface 29 (.pointer (some ⟨pb, 0, none⟩)) ∧ c = (k : Int) + 1 ∧ w.cell? ⟨pb, 0, none⟩ = some (.int .i64 n) ∧ w.cell? ⟨pb, 0 + 1, none⟩ = some (.iface 73 (.pointer (some (a k))))) ∨
    ∃ k : Nat, k < 11 ∧ ev = .iface 73 (.pointer (some (a k))) ∧ c = (k : Int) + 1 ∧ n = -1
theorem ErrFits.below {a : Nat → Addr} {w w' : World} {ev : Value} {c n : Int} (h : ErrFits a w ev c n) (hb : Below w.heap.size w w') : ErrFits a w' ev c n := by
  rcases h with h | ⟨pb, k, h1, h2, h3, h4, h5⟩ | h
  · exact Or.inl h
  · exact Or.inr (Or.inl ⟨pb, k, h1, h2, h3, below_cell hb h4, below_cell hb h5⟩)
  · exact Or.inr (Or.inr h)
theorem faulted_ok (a : Nat → Addr) (w : World) (S : Sent a w) {ev : Value} {c n : Int} (h : ErrFits a w ev c n) : Calls Tryd.prog 31 #[ev, .agg #[.int .i64 c, .int .i64 n]] w fun e w' => e = .returned (.bool true) ∧ Below w.heap.size w w' := by
  rcases h with ⟨rfl, rfl, rfl⟩ | ⟨pb, k, h1, rfl, rfl, h4, h5⟩ | ⟨k, h1, rfl, rfl, rfl⟩
  · exact faulted_nil w
  · exact faulted_at a k h1 pb n w S h4 h5
  · exact faulted_es a k h1 w S
end Go.Proofs.YtglhapkclpllfaaDoor
