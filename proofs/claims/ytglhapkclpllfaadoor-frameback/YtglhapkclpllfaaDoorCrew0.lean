/-
  Contracts of package crew: Check, bit, Has, whatever the numbers are.
-/
import Derived.Test.YtglhapkclpllfaaDoorProg
import Derived.Test.YtglhapkclpllfaaDoorBase
import Derived.Test.YtglhapkclpllfaaDoorCrewMath
import Derived.Laws.Bits64b
import Derived.Laws.BitsLemmas
import Derived.Outline
namespace Go.Proofs.YtglhapkclpllfaaDoor
open Go.RowKit

def Cm.isNode (x : Int) : Prop := 1 ≤ x ∧ x ≤ 16
theorem i64_and (a b : Nat) (ha : a ≤ 65535) (hb : b ≤ 65535) : bits .and .i64 (a : Int) (b : Int) = ((a &&& b : Nat) : Int) :=
  (bits_nat .i64 16 (by decide) (fun n h0 h1 => by rw [IntKind.wrap_i64]; omega) a b (by omega) (by omega)).1
theorem i64_or (a b : Nat) (ha : a ≤ 65535) (hb : b ≤ 65535) : bits .or .i64 (a : Int) (b : Int) = ((a ||| b : Nat) : Int) :=
  (bits_nat .i64 16 (by decide) (fun n h0 h1 => by rw [IntKind.wrap_i64]; omega) a b (by omega) (by omega)).2
theorem pow_wrap (n : Nat) (h : n ≤ 16) : wrap64 (2 ^ (n - 1)) = ((2 ^ (n - 1) : Nat) : Int) := by
  have h1 : 2 ^ (n - 1) ≤ 2 ^ 15 := Nat.pow_le_pow_right (by omega) (by omega)
  have h2 : ((2 ^ (n - 1) : Nat) : Int) = (2 : Int) ^ (n - 1) := by simp
  rw [← h2]
  generalize 2 ^ (n - 1) = k at h1
  unfold wrap64
  omega
theorem check_ok (c : Nat) (hc : c ≤ 65535) (w : World) : Calls Tryd.prog 13 #[.int .i64 c] w fun e w' => e = .returned .nilIface ∧ w' = w := by
  have h1 : ¬ ((c : Int) < 0) := by omega
  have h2 : ¬ ((65535 : Int) < c) := by omega
  go_enter Tryd.func13, Tryd.ntmps13
  go_wp2
  go_ret
  exact ⟨rfl, rfl⟩
theorem check_bad (c : Int) (hc : c < 0 ∨ 65535 < c) (ev : Value) (w : World) (h : w.cell? ⟨1, 0, none⟩ = some ev) : Calls Tryd.prog 13 #[.int .i64 c] w fun e w' => e = .returned ev ∧ w' = w := by
  by_cases h1 : c < 0
  · go_enter Tryd.func13, Tryd.ntmps13
    go_wp2
    go_ret
    exact ⟨rfl, rfl⟩
  · have h2 : 65535 < c := by omega
    go_enter Tryd.func13, Tryd.ntmps13
    go_wp2
    go_ret
    exact ⟨rfl, rfl⟩
theorem bit_ok (n : Nat) (h1 : 1 ≤ n) (h2 : n ≤ 16) (w : World) : Calls Tryd.prog 41 #[.int .i64 n] w fun e w' => e = .returned (.int .i64 ((2 ^ (n - 1) : Nat) : Int)) ∧ w' = w := by
  have h3 : ¬ ((n : Int) < 1) := by omega
  have h4 : ¬ ((16 : Int) < n) := by omega
  have h5 : ¬ ((n : Int) - 1 < 0) := by omega
  go_enter Tryd.func41, Tryd.ntmps41
  go_wp2
  go_ret
  exact ⟨ret_int (pow_wrap n h2), rfl⟩
theorem bit_bad (n : Int) (h : n < 1 ∨ 16 < n) (w : World) : Calls Tryd.prog 41 #[.int .i64 n] w fun e w' => e = .returned (.int .i64 0) ∧ w' = w := by
  by_cases h1 : n < 1
  · go_enter Tryd.func41, Tryd.ntmps41
    go_wp2
    go_ret
    exact ⟨rfl, rfl⟩
  · have h2 : 16 < n := by omega
    go_enter Tryd.func41, Tryd.ntmps41
    go_wp2
    go_ret
    exact ⟨rfl, rfl⟩
theorem bit_key (c k : Nat) (hk : bits .and .i64 (c : Int) ((2 ^ k : Nat) : Int) = ((c &&& 2 ^ k : Nat) : Int)) : (bits .and .i64 (c : Int) (2 ^ k) != 0) = c.testBit k := by
  have e : ((2 ^ k : Nat) : Int) = (2 : Int) ^ k := by simp
  rw [← e, hk]
  cases hb : c.testBit k with
  | false =>
    have : c &&& 2 ^ k = 0 := by
      apply Nat.eq_of_testBit_eq
      intro i
      rw [Nat.testBit_and, Nat.testBit_two_pow, Nat.zero_testBit]
      by_cases h : k = i
      · subst h; simp [hb]
      · simp [h]
    rw [this]; rfl
  | true =>
    have : c &&& 2 ^ k ≠ 0 := fun h0 => by
      have h1 : (c &&& 2 ^ k).testBit k = true := by rw [Nat.testBit_and, Nat.testBit_two_pow, hb]; simp
      rw [h0] at h1
      simp at h1
    simp; omega
theorem has_ok (c n : Nat) (hc : c ≤ 65535) (h1 : 1 ≤ n) (h2 : n ≤ 16) (w : World) : Calls Tryd.prog 26 #[.int .i64 c, .int .i64 n] w fun e w' => e = .returned (.bool (c.testBit (n - 1))) ∧ w' = w := by
  have hp : 2 ^ (n - 1) ≤ 65535 := Nat.le_trans (Nat.pow_le_pow_right (by omega) (show n - 1 ≤ 15 by omega)) (by decide)
  have hk := i64_and c (2 ^ (n - 1)) hc hp
  go_enter Tryd.func26, Tryd.ntmps26
  go_wp2_with (first | (go_at_call 13; refine (check_ok c hc _).mono ?_; rintro e w' ⟨rfl, rfl⟩) | (go_at_call 41; refine (bit_ok n h1 h2 _).mono ?_; rintro e w' ⟨rfl, rfl⟩))
  go_ret
  exact ⟨ret_bool (bit_key c (n - 1) hk), rfl⟩
def okC (c : Int) : Prop := 0 ≤ c ∧ c ≤ 65535
theorem not_okC {c : Int} (h : ¬ okC c) : c < 0 ∨ 65535 < c := by unfold okC at h; omega
theorem okC_nat {c : Int} (h : okC c) : ∃ n : Nat, c = n ∧ n ≤ 65535 := ⟨c.toNat, by unfold okC at h; omega, by unfold okC at h; omega⟩
theorem has_bad (c n : Int) (h : ¬ ((0 ≤ c ∧ c ≤ 65535) ∧ Cm.isNode n)) (te : TypeId) (pe : Value) (w : World) (hE : w.cell? ⟨1, 0, none⟩ = some (.iface te pe)) : Calls Tryd.prog 26 #[.int .i64 c, .int .i64 n] w fun e w' => e = .returned (.bool false) ∧ w' = w := by
  by_cases hc : okC c
  · obtain ⟨m, rfl, hm⟩ := okC_nat hc
    have hn : ¬ Cm.isNode n := fun hn => h ⟨hc, hn⟩
    have HC := hide (check_ok m hm)
    have HB := hide (bit_bad n (by unfold Cm.isNode at hn; omega))
    have hk := i64_and m 0 hm (by omega)
    rw [Nat.and_zero] at hk
    clear h hc hn
    go_enter Tryd.func26, Tryd.ntmps26
    go_wp2_with (first | (go_at_call 13; refine (unhide HC _).mono ?_; rintro e w' ⟨rfl, rfl⟩) | (go_at_call 41; refine (unhide HB _).mono ?_; rintro e w' ⟨rfl, rfl⟩))
    go_ret
    exact ⟨ret_bool (by simpa using hk), rfl⟩
  · have HC := hide (check_bad c (not_okC hc) _ w hE)
    clear h hc
    go_enter Tryd.func26, Tryd.ntmps26
    go_wp2_with (go_at_call 13; refine (unhide HC).mono ?_; rintro e w' ⟨rfl, rfl⟩)
    go_ret
    exact ⟨rfl, rfl⟩
end Go.Proofs.YtglhapkclpllfaaDoor
