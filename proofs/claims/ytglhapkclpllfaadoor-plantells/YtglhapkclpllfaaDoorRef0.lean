/-
  Contracts of the document's answer, chapter 1: IsNode, powerOf, InInts.
-/
import Derived.Test.YtglhapkclpllfaaDoorRefMath0
namespace Go.Proofs.YtglhapkclpllfaaDoor
open Go.RowKit

theorem isNode_yes (n : Int) (h : Cm.isNode n) (w : World) : Calls Tryd.prog 51 #[.int .i64 n] w fun e w' => e = .returned (.bool true) ∧ w' = w := by
  have h1 := h.1
  have h2 := h.2
  go_enter Tryd.func51, Tryd.ntmps51
  go_wp2
  go_ret
  exact ⟨rfl, rfl⟩
theorem isNode_no (n : Int) (h : ¬ Cm.isNode n) (w : World) : Calls Tryd.prog 51 #[.int .i64 n] w fun e w' => e = .returned (.bool false) ∧ w' = w := by
  by_cases h1 : 1 ≤ n
  · have h2 : ¬ n ≤ 16 := fun h2 => h ⟨h1, h2⟩
    go_enter Tryd.func51, Tryd.ntmps51
    go_wp2
    go_ret
    exact ⟨rfl, rfl⟩
  · go_enter Tryd.func51, Tryd.ntmps51
    go_wp2
    go_ret
    exact ⟨rfl, rfl⟩
theorem pow_small (i : Nat) (h : i ≤ 15) : (2 : Int) ^ i = ((2 ^ i : Nat) : Int) ∧ 2 ^ i ≤ 32768 := ⟨by simp, Nat.le_trans (Nat.pow_le_pow_right (by omega) h) (by decide)⟩
/-- The power of a place, from 0 on. -/
theorem powerOf_ok (i : Nat) (h : i ≤ 15) (w : World) : Calls Tryd.prog 54 #[.int .i64 ((i : Int) + 1)] w fun e w' => e = .returned (.int .i64 (2 ^ i : Nat)) ∧ w' = w := by
  go_enter Tryd.func54, Tryd.ntmps54
  go_wp2
  go_loop [3, 4] (fun n k => ∃ j p : Nat, j ≤ i ∧ k = .int .i64 ((j : Int) + 1) ∧ n = .int .i64 p ∧ p ≤ 32768 ∧ Hid (p = 2 ^ j)) (fun _ k => i + 1 - (intOf k).toNat)
  case atStart => exact ⟨0, 1, by omega, by simp, rfl, by omega, rfl⟩
  case round =>
    obtain ⟨j, p, hj, rfl, rfl, hp, Hp⟩ := hrel
    by_cases hlt : j < i
    · have hlt' : (j : Int) + 1 < (i : Int) + 1 := by omega
      go_wp2
      go_round
      case rel => exact ⟨j + 1, 2 * p, by omega, by go_num, by go_num, by have := (pow_small (j + 1) (by omega)).2; rw [unhide Hp]; rw [Nat.pow_succ] at this; omega, by show 2 * p = _; rw [unhide Hp, Nat.pow_succ]; omega⟩
      case measure => simp [intOf]; omega
    · have hji : j = i := by omega
      subst hji
      have hlt' : ¬ (j : Int) + 1 < (j : Int) + 1 := by omega
      go_wp2
      go_ret
      exact ⟨ret_int (by rw [unhide Hp]; simp), rfl⟩
theorem Tryd.infoInt' : (Tryd.prog.info? 3).map (fun i => (i.zero, i.size, i.bytes)) = some (some (.int .i64 0), 1, 8) := by kernel_rfl
theorem inInts_ok (n : Int) (v : Value) (xs : List Int) (w : World) (hv : IntsIn w v xs) (hl : xs.length ≤ maxLen) : Calls Tryd.prog 53 #[.int .i64 n, v] w fun e w' => e = .returned (.bool (xs.contains n)) ∧ w' = w := by
  unfold maxLen at hl
  obtain ⟨ad, cap, rfl, hcells⟩ := hv
  have HV := hide hcells
  obtain ⟨m, hm⟩ : ∃ m, xs.length = m := ⟨_, rfl⟩
  have Hl : Hid (xs.length = m) := hm
  rw [hm] at hl ⊢
  obtain ⟨r, hr⟩ : ∃ r, xs.contains n = r := ⟨_, rfl⟩
  have Hr := hide hr
  rw [hr]
  clear hm hcells hr
  go_enter Tryd.func53, Tryd.ntmps53
  go_wp2
  go_loop [5] (fun i => ∃ k : Nat, k ≤ m ∧ i = .int .i64 k ∧ Hid ((xs.take k).contains n = false)) (fun i => m - (intOf i).toNat)
  case atStart => exact ⟨0, by omega, rfl, rfl⟩
  case round =>
    obtain ⟨k, hk, rfl, hno⟩ := hrel
    by_cases hlt : k < m
    · obtain ⟨b, off, rfl, hc⟩ := unhide HV k (by rw [unhide Hl]; exact hlt)
      obtain ⟨x, hx⟩ : ∃ x, xs.getD k 0 = x := ⟨_, rfl⟩
      rw [hx] at hc
      have HX := hide hx
      clear hx
      by_cases hxn : x = n
      · subst hxn
        have Hin : Hid (xs.contains x = true) := by
          show _ = _
          rw [← unhide HX]
          exact List.contains_iff_mem.2 (getD_mem xs k (by rw [unhide Hl]; exact hlt))
        go_wp2
        go_ret
        exact ⟨ret_bool ((unhide Hin).symm.trans (unhide Hr)), rfl⟩
      · go_wp2
        go_round
        case rel => exact ⟨k + 1, by omega, by go_num, by
          show (xs.take (k + 1)).contains n = false
          rw [take_snoc_getD xs k (by rw [unhide Hl]; exact hlt), unhide HX]
          have h1 := unhide hno
          simp at h1 ⊢
          exact ⟨h1, fun e => hxn e.symm⟩⟩
        case measure => simp [intOf]; omega
    · have hkm : k = m := by omega
      subst hkm
      go_wp2
      go_ret
      exact ⟨ret_bool (by have := unhide hno; rw [List.take_of_length_le (by rw [unhide Hl]; exact Nat.le_refl _)] at this; exact this.symm.trans (unhide Hr)), rfl⟩
end Go.Proofs.YtglhapkclpllfaaDoor
