/-
  Contracts of the document's answer, chapter 1: IsCrew, HasNode, ListOf.
-/
import Derived.Test.YtglhapkclpllfacGreatDoorRefMath
import Derived.Test.YtglhapkclpllfacGreatDoorRef0
namespace Go.Proofs.YtglhapkclpllfacGreatDoor
open Go.RowKit

theorem isCrew_yes (c : Nat) (h : c ≤ 65535) (w : World) : Calls Tryz.prog 15 #[.int .i64 c] w fun e w' => e = .returned (.bool true) ∧ w' = w := by
  have h1 : (0 : Int) ≤ (c : Int) := by omega
  have h2 : (c : Int) < 65536 := by omega
  go_enter Tryz.func15, Tryz.ntmps15
  go_wp2
  go_ret
  exact ⟨rfl, rfl⟩
theorem isCrew_no (c : Int) (h : c < 0 ∨ 65535 < c) (w : World) : Calls Tryz.prog 15 #[.int .i64 c] w fun e w' => e = .returned (.bool false) ∧ w' = w := by
  by_cases h1 : c < 0
  · have h1' : ¬ (0 : Int) ≤ c := by omega
    go_enter Tryz.func15, Tryz.ntmps15
    go_wp2
    go_ret
    exact ⟨rfl, rfl⟩
  · have h1' : (0 : Int) ≤ c := by omega
    have h2' : ¬ c < 65536 := by omega
    go_enter Tryz.func15, Tryz.ntmps15
    go_wp2
    go_ret
    exact ⟨rfl, rfl⟩
theorem div_bit (c i : Nat) : (((c / 2 ^ i % 2 : Nat) : Int) == 1) = c.testBit i := by
  rw [Nat.testBit_eq_decide_div_mod_eq]
  by_cases h : c / 2 ^ i % 2 = 1
  · simp [h]
  · have : ¬ ((c / 2 ^ i % 2 : Nat) : Int) = 1 := by omega
    rw [decide_eq_false h, beq_eq_false_iff_ne]; exact this
theorem quo_small (c p : Nat) (hc : c ≤ 65535) : (wrap64 ((c : Int) / (p : Int))).tmod 2 = ((c / p % 2 : Nat) : Int) := by
  have h1 : (c : Int) / (p : Int) = ((c / p : Nat) : Int) := by simp
  have h2 : c / p ≤ c := Nat.div_le_self _ _
  rw [h1]
  generalize c / p = q at *
  rw [show wrap64 (q : Int) = (q : Int) by unfold wrap64; omega, Int.tmod_eq_emod_of_nonneg (by omega)]
  omega
theorem hasN_ok (c i : Nat) (hc : c ≤ 65535) (h : i ≤ 15) (w : World) : Calls Tryz.prog 22 #[.int .i64 c, .int .i64 ((i : Int) + 1)] w fun e w' => e = .returned (.bool (c.testBit i)) ∧ w' = w := by
  have hn : Cm.isNode ((i : Int) + 1) := ⟨by omega, by omega⟩
  have hb := div_bit c i
  have HP := hide (powerOf_ok i h)
  obtain ⟨_, hp⟩ := pow_small i h
  have hpos := Nat.two_pow_pos i
  generalize 2 ^ i = p at *
  go_enter Tryz.func22, Tryz.ntmps22
  go_wp2_with (first | (go_at_call 15; refine (isCrew_yes c hc _).mono ?_; rintro e w' ⟨rfl, rfl⟩) | (go_at_call 38; refine (isNode_yes _ hn _).mono ?_; rintro e w' ⟨rfl, rfl⟩) | (go_at_call 23; refine (unhide HP _).mono ?_; rintro e w' ⟨rfl, rfl⟩))
  go_ret
  exact ⟨ret_bool (by rw [quo_small c p hc]; exact hb), rfl⟩
theorem hasN_no (c n : Int) (h : ¬ ((0 ≤ c ∧ c ≤ 65535) ∧ Cm.isNode n)) (w : World) : Calls Tryz.prog 22 #[.int .i64 c, .int .i64 n] w fun e w' => e = .returned (.bool false) ∧ w' = w := by
  have HI : ∃ b, Hid (∀ w, Calls Tryz.prog 38 #[.int .i64 n] w fun e w' => e = .returned (.bool b) ∧ w' = w) ∧ (b = true → Cm.isNode n) := by
    by_cases hn : Cm.isNode n
    · exact ⟨true, fun w => isNode_yes n hn w, fun _ => hn⟩
    · exact ⟨false, fun w => isNode_no n hn w, fun h => by cases h⟩
  obtain ⟨b, HB, hb⟩ := HI
  by_cases hc : 0 ≤ c ∧ c ≤ 65535
  · obtain ⟨x, rfl⟩ : ∃ x : Nat, c = (x : Int) := ⟨c.toNat, by omega⟩
    have hx : x ≤ 65535 := by omega
    cases b with
    | true => exact absurd ⟨hc, hb rfl⟩ h
    | false =>
      clear h hc hb
      go_enter Tryz.func22, Tryz.ntmps22
      go_wp2_with (first | (go_at_call 15; refine (isCrew_yes x hx _).mono ?_; rintro e w' ⟨rfl, rfl⟩) | (go_at_call 38; refine (unhide HB _).mono ?_; rintro e w' ⟨rfl, rfl⟩))
      go_ret
      exact ⟨rfl, rfl⟩
  · have hc' : c < 0 ∨ 65535 < c := by omega
    clear h hc hb
    go_enter Tryz.func22, Tryz.ntmps22
    go_wp2_with (first | (go_at_call 15; refine (isCrew_no c hc' _).mono ?_; rintro e w' ⟨rfl, rfl⟩) | (go_at_call 38; refine (unhide HB _).mono ?_; rintro e w' ⟨rfl, rfl⟩))
    go_ret
    exact ⟨rfl, rfl⟩

/-- The loop of ListOf, over whatever HasNode answers. -/
theorem listOf_walk (cv : Int) (c : Nat) (w : World) (hh : ∀ i : Nat, i ≤ 15 → ∀ w, Calls Tryz.prog 22 #[.int .i64 cv, .int .i64 ((i : Int) + 1)] w fun e w' => e = .returned (.bool (c.testBit i)) ∧ w' = w) :
    Calls Tryz.prog 74 #[.int .i64 cv] w fun e w' => ∃ v, e = .returned v ∧ IntsAt w' v (lst 16 c) ∧ Below w.heap.size w w' := by
  have HH := hide hh
  clear hh
  obtain ⟨i0, hi, hz0, hz1, hz2⟩ := info_parts Tryz.infoInt'
  go_enter Tryz.func74, Tryz.ntmps74
  go_wp2
  go_loopw [3, 4] (fun v n wr => ∃ k : Nat, k ≤ 16 ∧ n = .int .i64 ((k : Int) + 1) ∧ wr.ownsRow w.heap.size 3 1 v (lst k c).length ((lst k c).map (Value.int .i64)) ∧ Below w.heap.size w wr) (fun _ n _ => 17 - (intOf n).toNat)
  case atStart => exact ⟨0, by omega, by simp, World.ownsRow_nil _ _ _ _, Below.refl _ _⟩
  case round =>
    obtain ⟨k, hk, rfl, hrow, hB⟩ := hrel
    by_cases hlt : k < 16
    · have hlt' : (k : Int) + 1 ≤ 16 := by omega
      have hl := lst_len k c
      have HS := hide (lst_succ k c)
      cases hb : c.testBit k with
      | false =>
        rw [hb] at HS
        have HH2 := hide (unhide HH k (by omega))
        rw [hb] at HH2
        have HB := hide hB
        have HR := hide hrow
        clear hB hrow hb
        go_wp2_with (go_at_call 22; refine (unhide HH2 _).mono ?_; rintro e w' ⟨rfl, rfl⟩)
        go_roundw
        case rel => exact ⟨k + 1, by omega, by go_num, by rw [unhide HS]; simpa using unhide HR, unhide HB⟩
        case measure => simp [intOf]; omega
      | true =>
        rw [hb] at HS
        have HH2 := hide (unhide HH k (by omega))
        rw [hb] at HH2
        clear hb
        go_wp2_with (first
          | (go_at_call 22; refine (unhide HH2 _).mono ?_; rintro e w' ⟨rfl, rfl⟩)
          | (at_builtin; refine wpList_append_own _ rfl _ _ 22 rfl w.heap.size 3 i0 (.int .i64 0) 1 8 Tryz.underlying22 hi hz0 hz1 hz2 rfl (by decide) _ _ _ rfl (hrow.alloc _) ⟨_, 0, none⟩ 1 1 [.int .i64 ((k : Int) + 1)] rfl rfl (cell_one_new _ _ _) (by simp [Value.oneCell']) (by unfold maxLen; omega) (by omega) (by have := hB.size; simp; omega) ?_; intro v' w1 hown' hgrow _))
        go_roundw
        case rel => exact ⟨k + 1, by omega, by go_num, by rw [unhide HS]; simpa using hown', below_append hB hrow hgrow hB.size⟩
        case measure => simp [intOf]; omega
    · have hk16 : k = 16 := by omega
      subst hk16
      have hlt' : ¬ ((16 : Nat) : Int) + 1 ≤ 16 := by omega
      have HB := hide hB
      have HR := hide hrow
      clear hB hrow
      go_wp2
      go_ret
      exact ⟨_, rfl, intsAt_of_owns (unhide HR), unhide HB⟩
theorem listOf_ok (c : Nat) (h : c ≤ 65535) (w : World) : Calls Tryz.prog 74 #[.int .i64 c] w fun e w' => ∃ v, e = .returned v ∧ IntsAt w' v (ints (Cm.nodes c)) ∧ Below w.heap.size w w' := by
  rw [← lst_nodes c]
  exact listOf_walk c c w fun i hi w => hasN_ok c i h hi w
theorem listOf_no (c : Int) (h : ¬ (0 ≤ c ∧ c ≤ 65535)) (w : World) : Calls Tryz.prog 74 #[.int .i64 c] w fun e w' => ∃ v, e = .returned v ∧ IntsAt w' v [] ∧ Below w.heap.size w w' := by
  have e : lst 16 0 = [] := by decide
  rw [← e]
  refine listOf_walk c 0 w fun i hi w => ?_
  rw [Nat.zero_testBit]
  exact hasN_no c _ (fun h2 => h h2.1) w

theorem isCrew_any (c : Int) : ∃ b : Bool, (b = true ↔ okC c) ∧ ∀ w, Calls Tryz.prog 15 #[.int .i64 c] w fun e w' => e = .returned (.bool b) ∧ w' = w := by
  by_cases h : okC c
  · obtain ⟨x, rfl⟩ : ∃ x : Nat, c = (x : Int) := ⟨c.toNat, by have := h.1; omega⟩
    exact ⟨true, by simp [h], fun w => isCrew_yes x (by have := h.2; omega) w⟩
  · exact ⟨false, by simp [h], fun w => isCrew_no c (by unfold okC at h; omega) w⟩
end Go.Proofs.YtglhapkclpllfacGreatDoor
