/-
  Contracts of the document's answer, chapter 8: HistoryFault, whatever the history is.
-/
import Derived.Test.YtglhapkclpllfadGreatDoorGh
import Derived.Test.YtglhapkclpllfadGreatDoorRef0
import Derived.Test.YtglhapkclpllfadGreatDoorRefRes
namespace Go.Proofs.YtglhapkclpllfadGreatDoor
open Go.RowKit

theorem isNode_any (n : Int) (w : World) : Calls Tryz.prog 18 #[.int .i64 n] w fun e w' => e = .returned (.bool (decide (1 ≤ n ∧ n ≤ 16))) ∧ w' = w := by
  by_cases h : Cm.isNode n
  · rw [show decide (1 ≤ n ∧ n ≤ 16) = true from decide_eq_true h]; exact isNode_yes n h w
  · rw [show decide (1 ≤ n ∧ n ≤ 16) = false from decide_eq_false h]; exact isNode_no n h w
theorem histFault_full (v : Value) (l : List Ent) (w : World) (hv : EntsIn w v l) (h : 200 < l.length) :
    Calls Tryz.prog 5 #[v] w fun e w' => e = .returned (.agg #[.int .i64 7, .int .i64 (-1)]) ∧ Below w.heap.size w w' := by
  obtain ⟨ad, cap, rfl, _⟩ := EntsIn.at hv
  have h' : (200 : Int) < (l.length : Int) := by omega
  clear hv h
  go_enter Tryz.func5, Tryz.ntmps5
  go_wp2_with fail
  refine (bare_ok 7 _).mono ?_
  rintro e w2 ⟨rfl, hB2⟩
  obtain ⟨hc0, hc1, hf0, hf1, hB⟩ := res_cells hB2
  have HB := hide hB
  clear hB2 hB
  go_wp2
  exact bodyPost_ret (v := .agg #[.int .i64 7, .int .i64 (-1)]) (by simp [results, Tryz.results5, go_sem, hc0, hc1]) rfl ⟨rfl, below_res (unhide HB) _ _⟩
/-- What an entry that is not right is: by its first fault. -/
theorem ent_bad {i : Nat} {e : Ent} {c : Nat} (h : entErr i e = c) (h0 : c ≠ 0) :
    (e.slot ≠ (i : Int) ∧ c = 10) ∨ (e.slot = (i : Int) ∧ ¬ (1 ≤ e.src ∧ e.src ≤ 16) ∧ c = 4) ∨ (e.slot = (i : Int) ∧ (1 ≤ e.src ∧ e.src ≤ 16) ∧ (e.value < -1048576 ∨ 1048576 < e.value) ∧ c = 2) ∨
      (e.slot = (i : Int) ∧ (1 ≤ e.src ∧ e.src ≤ 16) ∧ (-1048576 ≤ e.value ∧ e.value ≤ 1048576) ∧ e.heard = false ∧ e.value ≠ 0 ∧ c = 3) := by
  unfold entErr at h
  by_cases h1 : e.slot ≠ (i : Int)
  · rw [if_pos h1] at h; exact Or.inl ⟨h1, h.symm⟩
  rw [if_neg h1] at h
  have h1' : e.slot = (i : Int) := Decidable.not_not.1 h1
  by_cases h2 : ¬ (1 ≤ e.src ∧ e.src ≤ 16)
  · rw [if_pos h2] at h; exact Or.inr (Or.inl ⟨h1', h2, h.symm⟩)
  rw [if_neg h2] at h
  have h2' : 1 ≤ e.src ∧ e.src ≤ 16 := Decidable.not_not.1 h2
  by_cases h3 : e.value < -1048576 ∨ 1048576 < e.value
  · rw [if_pos h3] at h; exact Or.inr (Or.inr (Or.inl ⟨h1', h2', h3, h.symm⟩))
  rw [if_neg h3] at h
  by_cases h4 : e.heard = false ∧ e.value ≠ 0
  · rw [if_pos h4] at h; exact Or.inr (Or.inr (Or.inr ⟨h1', h2', by omega, h4.1, h4.2, h.symm⟩))
  · rw [if_neg h4] at h; exact absurd h.symm h0
set_option maxRecDepth 100000 in
set_option maxHeartbeats 2000000 in
/-- The history is right up to m, and there it ends, or is not. -/
theorem histFault_walk (v : Value) (l : List Ent) (m c : Nat) (w : World) (hv : EntsIn w v l) (h200 : l.length ≤ 200) (hm : m ≤ l.length) (hn : ∀ i, i < m → entErr i (l.getD i Ent.zero) = 0) (hc : m < l.length → entErr m (l.getD m Ent.zero) = c ∧ c ≠ 0) :
    Calls Tryz.prog 5 #[v] w fun e w' => e = .returned (if m < l.length then .agg #[.int .i64 (c : Int), .int .i64 (m : Int)] else .agg #[.int .i64 0, .int .i64 (-1)]) ∧ Below w.heap.size w w' := by
  obtain ⟨ad, cap, rfl, hcell⟩ := EntsIn.at hv
  have HCell := hide hcell
  have HN := hide hn
  have HC := hide hc
  have h' : ¬ (200 : Int) < (l.length : Int) := by omega
  obtain ⟨n, hln⟩ : ∃ n, l.length = n := ⟨_, rfl⟩
  rw [hln] at HCell HC hm h' ⊢
  have hn200 : n ≤ 200 := by omega
  clear hv hcell hn hc h200 hln
  have hA : Below w.heap.size w (w.alloc (.cells #[.int .i64 0, .int .i64 0] 25)) := (Below.refl _ _).alloc (Nat.le_refl _) _
  obtain ⟨W, hW⟩ : ∃ W, W = w.alloc (.cells #[.int .i64 0, .int .i64 0] 25) := ⟨_, rfl⟩
  rw [← hW] at hA
  have r0 : W.cell? ⟨w.heap.size, 0, none⟩ = some (.int .i64 0) := by rw [hW]; simp
  have r1 : W.cell? ⟨w.heap.size, 0 + 1, none⟩ = some (.int .i64 0) := by rw [hW]; simp
  have f0 : W.frozen? ⟨w.heap.size, 0, none⟩ = false := by rw [hW]; simp
  have f1 : W.frozen? ⟨w.heap.size, 0 + 1, none⟩ = false := by rw [hW]; simp
  have HA := hide hA
  have HR := hide (And.intro r0 (And.intro r1 (And.intro f0 f1)))
  have HW := hide hW
  clear hA r0 r1 f0 f1 hW
  go_enter Tryz.func5, Tryz.ntmps5
  go_wp2_with fail
  go_loopw [3] (fun q wr => ∃ k : Nat, k ≤ m ∧ q = .int .i64 (k : Int) ∧ Hid (wr = W)) (fun q _ => n - (intOf q).toNat)
  case atStart => exact ⟨0, by omega, by simp, hide (unhide HW).symm⟩
  case round =>
    obtain ⟨k, hk, rfl, hwr⟩ := hrel
    have hwr := unhide hwr
    subst hwr
    clear HW
    by_cases hlt : k < n
    · obtain ⟨b, off, rfl, c0, c1, c2, c3⟩ := unhide HCell k hlt
      have d0 := below_cell (unhide HA) c0
      have d1 := below_cell (unhide HA) c1
      have d2 := below_cell (unhide HA) c2
      have d3 := below_cell (unhide HA) c3
      have k0 : (0 : Int) ≤ (k : Int) := Int.natCast_nonneg _
      have k1 : (k : Int) < (n : Int) := by omega
      have lb : b < w.heap.size := cell_lt c0
      by_cases hkm : k < m
      · obtain ⟨e0, ⟨e1, e2⟩, ⟨e3, e4⟩, e5⟩ := ent_right (unhide HN k hkm)
        clear c0 c1 c2 c3
        generalize (l.getD k Ent.zero).slot = x0 at *
        generalize (l.getD k Ent.zero).src = x1 at *
        generalize (l.getD k Ent.zero).heard = x2 at *
        generalize (l.getD k Ent.zero).value = x3 at *
        have hnd : decide (1 ≤ x1 ∧ x1 ≤ 16) = true := decide_eq_true ⟨e1, e2⟩
        subst e0
        cases x2 with
        | true =>
          clear e5
          go_wp2_with (go_at_call 18; refine (isNode_any _ _).mono ?_; rintro E w3 ⟨rfl, rfl⟩)
          go_roundw
          case rel => exact ⟨k + 1, by omega, by go_num, by trivial⟩
          case measure => simp [intOf]; omega
        | false =>
          obtain rfl := e5 rfl
          go_wp2_with (go_at_call 18; refine (isNode_any _ _).mono ?_; rintro E w3 ⟨rfl, rfl⟩)
          go_roundw
          case rel => exact ⟨k + 1, by omega, by go_num, by trivial⟩
          case measure => simp [intOf]; omega
      · have hkm' : k = m := by omega
        subst hkm'
        obtain ⟨hce, hc0⟩ := unhide HC hlt
        obtain ⟨r0, r1, f0, f1⟩ := unhide HR
        have hb := ent_bad hce hc0
        clear c0 c1 c2 c3 hce
        generalize (l.getD k Ent.zero).slot = x0 at *
        generalize (l.getD k Ent.zero).src = x1 at *
        generalize (l.getD k Ent.zero).heard = x2 at *
        generalize (l.getD k Ent.zero).value = x3 at *
        have hv4 : x3 = 0 ∨ (¬ x3 = 0 ∧ ¬ x3 < -1048576 ∧ ¬ 1048576 < x3) ∨ (¬ x3 = 0 ∧ x3 < -1048576) ∨ (¬ x3 = 0 ∧ ¬ x3 < -1048576 ∧ 1048576 < x3) := by omega
        have Hlt := hide hlt
        rcases hb with ⟨hg, rfl⟩ | ⟨rfl, hnn, rfl⟩ | ⟨rfl, hnn, hbd, rfl⟩ | ⟨rfl, hnn, hr, rfl, hz, rfl⟩
        · have hnd2 : decide (1 ≤ x1 ∧ x1 ≤ 16) = true ∨ decide (1 ≤ x1 ∧ x1 ≤ 16) = false := by cases decide (1 ≤ x1 ∧ x1 ≤ 16) <;> simp
          clear hc0
          rcases hv4 with rfl | ⟨z1, z2, z3⟩ | ⟨z1, z2⟩ | ⟨z1, z2, z3⟩ <;> rcases hnd2 with hnd | hnd <;> cases x2
          all_goals
            go_wp2_with (go_at_call 18; refine (isNode_any _ _).mono ?_; rintro E w3 ⟨rfl, rfl⟩)
            exact bodyPost_ret (v := .agg #[.int .i64 10, .int .i64 (k : Int)]) (by simp [results, Tryz.results5, go_sem, r0, r1]) rfl ⟨rfl, below_res (unhide HA) _ _⟩
        · have hnd : decide (1 ≤ x1 ∧ x1 ≤ 16) = false := decide_eq_false hnn
          clear hc0 hnn
          rcases hv4 with rfl | ⟨z1, z2, z3⟩ | ⟨z1, z2⟩ | ⟨z1, z2, z3⟩ <;> cases x2
          all_goals
            go_wp2_with (go_at_call 18; refine (isNode_any _ _).mono ?_; rintro E w3 ⟨rfl, rfl⟩)
            exact bodyPost_ret (v := .agg #[.int .i64 4, .int .i64 (k : Int)]) (by simp [results, Tryz.results5, go_sem, r0, r1]) rfl ⟨rfl, below_res (unhide HA) _ _⟩
        · have hnd : decide (1 ≤ x1 ∧ x1 ≤ 16) = true := decide_eq_true hnn
          clear hc0 hnn
          have hv2 : (¬ x3 = 0 ∧ x3 < -1048576) ∨ (¬ x3 = 0 ∧ ¬ x3 < -1048576 ∧ 1048576 < x3) := by omega
          clear hv4 hbd
          rcases hv2 with ⟨z1, z2⟩ | ⟨z1, z2, z3⟩ <;> cases x2
          all_goals
            go_wp2_with (go_at_call 18; refine (isNode_any _ _).mono ?_; rintro E w3 ⟨rfl, rfl⟩)
            exact bodyPost_ret (v := .agg #[.int .i64 2, .int .i64 (k : Int)]) (by simp [results, Tryz.results5, go_sem, r0, r1]) rfl ⟨rfl, below_res (unhide HA) _ _⟩
        · have hnd : decide (1 ≤ x1 ∧ x1 ≤ 16) = true := decide_eq_true hnn
          obtain ⟨z2, z3⟩ : ¬ x3 < -1048576 ∧ ¬ 1048576 < x3 := by omega
          clear hc0 hnn hv4 hr
          go_wp2_with (go_at_call 18; refine (isNode_any _ _).mono ?_; rintro E w3 ⟨rfl, rfl⟩)
          exact bodyPost_ret (v := .agg #[.int .i64 3, .int .i64 (k : Int)]) (by simp [results, Tryz.results5, go_sem, r0, r1]) rfl ⟨rfl, below_res (unhide HA) _ _⟩
    · have hkn : k = n := by omega
      have hmn : m = n := by omega
      subst hkn
      subst hmn
      go_wp2_with fail
      refine (fine_ok _).mono ?_
      rintro e w2 ⟨rfl, hB2⟩
      obtain ⟨r0, r1, f0, f1⟩ := unhide HR
      have g0 := below_cell hB2 r0
      have g1 := below_cell hB2 r1
      have g2 := (hB2.frozen (p := ⟨w.heap.size, 0, none⟩) (cell_lt r0)).trans f0
      have g3 := (hB2.frozen (p := ⟨w.heap.size, 0 + 1, none⟩) (cell_lt r1)).trans f1
      have HB := hide ((unhide HA).trans (hB2.mono (unhide HA).size))
      clear hB2 r0 r1 f0 f1
      go_wp2
      exact bodyPost_ret (v := .agg #[.int .i64 0, .int .i64 (-1)]) (by simp [results, Tryz.results5, go_sem, g0, g1]) rfl ⟨by simp, below_res (unhide HB) _ _⟩
end Go.Proofs.YtglhapkclpllfadGreatDoor
