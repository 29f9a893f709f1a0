/-
  Contracts of the document's answer, chapter 2: Bare, PlanFault, SlotFault, NextOf.
-/
import Derived.Test.YtglhapkclpllfaaDoorRefOf
import Derived.Test.YtglhapkclpllfaaDoorPlan1
namespace Go.Proofs.YtglhapkclpllfaaDoor
open Go.RowKit

theorem planFault_none (v : Value) (xs : List Int) (w : World) (hv : IntsIn w v xs) (h : xs.length = 0) :
    Calls Tryd.prog 29 #[v] w fun e w' => e = .returned (.agg #[.int .i64 5, .int .i64 (-1)]) ∧ Below w.heap.size w w' := by
  obtain ⟨ad, cap, rfl, _⟩ := hv
  have h0 : (xs.length : Int) = 0 := by omega
  clear h
  go_enter Tryd.func29, Tryd.ntmps29
  go_wp2_with fail
  refine (bare_ok 5 _).mono ?_
  rintro e w2 ⟨rfl, hB2⟩
  obtain ⟨hc0, hc1, hf0, hf1, hB⟩ := res_cells hB2
  have HB := hide hB
  clear hB2 hB
  go_wp2
  exact bodyPost_ret (v := .agg #[.int .i64 5, .int .i64 (-1)]) (by simp [results, Tryd.results29, go_sem, hc0, hc1]) rfl ⟨rfl, below_res (unhide HB) _ _⟩
theorem planFault_full (v : Value) (xs : List Int) (w : World) (hv : IntsIn w v xs) (h : 32 < xs.length) :
    Calls Tryd.prog 29 #[v] w fun e w' => e = .returned (.agg #[.int .i64 7, .int .i64 (-1)]) ∧ Below w.heap.size w w' := by
  obtain ⟨ad, cap, rfl, _⟩ := hv
  have h0 : ¬ (xs.length : Int) = 0 := by omega
  have h1 : (32 : Int) < (xs.length : Int) := by omega
  clear h
  go_enter Tryd.func29, Tryd.ntmps29
  go_wp2_with fail
  refine (bare_ok 7 _).mono ?_
  rintro e w2 ⟨rfl, hB2⟩
  obtain ⟨hc0, hc1, hf0, hf1, hB⟩ := res_cells hB2
  have HB := hide hB
  clear hB2 hB
  go_wp2
  exact bodyPost_ret (v := .agg #[.int .i64 7, .int .i64 (-1)]) (by simp [results, Tryd.results29, go_sem, hc0, hc1]) rfl ⟨rfl, below_res (unhide HB) _ _⟩
theorem planFault_walk (v : Value) (xs : List Int) (m : Nat) (w : World) (hv : IntsIn w v xs) (h0 : xs.length ≠ 0) (h32 : xs.length ≤ 32) (hm : m ≤ xs.length) (hn : ∀ i, i < m → Cm.isNode (xs.getD i 0)) (hbad : m < xs.length → ¬ Cm.isNode (xs.getD m 0)) :
    Calls Tryd.prog 29 #[v] w fun e w' => ((m = xs.length ∧ e = .returned (.agg #[.int .i64 0, .int .i64 (-1)])) ∨ (m < xs.length ∧ e = .returned (.agg #[.int .i64 4, .int .i64 m]))) ∧ Below w.heap.size w w' := by
  have hb1 : Below w.heap.size w (w.alloc (.cells #[.int .i64 0, .int .i64 0] 51)) := (Below.refl _ _).alloc (Nat.le_refl _) _
  have hv1 := hv.below hb1
  obtain ⟨ad, cap, rfl, _⟩ := hv
  have hcells : ∀ k, k < xs.length → ∃ b off, ad = some ⟨b, off, none⟩ ∧ (w.alloc (.cells #[.int .i64 0, .int .i64 0] 51)).cell? ⟨b, off + k, none⟩ = some (.int .i64 (xs.getD k 0)) := fun k hk => by
    obtain ⟨ad', cap', e, hc⟩ := hv1
    cases e
    exact hc k hk
  have HV := hide hcells
  have Hn := hide hn
  have Hbad := hide hbad
  have HB1 := hide hb1
  obtain ⟨n, hn'⟩ : ∃ n, xs.length = n := ⟨_, rfl⟩
  have Hl : Hid (xs.length = n) := hn'
  rw [hn'] at hm h0 h32 ⊢
  have h0' : ¬ (n : Int) = 0 := by omega
  have h1' : ¬ (32 : Int) < (n : Int) := by omega
  clear hn' hcells hn hbad hv1 hb1
  go_enter Tryd.func29, Tryd.ntmps29
  go_wp2
  go_loop [3] (fun i => ∃ k : Nat, k ≤ m ∧ i = .int .i64 k) (fun i => n - (intOf i).toNat)
  case atStart => exact ⟨0, by omega, rfl⟩
  case round =>
    obtain ⟨k, hk, rfl⟩ := hrel
    by_cases hlt : k < n
    · obtain ⟨b, off, rfl, hc⟩ := unhide HV k (by rw [unhide Hl]; exact hlt)
      obtain ⟨x, hx⟩ : ∃ x, xs.getD k 0 = x := ⟨_, rfl⟩
      rw [hx] at hc
      have HX := hide hx
      clear hx
      by_cases hkm : k < m
      · have HN : Hid (Cm.isNode x) := by
          have := unhide Hn k hkm
          rw [unhide HX] at this
          exact this
        go_wp2_with (go_at_call 51; refine (isNode_yes x (unhide HN) _).mono ?_; rintro e w' ⟨rfl, rfl⟩)
        go_round
        case rel => exact ⟨k + 1, by omega, by go_num⟩
        case measure => simp [intOf]; omega
      · have hkm' : k = m := by omega
        subst hkm'
        have HN : Hid (¬ Cm.isNode x) := by
          have := unhide Hbad (by rw [unhide Hl]; exact hlt)
          rw [unhide HX] at this
          exact this
        go_wp2_with (go_at_call 51; refine (isNode_no x (unhide HN) _).mono ?_; rintro e w' ⟨rfl, rfl⟩)
        exact bodyPost_ret (v := .agg #[.int .i64 4, .int .i64 k]) (by simp [results, Tryd.results29, go_sem]) rfl ⟨Or.inr ⟨hlt, rfl⟩, (Below.refl _ _).alloc (Nat.le_refl _) _⟩
    · have hkm : k = m := by omega
      have hkn : k = n := by omega
      subst hkm
      subst hkn
      go_wp2_with fail
      refine (fine_ok _).mono ?_
      rintro e w2 ⟨rfl, hB2⟩
      obtain ⟨hc0, hc1, hf0, hf1, hB⟩ := res_cells hB2
      have HB := hide hB
      clear hB2 hB
      go_wp2
      exact bodyPost_ret (v := .agg #[.int .i64 0, .int .i64 (-1)]) (by simp [results, Tryd.results29, go_sem, hc0, hc1]) rfl ⟨rfl, below_res (unhide HB) _ _⟩
theorem planFault_ok (v : Value) (xs : List Int) (w : World) (hv : IntsIn w v xs) (h : planOk xs) :
    Calls Tryd.prog 29 #[v] w fun e w' => e = .returned (.agg #[.int .i64 0, .int .i64 (-1)]) ∧ Below w.heap.size w w' :=
  (planFault_walk v xs xs.length w hv h.1 h.2.1 (Nat.le_refl _) (fun i hi => h.2.2 _ (getD_mem xs i hi)) (fun h => absurd h (Nat.lt_irrefl _))).mono fun _ _ h => by
    rcases h with ⟨h | h, hB⟩
    · exact ⟨h.2, hB⟩
    · exact absurd h.1 (Nat.lt_irrefl _)
/-- A plan that is not right: what the document answers, and how the program's error fits. -/
theorem planFault_no (xs : List Int) (h : ¬ planOk xs) : ∃ c n : Int, 0 < c ∧
    (∀ v w, IntsIn w v xs → Calls Tryd.prog 29 #[v] w fun e w' => e = .returned (.agg #[.int .i64 c, .int .i64 n]) ∧ Below w.heap.size w w') ∧
    ∀ e w t p, PlanErr e w xs t p → (∃ k : Nat, (k = 4 ∨ k = 6) ∧ t = (e k).1 ∧ p = (e k).2 ∧ c = (k : Int) + 1 ∧ n = -1) ∨
      ∃ pb, t = 29 ∧ p = .pointer (some ⟨pb, 0, none⟩) ∧ c = 4 ∧ w.cell? ⟨pb, 0, none⟩ = some (.int .i64 n) ∧ w.cell? ⟨pb, 0 + 1, none⟩ = some (.iface (e 3).1 (e 3).2) := by
  by_cases h0 : xs.length = 0
  · refine ⟨5, -1, by omega, fun v w hv => planFault_none v xs w hv h0, fun e w t p hp => ?_⟩
    rcases hp with ⟨_, rfl, rfl⟩ | ⟨h, _⟩ | ⟨m, pb, h, _⟩
    · exact Or.inl ⟨4, Or.inl rfl, rfl, rfl, rfl, rfl⟩
    · omega
    · omega
  by_cases h1 : 32 < xs.length
  · refine ⟨7, -1, by omega, fun v w hv => planFault_full v xs w hv h1, fun e w t p hp => ?_⟩
    rcases hp with ⟨h, _⟩ | ⟨_, rfl, rfl⟩ | ⟨m, pb, _, h, _⟩
    · omega
    · exact Or.inl ⟨6, Or.inr rfl, rfl, rfl, rfl, rfl⟩
    · omega
  obtain ⟨m, hm, a2, a3⟩ := not_planOk h h0 (by omega)
  refine ⟨4, m, by omega, fun v w hv => ?_, fun e w t p hp => ?_⟩
  · refine (planFault_walk v xs m w hv h0 (by omega) (by omega) a2 (fun _ => a3)).mono ?_
    rintro e w' ⟨⟨h, _⟩ | ⟨_, rfl⟩, hB⟩
    · omega
    · exact ⟨rfl, hB⟩
  · rcases hp with ⟨h, _⟩ | ⟨h, _⟩ | ⟨m', pb, _, _, hm', b2, b3, rfl, rfl, c0, c1⟩
    · omega
    · omega
    · have : m' = m := by
        rcases Nat.lt_trichotomy m' m with h | h | h
        · exact absurd (a2 m' h) b3
        · exact h
        · exact absurd (b2 m h) a3
      subst this
      exact Or.inr ⟨pb, rfl, rfl, rfl, c0, c1⟩
/-- The result's own cells, behind another variable of the call. -/
theorem below_res2 {w w3 : World} {b : Nat} (hB : Below w.heap.size w w3) (hb : w.heap.size ≤ b) (x y x' y' : Value) :
    Below w.heap.size w ((((w3.setCell ⟨b, 0, none⟩ x).setCell ⟨b, 1, none⟩ y).setCell ⟨w.heap.size, 0, none⟩ x').setCell ⟨w.heap.size, 1, none⟩ y') :=
  below_res ((hB.setCell (p := ⟨b, 0, none⟩) hb _).setCell (p := ⟨b, 1, none⟩) hb _) _ _
theorem slotFault_keep (v : Value) (xs : List Int) (s c n : Int) (w : World) (hv : IntsIn w v xs) (hp : ∀ w', IntsIn w' v xs → Calls Tryd.prog 29 #[v] w' fun e w2 => e = .returned (.agg #[.int .i64 c, .int .i64 n]) ∧ Below w'.heap.size w' w2) (hc : 0 < c) :
    Calls Tryd.prog 32 #[v, .int .i64 s] w fun e w' => e = .returned (.agg #[.int .i64 c, .int .i64 n]) ∧ Below w.heap.size w w' := by
  have HP := hide (hp _ (hv.below ((Below.refl _ _).alloc (Nat.le_refl _) (.cells #[.int .i64 0, .int .i64 0] 51))))
  obtain ⟨ad, cap, rfl, _⟩ := hv
  have h1 : (c == 0) = false := by simp; omega
  have h2 : ¬ c = 0 := by omega
  clear hc hp
  go_enter Tryd.func32, Tryd.ntmps32
  go_wp2_with fail
  refine (unhide HP).mono ?_
  rintro e w2 ⟨rfl, hB2⟩
  obtain ⟨hc0, hc1, hf0, hf1, hB⟩ := res_alloc hB2 (.cells #[.int .i64 c, .int .i64 n] 51)
  have HB := hide hB
  clear hB2 hB
  go_wp2
  exact bodyPost_ret (v := .agg #[.int .i64 c, .int .i64 n]) (by simp [results, Tryd.results32, go_sem, hc0, hc1]) rfl ⟨rfl, below_res (unhide HB) _ _⟩
theorem slotFault_in (v : Value) (xs : List Int) (s : Int) (w : World) (hv : IntsIn w v xs) (h : planOk xs) (hs : 0 ≤ s ∧ s ≤ 1000000) :
    Calls Tryd.prog 32 #[v, .int .i64 s] w fun e w' => e = .returned (.agg #[.int .i64 0, .int .i64 (-1)]) ∧ Below w.heap.size w w' := by
  have HP := hide (planFault_ok v xs _ (hv.below ((Below.refl _ _).alloc (Nat.le_refl _) (.cells #[.int .i64 0, .int .i64 0] 51))) h)
  obtain ⟨ad, cap, rfl, _⟩ := hv
  have h1 : ¬ s < 0 := by omega
  have h2 : ¬ 1000000 < s := by omega
  clear h hs
  go_enter Tryd.func32, Tryd.ntmps32
  go_wp2_with fail
  refine (unhide HP).mono ?_
  rintro e w2 ⟨rfl, hB2⟩
  obtain ⟨hc0, hc1, hf0, hf1, hB⟩ := res_alloc hB2 (.cells #[.int .i64 0, .int .i64 (-1)] 51)
  have HB := hide hB
  clear hB2 hB
  go_wp2
  exact bodyPost_ret (v := .agg #[.int .i64 0, .int .i64 (-1)]) (by simp [results, Tryd.results32, go_sem, hc0, hc1]) rfl ⟨rfl, below_res (unhide HB) _ _⟩
theorem slotFault_far (v : Value) (xs : List Int) (s : Int) (w : World) (hv : IntsIn w v xs) (h : planOk xs) (hs : ¬ (0 ≤ s ∧ s ≤ 1000000)) :
    Calls Tryd.prog 32 #[v, .int .i64 s] w fun e w' => e = .returned (.agg #[.int .i64 2, .int .i64 (-1)]) ∧ Below w.heap.size w w' := by
  have HP := hide (planFault_ok v xs _ (hv.below ((Below.refl _ _).alloc (Nat.le_refl _) (.cells #[.int .i64 0, .int .i64 0] 51))) h)
  obtain ⟨ad, cap, rfl, _⟩ := hv
  clear h
  by_cases h1 : s < 0
  · clear hs
    go_enter Tryd.func32, Tryd.ntmps32
    go_wp2_with fail
    refine (unhide HP).mono ?_
    rintro e w2 ⟨rfl, hB2⟩
    have HB2 := hide hB2
    clear hB2
    go_wp2_with fail
    refine (bare_ok 2 _).mono ?_
    rintro e w3 ⟨rfl, hB3⟩
    have hq0 := below_cell hB3 (show (w2.alloc (.cells #[.int .i64 0, .int .i64 (-1)] 51)).cell? ⟨w2.heap.size, 0, none⟩ = some (.int .i64 0) by simp)
    have hq1 := below_cell hB3 (show (w2.alloc (.cells #[.int .i64 0, .int .i64 (-1)] 51)).cell? ⟨w2.heap.size, 0 + 1, none⟩ = some (.int .i64 (-1)) by simp)
    have hg0 : w3.frozen? ⟨w2.heap.size, 0, none⟩ = false := (hB3.frozen (p := ⟨w2.heap.size, 0, none⟩) (by simp)).trans (by simp)
    have hg1 : w3.frozen? ⟨w2.heap.size, 0 + 1, none⟩ = false := (hB3.frozen (p := ⟨w2.heap.size, 0 + 1, none⟩) (by simp)).trans (by simp)
    obtain ⟨hc0, hc1, hf0, hf1, hB⟩ := res_cells (((unhide HB2).alloc (unhide HB2).size (.cells #[.int .i64 0, .int .i64 (-1)] 51)).trans (hB3.mono (by have := (unhide HB2).size; simp at this ⊢; omega)))
    have hlt : w.heap.size < w2.heap.size := by have := (unhide HB2).size; simp at this; omega
    have hne : ¬ w.heap.size = w2.heap.size := by omega
    have hne' : ¬ w2.heap.size = w.heap.size := by omega
    have HB := hide hB
    clear hB3 hB
    go_wp2
    exact bodyPost_ret (v := .agg #[.int .i64 2, .int .i64 (-1)]) (by simp [results, Tryd.results32, go_sem, hc0, hc1]) rfl ⟨rfl, below_res2 (unhide HB) (Nat.le_of_lt hlt) _ _ _ _⟩
  · have h2 : 1000000 < s := by omega
    clear hs
    go_enter Tryd.func32, Tryd.ntmps32
    go_wp2_with fail
    refine (unhide HP).mono ?_
    rintro e w2 ⟨rfl, hB2⟩
    have HB2 := hide hB2
    clear hB2
    go_wp2_with fail
    refine (bare_ok 2 _).mono ?_
    rintro e w3 ⟨rfl, hB3⟩
    have hq0 := below_cell hB3 (show (w2.alloc (.cells #[.int .i64 0, .int .i64 (-1)] 51)).cell? ⟨w2.heap.size, 0, none⟩ = some (.int .i64 0) by simp)
    have hq1 := below_cell hB3 (show (w2.alloc (.cells #[.int .i64 0, .int .i64 (-1)] 51)).cell? ⟨w2.heap.size, 0 + 1, none⟩ = some (.int .i64 (-1)) by simp)
    have hg0 : w3.frozen? ⟨w2.heap.size, 0, none⟩ = false := (hB3.frozen (p := ⟨w2.heap.size, 0, none⟩) (by simp)).trans (by simp)
    have hg1 : w3.frozen? ⟨w2.heap.size, 0 + 1, none⟩ = false := (hB3.frozen (p := ⟨w2.heap.size, 0 + 1, none⟩) (by simp)).trans (by simp)
    obtain ⟨hc0, hc1, hf0, hf1, hB⟩ := res_cells (((unhide HB2).alloc (unhide HB2).size (.cells #[.int .i64 0, .int .i64 (-1)] 51)).trans (hB3.mono (by have := (unhide HB2).size; simp at this ⊢; omega)))
    have hlt : w.heap.size < w2.heap.size := by have := (unhide HB2).size; simp at this; omega
    have hne : ¬ w.heap.size = w2.heap.size := by omega
    have hne' : ¬ w2.heap.size = w.heap.size := by omega
    have HB := hide hB
    clear hB3 hB
    go_wp2
    exact bodyPost_ret (v := .agg #[.int .i64 2, .int .i64 (-1)]) (by simp [results, Tryd.results32, go_sem, hc0, hc1]) rfl ⟨rfl, below_res2 (unhide HB) (Nat.le_of_lt hlt) _ _ _ _⟩
end Go.Proofs.YtglhapkclpllfaaDoor
