/-
  Contracts of the document's answer, chapter 5: TickError, PassFault, WaitOf.
-/
import Derived.Test.YtglhapkclpllfabDoorRefNext
import Derived.Test.YtglhapkclpllfabDoorGuard1
namespace Go.Proofs.YtglhapkclpllfabDoor
open Go.RowKit

theorem tickError_yes (long t : Int) (w : World) (h : tickOk long t) : Calls Tryd.prog 22 #[.int .i64 long, .int .i64 t] w fun e w' => e = .returned (.int .i64 0) ∧ w' = w := by
  obtain ⟨⟨h1, h2⟩, h3, h4⟩ := h
  go_enter Tryd.func22, Tryd.ntmps22
  go_wp2
  go_ret
  exact ⟨rfl, rfl⟩
theorem tickError_no (long t : Int) (w : World) (h : ¬ tickOk long t) : Calls Tryd.prog 22 #[.int .i64 long, .int .i64 t] w fun e w' => e = .returned (.int .i64 2) ∧ w' = w := by
  by_cases h1 : long < 1
  · clear h
    go_enter Tryd.func22, Tryd.ntmps22
    go_wp2
    go_ret
    exact ⟨rfl, rfl⟩
  by_cases h2 : 1000000 < long
  · clear h
    go_enter Tryd.func22, Tryd.ntmps22
    go_wp2
    go_ret
    exact ⟨rfl, rfl⟩
  by_cases h3 : t < 0
  · clear h
    go_enter Tryd.func22, Tryd.ntmps22
    go_wp2
    go_ret
    exact ⟨rfl, rfl⟩
  have h4 : 1000000 < t := by unfold tickOk at h; omega
  clear h
  go_enter Tryd.func22, Tryd.ntmps22
  go_wp2
  go_ret
  exact ⟨rfl, rfl⟩
theorem passFault_tick (v : Value) (xs : List Int) (long node t : Int) (w : World) (hv : IntsIn w v xs) (h : ¬ tickOk long t) :
    Calls Tryd.prog 24 #[v, .int .i64 long, .int .i64 node, .int .i64 t] w fun e w' => e = .returned (.agg #[.int .i64 2, .int .i64 (-1)]) ∧ Below w.heap.size w w' := by
  obtain ⟨ad, cap, rfl, _⟩ := hv
  have HT : Hid (∀ w', Calls Tryd.prog 22 #[.int .i64 long, .int .i64 t] w' fun e w2 => e = .returned (.int .i64 2) ∧ w2 = w') := fun w' => tickError_no long t w' h
  clear h
  go_enter Tryd.func24, Tryd.ntmps24
  go_wp2_with fail
  refine (unhide HT _).mono ?_
  rintro e w1 ⟨rfl, rfl⟩
  go_wp2_with fail
  refine (bare_ok 2 _).mono ?_
  rintro e w2 ⟨rfl, hB2⟩
  obtain ⟨hc0, hc1, hf0, hf1, hB⟩ := res_cells hB2
  have HB := hide hB
  clear hB2 hB
  go_wp2
  exact bodyPost_ret (v := .agg #[.int .i64 2, .int .i64 (-1)]) (by simp [results, Tryd.results24, go_sem, hc0, hc1]) rfl ⟨rfl, below_res (unhide HB) _ _⟩
theorem passFault_keep (v : Value) (xs : List Int) (long t : Nat) (node c n : Int) (w : World) (hv : IntsIn w v xs) (h : tickOk long t) (hp : ∀ w', IntsIn w' v xs → Calls Tryd.prog 38 #[v] w' fun e w2 => e = .returned (.agg #[.int .i64 c, .int .i64 n]) ∧ Below w'.heap.size w' w2) (hc : 0 < c) :
    Calls Tryd.prog 24 #[v, .int .i64 long, .int .i64 node, .int .i64 t] w fun e w' => e = .returned (.agg #[.int .i64 c, .int .i64 n]) ∧ Below w.heap.size w w' := by
  have HP := hide (hp _ (hv.below ((Below.refl _ _).alloc (Nat.le_refl _) (.cells #[.int .i64 0, .int .i64 0] 32))))
  have HT : Hid (∀ w', Calls Tryd.prog 22 #[.int .i64 long, .int .i64 t] w' fun e w2 => e = .returned (.int .i64 0) ∧ w2 = w') := fun w' => tickError_yes long t w' h
  obtain ⟨ad, cap, rfl, _⟩ := hv
  have h1 : (c == 0) = false := by simp; omega
  have h2 : ¬ c = 0 := by omega
  clear hc hp h
  go_enter Tryd.func24, Tryd.ntmps24
  go_wp2_with fail
  refine (unhide HT _).mono ?_
  rintro e w1 ⟨rfl, rfl⟩
  go_wp2_with fail
  refine (unhide HP).mono ?_
  rintro e w2 ⟨rfl, hB2⟩
  obtain ⟨hc0, hc1, hf0, hf1, hB⟩ := res_alloc hB2 (.cells #[.int .i64 c, .int .i64 n] 32)
  have HB := hide hB
  clear hB2 hB
  go_wp2
  exact bodyPost_ret (v := .agg #[.int .i64 c, .int .i64 n]) (by simp [results, Tryd.results24, go_sem, hc0, hc1]) rfl ⟨rfl, below_res (unhide HB) _ _⟩
/-- Numbers of a tick's slot. -/
theorem slot_nums (long t n : Nat) (h : tickOk long t) (hn : 0 < n) : (t : Int).tdiv (long : Int) = ((t / long : Nat) : Int) ∧ ((t / long : Nat) : Int).tmod (n : Int) = ((t / long % n : Nat) : Int) ∧ t / long ≤ 1000000 ∧ t / long % n < n :=
  ⟨by simp, by rw [Int.tmod_eq_emod_of_nonneg (Int.natCast_nonneg _)]; simp, Nat.le_trans (Nat.div_le_self _ _) (by have := h.2.2; omega), Nat.mod_lt _ hn⟩
theorem passFault_mine (v : Value) (xs : List Int) (long t : Nat) (node : Int) (w : World) (hv : IntsIn w v xs) (h : tickOk long t) (hp : planOk xs) (ho : ownerAt xs long t = node) :
    Calls Tryd.prog 24 #[v, .int .i64 long, .int .i64 node, .int .i64 t] w fun e w' => e = .returned (.agg #[.int .i64 0, .int .i64 (-1)]) ∧ Below w.heap.size w w' := by
  have HP := hide (planFault_ok v xs _ (hv.below ((Below.refl _ _).alloc (Nat.le_refl _) (.cells #[.int .i64 0, .int .i64 0] 32))) hp)
  have HT : Hid (∀ w', Calls Tryd.prog 22 #[.int .i64 long, .int .i64 t] w' fun e w2 => e = .returned (.int .i64 0) ∧ w2 = w') := fun w' => tickError_yes long t w' h
  obtain ⟨n1, n2, n3, n4⟩ := slot_nums long t xs.length h (by have := hp.1; omega)
  have hl0 : ¬ (long : Int) = 0 := by have := h.1.1; omega
  have hn0 : ¬ (xs.length : Int) = 0 := by omega
  have hn32 := hp.2.1
  obtain ⟨ad, cap, rfl, hcells⟩ := hv
  obtain ⟨b, off, rfl, hc⟩ := hcells _ n4
  have HC : Hid (w.cell? ⟨b, off + t / long % xs.length, none⟩ = some (.int .i64 node)) := by
    show _ = _
    rw [hc]
    unfold ownerAt at ho
    rw [ho]
  clear h hp hcells hc ho
  generalize t / long % xs.length = r at *
  generalize t / long = q at *
  generalize xs.length = n at *
  go_enter Tryd.func24, Tryd.ntmps24
  go_wp2_with fail
  refine (unhide HT _).mono ?_
  rintro e w1 ⟨rfl, rfl⟩
  go_wp2_with fail
  refine (unhide HP).mono ?_
  rintro e w2 ⟨rfl, hB2⟩
  obtain ⟨hc0, hc1, hf0, hf1, hB⟩ := res_alloc hB2 (.cells #[.int .i64 0, .int .i64 (-1)] 32)
  have hcell := below_cell hB (unhide HC)
  have HB := hide hB
  clear hB2 hB
  go_wp2
  exact bodyPost_ret (v := .agg #[.int .i64 0, .int .i64 (-1)]) (by simp [results, Tryd.results24, go_sem, hc0, hc1]) rfl ⟨rfl, below_res (unhide HB) _ _⟩
theorem passFault_late (v : Value) (xs : List Int) (long t : Nat) (node : Int) (w : World) (hv : IntsIn w v xs) (h : tickOk long t) (hp : planOk xs) (ho : ownerAt xs long t ≠ node) :
    Calls Tryd.prog 24 #[v, .int .i64 long, .int .i64 node, .int .i64 t] w fun e w' => e = .returned (.agg #[.int .i64 9, .int .i64 (-1)]) ∧ Below w.heap.size w w' := by
  have HP := hide (planFault_ok v xs _ (hv.below ((Below.refl _ _).alloc (Nat.le_refl _) (.cells #[.int .i64 0, .int .i64 0] 32))) hp)
  have HT : Hid (∀ w', Calls Tryd.prog 22 #[.int .i64 long, .int .i64 t] w' fun e w2 => e = .returned (.int .i64 0) ∧ w2 = w') := fun w' => tickError_yes long t w' h
  obtain ⟨n1, n2, n3, n4⟩ := slot_nums long t xs.length h (by have := hp.1; omega)
  have hl0 : ¬ (long : Int) = 0 := by have := h.1.1; omega
  have hn0 : ¬ (xs.length : Int) = 0 := by omega
  have hn32 := hp.2.1
  obtain ⟨ad, cap, rfl, hcells⟩ := hv
  obtain ⟨b, off, rfl, hc⟩ := hcells _ n4
  have HC : Hid (w.cell? ⟨b, off + t / long % xs.length, none⟩ = some (.int .i64 (ownerAt xs long t))) := hc
  clear h hp hcells hc
  generalize ownerAt xs long t = x at *
  generalize t / long % xs.length = r at *
  generalize t / long = q at *
  generalize xs.length = n at *
  go_enter Tryd.func24, Tryd.ntmps24
  go_wp2_with fail
  refine (unhide HT _).mono ?_
  rintro e w1 ⟨rfl, rfl⟩
  go_wp2_with fail
  refine (unhide HP).mono ?_
  rintro e w2 ⟨rfl, hB2⟩
  have hcell := below_cell (res_alloc hB2 (.cells #[.int .i64 0, .int .i64 (-1)] 32)).2.2.2.2 (unhide HC)
  have HB2 := hide hB2
  clear hB2
  go_wp2_with fail
  refine (bare_ok 9 _).mono ?_
  rintro e w3 ⟨rfl, hB3⟩
  have hq0 := below_cell hB3 (show (w2.alloc (.cells #[.int .i64 0, .int .i64 (-1)] 32)).cell? ⟨w2.heap.size, 0, none⟩ = some (.int .i64 0) by simp)
  have hq1 := below_cell hB3 (show (w2.alloc (.cells #[.int .i64 0, .int .i64 (-1)] 32)).cell? ⟨w2.heap.size, 0 + 1, none⟩ = some (.int .i64 (-1)) by simp)
  have hg0 : w3.frozen? ⟨w2.heap.size, 0, none⟩ = false := (hB3.frozen (p := ⟨w2.heap.size, 0, none⟩) (by simp)).trans (by simp)
  have hg1 : w3.frozen? ⟨w2.heap.size, 0 + 1, none⟩ = false := (hB3.frozen (p := ⟨w2.heap.size, 0 + 1, none⟩) (by simp)).trans (by simp)
  obtain ⟨hc0, hc1, hf0, hf1, hB⟩ := res_cells (((unhide HB2).alloc (unhide HB2).size (.cells #[.int .i64 0, .int .i64 (-1)] 32)).trans (hB3.mono (by have := (unhide HB2).size; simp at this ⊢; omega)))
  have hlt : w.heap.size < w2.heap.size := by have := (unhide HB2).size; simp at this; omega
  have hne : ¬ w.heap.size = w2.heap.size := by omega
  have hne' : ¬ w2.heap.size = w.heap.size := by omega
  have HB := hide hB
  clear hB3 hB hcell
  go_wp2
  exact bodyPost_ret (v := .agg #[.int .i64 9, .int .i64 (-1)]) (by simp [results, Tryd.results24, go_sem, hc0, hc1]) rfl ⟨rfl, below_res2 (unhide HB) (Nat.le_of_lt hlt) _ _ _ _⟩
theorem waitOf_tick (v : Value) (xs : List Int) (long node t : Int) (w : World) (hv : IntsIn w v xs) (h : ¬ tickOk long t) :
    Calls Tryd.prog 25 #[v, .int .i64 long, .int .i64 node, .int .i64 t] w fun e w' => e = .returned (.tuple #[.int .i64 0, .agg #[.int .i64 2, .int .i64 (-1)]]) ∧ Below w.heap.size w w' := by
  obtain ⟨ad, cap, rfl, _⟩ := hv
  have HT : Hid (∀ w', Calls Tryd.prog 22 #[.int .i64 long, .int .i64 t] w' fun e w2 => e = .returned (.int .i64 2) ∧ w2 = w') := fun w' => tickError_no long t w' h
  clear h
  go_enter Tryd.func25, Tryd.ntmps25
  go_wp2_with fail
  refine (unhide HT _).mono ?_
  rintro e w1 ⟨rfl, rfl⟩
  go_wp2_with fail
  refine (bare_ok 2 _).mono ?_
  rintro e w2 ⟨rfl, hB2⟩
  obtain ⟨hc0, hc1, hf0, hf1, hB⟩ := res_cells hB2
  have HB := hide hB
  clear hB2 hB
  go_wp2
  exact bodyPost_ret (v := .tuple #[.int .i64 0, .agg #[.int .i64 2, .int .i64 (-1)]]) (by simp [results, Tryd.results25, go_sem, hc0, hc1]) rfl ⟨rfl, below_res (unhide HB) _ _⟩
theorem waitOf_keep (v : Value) (xs : List Int) (long t : Nat) (node c n : Int) (w : World) (hv : IntsIn w v xs) (h : tickOk long t)
    (hp : ∀ w', IntsIn w' v xs → Calls Tryd.prog 39 #[v, .int .i64 node, .int .i64 ((t / long : Nat) : Int)] w' fun e w2 => e = .returned (.tuple #[.int .i64 0, .agg #[.int .i64 c, .int .i64 n]]) ∧ Below w'.heap.size w' w2) (hc : 0 < c) :
    Calls Tryd.prog 25 #[v, .int .i64 long, .int .i64 node, .int .i64 t] w fun e w' => e = .returned (.tuple #[.int .i64 0, .agg #[.int .i64 c, .int .i64 n]]) ∧ Below w.heap.size w w' := by
  have HP := hide (hp _ (hv.below ((Below.refl _ _).alloc (Nat.le_refl _) (.cells #[.int .i64 0, .int .i64 0] 32))))
  have HT : Hid (∀ w', Calls Tryd.prog 22 #[.int .i64 long, .int .i64 t] w' fun e w2 => e = .returned (.int .i64 0) ∧ w2 = w') := fun w' => tickError_yes long t w' h
  obtain ⟨n1, n2, n3, n4⟩ := slot_nums long t 1 h (by omega)
  have hl0 : ¬ (long : Int) = 0 := by have := h.1.1; omega
  obtain ⟨ad, cap, rfl, _⟩ := hv
  clear hp h n2 n4
  generalize t / long = q at *
  go_enter Tryd.func25, Tryd.ntmps25
  go_wp2_with fail
  refine (unhide HT _).mono ?_
  rintro e w1 ⟨rfl, rfl⟩
  go_wp2_with fail
  refine (unhide HP).mono ?_
  rintro e w2 ⟨rfl, hB2⟩
  obtain ⟨hc0, hc1, hf0, hf1, hB⟩ := res_alloc hB2 (.cells #[.int .i64 c, .int .i64 n] 32)
  have HB := hide hB
  clear hB2 hB
  go_wp2
  go_region
  all_goals (try go_wp2)
  exact bodyPost_ret (v := .tuple #[.int .i64 0, .agg #[.int .i64 c, .int .i64 n]]) (by simp [results, Tryd.results25, go_sem, hc0, hc1]) rfl ⟨rfl, (below_res (unhide HB) _ _).drew⟩
/-- The document's Wait at a right tick and a right plan with a slot of the node's: the first tick, or an error where that is above the last one. -/
theorem waitOf_ok (v : Value) (xs : List Int) (long t m : Nat) (node : Int) (w : World) (hv : IntsIn w v xs) (h : tickOk long t) (hp : planOk xs)
    (hm : m < xs.length) (hno : ∀ i, i < m → (rot xs (t / long % xs.length)).getD i 0 ≠ node) (hat : (rot xs (t / long % xs.length)).getD m 0 = node) :
    Calls Tryd.prog 25 #[v, .int .i64 long, .int .i64 node, .int .i64 t] w fun e w' => e = .returned (if waitAt long t m ≤ 1000000 then .tuple #[.int .i64 (waitAt long t m : Nat), .agg #[.int .i64 0, .int .i64 (-1)]] else .tuple #[.int .i64 0, .agg #[.int .i64 2, .int .i64 (-1)]]) ∧ Below w.heap.size w w' := by
  obtain ⟨n1, n2, n3, n4⟩ := slot_nums long t 1 h (by omega)
  have HP := hide (nextOf_yes v xs node (t / long) m _ (hv.below ((Below.refl _ _).alloc (Nat.le_refl _) (.cells #[.int .i64 0, .int .i64 0] 32))) hp n3 hm hno hat)
  have HT : Hid (∀ w', Calls Tryd.prog 22 #[.int .i64 long, .int .i64 t] w' fun e w2 => e = .returned (.int .i64 0) ∧ w2 = w') := fun w' => tickError_yes long t w' h
  have hl0 : ¬ (long : Int) = 0 := by have := h.1.1; omega
  have hm32 : m < 32 := by have := hp.2.1; omega
  obtain ⟨ad, cap, rfl, _⟩ := hv
  obtain ⟨⟨h1, h2⟩, h3, h4⟩ := h
  have hmul : (t / long + m) * long ≤ 1000031 * 1000000 := Nat.mul_le_mul (by omega) (by omega)
  have hw : waitAt long t m = max t ((t / long + m) * long) := rfl
  clear hp n2 n4 hno hat hm
  generalize waitAt long t m = z at *
  generalize t / long + m = s at *
  generalize t / long = q at *
  have hmi : (s : Int) * (long : Int) = ((s * long : Nat) : Int) := by simp
  generalize s * long = y at *
  have walk : ∀ r : Nat, (r = t ∧ y ≤ t ∨ r = y ∧ t < y) → Calls Tryd.prog 25 #[.slice ad xs.length cap, .int .i64 long, .int .i64 node, .int .i64 t] w fun e w' => e = .returned (if r ≤ 1000000 then .tuple #[.int .i64 (r : Int), .agg #[.int .i64 0, .int .i64 (-1)]] else .tuple #[.int .i64 0, .agg #[.int .i64 2, .int .i64 (-1)]]) ∧ Below w.heap.size w w' := by
    intro r hr
    clear hw
    rcases hr with ⟨rfl, hyt⟩ | ⟨rfl, hty⟩
    · rw [if_pos (by omega)]
      go_enter Tryd.func25, Tryd.ntmps25
      go_wp2_with fail
      refine (unhide HT _).mono ?_
      rintro e w1 ⟨rfl, rfl⟩
      go_wp2_with fail
      refine (unhide HP).mono ?_
      rintro e w2 ⟨rfl, hB2⟩
      obtain ⟨hc0, hc1, hf0, hf1, hB⟩ := res_alloc hB2 (.cells #[.int .i64 0, .int .i64 (-1)] 32)
      have HB := hide hB
      clear hB2 hB
      go_wp2
      go_region
      all_goals (try go_wp2)
      exact bodyPost_ret (v := .tuple #[.int .i64 (r : Int), .agg #[.int .i64 0, .int .i64 (-1)]]) (by simp [results, Tryd.results25, go_sem, hc0, hc1]) rfl ⟨rfl, (below_res (unhide HB) _ _).drew⟩
    · by_cases hz : r ≤ 1000000
      · rw [if_pos hz]
        go_enter Tryd.func25, Tryd.ntmps25
        go_wp2_with fail
        refine (unhide HT _).mono ?_
        rintro e w1 ⟨rfl, rfl⟩
        go_wp2_with fail
        refine (unhide HP).mono ?_
        rintro e w2 ⟨rfl, hB2⟩
        obtain ⟨hc0, hc1, hf0, hf1, hB⟩ := res_alloc hB2 (.cells #[.int .i64 0, .int .i64 (-1)] 32)
        have HB := hide hB
        clear hB2 hB
        go_wp2
        go_region
        all_goals (try go_wp2)
        exact bodyPost_ret (v := .tuple #[.int .i64 (r : Int), .agg #[.int .i64 0, .int .i64 (-1)]]) (by simp [results, Tryd.results25, go_sem, hc0, hc1]) rfl ⟨rfl, (below_res (unhide HB) _ _).drew⟩
      · rw [if_neg hz]
        go_enter Tryd.func25, Tryd.ntmps25
        go_wp2_with fail
        refine (unhide HT _).mono ?_
        rintro e w1 ⟨rfl, rfl⟩
        go_wp2_with fail
        refine (unhide HP).mono ?_
        rintro e w2 ⟨rfl, hB2⟩
        have HB2 := hide hB2
        clear hB2
        go_wp2_with fail
        refine (bare_ok 2 _).mono ?_
        rintro e w4 ⟨rfl, hB4⟩
        obtain ⟨hc0, hc1, hf0, hf1, hB⟩ := res_cells (((unhide HB2).alloc (unhide HB2).size (.cells #[.int .i64 0, .int .i64 (-1)] 32)).trans (hB4.mono (by have := (unhide HB2).size; simp at this ⊢; omega)))
        have HB := hide hB
        clear hB4 hB
        go_wp2
        exact bodyPost_ret (v := .tuple #[.int .i64 0, .agg #[.int .i64 2, .int .i64 (-1)]]) (by simp [results, Tryd.results25, go_sem, hc0, hc1]) rfl ⟨rfl, below_res (unhide HB) _ _⟩
  rcases Nat.lt_or_ge t y with hty | hyt
  · rw [Nat.max_eq_right (Nat.le_of_lt hty)] at hw
    subst hw
    exact walk z (Or.inr ⟨rfl, hty⟩)
  · rw [Nat.max_eq_left hyt] at hw
    subst hw
    exact walk z (Or.inl ⟨rfl, hyt⟩)
end Go.Proofs.YtglhapkclpllfabDoor
