/-
  Contracts of the document's answer, chapter 5: TickError, PassFault, WaitOf.
-/
import Derived.Test.YtglhapkclpllfacDoorRefNext
import Derived.Test.YtglhapkclpllfacDoorGuard1
namespace Go.Proofs.YtglhapkclpllfacDoor
open Go.RowKit

theorem tickError_yes (long t : Int) (w : World) (h : tickOk long t) : Calls Tryd.prog 50 #[.int .i64 long, .int .i64 t] w fun e w' => e = .returned (.int .i64 0) ∧ w' = w := by
  obtain ⟨⟨h1, h2⟩, h3, h4⟩ := h
  go_enter Tryd.func50, Tryd.ntmps50
  go_wp2
  go_ret
  exact ⟨rfl, rfl⟩
theorem tickError_no (long t : Int) (w : World) (h : ¬ tickOk long t) : Calls Tryd.prog 50 #[.int .i64 long, .int .i64 t] w fun e w' => e = .returned (.int .i64 2) ∧ w' = w := by
  by_cases h1 : long < 1
  · clear h
    go_enter Tryd.func50, Tryd.ntmps50
    go_wp2
    go_ret
    exact ⟨rfl, rfl⟩
  by_cases h2 : 1000000 < long
  · clear h
    go_enter Tryd.func50, Tryd.ntmps50
    go_wp2
    go_ret
    exact ⟨rfl, rfl⟩
  by_cases h3 : t < 0
  · clear h
    go_enter Tryd.func50, Tryd.ntmps50
    go_wp2
    go_ret
    exact ⟨rfl, rfl⟩
  have h4 : 1000000 < t := by unfold tickOk at h; omega
  clear h
  go_enter Tryd.func50, Tryd.ntmps50
  go_wp2
  go_ret
  exact ⟨rfl, rfl⟩
theorem passFault_tick (v : Value) (xs : List Int) (long node t : Int) (w : World) (hv : IntsIn w v xs) (h : ¬ tickOk long t) :
    Calls Tryd.prog 32 #[v, .int .i64 long, .int .i64 node, .int .i64 t] w fun e w' => e = .returned (.agg #[.int .i64 2, .int .i64 (-1)]) ∧ Below w.heap.size w w' := by
  obtain ⟨ad, cap, rfl, _⟩ := hv
  have HT : Hid (∀ w', Calls Tryd.prog 50 #[.int .i64 long, .int .i64 t] w' fun e w2 => e = .returned (.int .i64 2) ∧ w2 = w') := fun w' => tickError_no long t w' h
  clear h
  go_enter Tryd.func32, Tryd.ntmps32
  go_wp2_with fail
  refine (unhide HT _).mono ?_
  rintro e w1 ⟨rfl, rfl⟩
  go_wp2_with fail
  refine (bare_ok 2 _).mono ?_
  rintro e w2 ⟨rfl, hB2⟩
  obtain ⟨hc0, hc1, hf0, hf1, hB⟩ := res_cells hB2
  have HB := hide hB
  clear hB2 hB
  go_wp2
  exact bodyPost_ret (v := .agg #[.int .i64 2, .int .i64 (-1)]) (by simp [results, Tryd.results32, go_sem, hc0, hc1]) rfl ⟨rfl, below_res (unhide HB) _ _⟩
theorem passFault_keep (v : Value) (xs : List Int) (long t : Nat) (node c n : Int) (w : World) (hv : IntsIn w v xs) (h : tickOk long t) (hp : ∀ w', IntsIn w' v xs → Calls Tryd.prog 31 #[v] w' fun e w2 => e = .returned (.agg #[.int .i64 c, .int .i64 n]) ∧ Below w'.heap.size w' w2) (hc : 0 < c) :
    Calls Tryd.prog 32 #[v, .int .i64 long, .int .i64 node, .int .i64 t] w fun e w' => e = .returned (.agg #[.int .i64 c, .int .i64 n]) ∧ Below w.heap.size w w' := by
  have HP := hide (hp _ (hv.below ((Below.refl _ _).alloc (Nat.le_refl _) (.cells #[.int .i64 0, .int .i64 0] 40))))
  have HT : Hid (∀ w', Calls Tryd.prog 50 #[.int .i64 long, .int .i64 t] w' fun e w2 => e = .returned (.int .i64 0) ∧ w2 = w') := fun w' => tickError_yes long t w' h
  obtain ⟨ad, cap, rfl, _⟩ := hv
  have h1 : (c == 0) = false := by simp; omega
  have h2 : ¬ c = 0 := by omega
  clear hc hp h
  go_enter Tryd.func32, Tryd.ntmps32
  go_wp2_with fail
  refine (unhide HT _).mono ?_
  rintro e w1 ⟨rfl, rfl⟩
  go_wp2_with fail
  refine (unhide HP).mono ?_
  rintro e w2 ⟨rfl, hB2⟩
  obtain ⟨hc0, hc1, hf0, hf1, hB⟩ := res_alloc hB2 (.cells #[.int .i64 c, .int .i64 n] 40)
  have HB := hide hB
  clear hB2 hB
  go_wp2
  exact bodyPost_ret (v := .agg #[.int .i64 c, .int .i64 n]) (by simp [results, Tryd.results32, go_sem, hc0, hc1]) rfl ⟨rfl, below_res (unhide HB) _ _⟩
/-- Numbers of a tick's slot. -/
theorem slot_nums (long t n : Nat) (h : tickOk long t) (hn : 0 < n) : (t : Int).tdiv (long : Int) = ((t / long : Nat) : Int) ∧ ((t / long : Nat) : Int).tmod (n : Int) = ((t / long % n : Nat) : Int) ∧ t / long ≤ 1000000 ∧ t / long % n < n :=
  ⟨by simp, by rw [Int.tmod_eq_emod_of_nonneg (Int.natCast_nonneg _)]; simp, Nat.le_trans (Nat.div_le_self _ _) (by have := h.2.2; omega), Nat.mod_lt _ hn⟩
theorem passFault_mine (v : Value) (xs : List Int) (long t : Nat) (node : Int) (w : World) (hv : IntsIn w v xs) (h : tickOk long t) (hp : planOk xs) (ho : ownerAt xs long t = node) :
    Calls Tryd.prog 32 #[v, .int .i64 long, .int .i64 node, .int .i64 t] w fun e w' => e = .returned (.agg #[.int .i64 0, .int .i64 (-1)]) ∧ Below w.heap.size w w' := by
  have HP := hide (planFault_ok v xs _ (hv.below ((Below.refl _ _).alloc (Nat.le_refl _) (.cells #[.int .i64 0, .int .i64 0] 40))) hp)
  have HT : Hid (∀ w', Calls Tryd.prog 50 #[.int .i64 long, .int .i64 t] w' fun e w2 => e = .returned (.int .i64 0) ∧ w2 = w') := fun w' => tickError_yes long t w' h
  obtain ⟨n1, n2, n3, n4⟩ := slot_nums long t xs.length h (by have := hp.1; omega)
  have hl0 : ¬ (long : Int) = 0 := by have := h.1.1; omega
  have hn0 : ¬ (xs.length : Int) = 0 := by omega
  have hn32 := hp.2.1
  obtain ⟨ad, cap, rfl, hcells⟩ := hv
  obtain ⟨b, off, rfl, hc⟩ := hcells _ n4
  have HC : Hid (w.cell? ⟨b, off + t / long % xs.length, none⟩ = some (.int .i64 node)) := by
    show _ = _
    rw [hc]
    unfold ownerAt at ho
    rw [ho]
  clear h hp hcells hc ho
  generalize t / long % xs.length = r at *
  generalize t / long = q at *
  generalize xs.length = n at *
  go_enter Tryd.func32, Tryd.ntmps32
  go_wp2_with fail
  refine (unhide HT _).mono ?_
  rintro e w1 ⟨rfl, rfl⟩
  go_wp2_with fail
  refine (unhide HP).mono ?_
  rintro e w2 ⟨rfl, hB2⟩
  obtain ⟨hc0, hc1, hf0, hf1, hB⟩ := res_alloc hB2 (.cells #[.int .i64 0, .int .i64 (-1)] 40)
  have hcell := below_cell hB (unhide HC)
  have HB := hide hB
  clear hB2 hB
  go_wp2
  exact bodyPost_ret (v := .agg #[.int .i64 0, .int .i64 (-1)]) (by simp [results, Tryd.results32, go_sem, hc0, hc1]) rfl ⟨rfl, below_res (unhide HB) _ _⟩
theorem passFault_late (v : Value) (xs : List Int) (long t : Nat) (node : Int) (w : World) (hv : IntsIn w v xs) (h : tickOk long t) (hp : planOk xs) (ho : ownerAt xs long t ≠ node) :
    Calls Tryd.prog 32 #[v, .int .i64 long, .int .i64 node, .int .i64 t] w fun e w' => e = .returned (.agg #[.int .i64 9, .int .i64 (-1)]) ∧ Below w.heap.size w w' := by
  have HP := hide (planFault_ok v xs _ (hv.below ((Below.refl _ _).alloc (Nat.le_refl _) (.cells #[.int .i64 0, .int .i64 0] 40))) hp)
  have HT : Hid (∀ w', Calls Tryd.prog 50 #[.int .i64 long, .int .i64 t] w' fun e w2 => e = .returned (.int .i64 0) ∧ w2 = w') := fun w' => tickError_yes long t w' h
  obtain ⟨n1, n2, n3, n4⟩ := slot_nums long t xs.length h (by have := hp.1; omega)
  have hl0 : ¬ (long : Int) = 0 := by have := h.1.1; omega
  have hn0 : ¬ (xs.length : Int) = 0 := by omega
  have hn32 := hp.2.1
  obtain ⟨ad, cap, rfl, hcells⟩ := hv
  obtain ⟨b, off, rfl, hc⟩ := hcells _ n4
  have HC : Hid (w.cell? ⟨b, off + t / long % xs.length, none⟩ = some (.int .i64 (ownerAt xs long t))) := hc
  clear h hp hcells hc
  generalize ownerAt xs long t = x at *
  generalize t / long % xs.length = r at *
  generalize t / long = q at *
  generalize xs.length = n at *
  go_enter Tryd.func32, Tryd.ntmps32
  go_wp2_with fail
  refine (unhide HT _).mono ?_
  rintro e w1 ⟨rfl, rfl⟩
  go_wp2_with fail
  refine (unhide HP).mono ?_
  rintro e w2 ⟨rfl, hB2⟩
  have hcell := below_cell (res_alloc hB2 (.cells #[.int .i64 0, .int .i64 (-1)] 40)).2.2.2.2 (unhide HC)
  have HB2 := hide hB2
  clear hB2
  go_wp2_with fail
  refine (bare_ok 9 _).mono ?_
  rintro e w3 ⟨rfl, hB3⟩
  have hq0 := below_cell hB3 (show (w2.alloc (.cells #[.int .i64 0, .int .i64 (-1)] 40)).cell? ⟨w2.heap.size, 0, none⟩ = some (.int .i64 0) by simp)
  have hq1 := below_cell hB3 (show (w2.alloc (.cells #[.int .i64 0, .int .i64 (-1)] 40)).cell? ⟨w2.heap.size, 0 + 1, none⟩ = some (.int .i64 (-1)) by simp)
  have hg0 : w3.frozen? ⟨w2.heap.size, 0, none⟩ = false := (hB3.frozen (p := ⟨w2.heap.size, 0, none⟩) (by simp)).trans (by simp)
  have hg1 : w3.frozen? ⟨w2.heap.size, 0 + 1, none⟩ = false := (hB3.frozen (p := ⟨w2.heap.size, 0 + 1, none⟩) (by simp)).trans (by simp)
  obtain ⟨hc0, hc1, hf0, hf1, hB⟩ := res_cells (((unhide HB2).alloc (unhide HB2).size (.cells #[.int .i64 0, .int .i64 (-1)] 40)).trans (hB3.mono (by have := (unhide HB2).size; simp at this ⊢; omega)))
  have hlt : w.heap.size < w2.heap.size := by have := (unhide HB2).size; simp at this; omega
  have hne : ¬ w.heap.size = w2.heap.size := by omega
  have hne' : ¬ w2.heap.size = w.heap.size := by omega
  have HB := hide hB
  clear hB3 hB hcell
  go_wp2
  exact bodyPost_ret (v := .agg #[.int .i64 9, .int .i64 (-1)]) (by simp [results, Tryd.results32, go_sem, hc0, hc1]) rfl ⟨rfl, below_res2 (unhide HB) (Nat.le_of_lt hlt) _ _ _ _⟩
end Go.Proofs.YtglhapkclpllfacDoor
