/-
  The contract of the document's answer, chapter 2: NextOf.
-/
import Derived.Test.YtglhapkclpllfaaDoorRefPlan
namespace Go.Proofs.YtglhapkclpllfaaDoor
open Go.RowKit

theorem nextOf_keep (v : Value) (xs : List Int) (node s c n : Int) (w : World) (hv : IntsIn w v xs) (hp : ∀ w', IntsIn w' v xs → Calls Tryd.prog 32 #[v, .int .i64 s] w' fun e w2 => e = .returned (.agg #[.int .i64 c, .int .i64 n]) ∧ Below w'.heap.size w' w2) (hc : 0 < c) :
    Calls Tryd.prog 34 #[v, .int .i64 node, .int .i64 s] w fun e w' => e = .returned (.tuple #[.int .i64 0, .agg #[.int .i64 c, .int .i64 n]]) ∧ Below w.heap.size w w' := by
  have HP := hide (hp _ (hv.below ((Below.refl _ _).alloc (Nat.le_refl _) (.cells #[.int .i64 0, .int .i64 0] 51))))
  obtain ⟨ad, cap, rfl, _⟩ := hv
  clear hp
  go_enter Tryd.func34, Tryd.ntmps34
  go_wp2_with fail
  refine (unhide HP).mono ?_
  rintro e w2 ⟨rfl, hB2⟩
  obtain ⟨hc0, hc1, hf0, hf1, hB⟩ := res_alloc hB2 (.cells #[.int .i64 c, .int .i64 n] 51)
  have HB := hide hB
  clear hB2 hB
  go_wp2
  go_region
  all_goals (try go_wp2)
  exact bodyPost_ret (v := .tuple #[.int .i64 0, .agg #[.int .i64 c, .int .i64 n]]) (by simp [results, Tryd.results34, go_sem, hc0, hc1]) rfl ⟨rfl, (below_res (unhide HB) _ _).drew⟩
theorem nextOf_none (v : Value) (xs : List Int) (node s : Int) (w : World) (hv : IntsIn w v xs) (h : planOk xs) (hs : 0 ≤ s ∧ s ≤ 1000000) (hno : node ∉ xs) :
    Calls Tryd.prog 34 #[v, .int .i64 node, .int .i64 s] w fun e w' => e = .returned (.tuple #[.int .i64 0, .agg #[.int .i64 5, .int .i64 (-1)]]) ∧ Below w.heap.size w w' := by
  have HP := hide (slotFault_in v xs s _ (hv.below ((Below.refl _ _).alloc (Nat.le_refl _) (.cells #[.int .i64 0, .int .i64 0] 51))) h hs)
  have HI : Hid (∀ w', Below w.heap.size w w' → Calls Tryd.prog 53 #[.int .i64 node, v] w' fun e w2 => e = .returned (.bool false) ∧ w2 = w') := fun w' hB => by
    have := inInts_ok node v xs w' (hv.below hB) (by have := h.2.1; unfold maxLen; omega)
    have hc : xs.contains node = false := by
      cases hx : xs.contains node with
      | false => rfl
      | true => exact absurd (List.contains_iff_mem.1 hx) hno
    rw [hc] at this
    exact this
  obtain ⟨ad, cap, rfl, _⟩ := hv
  clear h hs hno
  go_enter Tryd.func34, Tryd.ntmps34
  go_wp2_with fail
  refine (unhide HP).mono ?_
  rintro e w2 ⟨rfl, hB2⟩
  have HB2 := hide hB2
  clear hB2
  go_wp2_with fail
  refine (unhide HI _ (res_alloc (unhide HB2) _).2.2.2.2).mono ?_
  rintro e w3 ⟨rfl, rfl⟩
  go_wp2_with fail
  refine (bare_ok 5 _).mono ?_
  rintro e w4 ⟨rfl, hB4⟩
  obtain ⟨hc0, hc1, hf0, hf1, hB⟩ := res_cells (((unhide HB2).alloc (unhide HB2).size (.cells #[.int .i64 0, .int .i64 (-1)] 51)).trans (hB4.mono (by have := (unhide HB2).size; simp at this ⊢; omega)))
  have HB := hide hB
  clear hB4 hB
  go_wp2
  exact bodyPost_ret (v := .tuple #[.int .i64 0, .agg #[.int .i64 5, .int .i64 (-1)]]) (by simp [results, Tryd.results34, go_sem, hc0, hc1]) rfl ⟨rfl, below_res (unhide HB) _ _⟩
theorem nextOf_yes (v : Value) (xs : List Int) (node : Int) (s m : Nat) (w : World) (hv : IntsIn w v xs) (h : planOk xs) (hs : s ≤ 1000000)
    (hm : m < xs.length) (hno : ∀ i, i < m → (rot xs (s % xs.length)).getD i 0 ≠ node) (hat : (rot xs (s % xs.length)).getD m 0 = node) :
    Calls Tryd.prog 34 #[v, .int .i64 node, .int .i64 s] w fun e w' => e = .returned (.tuple #[.int .i64 ((s + m : Nat) : Int), .agg #[.int .i64 0, .int .i64 (-1)]]) ∧ Below w.heap.size w w' := by
  have HP := hide (slotFault_in v xs s _ (hv.below ((Below.refl _ _).alloc (Nat.le_refl _) (.cells #[.int .i64 0, .int .i64 0] 51))) h ⟨by omega, by omega⟩)
  have HI : Hid (∀ w', Below w.heap.size w w' → Calls Tryd.prog 53 #[.int .i64 node, v] w' fun e w2 => e = .returned (.bool true) ∧ w2 = w') := fun w' hB => by
    have := inInts_ok node v xs w' (hv.below hB) (by have := h.2.1; unfold maxLen; omega)
    have hc : xs.contains node = true := List.contains_iff_mem.2 ((rot_mem xs (s % xs.length) node).1 (by rw [← hat]; exact getD_mem _ m (by rw [rot_len]; exact hm)))
    rw [hc] at this
    exact this
  have HVV := hide hv
  obtain ⟨ad, cap, rfl, _⟩ := hv
  have HC : Hid (∀ w', Below w.heap.size w w' → ∀ k, k < xs.length → ∃ b off, ad = some ⟨b, off, none⟩ ∧ w'.cell? ⟨b, off + (s + k) % xs.length, none⟩ = some (.int .i64 ((rot xs (s % xs.length)).getD k 0))) := fun w' hB k hk => by
    obtain ⟨ad', cap', e, hc⟩ := (unhide HVV).below hB
    cases e
    obtain ⟨b, off, e, h2⟩ := hc ((s + k) % xs.length) (Nat.mod_lt _ (by omega))
    exact ⟨b, off, e, by rw [h2, getD_mod xs s k hk]⟩
  have hl := h.2.1
  have Hno := hide hno
  have Hat := hide hat
  clear h hno hat HVV
  generalize rot xs (s % xs.length) = ys at *
  generalize xs.length = n at *
  go_enter Tryd.func34, Tryd.ntmps34
  go_wp2_with fail
  refine (unhide HP).mono ?_
  rintro e w2 ⟨rfl, hB2⟩
  obtain ⟨hc0, hc1, hf0, hf1, hB⟩ := res_alloc hB2 (.cells #[.int .i64 0, .int .i64 (-1)] 51)
  have HB := hide hB
  clear hB2 hB
  go_wp2_with fail
  refine (unhide HI _ (unhide HB)).mono ?_
  rintro e w3 ⟨rfl, rfl⟩
  go_wp2_with fail
  go_loop [2] (fun i => ∃ k : Nat, k ≤ m ∧ i = .int .i64 ((s : Int) + (k : Int))) (fun i => s + m - (intOf i).toNat)
  case atStart => exact ⟨0, by omega, by simp⟩
  case round =>
    obtain ⟨k, hk, rfl⟩ := hrel
    obtain ⟨b, off, rfl, hc⟩ := unhide HC _ (unhide HB) k (by omega)
    have hmod : (s + k) % n < n := Nat.mod_lt _ (by omega)
    have hmi : (((s : Int) + (k : Int)).tmod (n : Int)) = (((s + k) % n : Nat) : Int) := by
      rw [Int.tmod_eq_emod_of_nonneg (by omega)]; simp
    have hn0 : ¬ ((n : Int) = 0) := by omega
    generalize hq : (s + k) % n = q at *
    clear hq
    by_cases hkm : k < m
    · have hx := unhide Hno k hkm
      generalize ys.getD k 0 = x at *
      go_wp2
      go_round
      case rel => exact ⟨k + 1, by omega, by go_num⟩
      case measure => simp [intOf]; omega
    · have hkm' : k = m := by omega
      subst hkm'
      have hx := unhide Hat
      generalize ys.getD k 0 = x at *
      subst hx
      go_wp2
      go_region
      all_goals (try go_wp2)
      exact bodyPost_ret (v := .tuple #[.int .i64 ((s + k : Nat) : Int), .agg #[.int .i64 0, .int .i64 (-1)]]) (by simp [results, Tryd.results34, go_sem, hc0, hc1]) rfl ⟨rfl, (below_res (unhide HB) _ _).drew⟩
end Go.Proofs.YtglhapkclpllfaaDoor
