/-
  Contracts of the document's answer, chapter 1: Fine, CrewOf.
-/
import Derived.Test.YtglhapkclpllfaaDoorRef0
import Derived.Test.YtglhapkclpllfaaDoorRefRes
namespace Go.Proofs.YtglhapkclpllfaaDoor
open Go.RowKit

/-- What the first loop of CrewOf finds: the first m are nodes; then the end, or one that is none. -/
theorem crewOf_walk (v : Value) (xs : List Int) (m : Nat) (w : World) (hv : IntsIn w v xs) (hl : xs.length ≤ maxLen) (hm : m ≤ xs.length) (hn : ∀ i, i < m → Cm.isNode (xs.getD i 0)) (hbad : m < xs.length → ¬ Cm.isNode (xs.getD m 0)) :
    Calls Tryd.prog 30 #[v] w fun e w' => ((m = xs.length ∧ e = .returned (.tuple #[.int .i64 (Cm.ofN xs : Nat), .agg #[.int .i64 0, .int .i64 (-1)]])) ∨ (m < xs.length ∧ e = .returned (.tuple #[.int .i64 0, .agg #[.int .i64 4, .int .i64 m]]))) ∧ Below w.heap.size w w' := by
  have Hv := hide hv
  have HL := hide hl
  unfold maxLen at hl
  have hb1 : Below w.heap.size w (w.alloc (.cells #[.int .i64 0, .int .i64 0] 51)) := (Below.refl _ _).alloc (Nat.le_refl _) _
  have hv1 := hv.below hb1
  obtain ⟨ad, cap, rfl, _⟩ := hv
  have hcells : ∀ k, k < xs.length → ∃ b off, ad = some ⟨b, off, none⟩ ∧ (w.alloc (.cells #[.int .i64 0, .int .i64 0] 51)).cell? ⟨b, off + k, none⟩ = some (.int .i64 (xs.getD k 0)) := fun k hk => by
    obtain ⟨ad', cap', e, hc⟩ := hv1
    cases e
    exact hc k hk
  have HV := hide hcells
  have HV1 := hide hv1
  have Hn := hide hn
  have Hbad := hide hbad
  have HB1 := hide hb1
  obtain ⟨n, hn'⟩ : ∃ n, xs.length = n := ⟨_, rfl⟩
  have Hl : Hid (xs.length = n) := hn'
  rw [hn'] at hm hl ⊢
  have HVV : Hid (IntsIn (w.alloc (.cells #[.int .i64 0, .int .i64 0] 51)) (.slice ad n cap) xs) := by
    have h1 := unhide HV1
    rw [hn'] at h1
    exact h1
  clear hn' hcells hn hbad hv1 hb1 Hv HV1
  go_enter Tryd.func30, Tryd.ntmps30
  go_wp2
  go_loop [4] (fun i => ∃ k : Nat, k ≤ m ∧ i = .int .i64 k) (fun i => n - (intOf i).toNat)
  case atStart => exact ⟨0, by omega, rfl⟩
  case round =>
    obtain ⟨k, hk, rfl⟩ := hrel
    by_cases hlt : k < n
    · obtain ⟨b, off, rfl, hc⟩ := unhide HV k (by rw [unhide Hl]; exact hlt)
      obtain ⟨x, hx⟩ : ∃ x, xs.getD k 0 = x := ⟨_, rfl⟩
      rw [hx] at hc
      have HX := hide hx
      clear hx
      by_cases hkm : k < m
      · have HN : Hid (Cm.isNode x) := by
          have := unhide Hn k hkm
          rw [unhide HX] at this
          exact this
        go_wp2_with (go_at_call 51; refine (isNode_yes x (unhide HN) _).mono ?_; rintro e w' ⟨rfl, rfl⟩)
        go_round
        case rel => exact ⟨k + 1, by omega, by go_num⟩
        case measure => simp [intOf]; omega
      · have hkm' : k = m := by omega
        subst hkm'
        have HN : Hid (¬ Cm.isNode x) := by
          have := unhide Hbad (by rw [unhide Hl]; exact hlt)
          rw [unhide HX] at this
          exact this
        go_wp2_with (go_at_call 51; refine (isNode_no x (unhide HN) _).mono ?_; rintro e w' ⟨rfl, rfl⟩)
        exact bodyPost_ret (v := .tuple #[.int .i64 0, .agg #[.int .i64 4, .int .i64 k]]) (by simp [results, Tryd.results30, go_sem]) rfl ⟨Or.inr ⟨hlt, rfl⟩, (Below.refl _ _).alloc (Nat.le_refl _) _⟩
    · have hkm : k = m := by omega
      have hkn : k = n := by omega
      subst hkm
      subst hkn
      have Hall : Hid (∀ x ∈ xs, Cm.isNode x) := fun x hx => by
        obtain ⟨i, hi, e⟩ := List.mem_iff_getElem.1 hx
        have h1 := unhide Hn i (by rw [← unhide Hl]; exact hi)
        rw [List.getD_eq_getElem?_getD, List.getElem?_eq_getElem hi] at h1
        rw [← e]; exact h1
      have Hsum : Hid (bsum 16 (fun i => xs.contains ((i : Int) + 1)) = Cm.ofN xs) := ofN_sum xs (unhide Hall)
      clear HV Hn Hbad
      go_wp2
      go_loop [6, 7] (fun c n => ∃ j s : Nat, j ≤ 16 ∧ n = .int .i64 ((j : Int) + 1) ∧ c = .int .i64 s ∧ s ≤ 65535 ∧ Hid (s = bsum j (fun i => xs.contains ((i : Int) + 1)))) (fun _ n => 17 - (intOf n).toNat)
      case atStart => exact ⟨0, 0, by omega, by simp, rfl, by omega, rfl⟩
      case round =>
        obtain ⟨j, s, hj, rfl, rfl, hs, Hs⟩ := hrel
        by_cases hlt2 : j < 16
        · have hlt' : (j : Int) + 1 ≤ 16 := by omega
          have HI := hide (inInts_ok ((j : Int) + 1) _ xs _ (unhide HVV) (unhide HL))
          have HP := hide (powerOf_ok j (by omega))
          obtain ⟨_, hp⟩ := pow_small j (by omega)
          have Hlt := hide (bsum_lt (j + 1) (fun i => xs.contains ((i : Int) + 1)))
          have Hpow : Hid (2 ^ (j + 1) ≤ 65536) := Nat.le_trans (Nat.pow_le_pow_right (by omega) (show j + 1 ≤ 16 by omega)) (by decide)
          have Hn : Hid (bsum (j + 1) (fun i => xs.contains ((i : Int) + 1)) = s + (if xs.contains ((j : Int) + 1) then 2 ^ j else 0)) := by
            show _ = _
            rw [unhide Hs]; rfl
          generalize 2 ^ j = p at *
          cases hx : xs.contains ((j : Int) + 1) with
          | true =>
            rw [hx] at Hn HI
            clear hx
            go_wp2_with (first | (go_at_call 53; refine (unhide HI).mono ?_; rintro e w' ⟨rfl, rfl⟩) | (go_at_call 54; refine (unhide HP _).mono ?_; rintro e w' ⟨rfl, rfl⟩))
            go_round
            case rel => exact ⟨j + 1, s + p, by omega, by go_num, by go_num, by have h1 := unhide Hlt; have h2 := unhide Hpow; have h3 := unhide Hn; rw [if_pos trivial] at h3; omega, by show s + p = _; rw [unhide Hn]; simp⟩
            case measure => simp [intOf]; omega
          | false =>
            rw [hx] at Hn HI
            clear hx
            go_wp2_with (go_at_call 53; refine (unhide HI).mono ?_; rintro e w' ⟨rfl, rfl⟩)
            go_round
            case rel => exact ⟨j + 1, s, by omega, by go_num, rfl, hs, by show s = _; rw [unhide Hn]; simp⟩
            case measure => simp [intOf]; omega
        · have hj16 : j = 16 := by omega
          subst hj16
          have hlt' : ¬ ((16 : Nat) : Int) + 1 ≤ 16 := by omega
          go_wp2_with fail
          refine (fine_ok _).mono ?_
          rintro e w2 ⟨rfl, hB2⟩
          have hc0 := below_cell hB2 (show (w.alloc (.cells #[.int .i64 0, .int .i64 0] 51)).cell? ⟨w.heap.size, 0, none⟩ = some (.int .i64 0) by simp)
          have hc1 := below_cell hB2 (show (w.alloc (.cells #[.int .i64 0, .int .i64 0] 51)).cell? ⟨w.heap.size, 0 + 1, none⟩ = some (.int .i64 0) by simp)
          have hf0 : w2.frozen? ⟨w.heap.size, 0, none⟩ = false := (hB2.frozen (p := ⟨w.heap.size, 0, none⟩) (by simp)).trans (by simp)
          have hf1 : w2.frozen? ⟨w.heap.size, 0 + 1, none⟩ = false := (hB2.frozen (p := ⟨w.heap.size, 0 + 1, none⟩) (by simp)).trans (by simp)
          have HB2 := hide hB2
          clear hB2
          go_wp2
          exact bodyPost_ret (v := .tuple #[.int .i64 s, .agg #[.int .i64 0, .int .i64 (-1)]]) (by simp [results, Tryd.results30, go_sem, hc0, hc1]) rfl ⟨by rw [unhide Hs, unhide Hsum], ((unhide HB1).trans ((unhide HB2).mono (unhide HB1).size)).setCell (p := ⟨w.heap.size, 0, none⟩) (Nat.le_refl _) _ |>.setCell (p := ⟨w.heap.size, 1, none⟩) (Nat.le_refl _) _⟩
theorem crewOf_ok (v : Value) (xs : List Int) (w : World) (hv : IntsAt w v xs) (hl : xs.length ≤ maxLen) (hn : ∀ x ∈ xs, Cm.isNode x) :
    Calls Tryd.prog 30 #[v] w fun e w' => e = .returned (.tuple #[.int .i64 (Cm.ofN xs : Nat), .agg #[.int .i64 0, .int .i64 (-1)]]) ∧ Below w.heap.size w w' :=
  (crewOf_walk v xs xs.length w hv.in' hl (Nat.le_refl _) (fun i hi => hn _ (getD_mem xs i hi)) (fun h => absurd h (Nat.lt_irrefl _))).mono fun _ _ h => by
    rcases h with ⟨h | h, hB⟩
    · exact ⟨h.2, hB⟩
    · exact absurd h.1 (Nat.lt_irrefl _)
end Go.Proofs.YtglhapkclpllfaaDoor
