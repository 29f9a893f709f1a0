/-
  Contracts of the document's answer, chapter 8: TallyOf, whatever the history and the round are.
-/
import Derived.Test.YtglhapkclpllfadDoorRefHist2
namespace Go.Proofs.YtglhapkclpllfadDoor
open Go.RowKit

/-- How many of the entries from place a to place k were heard. -/
def heardF (l : List Ent) (a k : Nat) : Nat := heardN ((l.take k).drop a)
theorem heardF_zero (l : List Ent) (a : Nat) : heardF l a 0 = 0 := by simp [heardF, heardN]
theorem heardF_low (l : List Ent) (a k : Nat) (h : k ≤ a) : heardF l a k = 0 := by
  unfold heardF
  rw [List.drop_eq_nil_of_le (by rw [List.length_take]; omega)]
  rfl
theorem heardF_snoc (l : List Ent) (a k : Nat) (h : k < l.length) (ha : a ≤ k) : heardF l a (k + 1) = heardF l a k + if (l.getD k Ent.zero).heard then 1 else 0 := by
  unfold heardF heardN
  rw [List.take_succ_eq_append_getElem h, List.drop_append_of_le_length (by rw [List.length_take]; omega), List.filter_append, List.length_append, List.getD_eq_getElem?_getD, List.getElem?_eq_getElem h, Option.getD_some]
  cases hx : l[k].heard <;> simp [hx]
theorem heardF_le (l : List Ent) (a k : Nat) (hk : k ≤ l.length) : heardF l a k ≤ k - a := by
  unfold heardF
  have := heard_le ((l.take k).drop a)
  rw [List.length_drop, List.length_take] at this
  omega
theorem heardF_all (l : List Ent) (r : Nat) : heardF l (l.length - r) l.length = heardN (lastN l r) := by
  unfold heardF lastN
  rw [List.take_of_length_le (Nat.le_refl _)]
set_option maxRecDepth 100000 in
theorem tallyOf_keep (v : Value) (l : List Ent) (round c n : Int) (w : World) (hv : EntsIn w v l)
    (hp : ∀ w', EntsIn w' v l → Calls Tryd.prog 11 #[v] w' fun e w2 => e = .returned (.agg #[.int .i64 c, .int .i64 n]) ∧ Below w'.heap.size w' w2) (hc : 0 < c) :
    Calls Tryd.prog 13 #[v, .int .i64 round] w fun e w' => e = .returned (.tuple #[.int .i64 0, .int .i64 0, .agg #[.int .i64 c, .int .i64 n]]) ∧ Below w.heap.size w w' := by
  have HP := hide (hp _ (hv.below ((Below.refl _ _).alloc (Nat.le_refl _) (.cells #[.int .i64 0, .int .i64 0] 29))))
  obtain ⟨ad, cap, rfl, _⟩ := EntsIn.at hv
  have q1 : (c == 0) = false := by simp; omega
  have q2 : ¬ c = 0 := by omega
  clear hv hp
  go_enter Tryd.func13, Tryd.ntmps13
  go_wp2_with fail
  refine (unhide HP).mono ?_
  rintro e w2 ⟨rfl, hB2⟩
  obtain ⟨hc0, hc1, hf0, hf1, hB⟩ := res_alloc hB2 (.cells #[.int .i64 c, .int .i64 n] 29)
  have HB := hide hB
  clear hB2 hB
  go_wp2
  go_region
  all_goals (try go_wp2)
  exact bodyPost_ret (v := .tuple #[.int .i64 0, .int .i64 0, .agg #[.int .i64 c, .int .i64 n]]) (by simp [results, Tryd.results13, go_sem, hc0, hc1]) rfl ⟨rfl, (below_res (unhide HB) _ _).drew⟩
theorem below_two {w w3 : World} {b : Nat} (hB : Below w.heap.size w w3) (hb : w.heap.size ≤ b) (x y x' y' : Value) :
    Below w.heap.size w ((((w3.setCell ⟨b, 0, none⟩ x).setCell ⟨b, 1, none⟩ y).setCell ⟨w.heap.size, 0, none⟩ x').setCell ⟨w.heap.size, 1, none⟩ y') :=
  (((hB.setCell (p := ⟨b, 0, none⟩) hb _).setCell (p := ⟨b, 1, none⟩) hb _).setCell (p := ⟨w.heap.size, 0, none⟩) (Nat.le_refl _) _).setCell (p := ⟨w.heap.size, 1, none⟩) (Nat.le_refl _) _
set_option maxRecDepth 100000 in
theorem tallyOf_round (v : Value) (l : List Ent) (round : Int) (w : World) (hv : EntsIn w v l) (h : histOk l) (hr : ¬ (1 ≤ round ∧ round ≤ 32)) :
    Calls Tryd.prog 13 #[v, .int .i64 round] w fun e w' => e = .returned (.tuple #[.int .i64 0, .int .i64 0, .agg #[.int .i64 2, .int .i64 (-1)]]) ∧ Below w.heap.size w w' := by
  have HP := hide (histFault_ok v l _ (hv.below ((Below.refl _ _).alloc (Nat.le_refl _) (.cells #[.int .i64 0, .int .i64 0] 29))) h)
  obtain ⟨ad, cap, rfl, _⟩ := EntsIn.at hv
  have hr2 : round < 1 ∨ (¬ round < 1 ∧ 32 < round) := by omega
  clear hv h hr
  rcases hr2 with h1 | ⟨h1, h2⟩
  all_goals
    go_enter Tryd.func13, Tryd.ntmps13
    go_wp2_with fail
    refine (unhide HP).mono ?_
    rintro e w2 ⟨rfl, hB2⟩
    have HB2 := hide hB2
    clear hB2
    go_wp2_with fail
    refine (bare_ok 2 _).mono ?_
    rintro e w3 ⟨rfl, hB3⟩
    have hq0 := below_cell hB3 (show (w2.alloc (.cells #[.int .i64 0, .int .i64 (-1)] 29)).cell? ⟨w2.heap.size, 0, none⟩ = some (.int .i64 0) by simp)
    have hq1 := below_cell hB3 (show (w2.alloc (.cells #[.int .i64 0, .int .i64 (-1)] 29)).cell? ⟨w2.heap.size, 0 + 1, none⟩ = some (.int .i64 (-1)) by simp)
    have hg0 : w3.frozen? ⟨w2.heap.size, 0, none⟩ = false := (hB3.frozen (p := ⟨w2.heap.size, 0, none⟩) (by simp)).trans (by simp)
    have hg1 : w3.frozen? ⟨w2.heap.size, 0 + 1, none⟩ = false := (hB3.frozen (p := ⟨w2.heap.size, 0 + 1, none⟩) (by simp)).trans (by simp)
    obtain ⟨hc0, hc1, hf0, hf1, hB⟩ := res_cells (((unhide HB2).alloc (unhide HB2).size (.cells #[.int .i64 0, .int .i64 (-1)] 29)).trans (hB3.mono (by have := (unhide HB2).size; simp at this ⊢; omega)))
    have hlt : w.heap.size < w2.heap.size := by have := (unhide HB2).size; simp at this; omega
    have hne : ¬ w.heap.size = w2.heap.size := by omega
    have hne' : ¬ w2.heap.size = w.heap.size := by omega
    have HB := hide hB
    clear hB3 hB
    go_wp2
    go_region
    all_goals (try go_wp2)
    exact bodyPost_ret (v := .tuple #[.int .i64 0, .int .i64 0, .agg #[.int .i64 2, .int .i64 (-1)]]) (by simp [results, Tryd.results13, go_sem, hc0, hc1]) rfl ⟨rfl, (below_two (unhide HB) (Nat.le_of_lt hlt) _ _ _ _).drew⟩
set_option maxRecDepth 100000 in
set_option maxHeartbeats 1000000 in
theorem tallyOf_ok (v : Value) (l : List Ent) (r : Nat) (w : World) (hv : EntsIn w v l) (h : histOk l) (hr : 1 ≤ r ∧ r ≤ 32) :
    Calls Tryd.prog 13 #[v, .int .i64 (r : Int)] w fun e w' => e = .returned (.tuple #[.int .i64 (heardN (lastN l r) : Nat), .int .i64 ((lastN l r).length - heardN (lastN l r) : Nat), .agg #[.int .i64 0, .int .i64 (-1)]]) ∧ Below w.heap.size w w' := by
  have HP := hide (histFault_ok v l _ (hv.below ((Below.refl _ _).alloc (Nat.le_refl _) (.cells #[.int .i64 0, .int .i64 0] 29))) h)
  have h200 := h.1
  obtain ⟨ad, cap, rfl, hcell⟩ := EntsIn.at hv
  have HCell := hide hcell
  have Hlen : Hid ((lastN l r).length = min r l.length) := last_len l r
  have Hall : Hid (heardF l (l.length - r) l.length = heardN (lastN l r)) := heardF_all l r
  obtain ⟨n, hn⟩ : ∃ n, l.length = n := ⟨_, rfl⟩
  have Hn : Hid (l.length = n) := hn
  rw [hn] at HP HCell h200 Hlen Hall ⊢
  obtain ⟨hr1, hr2⟩ := hr
  have hr1' : ¬ (r : Int) < 1 := by omega
  have hr2' : ¬ (32 : Int) < (r : Int) := by omega
  clear hv h hcell hn
  go_enter Tryd.func13, Tryd.ntmps13
  go_wp2_with fail
  refine (unhide HP).mono ?_
  rintro e w2 ⟨rfl, hB2⟩
  obtain ⟨W, hW⟩ : ∃ W, W = w2.alloc (.cells #[.int .i64 0, .int .i64 (-1)] 29) := ⟨_, rfl⟩
  have q0 : W.cell? ⟨w2.heap.size, 0, none⟩ = some (.int .i64 0) := by rw [hW]; simp
  have q1 : W.cell? ⟨w2.heap.size, 0 + 1, none⟩ = some (.int .i64 (-1)) := by rw [hW]; simp
  obtain ⟨hc0, hc1, hf0, hf1, hB⟩ := res_alloc hB2 (.cells #[.int .i64 0, .int .i64 (-1)] 29)
  rw [← hW] at hc0 hc1 hf0 hf1 hB
  have HB := hide hB
  have hlt2 : w.heap.size < w2.heap.size := by have := hB2.size; simp at this; omega
  have hne : ¬ w.heap.size = w2.heap.size := by omega
  have hne' : ¬ w2.heap.size = w.heap.size := by omega
  have HQ := hide (And.intro q0 (And.intro q1 (And.intro hc0 (And.intro hc1 (And.intro hf0 hf1)))))
  have HW := hide hW
  clear hB2 hB hW q0 q1 hc0 hc1 hf0 hf1
  go_wp2_with fail
  go_loopw [8, 9, 10] (fun g b q wr => ∃ k x y : Nat, k ≤ n ∧ q = .int .i64 (k : Int) ∧ g = .int .i64 (x : Int) ∧ b = .int .i64 (y : Int) ∧ x ≤ k ∧ y ≤ k ∧ Hid (x = heardF l (n - r) k) ∧ Hid (x + y = k - (n - r)) ∧ Hid (wr = W)) (fun _ _ q _ => n - (intOf q).toNat)
  case atStart => exact ⟨0, 0, 0, by omega, rfl, rfl, rfl, by omega, by omega, (heardF_zero l _).symm, by show 0 + 0 = 0 - (n - r); omega, hide (unhide HW).symm⟩
  case round =>
    obtain ⟨k, x, y, hk, rfl, rfl, rfl, hx, hy, Hx, Hy, hwr⟩ := hrel
    have hwr := unhide hwr
    subst hwr
    clear HW
    by_cases hlt : k < n
    · obtain ⟨b, off, rfl, c0, c1, c2, c3⟩ := unhide HCell k hlt
      have d2 := below_cell (unhide HB) c2
      have k0 : (0 : Int) ≤ (k : Int) := Int.natCast_nonneg _
      have k1 : (k : Int) < (n : Int) := by omega
      clear c0 c1 c2 c3
      by_cases hka : k < n - r
      · have hka' : (k : Int) < (n : Int) - (r : Int) := by omega
        have Hx2 : Hid (x = heardF l (n - r) (k + 1)) := by
          show x = _
          rw [unhide Hx, heardF_low l _ _ (by omega), heardF_low l _ _ (by omega)]
        have Hy2 : Hid (x + y = k + 1 - (n - r)) := by
          have := unhide Hy
          show _ = _
          omega
        go_wp2
        go_roundw
        case rel => exact ⟨k + 1, x, y, by omega, by go_num, rfl, rfl, by omega, by omega, unhide Hx2, unhide Hy2, by trivial⟩
        case measure => simp [intOf]; omega
      · have hka' : ¬ (k : Int) < (n : Int) - (r : Int) := by omega
        have HS := hide (heardF_snoc l (n - r) k (by rw [unhide Hn]; exact hlt) (by omega))
        rw [← unhide Hx] at HS
        generalize (l.getD k Ent.zero).heard = hb at *
        cases hb with
        | true =>
          have Hx2 : Hid (x + 1 = heardF l (n - r) (k + 1)) := (unhide HS).symm
          have Hy2 : Hid (x + 1 + y = k + 1 - (n - r)) := by
            have := unhide Hy
            show _ = _
            omega
          go_wp2
          go_roundw
          case rel => exact ⟨k + 1, x + 1, y, by omega, by go_num, by go_num, rfl, by omega, by omega, unhide Hx2, unhide Hy2, by trivial⟩
          case measure => simp [intOf]; omega
        | false =>
          have Hx2 : Hid (x = heardF l (n - r) (k + 1)) := (unhide HS).symm
          have Hy2 : Hid (x + (y + 1) = k + 1 - (n - r)) := by
            have := unhide Hy
            show _ = _
            omega
          go_wp2
          go_roundw
          case rel => exact ⟨k + 1, x, y + 1, by omega, by go_num, rfl, by go_num, by omega, by omega, unhide Hx2, unhide Hy2, by trivial⟩
          case measure => simp [intOf]; omega
    · have hkn : k = n := by omega
      subst hkn
      have hx1 : x = heardN (lastN l r) := (unhide Hx).trans (unhide Hall)
      have hy1 : y = (lastN l r).length - heardN (lastN l r) := by
        have h1 := unhide Hy
        have h2 := unhide Hlen
        omega
      have Hx1 := hide hx1
      have Hy1 := hide hy1
      obtain ⟨q0, q1, hc0, hc1, hf0, hf1⟩ := unhide HQ
      clear hx1 hy1
      go_wp2
      go_region
      all_goals (try go_wp2)
      exact bodyPost_ret (v := .tuple #[.int .i64 (x : Int), .int .i64 (y : Int), .agg #[.int .i64 0, .int .i64 (-1)]]) (by simp [results, Tryd.results13, go_sem, hc0, hc1]) rfl ⟨by rw [← unhide Hy1, ← unhide Hx1], (below_res (unhide HB) _ _).drew⟩
end Go.Proofs.YtglhapkclpllfadDoor
