/-
  Contracts of the document's answer, chapter 4: isFar, MidOf, SpreadOf, whatever the numbers are.
-/
import Derived.Test.YtglhapkclpllfabDoorRefRes
import Derived.Test.YtglhapkclpllfabDoorClockSpan
import Derived.Test.YtglhapkclpllfabDoorAppendOn
namespace Go.Proofs.YtglhapkclpllfabDoor
open Go.RowKit

theorem isFar_no (n : Int) (w : World) (h : isT n) : Calls Tryd.prog 32 #[.int .i64 n] w fun e w' => e = .returned (.bool false) ∧ w' = w := by
  have h1 : ¬ n < -1000000 := by have := h.1; omega
  have h2 : ¬ 1000000 < n := by have := h.2; omega
  clear h
  go_enter Tryd.func32, Tryd.ntmps32
  go_wp2
  go_ret
  exact ⟨rfl, rfl⟩
theorem isFar_yes (n : Int) (w : World) (h : ¬ isT n) : Calls Tryd.prog 32 #[.int .i64 n] w fun e w' => e = .returned (.bool true) ∧ w' = w := by
  by_cases h1 : n < -1000000
  · clear h
    go_enter Tryd.func32, Tryd.ntmps32
    go_wp2
    go_ret
    exact ⟨rfl, rfl⟩
  · have h2 : 1000000 < n := by unfold isT at h; omega
    clear h
    go_enter Tryd.func32, Tryd.ntmps32
    go_wp2
    go_ret
    exact ⟨rfl, rfl⟩
theorem midOf_bound (v : Value) (xs : List Int) (k : Int) (w : World) (hv : IntsIn w v xs) (hl : xs.length ≤ 1000000) (h : k < 0 ∨ (xs.length : Int) ≤ 2 * k) :
    Calls Tryd.prog 11 #[v, .int .i64 k] w fun e w' => e = .returned (.tuple #[.int .i64 0, .agg #[.int .i64 2, .int .i64 (-1)]]) ∧ Below w.heap.size w w' := by
  obtain ⟨ad, cap, rfl, _⟩ := hv
  generalize xs.length = n at *
  by_cases h0 : k < 0
  · clear h
    go_enter Tryd.func11, Tryd.ntmps11
    go_wp2_with fail
    refine (bare_ok 2 _).mono ?_
    rintro e w2 ⟨rfl, hB2⟩
    obtain ⟨hc0, hc1, hf0, hf1, hB⟩ := res_cells hB2
    have HB := hide hB
    clear hB2 hB
    go_wp2
    exact bodyPost_ret (v := .tuple #[.int .i64 0, .agg #[.int .i64 2, .int .i64 (-1)]]) (by simp [results, Tryd.results11, go_sem, hc0, hc1]) rfl ⟨rfl, below_res (unhide HB) _ _⟩
  · by_cases h1 : (n : Int) < k
    · clear h
      go_enter Tryd.func11, Tryd.ntmps11
      go_wp2_with fail
      refine (bare_ok 2 _).mono ?_
      rintro e w2 ⟨rfl, hB2⟩
      obtain ⟨hc0, hc1, hf0, hf1, hB⟩ := res_cells hB2
      have HB := hide hB
      clear hB2 hB
      go_wp2
      exact bodyPost_ret (v := .tuple #[.int .i64 0, .agg #[.int .i64 2, .int .i64 (-1)]]) (by simp [results, Tryd.results11, go_sem, hc0, hc1]) rfl ⟨rfl, below_res (unhide HB) _ _⟩
    · have h2 : (n : Int) < 2 * k + 1 := by omega
      have h3 : 0 ≤ k := by omega
      have h4 : k ≤ 1000000 := by omega
      clear h
      go_enter Tryd.func11, Tryd.ntmps11
      go_wp2_with fail
      refine (bare_ok 2 _).mono ?_
      rintro e w2 ⟨rfl, hB2⟩
      obtain ⟨hc0, hc1, hf0, hf1, hB⟩ := res_cells hB2
      have HB := hide hB
      clear hB2 hB
      go_wp2
      exact bodyPost_ret (v := .tuple #[.int .i64 0, .agg #[.int .i64 2, .int .i64 (-1)]]) (by simp [results, Tryd.results11, go_sem, hc0, hc1]) rfl ⟨rfl, below_res (unhide HB) _ _⟩
/-- What the two loops of SpreadOf have found: all differences ahead of the p-th, and those of the p-th ahead of the q-th. -/
def SpI (xs : List Int) (p q : Nat) (m : Int) : Prop :=
  0 ≤ m ∧ (m = 0 ∨ ∃ x ∈ xs, ∃ y ∈ xs, m = x - y) ∧ (∀ i, i < p → ∀ k, k < xs.length → xs.getD i 0 - xs.getD k 0 ≤ m) ∧ ∀ k, k < q → xs.getD p 0 - xs.getD k 0 ≤ m
theorem SpI.start (xs : List Int) : SpI xs 0 0 0 := ⟨Int.le_refl _, Or.inl rfl, fun _ h => absurd h (Nat.not_lt_zero _), fun _ h => absurd h (Nat.not_lt_zero _)⟩
theorem SpI.bound {xs : List Int} {p q : Nat} {m : Int} (h : SpI xs p q m) (hT : ∀ x ∈ xs, isT x) : 0 ≤ m ∧ m ≤ 2000000 := by
  obtain ⟨h0, h1, _, _⟩ := h
  refine ⟨h0, ?_⟩
  rcases h1 with h1 | ⟨x, hx, y, hy, h1⟩
  · omega
  · have := hT x hx
    have := hT y hy
    unfold isT at *
    omega
theorem SpI.step {xs : List Int} {p q : Nat} {m x y : Int} (h : SpI xs p q m) (hp : p < xs.length) (hq : q < xs.length) (hx : xs.getD p 0 = x) (hy : xs.getD q 0 = y) : SpI xs p (q + 1) (if m < x - y then x - y else m) := by
  obtain ⟨h0, h1, h2, h3⟩ := h
  have mx : x ∈ xs := by rw [← hx]; exact getD_in xs p hp
  have my : y ∈ xs := by rw [← hy]; exact getD_in xs q hq
  refine ⟨by split <;> omega, ?_, fun i hi k hk => ?_, fun k hk => ?_⟩
  · split
    · exact Or.inr ⟨x, mx, y, my, rfl⟩
    · exact h1
  · have := h2 i hi k hk
    split <;> omega
  · rcases Nat.lt_or_ge k q with h | h
    · have := h3 k h
      split <;> omega
    · have e : k = q := by omega
      subst e
      rw [hx, hy]
      split <;> omega
theorem SpI.next {xs : List Int} {p : Nat} {m : Int} {n : Nat} (h : SpI xs p n m) (hn : xs.length = n) : SpI xs (p + 1) 0 m := by
  obtain ⟨h0, h1, h2, h3⟩ := h
  refine ⟨h0, h1, fun i hi k hk => ?_, fun k hk => absurd hk (Nat.not_lt_zero _)⟩
  rcases Nat.lt_or_ge i p with h | h
  · exact h2 i h k hk
  · have e : i = p := by omega
    subst e
    exact h3 k (by omega)
theorem SpI.done {xs : List Int} {m : Int} {n q : Nat} (h : SpI xs n q m) (hn : xs.length = n) : m = spr xs := by
  obtain ⟨h0, h1, h2, _⟩ := h
  refine spr_unique h0 (fun x hx y hy => ?_) h1
  obtain ⟨i, hi, rfl⟩ := in_getD hx
  obtain ⟨k, hk, rfl⟩ := in_getD hy
  exact h2 i (by omega) k hk
set_option maxHeartbeats 1000000 in
set_option maxRecDepth 100000 in
theorem spreadOf_ok (v : Value) (xs : List Int) (w : World) (hv : IntsIn w v xs) (hl : xs.length ≤ 1000000) (hT : ∀ x ∈ xs, isT x) :
    Calls Tryd.prog 16 #[v] w fun e w' => e = .returned (.int .i64 (spr xs)) ∧ ∃ q, w' = w.drewN q := by
  obtain ⟨ad, cap, rfl, hcells⟩ := hv
  have HV := hide hcells
  have HT := hide hT
  obtain ⟨n, hn⟩ : ∃ n, xs.length = n := ⟨_, rfl⟩
  have Hl : Hid (xs.length = n) := hn
  rw [hn] at hl ⊢
  clear hn hcells hT
  go_enter Tryd.func16, Tryd.ntmps16
  go_wp2
  go_loopw [3, 4] (fun c i wr => ∃ (p : Nat) (m : Int), p ≤ n ∧ i = .int .i64 p ∧ c = .int .i64 m ∧ Hid (SpI xs p 0 m) ∧ ∃ q, wr = w.drewN q) (fun _ i _ => n - (intOf i).toNat)
  case atStart => exact ⟨0, 0, by omega, rfl, rfl, SpI.start xs, 0, rfl⟩
  case round =>
    obtain ⟨p, m0, hp, rfl, rfl, HI0, q0, rfl⟩ := hrel
    by_cases hlt : p < n
    · obtain ⟨b, off, rfl, hcp⟩ := unhide HV p (by rw [unhide Hl]; exact hlt)
      have HX : Hid (∃ x, xs.getD p 0 = x) := ⟨_, rfl⟩
      obtain ⟨x, hx⟩ := unhide HX
      rw [hx] at hcp
      have hxT := unhide HT _ (getD_in xs p (by rw [unhide Hl]; exact hlt))
      rw [hx] at hxT
      have x1 := hxT.1
      have x2 := hxT.2
      have HPX := hide hx
      clear hx HX hxT
      go_wp2
      go_loopw [3, 5] (fun c i wr => ∃ (k : Nat) (m : Int), k ≤ n ∧ i = .int .i64 k ∧ c = .int .i64 m ∧ Hid (SpI xs p k m) ∧ ∃ q, wr = w.drewN q) (fun _ i _ => n - (intOf i).toNat)
      case atStart => exact ⟨0, m0, by omega, rfl, rfl, HI0, q0, rfl⟩
      case round =>
        obtain ⟨k, m, hk, rfl, rfl, HI, q, rfl⟩ := hrel
        by_cases hlt2 : k < n
        · have hc : w.cell? ⟨b, off + k, none⟩ = some (.int .i64 (xs.getD k 0)) := by
            obtain ⟨b', o', e, hc⟩ := unhide HV k (by rw [unhide Hl]; exact hlt2)
            cases e
            exact hc
          have hyT := unhide HT _ (getD_in xs k (by rw [unhide Hl]; exact hlt2))
          have HS := hide ((unhide HI).step (x := x) (y := xs.getD k 0) (by rw [unhide Hl]; exact hlt) (by rw [unhide Hl]; exact hlt2) (unhide HPX) rfl)
          have hmb := (unhide HI).bound (unhide HT)
          generalize xs.getD k 0 = y at *
          have y1 := hyT.1
          have y2 := hyT.2
          have m1 := hmb.1
          have m2 := hmb.2
          clear hyT hmb
          by_cases hg : m < x - y
          · rw [if_pos hg] at HS
            go_wp2
            go_quiet (fail)
            go_wp2
            go_quiet (fail)
            go_wp2
            go_roundw
            case rel => exact ⟨k + 1, x - y, by omega, by go_num, rfl, HS, _, rfl⟩
            case measure => simp [intOf]; omega
          · rw [if_neg hg] at HS
            go_wp2
            go_quiet (fail)
            go_wp2
            go_roundw
            case rel => exact ⟨k + 1, m, by omega, by go_num, rfl, HS, _, rfl⟩
            case measure => simp [intOf]; omega
        · have hkn : k = n := by omega
          subst hkn
          go_wp2
          go_roundw
          case rel => exact ⟨p + 1, m, by omega, by go_num, rfl, (unhide HI).next (unhide Hl), q, rfl⟩
          case measure => simp [intOf]; omega
    · have hpn : p = n := by omega
      subst hpn
      go_wp2
      go_ret
      exact ⟨ret_int ((unhide HI0).done (unhide Hl)), _, rfl⟩
end Go.Proofs.YtglhapkclpllfabDoor
