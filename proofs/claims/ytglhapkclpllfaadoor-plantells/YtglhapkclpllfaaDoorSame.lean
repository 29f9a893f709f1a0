/-
  The contract of bargelockref1.SameInts: two lists of numbers are the same; nothing in memory turns (it draws).
-/
import Derived.Test.YtglhapkclpllfaaDoorProg
import Derived.Test.YtglhapkclpllfaaDoorBase
import Derived.BigQuiet
namespace Go.Proofs.YtglhapkclpllfaaDoor
open Go.RowKit

theorem take_succ_getD (xs : List Int) (k : Nat) (h : k < xs.length) : xs.take (k + 1) = xs.take k ++ [xs.getD k 0] := by
  rw [List.take_succ_eq_append_getElem h, List.getD_eq_getElem?_getD, List.getElem?_eq_getElem h]; rfl
theorem ne_of_getD {xs ys : List Int} {k : Nat} (h : xs.getD k 0 ≠ ys.getD k 0) : (xs == ys) = false := by
  cases e : xs == ys with
  | false => rfl
  | true => exact absurd (by rw [eq_of_beq e]) h
theorem ne_of_len {xs ys : List Int} (h : xs.length ≠ ys.length) : (xs == ys) = false := by
  cases e : xs == ys with
  | false => rfl
  | true => exact absurd (by rw [eq_of_beq e]) h
theorem same_of_take {xs ys : List Int} (hl : xs.length = ys.length) {k : Nat} (hk : xs.length ≤ k) (h : xs.take k = ys.take k) : (xs == ys) = true := by
  rw [List.take_of_length_le hk, List.take_of_length_le (by omega)] at h
  rw [h]; simp
set_option maxHeartbeats 1000000 in
theorem same_ints_in (v1 v2 : Value) (xs ys : List Int) (w : World) (h1 : IntsIn w v1 xs) (h2 : IntsIn w v2 ys) (l1 : xs.length ≤ maxLen) :
    Calls Tryd.prog 8 #[v1, v2] w fun e w' => e = .returned (.bool (xs == ys)) ∧ ∃ n, w' = w.drewN n := by
  unfold maxLen at l1
  obtain ⟨a1, c1, rfl, h1⟩ := h1
  obtain ⟨a2, c2, rfl, h2⟩ := h2
  by_cases hl : xs.length = ys.length
  · by_cases h0 : xs.length = 0
    · have e1 : xs = [] := List.eq_nil_of_length_eq_zero h0
      have e2 : ys = [] := List.eq_nil_of_length_eq_zero (by omega)
      subst e1 e2
      clear h1 h2 hl h0
      go_enter Tryd.func8, Tryd.ntmps8
      go_wp2
      refine wp_loop_rounds 1 ?_
      rw [rounds_succ]
      go_wp2
      go_ret
      exact ⟨rfl, 0, rfl⟩
    · obtain ⟨b1, o1, rfl, _⟩ := h1 0 (by omega)
      obtain ⟨b2, o2, rfl, _⟩ := h2 0 (by omega)
      have g1 : ∀ i, i < xs.length → w.cell? ⟨b1, o1 + i, none⟩ = some (.int .i64 (xs.getD i 0)) := fun i hi => by
        obtain ⟨b, o, e, hc⟩ := h1 i hi
        cases e
        exact hc
      have g2 : ∀ i, i < ys.length → w.cell? ⟨b2, o2 + i, none⟩ = some (.int .i64 (ys.getD i 0)) := fun i hi => by
        obtain ⟨b, o, e, hc⟩ := h2 i hi
        cases e
        exact hc
      clear h1 h2
      have Hl : Hid (xs.length = ys.length) := hl
      obtain ⟨n, hn⟩ : ∃ n, ys.length = n := ⟨_, rfl⟩
      rw [hn] at hl g2 ⊢
      rw [hl] at g1 l1 h0 ⊢
      have Hn : Hid (ys.length = n) := hn
      have Hx : Hid (xs.length = n) := hl
      clear hn hl
      go_enter Tryd.func8, Tryd.ntmps8
      go_wp2
      go_loopw [5] (fun i wr => ∃ k : Nat, k ≤ n ∧ i = .int .i64 k ∧ Hid (xs.take k = ys.take k) ∧ ∃ m, wr = w.drewN m) (fun i _ => n - (intOf i).toNat)
      case atStart => exact ⟨0, by omega, rfl, rfl, 0, rfl⟩
      case round =>
        obtain ⟨k, hk, rfl, htk, m, rfl⟩ := hrel
        by_cases hlt : k < n
        · have f1 := g1 k hlt
          have f2 := g2 k hlt
          obtain ⟨x, hx⟩ : ∃ x, xs.getD k 0 = x := ⟨_, rfl⟩
          obtain ⟨y, hy⟩ : ∃ y, ys.getD k 0 = y := ⟨_, rfl⟩
          rw [hx] at f1
          rw [hy] at f2
          have HX := hide hx
          have HY := hide hy
          clear hx hy g1 g2
          by_cases he : x = y
          · subst he
            go_wp2
            go_quiet (fail)
            go_wp2
            go_roundw
            case rel => exact ⟨k + 1, by omega, by go_num, by
              show xs.take (k + 1) = ys.take (k + 1)
              rw [take_succ_getD xs k (by rw [unhide Hx]; exact hlt), take_succ_getD ys k (by rw [unhide Hn]; exact hlt), unhide htk, unhide HX, unhide HY], _, rfl⟩
            case measure => simp [intOf]; omega
          · go_wp2
            go_quiet (fail)
            go_wp2
            go_ret
            exact ⟨ret_bool (ne_of_getD (by rw [unhide HX, unhide HY]; exact he)).symm, m + nq, by rw [World.drewN_drewN]⟩
        · have : k = n := by omega
          subst this
          go_wp2
          go_ret
          exact ⟨ret_bool (same_of_take (unhide Hl) (by rw [unhide Hx]; omega) (unhide htk)).symm, _, rfl⟩
  · have hl' : ¬ ((xs.length : Int) = (ys.length : Int)) := by omega
    clear h1 h2
    go_enter Tryd.func8, Tryd.ntmps8
    go_wp2
    go_ret
    exact ⟨ret_bool (ne_of_len hl).symm, 0, rfl⟩
theorem same_ints (v1 v2 : Value) (xs ys : List Int) (w : World) (h1 : IntsAt w v1 xs) (h2 : IntsAt w v2 ys) (l1 : xs.length ≤ maxLen) :
    Calls Tryd.prog 8 #[v1, v2] w fun e w' => e = .returned (.bool (xs == ys)) ∧ ∃ n, w' = w.drewN n := same_ints_in v1 v2 xs ys w h1.in' h2.in' l1
end Go.Proofs.YtglhapkclpllfaaDoor
