/-
  Contracts of package plan: search and Next, whatever the plan, the node and the slot are.
-/
import Derived.Test.YtglhapkclpllfaaDoorPlan1
namespace Go.Proofs.YtglhapkclpllfaaDoor
open Go.RowKit

theorem clo_ok (b : Nat) (node x : Int) (w : World) (h : w.cell? ⟨b, 0, none⟩ = some (.int .i64 node)) :
    Calls Tryd.prog 49 #[.int .i64 x, .pointer (some ⟨b, 0, none⟩)] w fun r w' => r = .returned (.bool (x == node)) ∧ w' = w := by
  go_enter Tryd.func49, Tryd.ntmps49
  go_wp2
  go_ret
  exact ⟨rfl, rfl⟩
theorem search_ok (v : Value) (xs : List Int) (r m bn : Nat) (node : Int) (w : World) (hv : IntsIn w v xs) (hl : xs.length ≤ 32) (hr : r < xs.length) (hb : w.cell? ⟨bn, 0, none⟩ = some (.int .i64 node))
    (hm : m ≤ xs.length) (hno : ∀ i, i < m → (rot xs r).getD i 0 ≠ node) (hat : m < xs.length → (rot xs r).getD m 0 = node) :
    Calls Tryd.prog 48 #[v, .int .i64 r, .func (.func 49) #[] #[.pointer (some ⟨bn, 0, none⟩)]] w fun R w' => R = .returned (.int .i64 (if m < xs.length then (m : Int) else -1)) ∧ w' = w := by
  obtain ⟨ad, cap, rfl, hcells⟩ := hv
  have HV := hide hcells
  have Hno := hide hno
  have Hat := hide hat
  have HR : Hid (∀ k, k < xs.length → (rot xs r).getD k 0 = xs.getD ((r + k) % xs.length) 0) := fun k hk => rot_getD xs r k hr hk
  obtain ⟨n, hn⟩ : ∃ n, xs.length = n := ⟨_, rfl⟩
  have Hl : Hid (xs.length = n) := hn
  rw [hn] at hl hm hr HV Hat HR ⊢
  clear hn hcells hno hat
  go_enter Tryd.func48, Tryd.ntmps48
  go_wp2
  go_loop [10] (fun i => ∃ k : Nat, k ≤ m ∧ i = .int .i64 k) (fun i => n - (intOf i).toNat)
  case atStart => exact ⟨0, by omega, rfl⟩
  case round =>
    obtain ⟨k, hk, rfl⟩ := hrel
    by_cases hlt : k < n
    · obtain ⟨b, off, rfl, hc⟩ := unhide HV ((r + k) % n) (Nat.mod_lt _ (by omega))
      rw [← unhide HR k hlt] at hc
      have hmod : (r + k) % n < n := Nat.mod_lt _ (by omega)
      have hmi : (((r : Int) + (k : Int)).tmod (n : Int)) = (((r + k) % n : Nat) : Int) := by
        rw [Int.tmod_eq_emod_of_nonneg (by omega)]; simp
      have hn0 : ¬ ((n : Int) = 0) := by omega
      generalize hq : (r + k) % n = q at *
      clear hq
      by_cases hkm : k < m
      · have hx := unhide Hno k hkm
        generalize (rot xs r).getD k 0 = x at *
        go_wp2_with (go_at_call 49; refine (clo_ok bn node x _ hb).mono ?_; rintro e w' ⟨rfl, rfl⟩)
        go_round
        case rel => exact ⟨k + 1, by omega, by go_num⟩
        case measure => simp [intOf]; omega
      · have hkm' : k = m := by omega
        subst hkm'
        have hx := unhide Hat hlt
        generalize (rot xs r).getD k 0 = x at *
        subst hx
        go_wp2_with (go_at_call 49; refine (clo_ok bn x x _ hb).mono ?_; rintro e w' ⟨rfl, rfl⟩)
        go_ret
        exact ⟨rfl, rfl⟩
    · have hkm : k = m := by omega
      subst hkm
      go_wp2
      go_ret
      exact ⟨rfl, rfl⟩
theorem nextP_yes (e : Nat → TypeId × Value) (v : Value) (xs : List Int) (node : Int) (s m : Nat) (w : World) (hv : IntsIn w v xs) (h : planOk xs) (hs : s ≤ 1000000) (S : PSent e w)
    (hm : m < xs.length) (hno : ∀ i, i < m → (rot xs (s % xs.length)).getD i 0 ≠ node) (hat : (rot xs (s % xs.length)).getD m 0 = node) :
    Calls Tryd.prog 25 #[v, .int .i64 node, .int .i64 s] w fun R w' => R = .returned (.tuple #[.int .i64 ((s + m : Nat) : Int), .nilIface]) ∧ Below w.heap.size w w' := by
  have HA : Hid (Below w.heap.size w (w.alloc (.cells #[.int .i64 node] 3))) := (Below.refl _ _).alloc (Nat.le_refl _) _
  have HO := hide (roundP_yes e v xs s _ (hv.below (unhide HA)) h hs (S.below (unhide HA)))
  have HS : Hid (∀ w' bn, Below w.heap.size w w' → w'.cell? ⟨bn, 0, none⟩ = some (.int .i64 node) → Calls Tryd.prog 48 #[v, .int .i64 ((s % xs.length : Nat) : Int), .func (.func 49) #[] #[.pointer (some ⟨bn, 0, none⟩)]] w' fun R w2 => R = .returned (.int .i64 (m : Int)) ∧ w2 = w') :=
    fun w' bn hB hb => by
      have := search_ok v xs (s % xs.length) m bn node w' (hv.below hB) h.2.1 (Nat.mod_lt _ (by omega)) hb (by omega) hno (fun _ => hat)
      rw [if_pos hm] at this
      exact this
  obtain ⟨ad, cap, rfl, _⟩ := hv
  have hm32 : m < 32 := by have := h.2.1; omega
  clear h S hno hat hm
  generalize s % xs.length = r at *
  generalize s / xs.length = q at *
  generalize xs.length = n at *
  go_enter Tryd.func25, Tryd.ntmps25
  go_wp2_with fail
  refine (unhide HO).mono ?_
  rintro E w1 ⟨rfl, hB1⟩
  have HB1 : Hid (Below w.heap.size w w1) := (unhide HA).trans (hB1.mono (by simp))
  have hcell : w1.cell? ⟨w.heap.size, 0, none⟩ = some (.int .i64 node) := below_cell hB1 (by simp)
  clear hB1
  go_wp2_with fail
  refine (unhide HS w1 _ (unhide HB1) hcell).mono ?_
  rintro E w2 ⟨rfl, rfl⟩
  go_wp2
  go_ret2
  exact ⟨rfl, unhide HB1⟩
theorem nextP_none (e : Nat → TypeId × Value) (v : Value) (xs : List Int) (node : Int) (s : Nat) (w : World) (hv : IntsIn w v xs) (h : planOk xs) (hs : s ≤ 1000000) (S : PSent e w) (hno : node ∉ xs) :
    Calls Tryd.prog 25 #[v, .int .i64 node, .int .i64 s] w fun R w' => R = .returned (.tuple #[.int .i64 0, .iface (e 4).1 (e 4).2]) ∧ Below w.heap.size w w' := by
  have HA : Hid (Below w.heap.size w (w.alloc (.cells #[.int .i64 node] 3))) := (Below.refl _ _).alloc (Nat.le_refl _) _
  have HO := hide (roundP_yes e v xs s _ (hv.below (unhide HA)) h hs (S.below (unhide HA)))
  have hmod : s % xs.length < xs.length := Nat.mod_lt _ (by have := h.1; omega)
  have HS : Hid (∀ w' bn, Below w.heap.size w w' → w'.cell? ⟨bn, 0, none⟩ = some (.int .i64 node) → Calls Tryd.prog 48 #[v, .int .i64 ((s % xs.length : Nat) : Int), .func (.func 49) #[] #[.pointer (some ⟨bn, 0, none⟩)]] w' fun R w2 => R = .returned (.int .i64 (-1)) ∧ w2 = w') :=
    fun w' bn hB hb => by
      have := search_ok v xs (s % xs.length) xs.length bn node w' (hv.below hB) h.2.1 hmod hb (Nat.le_refl _) (fun i hi e => hno ((rot_mem xs (s % xs.length) node).1 (by rw [← e]; exact getD_mem _ i (by rw [rot_len]; exact hi)))) (fun h => absurd h (Nat.lt_irrefl _))
      rw [if_neg (Nat.lt_irrefl _)] at this
      exact this
  obtain ⟨ad, cap, rfl, _⟩ := hv
  have HE := hide S.c4
  clear h S hno hmod
  generalize s % xs.length = r at *
  generalize s / xs.length = q at *
  generalize xs.length = n at *
  go_enter Tryd.func25, Tryd.ntmps25
  go_wp2_with fail
  refine (unhide HO).mono ?_
  rintro E w1 ⟨rfl, hB1⟩
  have HB1 : Hid (Below w.heap.size w w1) := (unhide HA).trans (hB1.mono (by simp))
  have hcell : w1.cell? ⟨w.heap.size, 0, none⟩ = some (.int .i64 node) := below_cell hB1 (by simp)
  have hE := below_cell (unhide HB1) (unhide HE)
  clear hB1
  go_wp2_with fail
  refine (unhide HS w1 _ (unhide HB1) hcell).mono ?_
  rintro E w2 ⟨rfl, rfl⟩
  go_wp2
  go_quiet (fail)
  go_wp2
  go_ret2
  exact ⟨rfl, below_draw (unhide HB1) _⟩
theorem nextP_far (e : Nat → TypeId × Value) (v : Value) (xs : List Int) (node s : Int) (w : World) (hv : IntsIn w v xs) (h : planOk xs) (hs : ¬ (0 ≤ s ∧ s ≤ 1000000)) (S : PSent e w) :
    Calls Tryd.prog 25 #[v, .int .i64 node, .int .i64 s] w fun R w' => R = .returned (.tuple #[.int .i64 0, .iface (e 1).1 (e 1).2]) ∧ Below w.heap.size w w' := by
  have HA : Hid (Below w.heap.size w (w.alloc (.cells #[.int .i64 node] 3))) := (Below.refl _ _).alloc (Nat.le_refl _) _
  have HO := hide (roundP_far e v xs s _ (hv.below (unhide HA)) h hs (S.below (unhide HA)))
  obtain ⟨ad, cap, rfl, _⟩ := hv
  clear h S hs
  go_enter Tryd.func25, Tryd.ntmps25
  go_wp2_with fail
  refine (unhide HO).mono ?_
  rintro E w1 ⟨rfl, hB1⟩
  have HB1 : Hid (Below w.heap.size w w1) := (unhide HA).trans (hB1.mono (by simp))
  clear hB1
  go_wp2
  go_ret2
  exact ⟨rfl, unhide HB1⟩
theorem nextP_no (e : Nat → TypeId × Value) (v : Value) (xs : List Int) (node s : Int) (w : World) (hv : IntsIn w v xs) (h : ¬ planOk xs) (S : PSent e w) :
    Calls Tryd.prog 25 #[v, .int .i64 node, .int .i64 s] w fun R w' => ∃ t p, R = .returned (.tuple #[.int .i64 0, .iface t p]) ∧ PlanErr e w' xs t p ∧ Below w.heap.size w w' := by
  have HA : Hid (Below w.heap.size w (w.alloc (.cells #[.int .i64 node] 3))) := (Below.refl _ _).alloc (Nat.le_refl _) _
  have HO := hide (roundP_no e v xs s _ (hv.below (unhide HA)) h (S.below (unhide HA)))
  obtain ⟨ad, cap, rfl, _⟩ := hv
  clear h S
  go_enter Tryd.func25, Tryd.ntmps25
  go_wp2_with fail
  refine (unhide HO).mono ?_
  rintro E w1 ⟨t, p, rfl, hp, hB1⟩
  have HB1 : Hid (Below w.heap.size w w1) := (unhide HA).trans (hB1.mono (by simp))
  have HP := hide hp
  clear hB1 hp
  go_wp2
  go_ret2
  exact ⟨_, _, rfl, unhide HP, unhide HB1⟩
end Go.Proofs.YtglhapkclpllfaaDoor
