/-
  Contracts of package clique: Tally, Stays, whatever the history and the round are.
  Conditions: five errors of package api lie as laid (structure QSent).
-/
import Derived.Test.YtglhapkclpllfacDoorClique0
namespace Go.Proofs.YtglhapkclpllfacDoor
open Go.RowKit

/-! ### Tally and Stays -/
theorem tally_no (e : Nat → TypeId × Value) (v : Value) (l : List Ent) (round : Int) (w : World) (hv : EntsIn w v l) (h : ¬ histOk l) (S : QSent e w) :
    Calls Tryd.prog 46 #[v, .int .i64 round] w fun r w' => ∃ ty p, r = .returned (.tuple #[.int .i64 0, .int .i64 0, .iface ty p]) ∧ HistErr e w' l ty p ∧ Below w.heap.size w w' := by
  have HC := hide (check_no e v l w hv h S)
  obtain ⟨ad, cap, rfl, _⟩ := EntsIn.at hv
  clear hv h S
  go_enter Tryd.func46, Tryd.ntmps46
  go_wp2_with fail
  refine (unhide HC).mono ?_
  rintro E w2 ⟨ty, p, rfl, hE, hB⟩
  have HE := hide hE
  have HB := hide hB
  clear hE hB
  go_wp2
  exact bodyPost_ret (v := .tuple #[.int .i64 0, .int .i64 0, .iface ty p]) (by simp [results, Tryd.results46, go_sem]) rfl ⟨_, _, rfl, unhide HE, unhide HB⟩
theorem tally_round (e : Nat → TypeId × Value) (v : Value) (l : List Ent) (round : Int) (w : World) (hv : EntsIn w v l) (h : histOk l) (hr : ¬ (1 ≤ round ∧ round ≤ 32)) (S : QSent e w) :
    Calls Tryd.prog 46 #[v, .int .i64 round] w fun r w' => r = .returned (.tuple #[.int .i64 0, .int .i64 0, .iface (e 1).1 (e 1).2]) ∧ Below w.heap.size w w' := by
  have HC := hide (check_yes e v l w hv h S)
  have HS := hide S.c1
  obtain ⟨ad, cap, rfl, _⟩ := EntsIn.at hv
  have hr2 : round < 1 ∨ (¬ round < 1 ∧ 32 < round) := by omega
  clear hv h S hr
  rcases hr2 with h1 | ⟨h1, h2⟩
  all_goals
    go_enter Tryd.func46, Tryd.ntmps46
    go_wp2_with fail
    refine (unhide HC).mono ?_
    rintro E w2 ⟨rfl, hB⟩
    have HB := hide hB
    have c1 := below_cell hB (unhide HS)
    clear hB
    go_wp2
    exact bodyPost_ret (v := .tuple #[.int .i64 0, .int .i64 0, .iface (e 1).1 (e 1).2]) (by simp [results, Tryd.results46, go_sem]) rfl ⟨rfl, unhide HB⟩
theorem heard_lt (l : List Ent) (k : Nat) : heardN (l.take k) ≤ k := by
  have := heard_le (l.take k)
  rw [List.length_take] at this
  omega
set_option maxRecDepth 100000 in
theorem tally_ok (e : Nat → TypeId × Value) (v : Value) (l : List Ent) (r : Nat) (w : World) (hv : EntsIn w v l) (h : histOk l) (hr : 1 ≤ r ∧ r ≤ 32) (S : QSent e w) :
    Calls Tryd.prog 46 #[v, .int .i64 (r : Int)] w fun x w' => x = .returned (.tuple #[.int .i64 (heardN (lastN l r) : Nat), .int .i64 ((lastN l r).length - heardN (lastN l r) : Nat), .nilIface]) ∧ Below w.heap.size w w' := by
  have HC := hide (check_yes e v l w hv h S)
  have h200 := h.1
  have hroom := fun ad n cap (e : v = .slice ad n cap) => EntsIn.room hv e
  obtain ⟨ad, cap, rfl, hcell⟩ := EntsIn.at hv
  have hroom := hroom _ _ _ rfl
  have HCell := hide hcell
  have Hlen : Hid ((lastN l r).length = min r l.length) := last_len l r
  have Hget : Hid (∀ k, (lastN l r).getD k Ent.zero = l.getD (l.length - r + k) Ent.zero) := fun k => last_getD l r k
  obtain ⟨n, hn⟩ : ∃ n, l.length = n := ⟨_, rfl⟩
  rw [hn] at HC HCell h200 Hlen Hget hroom ⊢
  obtain ⟨L, hL⟩ : ∃ L, lastN l r = L := ⟨_, rfl⟩
  rw [hL] at Hlen Hget ⊢
  obtain ⟨hr1, hr2⟩ := hr
  have hr1' : ¬ (r : Int) < 1 := by omega
  have hr2' : ¬ (32 : Int) < (r : Int) := by omega
  obtain ⟨j, hj⟩ : ∃ j, n - r = j := ⟨_, rfl⟩
  rw [hj] at Hget
  have hjn : j ≤ n := by omega
  have Hlen2 : Hid (L.length = n - j) := by
    have := unhide Hlen
    show _ = _
    omega
  have hq : ((n : Int) - (r : Int) < 0 ∧ j = 0) ∨ (¬ ((n : Int) - (r : Int)) < 0 ∧ 0 < (n : Int) - (r : Int) ∧ (n : Int) - (r : Int) = (j : Int)) ∨ (¬ ((n : Int) - (r : Int)) < 0 ∧ (n : Int) - (r : Int) = 0 ∧ j = 0) := by omega
  clear hv h hcell hn hL S Hlen hj
  rcases hq with ⟨q1, rfl⟩ | ⟨q1, q2, q3⟩ | ⟨q1, q2, rfl⟩
  · have HCell2 : Hid (∀ k, k < n → ∃ b off, ad = some ⟨b, off, none⟩ ∧ w.cell? ⟨b, off + k * 4, none⟩ = some (.int .i64 (L.getD k Ent.zero).slot) ∧ w.cell? ⟨b, off + k * 4 + 1, none⟩ = some (.int .i64 (L.getD k Ent.zero).src) ∧ w.cell? ⟨b, off + k * 4 + 2, none⟩ = some (.bool (L.getD k Ent.zero).heard) ∧ w.cell? ⟨b, off + k * 4 + 3, none⟩ = some (.int .i64 (L.getD k Ent.zero).value)) := fun k hk => by
      have h := unhide HCell k hk
      have e := unhide Hget k
      rw [Nat.zero_add] at e
      rw [e]
      exact h
    clear HCell Hget
    go_enter Tryd.func46, Tryd.ntmps46
    go_wp2_with fail
    refine (unhide HC).mono ?_
    rintro E w2 ⟨rfl, hB⟩
    have HB := hide hB
    clear hB
    go_wp2_with fail
    go_loopw [4, 5, 28] (fun g b q wr => ∃ k x y : Nat, k ≤ n ∧ q = .int .i64 (k : Int) ∧ g = .int .i64 (x : Int) ∧ b = .int .i64 (y : Int) ∧ x ≤ k ∧ y ≤ k ∧ Hid (x = heardN (L.take k)) ∧ Hid (x + y = k) ∧ Hid (Below w.heap.size w wr)) (fun _ _ q _ => n - (intOf q).toNat)
    case atStart => exact ⟨0, 0, 0, by omega, rfl, rfl, rfl, by omega, by omega, by show 0 = _; simp [heardN], by trivial, unhide HB⟩
    case round =>
      obtain ⟨k, x, y, hk, rfl, rfl, rfl, hx, hy, Hx, Hy, HB3⟩ := hrel
      by_cases hlt : k < n
      · obtain ⟨b, off, rfl, c0, c1, c2, c3⟩ := unhide HCell2 k hlt
        have d0 := below_cell (unhide HB3) c0
        have d1 := below_cell (unhide HB3) c1
        have d2 := below_cell (unhide HB3) c2
        have d3 := below_cell (unhide HB3) c3
        have k0 : (0 : Int) ≤ (k : Int) := Int.natCast_nonneg _
        have k1 : (k : Int) < (n : Int) := by omega
        have lb := Nat.lt_of_lt_of_le (cell_lt c0) (unhide HB3).size
        have HS := hide (heard_snoc L k (by rw [unhide Hlen2]; omega))
        rw [← unhide Hx] at HS
        clear c0 c1 c2 c3
        generalize (L.getD k Ent.zero).slot = x0 at *
        generalize (L.getD k Ent.zero).src = x1 at *
        generalize (L.getD k Ent.zero).heard = x2 at *
        generalize (L.getD k Ent.zero).value = x3 at *
        have HA : Hid (Below w.heap.size w (wr.alloc (.cells #[.int .i64 x0, .int .i64 x1, .bool x2, .int .i64 x3] 52))) := (unhide HB3).alloc (unhide HB3).size _
        cases x2 with
        | true =>
          have HS2 : Hid (x + 1 = heardN (L.take (k + 1))) := by
            have := unhide HS
            show _ = _
            rw [this]; simp
          go_wp2
          go_roundw
          case rel => exact ⟨k + 1, x + 1, y, by omega, by go_num, by go_num, rfl, by omega, by omega, unhide HS2, by have := unhide Hy; show _ = _; omega, unhide HA⟩
          case measure => simp [intOf]; omega
        | false =>
          have HS2 : Hid (x = heardN (L.take (k + 1))) := by
            have := unhide HS
            show _ = _
            rw [this]; simp
          go_wp2
          go_roundw
          case rel => exact ⟨k + 1, x, y + 1, by omega, by go_num, rfl, by go_num, by omega, by omega, unhide HS2, by have := unhide Hy; show _ = _; omega, unhide HA⟩
          case measure => simp [intOf]; omega
      · obtain rfl : k = n := by omega
        have Hx2 : Hid (x = heardN L ∧ y = L.length - heardN L) := by
          have h1 := unhide Hx
          have h2 := unhide Hy
          have h3 := unhide Hlen2
          rw [List.take_of_length_le (by omega)] at h1
          exact ⟨h1, by omega⟩
        go_wp2
        obtain ⟨rfl, rfl⟩ := unhide Hx2
        exact bodyPost_ret (v := .tuple #[.int .i64 (heardN L : Nat), .int .i64 (L.length - heardN L : Nat), .nilIface]) (by simp [results, Tryd.results46, go_sem]) rfl ⟨rfl, unhide HB3⟩
  · obtain ⟨m, hm⟩ : ∃ m, n - j = m := ⟨_, rfl⟩
    rw [hm] at Hlen2
    have hm200 : m ≤ 200 := by omega
    have HCell2 : Hid (∀ k, k < m → ∃ b off, ad.map (fun x => x.add (j * 4)) = some ⟨b, off, none⟩ ∧ w.cell? ⟨b, off + k * 4, none⟩ = some (.int .i64 (L.getD k Ent.zero).slot) ∧ w.cell? ⟨b, off + k * 4 + 1, none⟩ = some (.int .i64 (L.getD k Ent.zero).src) ∧ w.cell? ⟨b, off + k * 4 + 2, none⟩ = some (.bool (L.getD k Ent.zero).heard) ∧ w.cell? ⟨b, off + k * 4 + 3, none⟩ = some (.int .i64 (L.getD k Ent.zero).value)) := fun k hk => by
      obtain ⟨b, off, rfl, c0, c1, c2, c3⟩ := unhide HCell (j + k) (by omega)
      have e := unhide Hget k
      rw [e]
      have e4 : off + j * 4 + k * 4 = off + (j + k) * 4 := by omega
      refine ⟨b, off + j * 4, by simp [Addr.add]; omega, ?_, ?_, ?_, ?_⟩
      · rw [e4]; exact c0
      · rw [e4]; exact c1
      · rw [e4]; exact c2
      · rw [e4]; exact c3
    clear HCell Hget
    go_enter Tryd.func46, Tryd.ntmps46
    go_wp2_with fail
    refine (unhide HC).mono ?_
    rintro E w2 ⟨rfl, hB⟩
    have HB := hide hB
    clear hB
    go_wp2_with fail
    generalize ad.map (fun x => x.add (j * 4)) = ad2 at *
    clear hm
    go_loopw [4, 5, 28] (fun g b q wr => ∃ k x y : Nat, k ≤ m ∧ q = .int .i64 (k : Int) ∧ g = .int .i64 (x : Int) ∧ b = .int .i64 (y : Int) ∧ x ≤ k ∧ y ≤ k ∧ Hid (x = heardN (L.take k)) ∧ Hid (x + y = k) ∧ Hid (Below w.heap.size w wr)) (fun _ _ q _ => m - (intOf q).toNat)
    case atStart => exact ⟨0, 0, 0, by omega, rfl, rfl, rfl, by omega, by omega, by show 0 = _; simp [heardN], by trivial, unhide HB⟩
    case round =>
      obtain ⟨k, x, y, hk, rfl, rfl, rfl, hx, hy, Hx, Hy, HB3⟩ := hrel
      by_cases hlt : k < m
      · obtain ⟨b, off, rfl, c0, c1, c2, c3⟩ := unhide HCell2 k hlt
        have d0 := below_cell (unhide HB3) c0
        have d1 := below_cell (unhide HB3) c1
        have d2 := below_cell (unhide HB3) c2
        have d3 := below_cell (unhide HB3) c3
        have k0 : (0 : Int) ≤ (k : Int) := Int.natCast_nonneg _
        have k1 : (k : Int) < (m : Int) := by omega
        have lb := Nat.lt_of_lt_of_le (cell_lt c0) (unhide HB3).size
        have HS := hide (heard_snoc L k (by rw [unhide Hlen2]; omega))
        rw [← unhide Hx] at HS
        clear c0 c1 c2 c3
        generalize (L.getD k Ent.zero).slot = x0 at *
        generalize (L.getD k Ent.zero).src = x1 at *
        generalize (L.getD k Ent.zero).heard = x2 at *
        generalize (L.getD k Ent.zero).value = x3 at *
        have HA : Hid (Below w.heap.size w (wr.alloc (.cells #[.int .i64 x0, .int .i64 x1, .bool x2, .int .i64 x3] 52))) := (unhide HB3).alloc (unhide HB3).size _
        cases x2 with
        | true =>
          have HS2 : Hid (x + 1 = heardN (L.take (k + 1))) := by
            have := unhide HS
            show _ = _
            rw [this]; simp
          go_wp2
          go_roundw
          case rel => exact ⟨k + 1, x + 1, y, by omega, by go_num, by go_num, rfl, by omega, by omega, unhide HS2, by have := unhide Hy; show _ = _; omega, unhide HA⟩
          case measure => simp [intOf]; omega
        | false =>
          have HS2 : Hid (x = heardN (L.take (k + 1))) := by
            have := unhide HS
            show _ = _
            rw [this]; simp
          go_wp2
          go_roundw
          case rel => exact ⟨k + 1, x, y + 1, by omega, by go_num, rfl, by go_num, by omega, by omega, unhide HS2, by have := unhide Hy; show _ = _; omega, unhide HA⟩
          case measure => simp [intOf]; omega
      · obtain rfl : k = m := by omega
        have Hx2 : Hid (x = heardN L ∧ y = L.length - heardN L) := by
          have h1 := unhide Hx
          have h2 := unhide Hy
          have h3 := unhide Hlen2
          rw [List.take_of_length_le (by omega)] at h1
          exact ⟨h1, by omega⟩
        go_wp2
        obtain ⟨rfl, rfl⟩ := unhide Hx2
        exact bodyPost_ret (v := .tuple #[.int .i64 (heardN L : Nat), .int .i64 (L.length - heardN L : Nat), .nilIface]) (by simp [results, Tryd.results46, go_sem]) rfl ⟨rfl, unhide HB3⟩
  · have HCell2 : Hid (∀ k, k < n → ∃ b off, ad = some ⟨b, off, none⟩ ∧ w.cell? ⟨b, off + k * 4, none⟩ = some (.int .i64 (L.getD k Ent.zero).slot) ∧ w.cell? ⟨b, off + k * 4 + 1, none⟩ = some (.int .i64 (L.getD k Ent.zero).src) ∧ w.cell? ⟨b, off + k * 4 + 2, none⟩ = some (.bool (L.getD k Ent.zero).heard) ∧ w.cell? ⟨b, off + k * 4 + 3, none⟩ = some (.int .i64 (L.getD k Ent.zero).value)) := fun k hk => by
      have h := unhide HCell k hk
      have e := unhide Hget k
      rw [Nat.zero_add] at e
      rw [e]
      exact h
    clear HCell Hget
    go_enter Tryd.func46, Tryd.ntmps46
    go_wp2_with fail
    refine (unhide HC).mono ?_
    rintro E w2 ⟨rfl, hB⟩
    have HB := hide hB
    clear hB
    go_wp2_with fail
    go_loopw [4, 5, 28] (fun g b q wr => ∃ k x y : Nat, k ≤ n ∧ q = .int .i64 (k : Int) ∧ g = .int .i64 (x : Int) ∧ b = .int .i64 (y : Int) ∧ x ≤ k ∧ y ≤ k ∧ Hid (x = heardN (L.take k)) ∧ Hid (x + y = k) ∧ Hid (Below w.heap.size w wr)) (fun _ _ q _ => n - (intOf q).toNat)
    case atStart => exact ⟨0, 0, 0, by omega, rfl, rfl, rfl, by omega, by omega, by show 0 = _; simp [heardN], by trivial, unhide HB⟩
    case round =>
      obtain ⟨k, x, y, hk, rfl, rfl, rfl, hx, hy, Hx, Hy, HB3⟩ := hrel
      by_cases hlt : k < n
      · obtain ⟨b, off, rfl, c0, c1, c2, c3⟩ := unhide HCell2 k hlt
        have d0 := below_cell (unhide HB3) c0
        have d1 := below_cell (unhide HB3) c1
        have d2 := below_cell (unhide HB3) c2
        have d3 := below_cell (unhide HB3) c3
        have k0 : (0 : Int) ≤ (k : Int) := Int.natCast_nonneg _
        have k1 : (k : Int) < (n : Int) := by omega
        have lb := Nat.lt_of_lt_of_le (cell_lt c0) (unhide HB3).size
        have HS := hide (heard_snoc L k (by rw [unhide Hlen2]; omega))
        rw [← unhide Hx] at HS
        clear c0 c1 c2 c3
        generalize (L.getD k Ent.zero).slot = x0 at *
        generalize (L.getD k Ent.zero).src = x1 at *
        generalize (L.getD k Ent.zero).heard = x2 at *
        generalize (L.getD k Ent.zero).value = x3 at *
        have HA : Hid (Below w.heap.size w (wr.alloc (.cells #[.int .i64 x0, .int .i64 x1, .bool x2, .int .i64 x3] 52))) := (unhide HB3).alloc (unhide HB3).size _
        cases x2 with
        | true =>
          have HS2 : Hid (x + 1 = heardN (L.take (k + 1))) := by
            have := unhide HS
            show _ = _
            rw [this]; simp
          go_wp2
          go_roundw
          case rel => exact ⟨k + 1, x + 1, y, by omega, by go_num, by go_num, rfl, by omega, by omega, unhide HS2, by have := unhide Hy; show _ = _; omega, unhide HA⟩
          case measure => simp [intOf]; omega
        | false =>
          have HS2 : Hid (x = heardN (L.take (k + 1))) := by
            have := unhide HS
            show _ = _
            rw [this]; simp
          go_wp2
          go_roundw
          case rel => exact ⟨k + 1, x, y + 1, by omega, by go_num, rfl, by go_num, by omega, by omega, unhide HS2, by have := unhide Hy; show _ = _; omega, unhide HA⟩
          case measure => simp [intOf]; omega
      · obtain rfl : k = n := by omega
        have Hx2 : Hid (x = heardN L ∧ y = L.length - heardN L) := by
          have h1 := unhide Hx
          have h2 := unhide Hy
          have h3 := unhide Hlen2
          rw [List.take_of_length_le (by omega)] at h1
          exact ⟨h1, by omega⟩
        go_wp2
        obtain ⟨rfl, rfl⟩ := unhide Hx2
        exact bodyPost_ret (v := .tuple #[.int .i64 (heardN L : Nat), .int .i64 (L.length - heardN L : Nat), .nilIface]) (by simp [results, Tryd.results46, go_sem]) rfl ⟨rfl, unhide HB3⟩
theorem stays_no (e : Nat → TypeId × Value) (v : Value) (l : List Ent) (round : Int) (w : World) (hv : EntsIn w v l) (h : ¬ histOk l) (S : QSent e w) :
    Calls Tryd.prog 25 #[v, .int .i64 round] w fun r w' => ∃ ty p, r = .returned (.tuple #[.bool false, .iface ty p]) ∧ HistErr e w' l ty p ∧ Below w.heap.size w w' := by
  have HC := hide (tally_no e v l round w hv h S)
  obtain ⟨ad, cap, rfl, _⟩ := EntsIn.at hv
  clear hv h S
  go_enter Tryd.func25, Tryd.ntmps25
  go_wp2_with fail
  refine (unhide HC).mono ?_
  rintro E w2 ⟨ty, p, rfl, hE, hB⟩
  have HE := hide hE
  have HB := hide hB
  clear hE hB
  go_wp2
  go_ret2
  exact ⟨_, _, rfl, unhide HE, unhide HB⟩
theorem stays_round (e : Nat → TypeId × Value) (v : Value) (l : List Ent) (round : Int) (w : World) (hv : EntsIn w v l) (h : histOk l) (hr : ¬ (1 ≤ round ∧ round ≤ 32)) (S : QSent e w) :
    Calls Tryd.prog 25 #[v, .int .i64 round] w fun r w' => r = .returned (.tuple #[.bool false, .iface (e 1).1 (e 1).2]) ∧ Below w.heap.size w w' := by
  have HC := hide (tally_round e v l round w hv h hr S)
  obtain ⟨ad, cap, rfl, _⟩ := EntsIn.at hv
  clear hv h S hr
  go_enter Tryd.func25, Tryd.ntmps25
  go_wp2_with fail
  refine (unhide HC).mono ?_
  rintro E w2 ⟨rfl, hB⟩
  have HB := hide hB
  clear hB
  go_wp2
  go_ret2
  exact ⟨rfl, unhide HB⟩
theorem stays_ok (e : Nat → TypeId × Value) (v : Value) (l : List Ent) (r : Nat) (w : World) (hv : EntsIn w v l) (h : histOk l) (hr : 1 ≤ r ∧ r ≤ 32) (S : QSent e w) :
    Calls Tryd.prog 25 #[v, .int .i64 (r : Int)] w fun x w' => x = .returned (.tuple #[.bool (staysB l r), .nilIface]) ∧ Below w.heap.size w w' := by
  have HC := hide (tally_ok e v l r w hv h hr S)
  obtain ⟨ad, cap, rfl, _⟩ := EntsIn.at hv
  clear hv h S hr
  unfold staysB
  generalize heardN (lastN l r) = x at *
  generalize (lastN l r).length - x = y at *
  by_cases hxy : y < x
  · have hxy' : (y : Int) < (x : Int) := by omega
    go_enter Tryd.func25, Tryd.ntmps25
    go_wp2_with fail
    refine (unhide HC).mono ?_
    rintro E w2 ⟨rfl, hB⟩
    have HB := hide hB
    clear hB
    go_wp2
    go_ret2
    exact ⟨by simp [hxy], unhide HB⟩
  · have hxy' : ¬ (y : Int) < (x : Int) := by omega
    go_enter Tryd.func25, Tryd.ntmps25
    go_wp2_with fail
    refine (unhide HC).mono ?_
    rintro E w2 ⟨rfl, hB⟩
    have HB := hide hB
    clear hB
    go_wp2
    go_ret2
    exact ⟨by simp [hxy], unhide HB⟩
/-- What package clique answers. -/
theorem qprog (e : Nat → TypeId × Value) : QProg (QSent e) e where
  keep _ _ S hB := S.below hB
  ckY w v l S hv h := check_yes e v l w hv h S
  ckN w v l S hv h := check_no e v l w hv h S
  taN w v l round S hv h := tally_no e v l round w hv h S
  taR w v l round S hv h hr := tally_round e v l round w hv h hr S
  taO w v l r S hv h hr := tally_ok e v l r w hv h hr S
  stN w v l round S hv h := stays_no e v l round w hv h S
  stR w v l round S hv h hr := stays_round e v l round w hv h hr S
  stO w v l r S hv h hr := stays_ok e v l r w hv h hr S
end Go.Proofs.YtglhapkclpllfacDoor
