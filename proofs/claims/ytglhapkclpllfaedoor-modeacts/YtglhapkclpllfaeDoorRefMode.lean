/-
  Contracts of the document's answer, chapter 11: NewBoard, Ask, Turn, whatever the pairs and what is asked for are.
-/
import Derived.Test.YtglhapkclpllfaeDoorModeMath
import Derived.Test.YtglhapkclpllfaeDoorOnly
import Derived.Test.YtglhapkclpllfaeDoorRefRes
import Derived.Deep.RegionHeld3
namespace Go.Proofs.YtglhapkclpllfaeDoor
open Go.RowKit

/-- A board of the document's answer, in a block of its own. -/
structure RAt (w : World) (g : Nat) (vl : Value) (n a : Int) : Prop where
  c0 : w.cell? ⟨g, 0, none⟩ = some vl
  c1 : w.cell? ⟨g, 1, none⟩ = some (.int .i64 n)
  c2 : w.cell? ⟨g, 2, none⟩ = some (.int .i64 a)
  f1 : w.frozen? ⟨g, 1, none⟩ = false
  f2 : w.frozen? ⟨g, 2, none⟩ = false
theorem RAt.stay {w w' : World} {g : Nat} {vl : Value} {n a : Int} (h : RAt w g vl n a) (hk : w'.heap[g]? = w.heap[g]?) : RAt w' g vl n a := by
  obtain ⟨h0, h1, h2, h3, h4⟩ := h
  refine ⟨?_, ?_, ?_, ?_, ?_⟩
  · simpa only [World.cell?, hk] using h0
  · simpa only [World.cell?, hk] using h1
  · simpa only [World.cell?, hk] using h2
  · simpa only [World.frozen?, hk] using h3
  · simpa only [World.frozen?, hk] using h4
theorem RAt.lt {w : World} {g : Nat} {vl : Value} {n a : Int} (h : RAt w g vl n a) : g < w.heap.size := cell_lt h.c0
/-- A board's number is written. -/
theorem RAt.set1 {w : World} {g : Nat} {vl : Value} {n a : Int} (h : RAt w g vl n a) (n' : Int) : RAt (w.setCell ⟨g, 1, none⟩ (.int .i64 n')) g vl n' a := by
  obtain ⟨h0, h1, h2, h3, h4⟩ := h
  refine ⟨?_, World.cell?_setCell_same _ _ _ h1, ?_, by simpa using h3, by simpa using h4⟩
  · rw [World.cell?_setCell_other _ _ _ _ (by simp)]; exact h0
  · rw [World.cell?_setCell_other _ _ _ _ (by simp)]; exact h2
theorem RAt.set2 {w : World} {g : Nat} {vl : Value} {n a : Int} (h : RAt w g vl n a) (a' : Int) : RAt (w.setCell ⟨g, 2, none⟩ (.int .i64 a')) g vl n a' := by
  obtain ⟨h0, h1, h2, h3, h4⟩ := h
  refine ⟨?_, ?_, World.cell?_setCell_same _ _ _ h2, by simpa using h3, by simpa using h4⟩
  · rw [World.cell?_setCell_other _ _ _ _ (by simp)]; exact h0
  · rw [World.cell?_setCell_other _ _ _ _ (by simp)]; exact h1
theorem turnR_ok (g : Nat) (vl : Value) (n a : Int) (w : World) (h : RAt w g vl n a) (hb : boardOk n a) :
    Calls Tryd.prog 10 #[.pointer (some ⟨g, 0, none⟩)] w fun r w' => r = .returned (.int .i64 (turnN n a)) ∧ RAt w' g vl (turnN n a) (-1) ∧ Only (fun k => k = g) w w' := by
  obtain ⟨h0, h1, h2, h3, h4⟩ := h
  have HR : Hid (RAt w g vl n a) := ⟨h0, h1, h2, h3, h4⟩
  unfold turnN
  by_cases ha : 0 ≤ a
  · rw [if_pos ha]
    have HO := hide ((only_set (w := w) ⟨g, 1, none⟩ (.int .i64 a)).trans (only_set ⟨g, 2, none⟩ (.int .i64 (-1))))
    have HR2 := hide (((unhide HR).set1 a).set2 (-1))
    clear hb
    go_enter Tryd.func10, Tryd.ntmps10
    go_wp2
    go_ret
    exact ⟨rfl, unhide HR2, unhide HO⟩
  · rw [if_neg ha]
    obtain rfl : a = -1 := by have := hb.2; omega
    clear hb
    go_enter Tryd.func10, Tryd.ntmps10
    go_wp2
    go_ret
    exact ⟨rfl, unhide HR, below_only (Below.refl _ _)⟩
set_option maxRecDepth 100000 in
theorem askR_ok (g : Nat) (v : Value) (l : List Pr) (n a to : Int) (w : World) (h : RAt w g v n a) (hv : PrsIn w v l) (hl : l.length ≤ 16) :
    Calls Tryd.prog 13 #[.pointer (some ⟨g, 0, none⟩), .int .i64 to] w fun r w' => r = .returned (.int .i64 (askC l n a to : Nat)) ∧ RAt w' g v n (askA l n a to) ∧ Only (fun k => k = g) w w' := by
  have HR := hide h
  have HAA : Hid (askA l n a to = if askC l n a to = 0 then to else a) := rfl
  by_cases h1 : to < 0 ∨ 3 < to
  · have hc : askC l n a to = 2 := by unfold askC; rw [if_pos h1]
    have h1' : to < 0 ∨ (¬ to < 0 ∧ 3 < to) := by omega
    have ha : askA l n a to = a := by rw [unhide HAA, hc]; rfl
    rw [hc, ha]
    clear hv h hc ha HAA h1
    rcases h1' with h1 | ⟨h1, h2⟩
    all_goals
      go_enter Tryd.func13, Tryd.ntmps13
      go_wp2
      go_ret
      exact ⟨rfl, unhide HR, below_only (Below.refl _ _)⟩
  have h1a : ¬ to < 0 := by omega
  have h1b : ¬ 3 < to := by omega
  by_cases h2 : 0 ≤ a
  · have hc : askC l n a to = 6 := by unfold askC; rw [if_neg h1, if_pos h2]
    have ha : askA l n a to = a := by rw [unhide HAA, hc]; rfl
    rw [hc, ha]
    obtain ⟨c0, c1, c2, c3, c4⟩ := h
    clear hv hc ha HAA h1
    go_enter Tryd.func13, Tryd.ntmps13
    go_wp2
    go_ret
    exact ⟨rfl, unhide HR, below_only (Below.refl _ _)⟩
  obtain ⟨m, m1, m2, m3⟩ := first_idx (fun i => decide ((l.getD i Pr.zero).src = n ∧ (l.getD i Pr.zero).dst = to)) l.length
  have hany : allowB l n to = decide (m < l.length) := any_idx l Pr.zero _ m1 m2 m3
  have hc : askC l n a to = if m < l.length then 0 else 3 := by
    unfold askC
    rw [if_neg h1, if_neg h2, hany]
    by_cases hm : m < l.length
    · rw [decide_eq_true hm, if_pos hm]; rfl
    · rw [decide_eq_false hm, if_neg hm]; rfl
  have HYes : Hid (m < l.length → askC l n a to = 0 ∧ askA l n a to = to) := fun hm => by
    have h0 : askC l n a to = 0 := by rw [hc, if_pos hm]
    exact ⟨h0, by rw [unhide HAA, if_pos h0]⟩
  have HNo : Hid (¬ m < l.length → askC l n a to = 3 ∧ askA l n a to = a) := fun hm => by
    have h0 : askC l n a to = 3 := by rw [hc, if_neg hm]
    exact ⟨h0, by rw [unhide HAA, h0]; rfl⟩
  generalize askC l n a to = C at *
  generalize askA l n a to = T at *
  obtain ⟨ad, cap, rfl, hcell⟩ := PrsIn.at hv
  have HCell := hide hcell
  have HM2 := hide m2
  have HM3 := hide m3
  obtain ⟨k, hk⟩ : ∃ k, l.length = k := ⟨_, rfl⟩
  rw [hk] at HCell HM3 m1 hl HR HYes HNo h ⊢
  obtain ⟨c0, c1, c2, c3, c4⟩ := h
  clear hv hcell m2 m3 hany hc HAA h1 hk
  go_enter Tryd.func13, Tryd.ntmps13
  go_wp2_with fail
  go_loopw [5] (fun q wr => ∃ i : Nat, i ≤ m ∧ q = .int .i64 (i : Int) ∧ ∃ dn, wr = w.drewN dn) (fun q _ => k - (intOf q).toNat)
  case atStart => exact ⟨0, by omega, by simp, 0, rfl⟩
  case round =>
    obtain ⟨i, hi, rfl, dn, rfl⟩ := hrel
    by_cases hlt : i < k
    · obtain ⟨b, off, rfl, d0, d1⟩ := unhide HCell i hlt
      have i0 : (0 : Int) ≤ (i : Int) := Int.natCast_nonneg _
      have i1 : (i : Int) < (k : Int) := by omega
      by_cases him : i < m
      · have hne := of_decide_eq_false (unhide HM2 i him)
        generalize (l.getD i Pr.zero).src = x at *
        generalize (l.getD i Pr.zero).dst = y at *
        by_cases hx : x = n
        · subst hx
          have hy : ¬ y = to := fun e => hne ⟨rfl, e⟩
          clear hne
          go_wp2
          go_quiet (fail)
          go_wp2
          go_roundw
          case rel => exact ⟨i + 1, by omega, by go_num, _, rfl⟩
          case measure => simp [intOf]; omega
        · clear hne
          go_wp2
          go_quiet (fail)
          go_wp2
          go_roundw
          case rel => exact ⟨i + 1, by omega, by go_num, _, rfl⟩
          case measure => simp [intOf]; omega
      · obtain rfl : i = m := by omega
        obtain ⟨hx, hy⟩ := of_decide_eq_true (unhide HM3 hlt)
        rw [hx] at d0
        rw [hy] at d1
        obtain ⟨rfl, rfl⟩ := unhide HYes hlt
        clear hx hy HNo HYes
        go_wp2
        go_quiet (fail)
        go_wp2
        go_ret
        exact ⟨rfl, ((unhide HR).stay (w' := w.drewN (dn + nq)) rfl).set2 T, (below_only (below_draw (Below.refl _ _) (dn + nq))).trans (only_set ⟨g, 2, none⟩ (.int .i64 T))⟩
    · obtain rfl : i = k := by omega
      obtain rfl : m = i := by omega
      obtain ⟨rfl, rfl⟩ := unhide HNo (Nat.lt_irrefl _)
      clear HNo HYes
      go_wp2
      go_ret
      exact ⟨rfl, (unhide HR).stay rfl, below_only (below_draw (Below.refl _ _) dn)⟩
set_option maxRecDepth 100000 in
theorem newR_full (v : Value) (l : List Pr) (w : World) (hv : PrsIn w v l) (h : 16 < l.length) :
    Calls Tryd.prog 7 #[v] w fun r w' => r = .returned (.tuple #[.pointer none, .agg #[.int .i64 7, .int .i64 (-1)]]) ∧ Below w.heap.size w w' := by
  obtain ⟨ad, cap, rfl, _⟩ := PrsIn.at hv
  have h' : (16 : Int) < (l.length : Int) := by omega
  clear hv h
  go_enter Tryd.func7, Tryd.ntmps7
  go_wp2_with fail
  refine (bare_ok 7 _).mono ?_
  rintro e w2 ⟨rfl, hB2⟩
  obtain ⟨hc0, hc1, hf0, hf1, hB⟩ := res_cells hB2
  have HB := hide hB
  clear hB2 hB
  go_wp2
  exact bodyPost_ret (v := .tuple #[.pointer none, .agg #[.int .i64 7, .int .i64 (-1)]]) (by simp [results, Tryd.results7, go_sem, hc0, hc1]) rfl ⟨rfl, below_res (unhide HB) _ _⟩
set_option maxRecDepth 100000 in
set_option maxHeartbeats 1000000 in
theorem newR_walk (v : Value) (l : List Pr) (m : Nat) (w : World) (hv : PrsIn w v l) (h16 : l.length ≤ 16) (hm : m ≤ l.length) (hn : ∀ i, i < m → prOk (l.getD i Pr.zero)) (hc : m < l.length → ¬ prOk (l.getD m Pr.zero)) :
    Calls Tryd.prog 7 #[v] w fun r w' => ((m < l.length ∧ r = .returned (.tuple #[.pointer none, .agg #[.int .i64 2, .int .i64 m]])) ∨ (∃ g, m = l.length ∧ w.heap.size ≤ g ∧ r = .returned (.tuple #[.pointer (some ⟨g, 0, none⟩), .agg #[.int .i64 0, .int .i64 (-1)]]) ∧ RAt w' g v 0 (-1))) ∧ Below w.heap.size w w' := by
  have hA : Below w.heap.size w (w.alloc (.cells #[.int .i64 0, .int .i64 0] 34)) := (Below.refl _ _).alloc (Nat.le_refl _) _
  obtain ⟨W, hW⟩ : ∃ W, W = w.alloc (.cells #[.int .i64 0, .int .i64 0] 34) := ⟨_, rfl⟩
  rw [← hW] at hA
  have r0 : W.cell? ⟨w.heap.size, 0, none⟩ = some (.int .i64 0) := by rw [hW]; simp
  have r1 : W.cell? ⟨w.heap.size, 0 + 1, none⟩ = some (.int .i64 0) := by rw [hW]; simp
  have f0 : W.frozen? ⟨w.heap.size, 0, none⟩ = false := by rw [hW]; simp
  have f1 : W.frozen? ⟨w.heap.size, 0 + 1, none⟩ = false := by rw [hW]; simp
  obtain ⟨ad, cap, rfl, hcell⟩ := PrsIn.at hv
  have HCell := hide hcell
  have HN := hide hn
  have HC := hide hc
  obtain ⟨n, hln⟩ : ∃ n, l.length = n := ⟨_, rfl⟩
  rw [hln] at HCell HC hm h16 ⊢
  have h' : ¬ (16 : Int) < (n : Int) := by omega
  have HA := hide hA
  have HR := hide (And.intro r0 (And.intro r1 (And.intro f0 f1)))
  have HW := hide hW
  clear hA r0 r1 f0 f1 hW hv hcell hn hc hln
  go_enter Tryd.func7, Tryd.ntmps7
  go_wp2_with fail
  go_loopw [4] (fun q wr => ∃ k : Nat, k ≤ m ∧ q = .int .i64 (k : Int) ∧ Hid (wr = W)) (fun q _ => n - (intOf q).toNat)
  case atStart => exact ⟨0, by omega, by simp, hide (unhide HW).symm⟩
  case round =>
    obtain ⟨k, hk, rfl, hwr⟩ := hrel
    have hwr := unhide hwr
    subst hwr
    clear HW
    by_cases hlt : k < n
    · obtain ⟨b, off, rfl, c0, c1⟩ := unhide HCell k hlt
      have d0 := below_cell (unhide HA) c0
      have d1 := below_cell (unhide HA) c1
      have k0 : (0 : Int) ≤ (k : Int) := Int.natCast_nonneg _
      have k1 : (k : Int) < (n : Int) := by omega
      clear c0 c1
      by_cases hkm : k < m
      · obtain ⟨⟨e0, e1⟩, e2, e3⟩ := unhide HN k hkm
        generalize (l.getD k Pr.zero).src = x at *
        generalize (l.getD k Pr.zero).dst = y at *
        have q0 : ¬ x < 0 := by omega
        have q1 : ¬ (3 : Int) < x := by omega
        have q2 : ¬ y < 0 := by omega
        have q3 : ¬ (3 : Int) < y := by omega
        clear e0 e1 e2 e3
        go_wp2
        go_roundw
        case rel => exact ⟨k + 1, by omega, by go_num, by trivial⟩
        case measure => simp [intOf]; omega
      · obtain rfl : k = m := by omega
        have hbad := unhide HC hlt
        unfold prOk at hbad
        generalize (l.getD k Pr.zero).src = x at *
        generalize (l.getD k Pr.zero).dst = y at *
        have hq : x < 0 ∨ (¬ x < 0 ∧ (3 : Int) < x) ∨ (¬ x < 0 ∧ ¬ (3 : Int) < x ∧ y < 0) ∨ (¬ x < 0 ∧ ¬ (3 : Int) < x ∧ ¬ y < 0 ∧ (3 : Int) < y) := by omega
        clear hbad
        obtain ⟨r0, r1, f0, f1⟩ := unhide HR
        rcases hq with q0 | ⟨q0, q1⟩ | ⟨q0, q1, q2⟩ | ⟨q0, q1, q2, q3⟩
        all_goals
          go_wp2
          exact bodyPost_ret (v := .tuple #[.pointer none, .agg #[.int .i64 2, .int .i64 k]]) (by simp [results, Tryd.results7, go_sem, r0, r1]) rfl ⟨Or.inl rfl, below_res (unhide HA) _ _⟩
    · obtain rfl : k = n := by omega
      obtain rfl : m = k := by omega
      have hB0 : Below wr.heap.size wr (wr.alloc (.cells #[.slice ad m cap, .int .i64 0, .int .i64 (-1)] 43)) := (Below.refl _ _).alloc (Nat.le_refl _) _
      have HG : Hid (RAt (wr.alloc (.cells #[.slice ad m cap, .int .i64 0, .int .i64 (-1)] 43)) wr.heap.size (.slice ad m cap) 0 (-1)) := ⟨by simp, by simp, by simp, by simp, by simp⟩
      have HB0 := hide hB0
      have hws : w.heap.size < wr.heap.size := cell_lt (unhide HR).1
      clear hB0
      go_wp2_with fail
      refine (fine_ok _).mono ?_
      rintro e w3 ⟨rfl, hB3⟩
      have hB4 := (unhide HB0).trans (hB3.mono (unhide HB0).size)
      obtain ⟨r0, r1, f0, f1⟩ := unhide HR
      have s0 := below_cell hB4 r0
      have s1 := below_cell hB4 r1
      have t0 := (hB4.frozen (p := ⟨w.heap.size, 0, none⟩) hws).trans f0
      have t1 := (hB4.frozen (p := ⟨w.heap.size, 0 + 1, none⟩) hws).trans f1
      have hB5 := (unhide HA).trans (hB4.mono (unhide HA).size)
      have HG2 := hide ((unhide HG).stay (hB3.block wr.heap.size (by simp)))
      have HB5 := hide hB5
      have hne : ¬ w.heap.size = wr.heap.size := by omega
      clear hB3 hB4 hB5 r0 r1 f0 f1
      go_wp2
      exact bodyPost_ret (v := .tuple #[.pointer (some ⟨wr.heap.size, 0, none⟩), .agg #[.int .i64 0, .int .i64 (-1)]]) (by simp [results, Tryd.results7, go_sem, s0, s1]) rfl ⟨⟨_, Nat.le_of_lt hws, rfl, (unhide HG2).stay (by rw [Below.heap_setCell _ _ _ _ (by simpa using Ne.symm hne), Below.heap_setCell _ _ _ _ (by simpa using Ne.symm hne)])⟩, below_res (unhide HB5) _ _⟩
/-- A board of pairs that are right. -/
theorem newR_ok (v : Value) (l : List Pr) (w : World) (hv : PrsIn w v l) (h : prsOk l) :
    Calls Tryd.prog 7 #[v] w fun r w' => ∃ g, w.heap.size ≤ g ∧ r = .returned (.tuple #[.pointer (some ⟨g, 0, none⟩), .agg #[.int .i64 0, .int .i64 (-1)]]) ∧ RAt w' g v 0 (-1) ∧ Below w.heap.size w w' :=
  (newR_walk v l l.length w hv h.1 (Nat.le_refl _) h.2 (fun h => absurd h (Nat.lt_irrefl _))).mono (by
    rintro r w' ⟨⟨h, _⟩ | ⟨g, _, h1, h2, h3⟩, hB⟩
    · exact absurd h (Nat.lt_irrefl _)
    · exact ⟨g, h1, h2, h3, hB⟩)
/-- Pairs that are not right: what the document answers. -/
theorem newR_no (l : List Pr) (h : ¬ prsOk l) : ∃ c n : Int, 0 < c ∧
    (∀ v w, PrsIn w v l → Calls Tryd.prog 7 #[v] w fun r w' => r = .returned (.tuple #[.pointer none, .agg #[.int .i64 c, .int .i64 n]]) ∧ Below w.heap.size w w') ∧
    ((16 < l.length ∧ c = 7 ∧ n = -1) ∨ ∃ m : Nat, l.length ≤ 16 ∧ m < l.length ∧ (∀ i, i < m → prOk (l.getD i Pr.zero)) ∧ ¬ prOk (l.getD m Pr.zero) ∧ c = 2 ∧ n = m) := by
  by_cases h16 : 16 < l.length
  · exact ⟨7, -1, by decide, fun v w hv => newR_full v l w hv h16, Or.inl ⟨h16, rfl, rfl⟩⟩
  obtain ⟨m, m1, m2, m3⟩ := first_pr l
  by_cases hm : m < l.length
  · refine ⟨2, m, by decide, fun v w hv => ?_, Or.inr ⟨m, by omega, hm, m2, m3 hm, rfl, rfl⟩⟩
    refine (newR_walk v l m w hv (by omega) m1 m2 m3).mono ?_
    rintro r w' ⟨⟨_, h1⟩ | ⟨g, h1, _⟩, hB⟩
    · exact ⟨h1, hB⟩
    · omega
  · exact absurd ⟨by omega, fun i hi => m2 i (by omega)⟩ h
end Go.Proofs.YtglhapkclpllfaeDoor
