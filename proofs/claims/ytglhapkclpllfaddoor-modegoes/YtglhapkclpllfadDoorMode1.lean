/-
  Contracts of package mode: a board is a block of three cells and a block for its pairs (BoardAt).
  Conditions: package api's errors lie as laid (structure Sent).
-/
import Derived.Test.YtglhapkclpllfadDoorModeSet
import Derived.Test.YtglhapkclpllfadDoorModeProg
import Derived.Test.YtglhapkclpllfadDoorModeCoded
import Derived.Test.YtglhapkclpllfadDoorOwns
import Derived.Test.YtglhapkclpllfadDoorCode
import Derived.Shelf.SlMaps.Clone
import Derived.Deep.RegionHeld3
namespace Go.Proofs.YtglhapkclpllfadDoor
open Go.RowKit Go.Maps

/-- v is a board of the pairs l, with the mode n and what is asked for, a, in blocks of F. -/
def BoardAt (w : World) (F : Nat → Prop) (v : Value) (l : List Pr) (n a : Int) : Prop :=
  ∃ b m k D, v = .pointer (some ⟨b, 0, none⟩) ∧ b ≠ m ∧ F b ∧ F m ∧ (∀ j, F j → j < w.heap.size) ∧ Own3 w b (.int .i64 n) (.int .i64 a) (.map (some m)) ∧ w.ownsMap Tryd.prog 89 unitElem m k D ∧ AllowsS l D
theorem own3_stay {w w' : World} {b : Nat} {x y z : Value} (h : Own3 w b x y z) (e : w'.heap[b]? = w.heap[b]?) : Own3 w' b x y z := by
  obtain ⟨c0, c1, c2, f0, f1, f2⟩ := h
  unfold World.cell? at c0 c1 c2
  unfold World.frozen? at f0 f1 f2
  exact ⟨by unfold World.cell?; rw [e]; exact c0, by unfold World.cell?; rw [e]; exact c1, by unfold World.cell?; rw [e]; exact c2, by unfold World.frozen?; rw [e]; exact f0, by unfold World.frozen?; rw [e]; exact f1, by unfold World.frozen?; rw [e]; exact f2⟩
theorem ownsMap_stay {w w' : World} {m k : Nat} {D : DataW Unit} (h : w.ownsMap Tryd.prog 89 unitElem m k D) (e : w'.heap[m]? = w.heap[m]?) : w'.ownsMap Tryd.prog 89 unitElem m k D := by
  obtain ⟨es, clock, hb, F, hs, hD⟩ := h
  exact ⟨es, clock, e.trans hb, F, hs, hD⟩
theorem BoardAt.stay {w w' : World} {F : Nat → Prop} {v : Value} {l : List Pr} {n a : Int} (h : BoardAt w F v l n a) (hs : w.heap.size ≤ w'.heap.size) (hk : ∀ k, F k → w'.heap[k]? = w.heap[k]?) : BoardAt w' F v l n a := by
  obtain ⟨b, m, k, D, rfl, hbm, hb, hm, hl, ho, hw, ha⟩ := h
  exact ⟨b, m, k, D, rfl, hbm, hb, hm, fun j hj => Nat.lt_of_lt_of_le (hl j hj) hs, own3_stay ho (hk b hb), ownsMap_stay hw (hk m hm), ha⟩
theorem now_ok (w : World) (F : Nat → Prop) (v : Value) (l : List Pr) (n a : Int) (h : BoardAt w F v l n a) : Calls Tryd.prog 31 #[v] w fun r w' => r = .returned (.int .i64 n) ∧ w' = w := by
  obtain ⟨b, m, k, D, rfl, hbm, hb, hm, hl, ⟨c0, c1, c2, f0, f1, f2⟩, hw, ha⟩ := h
  clear hbm hb hm hl hw ha
  go_enter Tryd.func31, Tryd.ntmps31
  go_wp2
  go_ret
  exact ⟨rfl, rfl⟩
theorem asked_ok (w : World) (F : Nat → Prop) (v : Value) (l : List Pr) (n a : Int) (h : BoardAt w F v l n a) : Calls Tryd.prog 32 #[v] w fun r w' => r = .returned (.int .i64 a) ∧ w' = w := by
  obtain ⟨b, m, k, D, rfl, hbm, hb, hm, hl, ⟨c0, c1, c2, f0, f1, f2⟩, hw, ha⟩ := h
  clear hbm hb hm hl hw ha
  go_enter Tryd.func32, Tryd.ntmps32
  go_wp2
  go_ret
  exact ⟨rfl, rfl⟩
/-- Is it a mode? -/
def modeB (x : Int) : Bool := decide (0 ≤ x ∧ x ≤ 3)
theorem isMode_ok (x : Int) (w : World) : Calls Tryd.prog 47 #[.int .i64 x] w fun r w' => r = .returned (.bool (modeB x)) ∧ w' = w := by
  have hc : x < 0 ∨ (¬ x < 0 ∧ 3 < x) ∨ (¬ x < 0 ∧ ¬ 3 < x) := by omega
  rcases hc with h | ⟨h, h'⟩ | ⟨h, h'⟩
  · have hm : modeB x = false := decide_eq_false (by omega)
    have q : ¬ (0 ≤ x) := by omega
    rw [hm]
    go_enter Tryd.func47, Tryd.ntmps47
    go_wp2
    go_ret
    exact ⟨rfl, rfl⟩
  · have hm : modeB x = false := decide_eq_false (by omega)
    have q : 0 ≤ x := by omega
    have q2 : ¬ x < 4 := by omega
    rw [hm]
    go_enter Tryd.func47, Tryd.ntmps47
    go_wp2
    go_ret
    exact ⟨rfl, rfl⟩
  · have hm : modeB x = true := decide_eq_true (by omega)
    have q : 0 ≤ x := by omega
    have q2 : x < 4 := by omega
    rw [hm]
    go_enter Tryd.func47, Tryd.ntmps47
    go_wp2
    go_ret
    exact ⟨rfl, rfl⟩
theorem only_sets {w : World} {F : Nat → Prop} {b : Nat} (hb : F b) (i : Nat) (u : Value) : Only F w (w.setCell ⟨b, i, none⟩ u) := (only_set ⟨b, i, none⟩ u).mono fun k e => by rw [e]; exact hb
theorem Own3.put01 {w : World} {b : Nat} {x y z : Value} (h : Own3 w b x y z) (x' y' : Value) : Own3 ((w.setCell ⟨b, 0, none⟩ x').setCell ⟨b, 1, none⟩ y') b x' y' z := by
  obtain ⟨c0, c1, c2, f0, f1, f2⟩ := h
  refine ⟨?_, ?_, ?_, by simp [f0], by simp [f1], by simp [f2]⟩
  · rw [World.cell?_setCell_other _ _ _ _ (by simp)]
    exact World.cell?_setCell_same _ _ _ c0
  · exact World.cell?_setCell_same _ _ _ (u := y) (by rw [World.cell?_setCell_other _ _ _ _ (by simp)]; exact c1)
  · rw [World.cell?_setCell_other _ _ _ _ (by simp), World.cell?_setCell_other _ _ _ _ (by simp)]; exact c2
theorem turn_ok (w : World) (F : Nat → Prop) (v : Value) (l : List Pr) (n a : Int) (h : BoardAt w F v l n a) (hk : boardOk n a) :
    Calls Tryd.prog 34 #[v] w fun r w' => ∃ F', r = .returned (.int .i64 (turnN n a)) ∧ BoardAt w' F' v l (turnN n a) (-1) ∧ (∀ k, F' k → F k ∨ w.heap.size ≤ k) ∧ Only F w w' := by
  obtain ⟨b, m, k, D, rfl, hbm, hb, hm, hl, ho, hw, ha⟩ := h
  have HO := hide ho
  obtain ⟨c0, c1, c2, f0, f1, f2⟩ := ho
  have HW := hide hw
  have HA := hide ha
  have HL := hide hl
  have HBM := hide hbm
  have HFB := hide hb
  have HFM := hide hm
  clear hw ha hl hbm hb hm
  by_cases hn : a = -1
  · subst hn
    have ht : turnN n (-1) = n := if_neg (by decide)
    rw [ht]
    go_enter Tryd.func34, Tryd.ntmps34
    go_wp2
    go_ret
    exact ⟨F, rfl, ⟨b, m, k, D, rfl, unhide HBM, unhide HFB, unhide HFM, unhide HL, unhide HO, unhide HW, unhide HA⟩, fun k h => Or.inl h, below_only (Below.refl _ _)⟩
  · have h0 : 0 ≤ a := by have := hk.2.1; omega
    have ht : turnN n a = a := if_pos h0
    rw [ht]
    clear hk
    go_enter Tryd.func34, Tryd.ntmps34
    go_wp2
    go_ret
    have h1 := (unhide HO).put01 (.int .i64 a) (.int .i64 (-1))
    have hO : Only F w ((w.setCell ⟨b, 0, none⟩ (.int .i64 a)).setCell ⟨b, 1, none⟩ (.int .i64 (-1))) := (only_sets (unhide HFB) 0 _).trans (only_sets (unhide HFB) 1 _)
    exact ⟨F, rfl, ⟨b, m, k, D, rfl, unhide HBM, unhide HFB, unhide HFM, fun j hj => Nat.lt_of_lt_of_le (unhide HL j hj) hO.size, h1, ((unhide HW).setCell (fun e => unhide HBM e.symm) _).setCell (fun e => unhide HBM e.symm) _, unhide HA⟩, fun k h => Or.inl h, hO⟩
theorem wf_small (x : Int) (h : 0 ≤ x) (h' : x ≤ 3) : (Lit.int .i64 x).wf = true := by
  obtain rfl | rfl | rfl | rfl : x = 0 ∨ x = 1 ∨ x = 2 ∨ x = 3 := by omega
  all_goals decide
theorem isMode_yes (x : Int) (h : 0 ≤ x ∧ x ≤ 3) (w : World) : Calls Tryd.prog 47 #[.int .i64 x] w fun r w' => r = .returned (.bool true) ∧ w' = w := by
  have := isMode_ok x w
  rwa [show modeB x = true from decide_eq_true h] at this
theorem isMode_no (x : Int) (h : ¬ (0 ≤ x ∧ x ≤ 3)) (w : World) : Calls Tryd.prog 47 #[.int .i64 x] w fun r w' => r = .returned (.bool false) ∧ w' = w := by
  have := isMode_ok x w
  rwa [show modeB x = false from decide_eq_false h] at this
theorem Own3.put1 {w : World} {b : Nat} {x y z : Value} (h : Own3 w b x y z) (y' : Value) : Own3 (w.setCell ⟨b, 1, none⟩ y') b x y' z := by
  obtain ⟨c0, c1, c2, f0, f1, f2⟩ := h
  refine ⟨?_, World.cell?_setCell_same _ _ _ c1, ?_, by simp [f0], by simp [f1], by simp [f2]⟩
  · rw [World.cell?_setCell_other _ _ _ _ (by simp)]; exact c0
  · rw [World.cell?_setCell_other _ _ _ _ (by simp)]; exact c2
/-- What is asked for is written; then blocks are made. -/
theorem board_put {w w' : World} {F : Nat → Prop} {b : Nat} {l : List Pr} {n a : Int} {r : Ending} (h : BoardAt w F (.pointer (some ⟨b, 0, none⟩)) l n a) (to : Int) (hr : r = .returned .nilIface) (hB : Below w.heap.size (w.setCell ⟨b, 1, none⟩ (.int .i64 to)) w') :
    ∃ F', r = .returned .nilIface ∧ BoardAt w' F' (.pointer (some ⟨b, 0, none⟩)) l n to ∧ (∀ k, F' k → F k ∨ w.heap.size ≤ k) ∧ Only F w w' := by
  obtain ⟨b', m, k, D, e, hbm, hb, hm, hl, ho, hw, ha⟩ := h
  cases e
  have hs : (w.setCell ⟨b, 1, none⟩ (.int .i64 to)).heap.size = w.heap.size := by simp
  have hB' : Below (w.setCell ⟨b, 1, none⟩ (.int .i64 to)).heap.size (w.setCell ⟨b, 1, none⟩ (.int .i64 to)) w' := by rw [hs]; exact hB
  have h1 : BoardAt (w.setCell ⟨b, 1, none⟩ (.int .i64 to)) F (.pointer (some ⟨b, 0, none⟩)) l n to :=
    ⟨b, m, k, D, rfl, hbm, hb, hm, fun j hj => by rw [hs]; exact hl j hj, ho.put1 _, hw.setCell (fun e => hbm e.symm) _, ha⟩
  exact ⟨F, hr, h1.stay hB'.size (fun k hk => hB'.block k (by rw [hs]; exact hl k hk)), fun k h => Or.inl h, (only_sets hb 1 _).trans (below_only hB')⟩
theorem ask_ok (a0 : Nat → Addr) (w : World) (F : Nat → Prop) (v : Value) (l : List Pr) (n a to : Int) (S : Sent a0 w) (h : BoardAt w F v l n a) (hk : boardOk n a) :
    Calls Tryd.prog 33 #[v, .int .i64 to] w fun r w' => ∃ F', r = .returned (errC (eM a0) (askC l n a to)) ∧ BoardAt w' F' v l n (askA l n a to) ∧ (∀ k, F' k → F k ∨ w.heap.size ≤ k) ∧ Only F w w' := by
  have HBD := hide h
  obtain ⟨b, m, k, D, rfl, hbm, hb, hm, hl, ho, hw, ha⟩ := h
  have e1 := S.c1
  have e2 := S.c2
  have e5 := S.c5
  have HO := hide ho
  have lb := cell_lt ho.c0
  simp only at lb
  obtain ⟨c0, c1, c2, f0, f1, f2⟩ := ho
  have HW := hide hw
  have HA := hide ha
  have HL := hide hl
  have HBM := hide hbm
  have HFB := hide hb
  have HFM := hide hm
  clear hw ha hl hbm hb hm S
  by_cases h1 : to < 0 ∨ 3 < to
  · have hc : askC l n a to = 2 := if_pos h1
    have hA : askA l n a to = a := by unfold askA; rw [hc]; rfl
    rw [hc, hA]
    have HC := hide (isMode_no to (by omega) w)
    clear hc hA h1
    go_enter Tryd.func33, Tryd.ntmps33
    go_wp2_with fail
    refine (unhide HC).mono ?_
    rintro E w1 ⟨rfl, rfl⟩
    go_wp2
    go_ret
    exact ⟨F, rfl, unhide HBD, fun k h => Or.inl h, below_only (Below.refl _ _)⟩
  have HC := hide (isMode_yes to (by omega) w)
  by_cases h2 : 0 ≤ a
  · have hc : askC l n a to = 6 := by unfold askC; rw [if_neg h1, if_pos h2]
    have hA : askA l n a to = a := by unfold askA; rw [hc]; rfl
    have hne : ¬ a = -1 := by omega
    rw [hc, hA]
    clear hc hA h1
    go_enter Tryd.func33, Tryd.ntmps33
    go_wp2_with fail
    refine (unhide HC).mono ?_
    rintro E w1 ⟨rfl, rfl⟩
    go_wp2
    go_ret
    exact ⟨F, rfl, unhide HBD, fun k h => Or.inl h, below_only (Below.refl _ _)⟩
  obtain rfl : a = -1 := by have := hk.2.1; omega
  have hL : ∀ W : World, W.heap[m]? = w.heap[m]? → (Instr.lookup 91 (.map (some m)) (.agg #[.int .i64 n, .int .i64 to]) true).run Tryd.prog W = .ok (.tuple #[.agg #[], .bool (allowB l n to)]) W := fun W hW =>
    lookS (ownsMap_stay (unhide HW) hW) (unhide HA) n to (wf_small n hk.1.1 hk.1.2) (wf_small to (by omega) (by omega))
  have HLK := hide hL
  clear hL
  cases hal : allowB l n to with
  | false =>
    have hc : askC l n (-1) to = 3 := by unfold askC; rw [if_neg h1, if_neg h2, hal]; rfl
    have hA : askA l n (-1) to = -1 := by unfold askA; rw [hc]; rfl
    rw [hc, hA]
    rw [hal] at HLK
    clear hc hA h1 h2 hal hk
    go_enter Tryd.func33, Tryd.ntmps33
    go_wp2_with fail
    refine (unhide HC).mono ?_
    rintro E w1 ⟨rfl, rfl⟩
    have lm := (unhide HW).lt
    have q1 := unhide HLK w1.drew rfl
    have q2 := fun o => unhide HLK (w1.alloc o).drew (Below.heap_alloc w1 o m lm)
    have HB : Hid (∀ o, Below w1.heap.size w1 (w1.alloc o).drew) := fun o => ((Below.refl _ _).alloc (Nat.le_refl _) o).drew
    have e2' : ∀ o, (w1.alloc o).drew.cell? ⟨5, 0, none⟩ = some (.iface (eM a0 2).1 (eM a0 2).2) := fun o => below_cell (unhide HB o) e2
    go_wp2_with fail
    go_region
    all_goals
      go_wp2
      go_ret
      exact ⟨F, rfl, BoardAt.stay (unhide HBD) (unhide HB _).size (fun k hF => (unhide HB _).block k (unhide HL k hF)), fun k h => Or.inl h, below_only (unhide HB _)⟩
  | true =>
    have hc : askC l n (-1) to = 0 := by unfold askC; rw [if_neg h1, if_neg h2, hal]; rfl
    have hA : askA l n (-1) to = to := by unfold askA; rw [hc]; rfl
    rw [hc, hA]
    rw [hal] at HLK
    clear hc hA h1 h2 hal hk
    have lm := (unhide HW).lt
    go_enter Tryd.func33, Tryd.ntmps33
    go_wp2_with fail
    refine (unhide HC).mono ?_
    rintro E w1 ⟨rfl, rfl⟩
    have q1 := unhide HLK w1.drew rfl
    have q2 := fun o => unhide HLK (w1.alloc o).drew (Below.heap_alloc w1 o m lm)
    have HB : Hid (∀ o, Below w1.heap.size w1 (w1.alloc o).drew) := fun o => ((Below.refl _ _).alloc (Nat.le_refl _) o).drew
    go_wp2_with fail
    go_region
    all_goals
      go_wp2
      go_ret
      exact board_put (unhide HBD) to rfl (((Below.refl _ _).alloc (by simp) _).drew)
/-! ### Copy -/
/-! ### New -/
theorem new_full (a0 : Nat → Addr) (w : World) (v : Value) (l : List Pr) (S : Sent a0 w) (hv : PrsIn w v l) (h : 16 < l.length) :
    Calls Tryd.prog 29 #[v] w fun r w' => r = .returned (.tuple #[.pointer none, .iface (eM a0 6).1 (eM a0 6).2]) ∧ Below w.heap.size w w' := by
  obtain ⟨ad, cap, rfl, _⟩ := PrsIn.at hv
  have e6 := S.c6
  have q : (16 : Int) < (l.length : Int) := by omega
  have HB : Hid (∀ n, Below w.heap.size w (w.drewN n)) := fun n => below_draw (Below.refl _ _) n
  clear hv h S
  generalize l.length = n at *
  go_enter Tryd.func29, Tryd.ntmps29
  go_wp2_with fail
  go_quiet (fail)
  go_wp2
  exact bodyPost_ret (v := .tuple #[.pointer none, .iface (eM a0 6).1 (eM a0 6).2]) (by simp [results, Tryd.results29, eM, go_sem]) rfl ⟨rfl, unhide HB _⟩
theorem two_new (w : World) (o : Obj) (t : TypeId) (x y : Value) : ((w.alloc o).alloc (.cells #[x, y] t)).drew.cell? ⟨w.heap.size + 1, 0, none⟩ = some x ∧ ((w.alloc o).alloc (.cells #[x, y] t)).drew.cell? ⟨w.heap.size + 1, 0 + 1, none⟩ = some y := by
  have h := Own2.new (w.alloc o) t x y
  simp only [World.size_alloc] at h
  exact ⟨h.c0, h.c1⟩
theorem take_snoc_prs (l : List Pr) (k : Nat) (h : k < l.length) : l.take (k + 1) = l.take k ++ [l.getD k Pr.zero] := by
  rw [List.take_succ_eq_append_getElem h, List.getD_eq_getElem?_getD, List.getElem?_eq_getElem h]; rfl
theorem run_makeMap_hint (n : Nat) (w : World) : (Instr.makeMap 91 (some (.int .i64 n))).run Tryd.prog w = .ok (.map (some w.heap.size)) (w.alloc (.map #[] 0)) := by
  simp [Instr.makeMap, run_underlying Tryd.underlying91, asInt, asIntOf, Result.andThen]
set_option maxRecDepth 100000 in
set_option maxHeartbeats 1000000 in
theorem new_ok (a0 : Nat → Addr) (w : World) (v : Value) (l : List Pr) (S : Sent a0 w) (hv : PrsIn w v l) (hl : l.length ≤ 16) (m : Nat) (hm : m ≤ l.length) (hgood : ∀ i, i < m → prOk (l.getD i Pr.zero)) (hbad : m < l.length → ¬ prOk (l.getD m Pr.zero)) :
    Calls Tryd.prog 29 #[v] w fun r w' => (m < l.length ∧ ∃ pb, r = .returned (.tuple #[.pointer none, .iface 73 (.pointer (some ⟨pb, 0, none⟩))]) ∧ w'.cell? ⟨pb, 0, none⟩ = some (.int .i64 m) ∧ w'.cell? ⟨pb, 0 + 1, none⟩ = some (.iface (eM a0 1).1 (eM a0 1).2) ∧ Below w.heap.size w w') ∨
      (m = l.length ∧ ∃ p F, r = .returned (.tuple #[.pointer (some p), .nilIface]) ∧ BoardAt w' F (.pointer (some p)) l 0 (-1) ∧ (∀ k, F k → w.heap.size ≤ k) ∧ Below w.heap.size w w') := by
  obtain ⟨ad, cap, rfl, hcells⟩ := PrsIn.at hv
  have HC := hide hcells
  have HG := hide hgood
  have HN := hide hbad
  have HS := hide S.c1
  have hmm := run_makeMap_hint
  obtain ⟨n, hn⟩ : ∃ n, l.length = n := ⟨_, rfl⟩
  have Hl : Hid (l.length = n) := hn
  rw [hn] at hl hm ⊢
  have q : ¬ (16 : Int) < (n : Int) := by omega
  clear hcells hgood hbad hv hn S
  go_enter Tryd.func29, Tryd.ntmps29
  go_wp2
  go_loopw [16] (fun i wr => ∃ (k : Nat) (D : DataW Unit), k ≤ m ∧ i = .int .i64 (k : Int) ∧ wr.ownsMap Tryd.prog 89 unitElem w.heap.size k D ∧ Hid (AllowsS (l.take k) D) ∧ Hid (Below w.heap.size w wr)) (fun i _ => n - (intOf i).toNat)
  case atStart => exact ⟨0, _, by omega, rfl, World.ownsMap_made _ _ _ _, allowsS_nil, (Below.refl _ _).alloc (Nat.le_refl _) _⟩
  case round =>
    obtain ⟨k, D, hk, rfl, hown, HD, HB⟩ := hrel
    by_cases hlt : k < m
    · obtain ⟨b, off, rfl, c0, c1⟩ := unhide HC k (by rw [unhide Hl]; omega)
      have hp := unhide HG k hlt
      have HT := hide (take_snoc_prs l k (by rw [unhide Hl]; omega))
      have hB := unhide HB
      have d0 := below_cell hB c0
      have d1 := below_cell hB c1
      have lb := cell_lt c0
      have lw := hB.size
      have hlt2 : (k : Int) < (n : Int) := by omega
      have h0 : (0 : Int) ≤ (k : Int) := Int.natCast_nonneg _
      clear c0 c1 hB
      generalize hx : l.getD k Pr.zero = x at *
      obtain ⟨x0, x1⟩ := x
      obtain ⟨⟨p1, p2⟩, p3, p4⟩ := hp
      simp only at p1 p2 p3 p4 d0 d1
      have HC0 := fun W => hide (isMode_yes x0 ⟨p1, p2⟩ W)
      have HC1 := fun W => hide (isMode_yes x1 ⟨p3, p4⟩ W)
      have hkey := keyP_some x0 x1 (wf_small x0 p1 p2) (wf_small x1 p3 p4)
      have HST := hide (allowsS_step (unhide HD) ⟨x0, x1⟩ (wf_small x0 p1 p2) (wf_small x1 p3 p4) (.agg []))
      clear p1 p2 p3 p4
      have hownA := hown.alloc (.cells #[.int .i64 x0, .int .i64 x1] 89)
      go_wp2_with fail
      refine (unhide (HC0 _)).mono ?_
      rintro E w1 ⟨rfl, rfl⟩
      go_wp2_with fail
      refine (unhide (HC1 _)).mono ?_
      rintro E w1 ⟨rfl, rfl⟩
      go_wp2_with (first
        | (at_mapUpdate; refine wpList_mapUpdate_own _ rfl _ _ _ 91 rfl 89 92 keyLawP Tryd.underlying91 _ w.heap.size k _ rfl hownA (by unfold maxLen; omega) _ _ _ rfl rfl hkey _ [] unitElem_mk ?_; intro w1 hown1 hgrow1))
      go_roundw
      case rel => exact ⟨k + 1, _, by omega, by go_num, hown1, by
        show AllowsS _ _
        rw [unhide HT]
        exact unhide HST, ((unhide HB).alloc (unhide HB).size _).grown hgrow1 (by simp; omega) fun j hj => by cases hj; exact Nat.le_refl _⟩
      case measure => simp [intOf]; omega
    · obtain rfl : k = m := by omega
      by_cases hend : k < n
      · obtain ⟨b, off, rfl, c0, c1⟩ := unhide HC k (by rw [unhide Hl]; omega)
        have hp := unhide HN (by rw [unhide Hl]; exact hend)
        have hB := unhide HB
        have d0 := below_cell hB c0
        have d1 := below_cell hB c1
        have lb := cell_lt c0
        have lw := hB.size
        have hlt2 : (k : Int) < (n : Int) := by omega
        have h0 : (0 : Int) ≤ (k : Int) := Int.natCast_nonneg _
        have hgE := below_cell hB (unhide HS)
        have hgA : ∀ o, (wr.alloc o).drew.cell? ⟨1, 0, none⟩ = some (.iface (eM a0 1).1 (eM a0 1).2) := fun o => below_cell (((Below.refl _ _).alloc (Nat.le_refl _) _).drew) hgE
        clear c0 c1 hB
        generalize l.getD k Pr.zero = x at *
        obtain ⟨x0, x1⟩ := x
        unfold prOk at hp
        simp only at hp d0 d1
        by_cases hx0 : 0 ≤ x0 ∧ x0 ≤ 3
        · have HC0 := fun W => hide (isMode_yes x0 hx0 W)
          have HC1 := fun W => hide (isMode_no x1 (fun e => hp ⟨hx0, e⟩) W)
          clear hp hx0
          go_wp2_with fail
          refine (unhide (HC0 _)).mono ?_
          rintro E w1 ⟨rfl, rfl⟩
          go_wp2_with fail
          refine (unhide (HC1 _)).mono ?_
          rintro E w1 ⟨rfl, rfl⟩
          go_wp2_with fail
          go_region
          go_wp2
          exact bodyPost_ret (v := .tuple #[.pointer none, .iface 73 (.pointer (some ⟨wr.heap.size + 1, 0, none⟩))]) (by simp [results, Tryd.results29, go_sem]) rfl (Or.inl ⟨hend, wr.heap.size + 1, rfl, (two_new wr _ _ _ _).1, (two_new wr _ _ _ _).2, (((unhide HB).alloc (unhide HB).size _).alloc (by have := (unhide HB).size; simp; omega) _).drew⟩)
        · have HC0 := fun W => hide (isMode_no x0 hx0 W)
          clear hp hx0
          go_wp2_with fail
          refine (unhide (HC0 _)).mono ?_
          rintro E w1 ⟨rfl, rfl⟩
          go_wp2_with fail
          go_region
          go_wp2
          exact bodyPost_ret (v := .tuple #[.pointer none, .iface 73 (.pointer (some ⟨wr.heap.size + 1, 0, none⟩))]) (by simp [results, Tryd.results29, go_sem]) rfl (Or.inl ⟨hend, wr.heap.size + 1, rfl, (two_new wr _ _ _ _).1, (two_new wr _ _ _ _).2, (((unhide HB).alloc (unhide HB).size _).alloc (by have := (unhide HB).size; simp; omega) _).drew⟩)
      · obtain rfl : k = n := by omega
        go_wp2
        have hB := (unhide HB).alloc (unhide HB).size (.cells #[.int .i64 0, .int .i64 (-1), .map (some w.heap.size)] 94)
        have lm := hown.lt
        refine bodyPost_ret (v := .tuple #[.pointer (some ⟨wr.heap.size, 0, none⟩), .nilIface]) (by simp [results, Tryd.results29, go_sem]) rfl ⟨⟨wr.heap.size, 0, none⟩, rfl, fun j => j = wr.heap.size ∨ j = w.heap.size, ⟨wr.heap.size, w.heap.size, k, D, rfl, by omega, Or.inl rfl, Or.inr rfl, fun j hj => ?_, Own3.new wr _ _ _ _, hown.alloc _, ?_⟩, fun j hj => ?_, hB⟩
        · simp
          omega
        · have h := unhide HD
          rwa [List.take_of_length_le (by rw [unhide Hl]; exact Nat.le_refl _)] at h
        · have := (unhide HB).size
          omega
theorem modeP (a0 : Nat → Addr) : ModeP (Sent a0) (eM a0) BoardAt where
  keep := fun w w' S hB => S.below hB
  ptr := fun w F v l n a h => by
    obtain ⟨b, m, k, D, rfl, _⟩ := h
    exact ⟨_, rfl⟩
  lt := fun w F v l n a h => by
    obtain ⟨b, m, k, D, _, _, _, _, hl, _⟩ := h
    exact hl
  stay := fun w w' F v l n a h hs hk => h.stay hs hk
  neN := fun w v l S hv hno => by
    by_cases h16 : 16 < l.length
    · exact (new_full a0 w v l S hv h16).mono fun r w' ⟨e, hB⟩ => ⟨_, _, e, Or.inl ⟨h16, rfl, rfl⟩, hB⟩
    · obtain ⟨m, h1, h2, h3⟩ := first_pr l
      refine (new_ok a0 w v l S hv (by omega) m h1 h2 h3).mono fun r w' h => ?_
      rcases h with ⟨hm, pb, e, d0, d1, hB⟩ | ⟨hm, _⟩
      · exact ⟨_, _, e, Or.inr ⟨m, pb, by omega, hm, h2, h3 hm, rfl, rfl, d0, d1⟩, hB⟩
      · exact absurd ⟨by omega, fun i hi => h2 i (by omega)⟩ hno
  neO := fun w v l S hv hok => by
    obtain ⟨m, h1, h2, h3⟩ := first_pr l
    refine (new_ok a0 w v l S hv hok.1 m h1 h2 h3).mono fun r w' h => ?_
    rcases h with ⟨hm, _⟩ | ⟨hm, p, F, e, hb, hF, hB⟩
    · exact absurd (hok.2 m hm) (h3 hm)
    · exact ⟨p, F, e, hb, hF, hB⟩
  ask := fun w F v l n a to S h hk => ask_ok a0 w F v l n a to S h hk
  turn := fun w F v l n a _ h hk => turn_ok w F v l n a h hk
  now := fun w F v l n a _ h => now_ok w F v l n a h
  asked := fun w F v l n a _ h => asked_ok w F v l n a h
end Go.Proofs.YtglhapkclpllfadDoor
