/-
  Contracts: crew.Most (a map counts) and bargelockref1.MostOf (two loops count): the number that is there most often, the first of those, and how often.
-/
import Derived.Test.YtglhapkclpllfaaGreatDoorRef1
import Derived.BigQuiet
import Derived.Maps.OwnOps
import Derived.Maps.Views
import Derived.Outline
namespace Go.Proofs.YtglhapkclpllfaaGreatDoor
open Go.RowKit Go.Maps

theorem keyLaw : Keyed Tryz.prog 3 := int_keyed Tryz.underlying3
theorem zeroInt (w : World) : (zeroValue 3).run Tryz.prog w = .ok (.int .i64 0) w := by kernel_rfl
/-- One more number: the best of those, and how often. -/
def mstep (xs : List Int) (p : Int × Nat) (x : Int) : Int × Nat := if p.2 < xs.count x then (x, xs.count x) else p
def most (xs : List Int) (k : Nat) : Int × Nat := (xs.take k).foldl (mstep xs) (0, 0)
theorem take_snoc' (xs : List Int) (k : Nat) (h : k < xs.length) : xs.take (k + 1) = xs.take k ++ [xs.getD k 0] := by
  rw [List.take_succ_eq_append_getElem h, List.getD_eq_getElem?_getD, List.getElem?_eq_getElem h]; rfl
theorem most_succ (xs : List Int) (k : Nat) (h : k < xs.length) : most xs (k + 1) = mstep xs (most xs k) (xs.getD k 0) := by
  unfold most; rw [take_snoc' xs k h, List.foldl_append]; rfl
theorem most_le (xs : List Int) : ∀ k, (most xs k).2 ≤ xs.length
  | 0 => by simp [most]
  | k + 1 => by
    by_cases h : k < xs.length
    · rw [most_succ xs k h, mstep]
      have := most_le xs k
      have := @List.count_le_length Int _ (xs.getD k 0) xs
      split <;> simp_all
    · have : most xs (k + 1) = most xs k := by unfold most; rw [List.take_of_length_le (by omega), List.take_of_length_le (by omega)]
      rw [this]; exact most_le xs k
/-- A map that counts the first k numbers. -/
def Counts (xs : List Int) (k : Nat) (D : DataW Unit) : Prop := IsMap D ∧ ∀ x : Int, D.atKey (.int .i64 x) (.lit (.int .i64 0)) = .lit (.int .i64 ((xs.take k).count x : Nat))
theorem counts_nil (xs : List Int) : Counts xs 0 (.map []) := ⟨isMap_empty, fun _ => rfl⟩
theorem counts_step {xs : List Int} {k : Nat} {D : DataW Unit} (h : Counts xs k D) (hk : k < xs.length) (hb : xs.length ≤ 140737488355328) {c : Int} (hc : D.atKey (.int .i64 (xs.getD k 0)) (.lit (.int .i64 0)) = .lit (.int .i64 c)) :
    Counts xs (k + 1) (D.put (.int .i64 (xs.getD k 0)) (.lit (.int .i64 (wrap64 (c + 1))))) := by
  obtain ⟨h1, h2⟩ := h
  refine ⟨h1.put _ _, fun x => ?_⟩
  have hx := h2 (xs.getD k 0)
  rw [hc] at hx
  have hcc : c = ((xs.take k).count (xs.getD k 0) : Nat) := by injection hx with hx; injection hx
  have hle := @List.count_le_length Int _ (xs.getD k 0) (xs.take k)
  rw [List.length_take] at hle
  rw [take_snoc' xs k hk, List.count_append]
  by_cases hxx : x = xs.getD k 0
  · subst hxx
    rw [atKey_put_same h1 (by simp [WideAt.IsKeyLit]), hcc]
    congr 2
    obtain ⟨q, hq⟩ : ∃ q, List.count (xs.getD k 0) (xs.take k) = q := ⟨_, rfl⟩
    rw [hq] at hle ⊢
    have h3 : wrap64 ((q : Int) + 1) = (q : Int) + 1 := by unfold wrap64; omega
    rw [h3, List.count_singleton_self, Int.natCast_add]; rfl
  · rw [atKey_put_other (by intro e; injection e; exact hxx ‹_›), h2 x]
    congr 3
    simp [List.count_cons]
    exact fun e => hxx e.symm
set_option maxHeartbeats 1000000 in
set_option maxRecDepth 100000 in
theorem most_ok (v : Value) (xs : List Int) (w : World) (hv : IntsIn w v xs) (hl : xs.length ≤ 1000000) (hwf : ∀ x ∈ xs, (Lit.int .i64 x).wf = true) :
    Calls Tryz.prog 27 #[v] w fun e w' => e = .returned (.tuple #[.int .i64 (most xs xs.length).1, .int .i64 ((most xs xs.length).2 : Nat)]) ∧ Below w.heap.size w w' := by
  obtain ⟨ad, cap, rfl, hcells⟩ := hv
  have HV := hide hcells
  obtain ⟨m, hm⟩ : ∃ m, xs.length = m := ⟨_, rfl⟩
  have Hl : Hid (xs.length = m) := hm
  obtain ⟨bo, hbo⟩ : ∃ bo, most xs xs.length = bo := ⟨_, rfl⟩
  have Hbo := hide hbo
  rw [hbo]
  rw [hm] at hl ⊢
  clear hm hcells hbo
  have hmm := @run_makeMap Tryz.prog
  go_enter Tryz.func27, Tryz.ntmps27
  go_wp2
  go_loopw [14] (fun i wr => ∃ (k : Nat) (D : DataW Unit), k ≤ m ∧ i = .int .i64 k ∧ Hid (Counts xs k D) ∧ wr.ownsMap Tryz.prog 3 (plainElem Tryz.prog 3) w.heap.size k D ∧ Below w.heap.size w wr) (fun i _ => m - (intOf i).toNat)
  case atStart => exact ⟨0, _, by omega, rfl, counts_nil xs, World.ownsMap_made _ _ _ _, (Below.refl _ _).alloc (Nat.le_refl _) _⟩
  case round =>
    obtain ⟨k, D, hk, rfl, HD, hown, hB⟩ := hrel
    by_cases hlt : k < m
    · obtain ⟨b, off, rfl, hc0⟩ := unhide HV k (by rw [unhide Hl]; exact hlt)
      have hc := below_cell hB hc0
      clear hc0
      obtain ⟨x, hx⟩ : ∃ x, xs.getD k 0 = x := ⟨_, rfl⟩
      rw [hx] at hc
      have hkey : keyOf Tryz.prog 3 (.int .i64 x) = some (.int .i64 x) := keyOf_int_mk Tryz.underlying3 (hwf x (by rw [← hx]; exact getD_mem xs k (by rw [unhide Hl]; exact hlt)))
      have HX := hide hx
      clear hx
      go_wp2_with (first
        | (at_lookup; refine wpList_lookup_own_int _ rfl _ _ 70 rfl 3 3 .i64 keyLaw Tryz.underlying70 Tryz.underlying3 (zeroInt _) w.heap.size k _ rfl hown _ _ rfl hkey ?_; intro c hat hwc)
        | (at_mapUpdate; refine wpList_mapUpdate_own _ rfl _ _ _ 70 rfl 3 3 keyLaw Tryz.underlying70 _ w.heap.size k _ rfl hown (by unfold maxLen; omega) _ _ _ rfl rfl hkey _ [] (plainElem_int Tryz.underlying3 (wrap64_wf _)) ?_; intro w1 hown1 hgrow1))
      go_roundw
      case rel => exact ⟨k + 1, _, by omega, by go_num, (by have h := counts_step (c := c) (unhide HD) (by rw [unhide Hl]; exact hlt) (by rw [unhide Hl]; omega) (by rw [unhide HX]; exact hat); rw [unhide HX] at h; exact h), hown1, hB.grown hgrow1 hB.size (fun j hj => by cases hj; exact Nat.le_refl _)⟩
      case measure => simp [intOf]; omega
    · have hkm : k = m := by omega
      subst hkm
      go_wp2
      have HB := hide hB
      clear hB
      go_loopw [7, 8, 25] (fun b o i w2 => ∃ j : Nat, j ≤ k ∧ i = .int .i64 j ∧ ∃ (bb : Int) (oo : Nat), b = .int .i64 bb ∧ o = .int .i64 oo ∧ oo ≤ k ∧ Hid (most xs j = (bb, oo)) ∧ ∃ n, w2 = wr.drewN n) (fun _ _ i _ => k - (intOf i).toNat)
      case atStart => exact ⟨0, by omega, rfl, 0, 0, rfl, rfl, by omega, rfl, 0, rfl⟩
      case round =>
        obtain ⟨j, hj, rfl, bb, oo, rfl, rfl, hoo, HM, dn, rfl⟩ := hrel
        by_cases hlt : j < k
        · obtain ⟨b, off, rfl, hc0⟩ := unhide HV j (by rw [unhide Hl]; exact hlt)
          have hc := below_cell (unhide HB) hc0
          clear hc0
          obtain ⟨x, hx⟩ : ∃ x, xs.getD j 0 = x := ⟨_, rfl⟩
          rw [hx] at hc
          have hkey : keyOf Tryz.prog 3 (.int .i64 x) = some (.int .i64 x) := keyOf_int_mk Tryz.underlying3 (hwf x (by rw [← hx]; exact getD_mem xs j (by rw [unhide Hl]; exact hlt)))
          have HS := hide (most_succ xs j (by rw [unhide Hl]; exact hlt))
          have hcle := @List.count_le_length Int _ x xs
          rw [unhide Hl] at hcle
          rw [hx] at HS
          obtain ⟨q, hq⟩ : ∃ q, xs.count x = q := ⟨_, rfl⟩
          rw [hq] at hcle
          have hrunA : ∀ n, (Instr.lookup 70 (.map (some w.heap.size)) (.int .i64 x) false).run Tryz.prog (wr.drewN n) = .ok (.int .i64 q) (wr.drewN n) := fun n => by
            have hown2 : (wr.drewN n).ownsMap Tryz.prog 3 (plainElem Tryz.prog 3) w.heap.size k D := hown
            obtain ⟨c, hrun, hat, _⟩ := hown2.lookup_int keyLaw Tryz.underlying70 Tryz.underlying3 (zeroInt _) hkey
            have hcc : c = (q : Int) := by
              have h1 := (unhide HD).2 x
              rw [hat, List.take_of_length_le (by rw [unhide Hl]; exact Nat.le_refl _), hq] at h1
              injection h1 with h1; injection h1
            rw [← hcc]; exact hrun
          have HQ := hide hq
          clear hq hx hkey
          by_cases hgt : oo < q
          · go_wp2
            go_quiet (fail)
            go_wp2
            go_roundw
            case rel => exact ⟨j + 1, by omega, by go_num, x, q, rfl, rfl, hcle, (by show _ = _; rw [unhide HS, unhide HM, mstep, unhide HQ, if_pos hgt]), _, rfl⟩
            case measure => simp [intOf]; omega
          · go_wp2
            go_roundw
            case rel => exact ⟨j + 1, by omega, by go_num, bb, oo, rfl, rfl, hoo, (by show _ = _; rw [unhide HS, unhide HM, mstep, unhide HQ, if_neg hgt]), _, rfl⟩
            case measure => simp [intOf]; omega
        · have hjk : j = k := by omega
          subst hjk
          go_wp2
          go_ret2
          have h1 := (unhide HM).symm.trans ((congrArg (most xs) (unhide Hl).symm).trans (unhide Hbo))
          subst h1
          exact ⟨rfl, below_draw (unhide HB) _⟩
set_option maxHeartbeats 1000000 in
set_option maxRecDepth 100000 in
theorem mostOf_ok (v : Value) (xs : List Int) (w : World) (hv : IntsIn w v xs) (hl : xs.length ≤ 1000000) :
    Calls Tryz.prog 28 #[v] w fun e w' => e = .returned (.tuple #[.int .i64 (most xs xs.length).1, .int .i64 ((most xs xs.length).2 : Nat)]) ∧ ∃ n, w' = w.drewN n := by
  obtain ⟨ad, cap, rfl, hcells⟩ := hv
  have HV := hide hcells
  obtain ⟨m, hm⟩ : ∃ m, xs.length = m := ⟨_, rfl⟩
  have Hl : Hid (xs.length = m) := hm
  obtain ⟨bo, hbo⟩ : ∃ bo, most xs xs.length = bo := ⟨_, rfl⟩
  have Hbo := hide hbo
  rw [hbo]
  rw [hm] at hl ⊢
  clear hm hcells hbo
  go_enter Tryz.func28, Tryz.ntmps28
  go_wp2
  go_loopw [4, 5, 6] (fun b o i wr => ∃ j : Nat, j ≤ m ∧ i = .int .i64 j ∧ ∃ (bb : Int) (oo : Nat), b = .int .i64 bb ∧ o = .int .i64 oo ∧ oo ≤ m ∧ Hid (most xs j = (bb, oo)) ∧ ∃ n, wr = w.drewN n) (fun _ _ i _ => m - (intOf i).toNat)
  case atStart => exact ⟨0, by omega, rfl, 0, 0, rfl, rfl, by omega, rfl, 0, rfl⟩
  case round =>
    obtain ⟨j, hj, rfl, bb, oo, rfl, rfl, hoo, HM, dn, rfl⟩ := hrel
    by_cases hlt : j < m
    · obtain ⟨b, off, rfl, hc⟩ := unhide HV j (by rw [unhide Hl]; exact hlt)
      obtain ⟨x, hx⟩ : ∃ x, xs.getD j 0 = x := ⟨_, rfl⟩
      have HS := hide (most_succ xs j (by rw [unhide Hl]; exact hlt))
      rw [hx] at hc HS
      clear hx
      go_wp2
      go_loopw [7, 8] (fun n i wr => ∃ k q : Nat, k ≤ m ∧ q ≤ k ∧ i = .int .i64 k ∧ n = .int .i64 q ∧ Hid ((xs.take k).count x = q) ∧ ∃ n, wr = w.drewN n) (fun _ i _ => m - (intOf i).toNat)
      case atStart => exact ⟨0, 0, by omega, by omega, rfl, rfl, rfl, _, rfl⟩
      case round =>
        obtain ⟨k, q, hk, hqk, rfl, rfl, HQ, dm, rfl⟩ := hrel
        by_cases hlt2 : k < m
        · obtain ⟨b2, off2, e2, hc2⟩ := unhide HV k (by rw [unhide Hl]; exact hlt2)
          cases e2
          obtain ⟨y, hy⟩ : ∃ y, xs.getD k 0 = y := ⟨_, rfl⟩
          have HT := hide (take_snoc' xs k (by rw [unhide Hl]; exact hlt2))
          rw [hy] at hc2 HT
          clear hy
          by_cases hxy : y = x
          · subst hxy
            go_wp2
            go_quiet (fail)
            go_wp2
            go_roundw
            case rel => exact ⟨k + 1, q + 1, by omega, by omega, by go_num, by go_num, (by show _ = _; rw [unhide HT, List.count_append, unhide HQ, List.count_singleton_self]), _, rfl⟩
            case measure => simp [intOf]; omega
          · go_wp2
            go_quiet (fail)
            go_wp2
            go_roundw
            case rel => exact ⟨k + 1, q, by omega, by omega, by go_num, rfl, (by show _ = _; rw [unhide HT, List.count_append, unhide HQ]; simp [hxy]), _, rfl⟩
            case measure => simp [intOf]; omega
        · have hkm : k = m := by omega
          subst hkm
          have HQ2 : Hid (xs.count x = q) := by
            have h := unhide HQ
            rw [List.take_of_length_le (by rw [unhide Hl]; exact Nat.le_refl _)] at h
            exact h
          clear HQ
          by_cases hgt : oo < q
          · go_wp2
            go_roundw
            case rel => exact ⟨j + 1, by omega, by go_num, x, q, rfl, rfl, hqk, (by show _ = _; rw [unhide HS, unhide HM, mstep, unhide HQ2, if_pos hgt]), _, rfl⟩
            case measure => simp [intOf]; omega
          · go_wp2
            go_roundw
            case rel => exact ⟨j + 1, by omega, by go_num, bb, oo, rfl, rfl, hoo, (by show _ = _; rw [unhide HS, unhide HM, mstep, unhide HQ2, if_neg hgt]), _, rfl⟩
            case measure => simp [intOf]; omega
    · have hjk : j = m := by omega
      subst hjk
      go_wp2
      go_ret2
      have h1 := (unhide HM).symm.trans ((congrArg (most xs) (unhide Hl).symm).trans (unhide Hbo))
      subst h1
      exact ⟨rfl, _, rfl⟩
end Go.Proofs.YtglhapkclpllfaaGreatDoor
