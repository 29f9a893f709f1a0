/-
  The contract of the document's answer MidOf: numbers put in order one by one: the middle, or the first that is no time.
-/
import Derived.Test.YtglhapkclpllfabDoorRefClock1
namespace Go.Proofs.YtglhapkclpllfabDoor
open Go.RowKit

theorem Tryd.infoI2 : (Tryd.prog.info? 3).map (fun i => (i.zero, i.size, i.bytes)) = some (some (.int .i64 0), 1, 8) := by kernel_rfl
theorem new_one (W : World) (x : Int) (t : TypeId) : IntsIn (W.alloc (.cells #[.int .i64 x] t)) (.slice (some ⟨W.heap.size, 0, none⟩) 1 1) [x] :=
  IntsAt.in' (Or.inr ⟨W.heap.size, 0, 1, rfl, ints_new W [x] t _ _ rfl rfl⟩)
theorem cap_none (w : World) (xs : List Int) : IntsCap w (.slice none 0 0) (srt (xs.take 0)) := by
  have e : srt (xs.take 0) = [] := List.eq_nil_of_length_eq_zero (by rw [srt_len]; rfl)
  rw [e]
  exact ⟨none, 0, rfl, Nat.le_refl _, fun k hk => absurd hk (Nat.not_lt_zero _)⟩
set_option maxHeartbeats 4000000 in
set_option maxRecDepth 100000 in
theorem midOf_walk (v : Value) (xs : List Int) (k m : Nat) (w : World) (hv : IntsIn w v xs) (hl : xs.length ≤ 1000) (hk : 2 * k + 1 ≤ xs.length) (hm : m ≤ xs.length) (hn : ∀ i, i < m → isT (xs.getD i 0)) (hbad : m < xs.length → ¬ isT (xs.getD m 0)) :
    Calls Tryd.prog 11 #[v, .int .i64 k] w fun e w' => ((m = xs.length ∧ e = .returned (.tuple #[.int .i64 (mid xs k), .agg #[.int .i64 0, .int .i64 (-1)]])) ∨ (m < xs.length ∧ e = .returned (.tuple #[.int .i64 0, .agg #[.int .i64 2, .int .i64 m]]))) ∧ Below w.heap.size w w' := by
  obtain ⟨i0, hi, hz0, hz1, hz2⟩ := info_parts Tryd.infoI2
  obtain ⟨ad, cap, rfl, hcells⟩ := hv
  obtain ⟨b, off, rfl, _⟩ := hcells 0 (by omega)
  have HV : Hid (∀ i, i < xs.length → w.cell? ⟨b, off + i, none⟩ = some (.int .i64 (xs.getD i 0))) := fun i hi => by
    obtain ⟨b', o', e, hc⟩ := hcells i hi
    cases e
    exact hc
  have Hn := hide hn
  have Hbad := hide hbad
  obtain ⟨n, hn'⟩ : ∃ n, xs.length = n := ⟨_, rfl⟩
  have Hl : Hid (xs.length = n) := hn'
  rw [hn'] at hm hl hk ⊢
  obtain ⟨W0, hW0⟩ : ∃ W, W = w.alloc (.cells #[.int .i64 0, .int .i64 0] 32) := ⟨_, rfl⟩
  have HW0 := hide hW0
  have HB0 : Hid (Below w.heap.size w W0) := by show Below _ _ _; rw [hW0]; exact (Below.refl _ _).alloc (Nat.le_refl _) _
  have h0 : ¬ ((k : Int) < 0) := by omega
  have h1 : ¬ ((n : Int) < (k : Int)) := by omega
  have h2 : ¬ ((n : Int) < 2 * (k : Int) + 1) := by omega
  clear hn' hcells hn hbad
  go_enter Tryd.func11, Tryd.ntmps11
  go_wp2
  rw [← hW0]
  clear hW0
  go_loopw [6, 7] (fun x i wr => ∃ j : Nat, j ≤ m ∧ i = .int .i64 j ∧ IntsCap wr x (srt (xs.take j)) ∧ Below W0.heap.size W0 wr) (fun _ i _ => n - (intOf i).toNat)
  case atStart => exact ⟨0, by omega, rfl, cap_none _ xs, Below.refl _ _⟩
  case round =>
    obtain ⟨j, hj, rfl, hx, hB⟩ := hrel
    have HB := hide hB
    have HX := hide hx
    clear hB hx
    have hzl : (srt (xs.take j)).length = j := by rw [srt_len, List.length_take, unhide Hl]; omega
    generalize hz : srt (xs.take j) = zs at HX hzl
    have HZ := hide hz
    have HZl := hide hzl
    obtain ⟨ax, cx, rfl, hcx, hxc⟩ := unhide HX
    rw [hzl] at hcx hxc HX ⊢
    have HXc := hide hxc
    clear hz hxc hzl
    by_cases hlt : j < n
    · have hc := below_cell ((unhide HB0).trans ((unhide HB).mono (unhide HB0).size)) (unhide HV j (by rw [unhide Hl]; exact hlt))
      have HIns := hide (ins_srt xs j)
      rw [unhide HZ, unhide Hl] at HIns
      have Hbj := hide (unhide Hbad)
      by_cases hjm : j < m
      · have HT := hide (unhide Hn j hjm)
        generalize xs.getD j 0 = x0 at *
        go_wp2_with (go_at_call 32; refine (isFar_no x0 _ (unhide HT)).mono ?_; rintro e W1 ⟨rfl, rfl⟩)
        go_loopw [9] (fun a wr' => ∃ p : Nat, p ≤ j ∧ a = .int .i64 p ∧ Hid (∀ i, p ≤ i → i < j → x0 < zs.getD i 0) ∧ ∃ q, wr' = W1.drewN q) (fun a _ => (intOf a).toNat)
        case atStart => exact ⟨j, Nat.le_refl _, rfl, fun i h1 h2 => absurd h2 (by omega), 0, rfl⟩
        case round =>
          obtain ⟨p, hp, rfl, HD, q, rfl⟩ := hrel
          by_cases hgo : 0 < p ∧ x0 < zs.getD (p - 1) 0
          · obtain ⟨hp0, hgt⟩ := hgo
            obtain ⟨r, rfl⟩ : ∃ r, p = r + 1 := ⟨p - 1, by omega⟩
            obtain ⟨bx, ox, rfl, hcr⟩ := unhide HXc r (by omega)
            rw [Nat.add_sub_cancel] at hgt
            have HD2 : Hid (∀ i, r ≤ i → i < j → x0 < zs.getD i 0) := fun i h1 h2 => by
              rcases Nat.lt_or_ge r i with h | h
              · exact unhide HD i h h2
              · have e : i = r := by omega
                subst e
                exact hgt
            generalize zs.getD r 0 = y at *
            have g0 : (0 : Int) < ((r + 1 : Nat) : Int) := by omega
            have g1 : r < j := by omega
            go_wp2
            go_quiet (fail)
            go_wp2
            go_roundw
            case rel => exact ⟨r, by omega, by go_num, HD2, _, rfl⟩
            case measure => first | (simp [intOf]; done) | (simp [intOf]; omega)
          · have HI2 : Hid (zs.take p ++ x0 :: zs.drop p = srt (xs.take (j + 1))) := unhide HIns p hlt hp (unhide HD) (by
              rcases Nat.eq_zero_or_pos p with h | h
              · exact Or.inl h
              · exact Or.inr (by have := fun h2 => hgo ⟨h, h2⟩; omega))
            have HG : Hid (p = 0 ∨ ∃ r, p = r + 1 ∧ ¬ x0 < zs.getD r 0) := by
              rcases Nat.eq_zero_or_pos p with h | h
              · exact Or.inl h
              · refine Or.inr ⟨p - 1, by omega, fun h2 => hgo ⟨h, h2⟩⟩
            have HXq := hide ((unhide HX).below (below_draw (Below.refl _ W1) q))
            have HA : Hid (∀ q', IntsIn (W1.drewN q') (.slice ax p cx) (zs.take p)) := fun q' => cap_take ((unhide HX).below (below_draw (Below.refl _ W1) q')) p hp
            have f5 : (p : Int) ≤ (cx : Int) := by omega
            have f6 : (p : Int) ≤ (j : Int) := by omega
            have l1 : (zs.take p).length = p := by rw [List.length_take, unhide HZl]; omega
            have l2 : (zs.drop p).length = j - p := by rw [List.length_drop, unhide HZl]
            have HL1 := hide l1
            have HL2 := hide l2
            clear hgo HD HXq l1 l2
            by_cases hcp : p = cx
            all_goals (first | subst hcp | (have hcp' : ¬ cx = p := fun e => hcp e.symm))
            all_goals (rcases unhide HG with hp0 | ⟨r, hr, hng⟩)
            all_goals (first
              | (have g0 : ¬ (0 : Int) < (p : Int) := by omega
                 have g5 : decide (0 < p) = false := by simp; omega
                 clear hp0
                 go_wp2
                 go_quiet (fail))
              | (obtain ⟨bx, ox, rfl, hcr⟩ := unhide HXc r (by omega)
                 generalize zs.getD r 0 = y at hcr hng
                 have g0 : (0 : Int) < (p : Int) := by omega
                 have g1 : (p : Int) - 1 = (r : Int) := by omega
                 have g2 : r < j := by omega
                 have g3 : 0 < p := by omega
                 have g4 : decide ((0 : Int) < (p : Int)) = true := by simp; omega
                 have g5 : decide (0 < p) = true := by simp; omega
                 clear hr HXc
                 go_wp2
                 go_quiet (fail)))
            all_goals
              go_wp2_with (first
                | (at_builtin; refine wpList_append_on rfl _ _ 22 rfl 3 i0 Tryd.underlying22 hi hz0 hz1 hz2 W1.heap.size (Nat.le_refl _) _ [] rfl (World.ownsRow_nil _ _ _ _) _ (zs.take p) rfl (unhide HA _) (by rw [unhide HL1]; simp; omega) ?_; intro vy w2 ho1 hB2; have HO1 := hide ho1; have HB2 := hide ((below_draw (Below.refl _ W1) _).trans hB2); have hcl := below_cell (unhide HB2) hc; clear ho1 hB2)
                | (at_builtin; refine wpList_append_on rfl _ _ 22 rfl 3 i0 Tryd.underlying22 hi hz0 hz1 hz2 W1.heap.size (by have := (unhide HB2).size; simp; omega) _ ([] ++ zs.take p) rfl ((unhide HO1).alloc _) _ [x0] rfl (new_one _ _ _) (by rw [List.nil_append, unhide HL1]; simp; omega) ?_; intro vy2 w3 ho2 hB3; have HO2 := hide ho2; have HB3 := hide (((unhide HB2).alloc (unhide HB2).size _).trans hB3); clear ho2 hB3)
                | (at_builtin; refine wpList_append_on rfl _ _ 22 rfl 3 i0 Tryd.underlying22 hi hz0 hz1 hz2 W1.heap.size (unhide HB3).size _ ([] ++ zs.take p ++ [x0]) rfl (unhide HO2) _ (zs.drop p) rfl (cap_drop ((unhide HX).below (unhide HB3)) p (by first | rfl | omega) _ (by first | rfl | (rw [if_pos rfl]; done) | (rw [if_neg hcp']; done) | (rw [if_neg hcp']; rfl) | (rw [if_neg hcp', Option.map_some, Addr.add_lit]; done))) (by rw [List.nil_append, List.length_append, unhide HL1, unhide HL2]; simp; omega) ?_; intro vx2 w4 ho3 hB4; have HO3 := hide ho3; have HB4 := hide ((unhide HB3).trans hB4); clear ho3 hB4))
              go_roundw
              case rel => exact ⟨j + 1, by omega, by go_num, by
                have h := IntsCap.of_owns (unhide HO3)
                rw [show [] ++ zs.take p ++ [x0] ++ zs.drop p = srt (xs.take (j + 1)) from by rw [← unhide HI2]; simp] at h
                exact h, (unhide HB).trans ((unhide HB4).mono (unhide HB).size)⟩
              case measure => simp [intOf]; omega
      · have hjm' : j = m := by omega
        subst hjm'
        have HT := hide (unhide Hbj (by rw [unhide Hl]; exact hlt))
        obtain ⟨hc0, hc1, hf0, hf1, hBr⟩ := res_cells (w := w) (unhide HW0 ▸ unhide HB)
        have HBr := hide hBr
        clear hBr HIns Hbj
        generalize xs.getD j 0 = x0 at *
        go_wp2_with (go_at_call 32; refine (isFar_yes x0 _ (unhide HT)).mono ?_; rintro e W1 ⟨rfl, rfl⟩)
        exact bodyPost_ret (v := .tuple #[.int .i64 0, .agg #[.int .i64 2, .int .i64 j]]) (by simp [results, Tryd.results11, go_sem, hc0, hc1]) rfl ⟨Or.inr ⟨hlt, rfl⟩, below_res (unhide HBr) _ _⟩
    · have hjm : j = m := by omega
      subst hjm
      have hjn : j = n := by omega
      subst hjn
      obtain ⟨hc0, hc1, hf0, hf1, hBr⟩ := res_cells (w := w) (unhide HW0 ▸ unhide HB)
      have HBr := hide hBr
      have HT : Hid (∀ x ∈ xs, isT x) := times_all.1 fun i hi => unhide Hn i (by rw [← unhide Hl]; exact hi)
      rw [List.take_of_length_le (by rw [unhide Hl]; exact Nat.le_refl _)] at HZ
      obtain ⟨bx, ox, rfl, hx1⟩ := unhide HXc k (by omega)
      have hx2 : wr.cell? ⟨bx, ox + (j - 1 - k), none⟩ = some (Value.int .i64 (zs.getD (j - 1 - k) 0)) := by
        obtain ⟨b', o', e, hc⟩ := unhide HXc (j - 1 - k) (by omega)
        cases e
        exact hc
      have hT1 : isT (zs.getD k 0) := by rw [← unhide HZ]; exact unhide HT _ (srt_getD_mem xs k (by rw [unhide Hl]; omega))
      have hT2 : isT (zs.getD (j - 1 - k) 0) := by rw [← unhide HZ]; exact unhide HT _ (srt_getD_mem xs (j - 1 - k) (by rw [unhide Hl]; omega))
      have HM : Hid (mid xs k = (zs.getD k 0 + zs.getD (j - 1 - k) 0) / 2) := by show _ = _; unfold mid; rw [unhide Hl, unhide HZ]
      generalize zs.getD k 0 = lo at *
      generalize zs.getD (j - 1 - k) 0 = hi2 at *
      have t1 := hT1.1
      have t2 := hT1.2
      have t3 := hT2.1
      have t4 := hT2.2
      have hq : (j : Int) - 1 - (k : Int) = ((j - 1 - k : Nat) : Int) := by omega
      have hkj : k < j := by omega
      have hqj : j - 1 - k < j := by omega
      generalize j - 1 - k = qq at *
      clear hBr hT1 hT2
      clear hc0 hc1 hf0 hf1
      by_cases hneg : lo + hi2 < 0
      all_goals
        go_wp2
        go_quiet (fail)
        go_wp2_with fail
        refine (fine_ok _).mono ?_
        rintro e w5 ⟨rfl, hB5⟩
        have hB6 : Below W0.heap.size W0 w5 := (unhide HB).trans ((below_draw (Below.refl wr.heap.size wr) _).trans hB5 |>.mono (unhide HB).size)
        obtain ⟨hc0, hc1, hf0, hf1, hBr2⟩ := res_cells (w := w) (unhide HW0 ▸ hB6)
        have HBr2 := hide hBr2
        clear hBr2 hB5 hB6
        go_wp2
        refine bodyPost_ret (v := .tuple #[.int .i64 (mid xs k), .agg #[.int .i64 0, .int .i64 (-1)]]) ?_ rfl ⟨rfl, below_res (unhide HBr2) _ _⟩
        rw [unhide HM]
        simp [results, Tryd.results11, go_sem, hc0, hc1]
        try omega
end Go.Proofs.YtglhapkclpllfabDoor
