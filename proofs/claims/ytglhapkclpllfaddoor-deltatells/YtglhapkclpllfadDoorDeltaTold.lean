/-
  The walk of the law DeltaTells over what package delta answers (structure DelP) and the document's answer.
  Conditions: package api's errors lie as laid (structure Sent); those of the package's contracts (M).
-/
import Derived.Test.YtglhapkclpllfadDoorDeltaTells
namespace Go.Proofs.YtglhapkclpllfadDoor
open Go.RowKit

theorem agreeE_ne (l m : List Ent) : (∀ i, i < agreeE l m → l.getD i Ent.zero = m.getD i Ent.zero) ∧ (agreeE l m < l.length → agreeE l m < m.length → l.getD (agreeE l m) Ent.zero ≠ m.getD (agreeE l m) Ent.zero) := by
  obtain ⟨k, h1, h2, h3⟩ := first_idx (fun i => decide (keyE (l.getD i Ent.zero) ≠ keyE (m.getD i Ent.zero))) (min l.length m.length)
  have e1 : ∀ i, i < k → l.getD i Ent.zero = m.getD i Ent.zero := fun i hi => by
    have := h2 i hi
    simp only [ne_eq, decide_not, Bool.not_eq_false', decide_eq_true_eq] at this
    exact keyE_inj this
  have e2 : k < l.length → k < m.length → l.getD k Ent.zero ≠ m.getD k Ent.zero := fun ha hb e => by
    have := h3 (by omega)
    rw [e] at this
    simp at this
  have e3 := agreeE_at l m k (by omega) (by omega) e1 e2
  rw [e3]
  exact ⟨e1, e2⟩
/-- Where two entries part. -/
theorem ent_part {a b : Ent} (h : a ≠ b) : a.slot ≠ b.slot ∨ (a.slot = b.slot ∧ a.src ≠ b.src) ∨ (a.slot = b.slot ∧ a.src = b.src ∧ a.heard ≠ b.heard) ∨ (a.slot = b.slot ∧ a.src = b.src ∧ a.heard = b.heard ∧ a.value ≠ b.value) := by
  by_cases h0 : a.slot = b.slot
  · by_cases h1 : a.src = b.src
    · by_cases h2 : a.heard = b.heard
      · by_cases h3 : a.value = b.value
        · exact absurd (by obtain ⟨a0, a1, a2, a3⟩ := a; obtain ⟨b0, b1, b2, b3⟩ := b; simp only at h0 h1 h2 h3; subst h0 h1 h2 h3; rfl) h
        · exact Or.inr (Or.inr (Or.inr ⟨h0, h1, h2, h3⟩))
      · exact Or.inr (Or.inr (Or.inl ⟨h0, h1, h2⟩))
    · exact Or.inr (Or.inl ⟨h0, h1⟩)
  · exact Or.inl h0
set_option maxRecDepth 100000 in
theorem dtells_far (M : World → Prop) (CM : MissedO M) (v vm : Value) (l m : List Ent) (h most : Int) (w : World) (hM : M w) (hv : EntsIn w v l) (hm : EntsIn w vm m) (hf : (60 < l.length ∧ l.length ≠ 201) ∨ ((l.length ≤ 60 ∨ l.length = 201) ∧ 60 < m.length)) :
    Calls Tryd.prog 6 #[v, vm, .int .i64 h, .int .i64 most] w fun r w' => r = .returned (.bool true) ∧ Below w.heap.size w w' := by
  have HK := hide (CM w hM)
  obtain ⟨ad, cap, rfl, _⟩ := EntsIn.at hv
  obtain ⟨adm, capm, rfl, _⟩ := EntsIn.at hm
  generalize l.length = n at *
  generalize m.length = nm at *
  have hh : (decide ((60 : Int) < (n : Int)) = true ∧ ((n : Int) != 201) = true) ∨ (decide ((60 : Int) < (n : Int)) = false ∧ decide ((60 : Int) < (nm : Int)) = true) ∨ (decide ((60 : Int) < (n : Int)) = true ∧ ((n : Int) != 201) = false ∧ decide ((60 : Int) < (nm : Int)) = true) := by
    rcases hf with ⟨h1, h2⟩ | ⟨h0 | h0, h1⟩
    · exact Or.inl ⟨decide_eq_true (by omega), by simp; omega⟩
    · exact Or.inr (Or.inl ⟨decide_eq_false (by omega), decide_eq_true (by omega)⟩)
    · exact Or.inr (Or.inr ⟨decide_eq_true (by omega), by simp; omega, decide_eq_true (by omega)⟩)
  clear hM hv hm hf CM
  rcases hh with ⟨h1, h2⟩ | ⟨h1, h2⟩ | ⟨h1, h2, h3⟩
  all_goals
    go_enter Tryd.func6, Tryd.ntmps6
    go_wp2_with (go_at_call 22; refine (unhide HK).mono ?_; rintro E w1 ⟨rfl, hB1⟩; have HB := hide hB1; clear hB1)
    go_ret
    exact ⟨rfl, unhide HB⟩
set_option maxRecDepth 100000 in
set_option maxHeartbeats 2000000 in
theorem dtells_near (a : Nat → Addr) (M : World → Prop) (hS : ∀ w, M w → Sent a w) (P : DelP M (eD a)) (CM : MissedO M) (v vm : Value) (l m : List Ent) (h most : Int) (w : World) (hM : M w) (hv : EntsIn w v l) (hm : EntsIn w vm m) (h1 : l.length ≤ 60 ∨ l.length = 201) (h2 : m.length ≤ 60) :
    Calls Tryd.prog 6 #[v, vm, .int .i64 h, .int .i64 most] w fun r w' => r = .returned (.bool true) ∧ Below w.heap.size w w' := by
  have HK := hide (CM w hM)
  have HM : Hid (∀ w', Below w.heap.size w w' → M w') := fun w' hB => P.keep w w' hM hB
  have HS : Hid (∀ w', Below w.heap.size w w' → Sent a w') := fun w' hB => hS w' (P.keep w w' hM hB)
  have HV := hide (fun w' (hB : Below w.heap.size w w') => hv.below hB)
  have HVm := hide (fun w' (hB : Below w.heap.size w w') => hm.below hB)
  obtain ⟨ys, G, T⟩ := since_told a M P v l h most
  obtain ⟨zs, G2, T2⟩ := join_told a M P v vm l m (by omega)
  have C1 := hide T.pr
  have C2 := hide T.dc
  have HKeep := hide T.keep
  have HFew := hide T.few
  have C3 := hide T2.pr
  have C4 := hide T2.dc
  have HKeep2 := hide T2.keep
  have HFew2 := hide T2.few
  have HA1 := hide (fun w' m' hv' hm' => P.agO w' v vm l m m' hv' hm' (by omega) (by omega))
  have HA2 := hide (fun w' m' hm' hv' => P.agO w' vm v m l m' hm' hv' (by omega) (by omega))
  rw [agreeE_comm m l] at HA2
  obtain ⟨hne1, hne2⟩ := agreeE_ne l m
  obtain ⟨hle1, hle2⟩ := agreeE_le l m
  have HN1 := hide hne1
  have HN2 := hide hne2
  obtain ⟨ad, cap, rfl, hc⟩ := EntsIn.at hv
  have HCl := hide hc
  obtain ⟨adm, capm, rfl, hcm⟩ := EntsIn.at hm
  have HCm := hide hcm
  obtain ⟨n, hn⟩ : ∃ n, l.length = n := ⟨_, rfl⟩
  obtain ⟨nm, hnm⟩ : ∃ nm, m.length = nm := ⟨_, rfl⟩
  rw [hn] at h1 HV C1 C2 C3 C4 HA1 HA2 HN2 HCl hle1 ⊢
  rw [hnm] at h2 HVm C3 C4 HA1 HA2 HN2 HCm hle2 ⊢
  generalize agreeE l m = K at *
  clear hM hv hm P CM hS T T2 hne1 hne2 hc hcm hn hnm
  have h1' : decide ((60 : Int) < (n : Int)) = false ∨ (decide ((60 : Int) < (n : Int)) = true ∧ ((n : Int) != 201) = false) := by
    rcases h1 with h | h
    · exact Or.inl (decide_eq_false (by omega))
    · exact Or.inr ⟨decide_eq_true (by omega), by simp; omega⟩
  have h2' : decide ((60 : Int) < (nm : Int)) = false := decide_eq_false (by omega)
  have hn1 : n ≤ 201 := by omega
  clear h1
  rcases h1' with h1 | ⟨h1, h3⟩
  all_goals
    go_enter Tryd.func6, Tryd.ntmps6
    go_wp2_with fail
    refine (unhide HK).mono ?_
    rintro E w1 ⟨rfl, hB⟩
    have HB1 := hide hB
    clear hB
    go_wp2_with fail
    refine (unhide C1 _ (unhide HM _ (unhide HB1)) (unhide HV _ (unhide HB1))).mono ?_
    rintro E w2 ⟨va, ea, rfl, hva, hga, hB⟩
    have HB2 := hide ((unhide HB1).trans (hB.mono (unhide HB1).size))
    have HVa := hide hva
    have HGa := hide hga
    clear hB hva hga
    go_wp2_with fail
    refine (unhide C2 _ (unhide HV _ (unhide HB2))).mono ?_
    rintro E w3 ⟨vb, c, n1, rfl, hvb, hfit, hB⟩
    have hB3 := (unhide HB2).trans (hB.mono (unhide HB2).size)
    obtain ⟨W, hW⟩ : ∃ W, W = w3.alloc (.cells #[.int .i64 c, .int .i64 n1] 29) := ⟨_, rfl⟩
    have hba : Below w3.heap.size w3 W := by rw [hW]; exact (Below.refl _ _).alloc (Nat.le_refl _) _
    have HBW := hide (hB3.trans (hba.mono hB3.size))
    have HF : Hid (FAtR W w3.heap.size c n1) := by rw [hW]; exact FAtR.new w3 c n1
    have HE := hide ((hfit _ _ (unhide HKeep _ _ _ (unhide HGa) hB)).below hba)
    have HVa3 := hide (((unhide HVa).below hB).below hba)
    have HVb3 := hide (hvb.below hba)
    have hsz : w.heap.size ≤ w3.heap.size := hB3.size
    clear hB hB3 hba hvb hfit
    obtain ⟨f0, f1, _, _⟩ := (unhide HF).f
    go_wp2_with fail
    rw [← hW]
    clear hW
    refine (faulted_ok a _ (unhide HS _ (unhide HBW)) (unhide HE)).mono ?_
    rintro E w4 ⟨rfl, hB⟩
    have HB4 := hide ((unhide HBW).trans (hB.mono (unhide HBW).size))
    have HF4 := hide ((unhide HF).below hB)
    have HVa4 := hide ((unhide HVa3).below hB)
    have HVb4 := hide ((unhide HVb3).below hB)
    clear hB f0 f1
    go_wp2_with fail
    refine (same_ents _ _ ys _ (unhide HVa4) (unhide HVb4) (unhide HFew)).mono ?_
    rintro E w5 ⟨rfl, nd, rfl⟩
    have HB5 := hide (below_draw (unhide HB4) nd)
    have HF5 := hide ((unhide HF4).below (below_draw (Below.refl _ _) nd))
    go_wp2_with fail
    refine (unhide C3 _ (unhide HM _ (unhide HB5)) ⟨unhide HV _ (unhide HB5), unhide HVm _ (unhide HB5)⟩).mono ?_
    rintro E w6 ⟨vc, ec, rfl, hvc, hgc, hB⟩
    have HB6 := hide ((unhide HB5).trans (hB.mono (unhide HB5).size))
    have HF6 := hide ((unhide HF5).below hB)
    have HVc := hide hvc
    have HGc := hide hgc
    clear hB hvc hgc
    go_wp2_with fail
    refine (unhide C4 _ ⟨unhide HV _ (unhide HB6), unhide HVm _ (unhide HB6)⟩).mono ?_
    rintro E w7 ⟨vd, c', n', rfl, hvd, hfit, hB⟩
    have HB7 := hide ((unhide HB6).trans (hB.mono (unhide HB6).size))
    have HF7 := hide ((unhide HF6).below hB)
    have HVc7 := hide ((unhide HVc).below hB)
    have HVd7 := hide hvd
    have HG7 := hide (hfit _ _ (unhide HKeep2 _ _ _ (unhide HGc) hB))
    clear hB hvd hfit
    obtain ⟨f0, f1, g0, g1⟩ := (unhide HF7).f
    go_wp2_with fail
    obtain ⟨Wc, hWc⟩ : ∃ Wc, Wc = (w7.setCell ⟨w3.heap.size, 0, none⟩ (.int .i64 c')).setCell ⟨w3.heap.size, 1, none⟩ (.int .i64 n') := ⟨_, rfl⟩
    have HBc : Hid (Below w.heap.size w Wc) := by rw [hWc]; exact ((unhide HB7).setCell (p := ⟨w3.heap.size, 0, none⟩) hsz _).setCell (p := ⟨w3.heap.size, 1, none⟩) hsz _
    have HGc7 : Hid (ErrFits a Wc ec c' n') := by rw [hWc]; exact (unhide HG7).set (unhide HF7).f _ _
    have HVc8 : Hid (EntsIn Wc vc zs) := by rw [hWc]; exact ents_set (unhide HVc7) (unhide HF7) _ _
    have HVd8 : Hid (EntsIn Wc vd zs) := by rw [hWc]; exact ents_set (unhide HVd7) (unhide HF7) _ _
    rw [← hWc]
    clear hWc f0 f1 g0 g1
    refine (faulted_ok a _ (unhide HS _ (unhide HBc)) (unhide HGc7)).mono ?_
    rintro E w8 ⟨rfl, hB⟩
    have HB8 := hide ((unhide HBc).trans (hB.mono (unhide HBc).size))
    have HVc9 := hide ((unhide HVc8).below hB)
    have HVd9 := hide ((unhide HVd8).below hB)
    clear hB
    go_wp2_with fail
    refine (same_ents _ _ zs _ (unhide HVc9) (unhide HVd9) (unhide HFew2)).mono ?_
    rintro E w9 ⟨rfl, nd2, rfl⟩
    have HB9 := hide (below_draw (unhide HB8) nd2)
    generalize w8.drewN nd2 = W9 at *
    go_wp2_with fail
    go_loopw [14] (fun q wr => ∃ k : Nat, k ≤ K ∧ q = .int .i64 (k : Int) ∧ ∃ dn, wr = W9.drewN dn) (fun q _ => n - (intOf q).toNat)
    case atStart => exact ⟨0, by omega, rfl, 0, rfl⟩
    case round =>
      obtain ⟨k, hk, rfl, dn, rfl⟩ := hrel
      have HBd := hide (below_draw (unhide HB9) dn)
      have HBq := hide (fun q => below_draw (unhide HB9) q)
      by_cases hlt : k < K
      · obtain ⟨b, off, rfl, c0, c1, c2, c3⟩ := unhide HCl k (by omega)
        obtain ⟨bm, offm, rfl, e0, e1, e2, e3⟩ := unhide HCm k (by omega)
        have d0 := below_cell (unhide HB9) c0
        have d1 := below_cell (unhide HB9) c1
        have d2 := below_cell (unhide HB9) c2
        have d3 := below_cell (unhide HB9) c3
        have j0 := below_cell (unhide HB9) e0
        have j1 := below_cell (unhide HB9) e1
        have j2 := below_cell (unhide HB9) e2
        have j3 := below_cell (unhide HB9) e3
        rw [← unhide HN1 k hlt] at j0 j1 j2 j3
        have k0 : (0 : Int) ≤ (k : Int) := Int.natCast_nonneg _
        have k1 : (k : Int) < (n : Int) := by omega
        have k2 : (k : Int) < (nm : Int) := by omega
        clear c0 c1 c2 c3 e0 e1 e2 e3
        generalize (l.getD k Ent.zero).slot = x0 at *
        generalize (l.getD k Ent.zero).src = x1 at *
        generalize (l.getD k Ent.zero).heard = x2 at *
        generalize (l.getD k Ent.zero).value = x3 at *
        go_wp2
        go_quiet (fail)
        go_wp2
        go_roundw
        case rel => exact ⟨k + 1, by omega, by go_num, _, rfl⟩
        case measure => simp [intOf]; omega
      · obtain rfl : k = K := by omega
        by_cases hkn : k < n
        · by_cases hkm : k < nm
          · obtain ⟨b, off, rfl, c0, c1, c2, c3⟩ := unhide HCl k hkn
            obtain ⟨bm, offm, rfl, e0, e1, e2, e3⟩ := unhide HCm k hkm
            have d0 := below_cell (unhide HB9) c0
            have d1 := below_cell (unhide HB9) c1
            have d2 := below_cell (unhide HB9) c2
            have d3 := below_cell (unhide HB9) c3
            have j0 := below_cell (unhide HB9) e0
            have j1 := below_cell (unhide HB9) e1
            have j2 := below_cell (unhide HB9) e2
            have j3 := below_cell (unhide HB9) e3
            have hp := ent_part (unhide HN2 hkn hkm)
            have k0 : (0 : Int) ≤ (k : Int) := Int.natCast_nonneg _
            have k1 : (k : Int) < (n : Int) := by omega
            have k2 : (k : Int) < (nm : Int) := by omega
            clear c0 c1 c2 c3 e0 e1 e2 e3
            generalize (l.getD k Ent.zero).slot = x0 at *
            generalize (l.getD k Ent.zero).src = x1 at *
            generalize (l.getD k Ent.zero).heard = x2 at *
            generalize (l.getD k Ent.zero).value = x3 at *
            generalize (m.getD k Ent.zero).slot = y0 at *
            generalize (m.getD k Ent.zero).src = y1 at *
            generalize (m.getD k Ent.zero).heard = y2 at *
            generalize (m.getD k Ent.zero).value = y3 at *
            rcases hp with p0 | ⟨p0, p1⟩ | ⟨p0, p1, p2⟩ | ⟨p0, p1, p2, p3⟩
            all_goals
              go_wp2
              go_quiet (fail)
              go_wp2_with fail
              refine (unhide HA1 _ (unhide HM _ (unhide HBq _)) (unhide HV _ (unhide HBq _)) (unhide HVm _ (unhide HBq _))).mono ?_
              rintro E wa ⟨rfl, hB⟩
              have HBe := hide ((unhide HBq _).trans (hB.mono (unhide HBq _).size))
              clear hB
              go_wp2_with fail
              refine (unhide HA2 _ (unhide HM _ (unhide HBe)) (unhide HVm _ (unhide HBe)) (unhide HV _ (unhide HBe))).mono ?_
              rintro E wb ⟨rfl, hB⟩
              have HBf := hide ((unhide HBe).trans (hB.mono (unhide HBe).size))
              clear hB
              go_wp2
              go_ret
              exact ⟨rfl, unhide HBf⟩
          · obtain rfl : nm = k := by omega
            have k1 : (nm : Int) < (n : Int) := by omega
            go_wp2_with fail
            refine (unhide HA1 _ (unhide HM _ (unhide HBq _)) (unhide HV _ (unhide HBq _)) (unhide HVm _ (unhide HBq _))).mono ?_
            rintro E wa ⟨rfl, hB⟩
            have HBe := hide ((unhide HBq _).trans (hB.mono (unhide HBq _).size))
            clear hB
            go_wp2_with fail
            refine (unhide HA2 _ (unhide HM _ (unhide HBe)) (unhide HVm _ (unhide HBe)) (unhide HV _ (unhide HBe))).mono ?_
            rintro E wb ⟨rfl, hB⟩
            have HBf := hide ((unhide HBe).trans (hB.mono (unhide HBe).size))
            clear hB
            go_wp2
            go_ret
            exact ⟨rfl, unhide HBf⟩
        · obtain rfl : n = k := by omega
          go_wp2_with fail
          refine (unhide HA1 _ (unhide HM _ (unhide HBq _)) (unhide HV _ (unhide HBq _)) (unhide HVm _ (unhide HBq _))).mono ?_
          rintro E wa ⟨rfl, hB⟩
          have HBe := hide ((unhide HBq _).trans (hB.mono (unhide HBq _).size))
          clear hB
          go_wp2_with fail
          refine (unhide HA2 _ (unhide HM _ (unhide HBe)) (unhide HVm _ (unhide HBe)) (unhide HV _ (unhide HBe))).mono ?_
          rintro E wb ⟨rfl, hB⟩
          have HBf := hide ((unhide HBe).trans (hB.mono (unhide HBe).size))
          clear hB
          go_wp2
          go_ret
          exact ⟨rfl, unhide HBf⟩
theorem dtells_all (a : Nat → Addr) (M : World → Prop) (hS : ∀ w, M w → Sent a w) (P : DelP M (eD a)) (v vm : Value) (l m : List Ent) (h most : Int) (w : World) (hM : M w) (hv : EntsIn w v l) (hm : EntsIn w vm m) :
    Calls Tryd.prog 6 #[v, vm, .int .i64 h, .int .i64 most] w fun r w' => r = .returned (.bool true) ∧ Below w.heap.size w w' := by
  have CM : MissedO M := fun w m => missed_ok M (eD a) P w m
  by_cases h1 : 60 < l.length ∧ l.length ≠ 201
  · exact dtells_far M CM v vm l m h most w hM hv hm (Or.inl h1)
  by_cases h2 : 60 < m.length
  · exact dtells_far M CM v vm l m h most w hM hv hm (Or.inr ⟨by omega, h2⟩)
  exact dtells_near a M hS P CM v vm l m h most w hM hv hm (by omega) (by omega)
end Go.Proofs.YtglhapkclpllfadDoor
