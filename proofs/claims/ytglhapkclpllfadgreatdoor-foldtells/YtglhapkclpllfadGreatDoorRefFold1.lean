/-
  Contracts of the document's answer, chapter 9: LastOf, TotalOf.
-/
import Derived.Test.YtglhapkclpllfadGreatDoorGf
import Derived.Test.YtglhapkclpllfadGreatDoorSameEnts
import Derived.Maps.AppendAt
namespace Go.Proofs.YtglhapkclpllfadGreatDoor
open Go.RowKit

theorem Tryz.infoIntF : (Tryz.prog.info? 3).map (fun i => (i.zero, i.size, i.bytes)) = some (some (.int .i64 0), 1, 8) := by kernel_rfl
set_option maxRecDepth 100000 in
set_option maxHeartbeats 1000000 in
theorem lastOf_ok (v : Value) (l : List Ent) (w : World) (hv : EntsIn w v l) (hl : l.length ≤ 100000) :
    Calls Tryz.prog 11 #[v] w fun e w' => ∃ o, e = .returned o ∧ w'.ownsRow w.heap.size 3 1 o 16 ((lastL 16 l).map (Value.int .i64)) ∧ Below w.heap.size w w' := by
  obtain ⟨ad, cap, rfl, hc0⟩ := EntsIn.far hv
  have HC0 := hide hc0
  clear hv hc0
  obtain ⟨i0, hi, hz0, hz1, hz2⟩ := info_parts Tryz.infoIntF
  obtain ⟨n, hn⟩ : ∃ n, l.length = n := ⟨_, rfl⟩
  rw [hn] at HC0 hl ⊢
  have Hn := hide hn
  clear hn
  go_enter Tryz.func11, Tryz.ntmps11
  go_wp2
  go_loopw [3, 4] (fun v q wr => ∃ k : Nat, k ≤ 16 ∧ q = .int .i64 ((k : Int) + 1) ∧ wr.ownsRow w.heap.size 3 1 v k ((lastL k l).map (Value.int .i64)) ∧ Below w.heap.size w wr) (fun _ q _ => 17 - (intOf q).toNat)
  case atStart => exact ⟨0, by omega, by simp, World.ownsRow_nil _ _ _ _, Below.refl _ _⟩
  case round =>
    obtain ⟨k, hk, rfl, hrow, hB⟩ := hrel
    by_cases hlt : k < 16
    · have hlt' : (k : Int) + 1 ≤ 16 := by omega
      have HRow := hide hrow
      have HB := hide hB
      have HC := hide (unhide HC0 wr hB)
      clear hrow hB
      have HL : ∀ m, m ≤ n → Hid ((∀ i, m ≤ i → i < n → ((l.getD i Ent.zero).heard && (l.getD i Ent.zero).src == (k : Int) + 1) = false) → m = 0 → lastV l ((k : Int) + 1) = 0) := fun m _ hno h0 => lastV_no l _ fun i hi => hno i (by omega) (by rw [← unhide Hn]; exact hi)
      have HA : Hid (∀ m, m < n → ((l.getD m Ent.zero).heard && (l.getD m Ent.zero).src == (k : Int) + 1) = true → (∀ i, m < i → i < n → ((l.getD i Ent.zero).heard && (l.getD i Ent.zero).src == (k : Int) + 1) = false) → lastV l ((k : Int) + 1) = (l.getD m Ent.zero).value) := fun m hm hy hno => lastV_at l _ m (by rw [unhide Hn]; exact hm) hy fun i h1 h2 => hno i h1 (by rw [← unhide Hn]; exact h2)
      have HZ := hide HL
      clear HL
      go_wp2
      go_loopw [5, 6] (fun x i wr' => ∃ m : Nat, m ≤ n ∧ i = .int .i64 ((m : Int) - 1) ∧ x = .int .i64 0 ∧ Hid (∀ i, m ≤ i → i < n → ((l.getD i Ent.zero).heard && (l.getD i Ent.zero).src == (k : Int) + 1) = false) ∧ wr' = wr) (fun _ i _ => ((intOf i) + 1).toNat)
      case atStart => exact ⟨n, by omega, by go_num, rfl, fun i h1 h2 => absurd h2 (by omega), rfl⟩
      case round =>
        obtain ⟨m, hm, rfl, rfl, Hno, rfl⟩ := hrel
        by_cases hm0 : m = 0
        · subst hm0
          have hq : ¬ (0 : Int) ≤ ((0 : Nat) : Int) - 1 := by omega
          have HL : Hid (lastV l ((k : Int) + 1) = 0) := unhide HZ 0 (by omega) (unhide Hno) rfl
          clear Hno
          go_wp2_with (at_builtin; refine wpList_append_own _ rfl _ _ 27 rfl w.heap.size 3 i0 (.int .i64 0) 1 8 Tryz.underlying27 hi hz0 hz1 hz2 rfl (by decide) _ _ _ rfl ((unhide HRow).alloc _) ⟨_, 0, none⟩ 1 1 [.int .i64 0] rfl rfl (cell_one_new _ _ _) (by simp [Value.oneCell']) (by unfold maxLen; omega) (by omega) (by have := (unhide HB).size; simp; omega) ?_; intro v' w1 hown' hgrow _)
          go_roundw
          case rel => exact ⟨k + 1, by omega, by go_num, by rw [lastL_succ, unhide HL]; simpa using hown', below_append (unhide HB) (unhide HRow) hgrow (unhide HB).size⟩
          case measure => simp [intOf]; omega
        · obtain ⟨j, rfl⟩ : ∃ j, m = j + 1 := ⟨m - 1, by omega⟩
          have hj : j < n := by omega
          have ej : ((j + 1 : Nat) : Int) - 1 = (j : Int) := by omega
          rw [ej]
          obtain ⟨b1, o1, rfl, f0, f1, f2, f3⟩ := unhide HC j hj
          have HAj := hide (unhide HA j hj)
          have HNo2 : Hid (((l.getD j Ent.zero).heard && (l.getD j Ent.zero).src == (k : Int) + 1) = false → ∀ i, j ≤ i → i < n → ((l.getD i Ent.zero).heard && (l.getD i Ent.zero).src == (k : Int) + 1) = false) := fun hf i h1 h2 => by
            rcases Nat.lt_or_ge j i with h3 | h3
            · exact unhide Hno i h3 h2
            · have : i = j := by omega
              subst this
              exact hf
          have Hno' := hide (fun i (h1 : j < i) (h2 : i < n) => unhide Hno i h1 h2)
          clear Hno hm0 ej
          generalize l.getD j Ent.zero = x at *
          by_cases hs : x.src = (k : Int) + 1
          · cases hh : x.heard with
            | true =>
              rw [hh] at f2
              have HL : Hid (lastV l ((k : Int) + 1) = x.value) := unhide HAj (by rw [hh, hs]; simp) (unhide Hno')
              clear HAj HNo2 Hno'
              rw [hs] at f1
              go_wp2_with (at_builtin; refine wpList_append_own _ rfl _ _ 27 rfl w.heap.size 3 i0 (.int .i64 0) 1 8 Tryz.underlying27 hi hz0 hz1 hz2 rfl (by decide) _ _ _ rfl ((unhide HRow).alloc _) ⟨_, 0, none⟩ 1 1 [.int .i64 x.value] rfl rfl (cell_one_new _ _ _) (by simp [Value.oneCell']) (by unfold maxLen; omega) (by omega) (by have := (unhide HB).size; simp; omega) ?_; intro v' w1 hown' hgrow _)
              go_roundw
              case rel => exact ⟨k + 1, by omega, by go_num, by rw [lastL_succ, unhide HL]; simpa using hown', below_append (unhide HB) (unhide HRow) hgrow (unhide HB).size⟩
              case measure => simp [intOf]; omega
            | false =>
              rw [hh] at f2
              have HN3 := hide (unhide HNo2 (by rw [hh]; rfl))
              clear HAj HNo2 Hno'
              rw [hs] at f1
              go_wp2
              go_roundw
              case rel => exact ⟨j, by omega, by go_num, rfl, HN3, trivial⟩
              case measure => first | (simp [intOf]; done) | (simp [intOf]; omega)
          · have HN3 := hide (unhide HNo2 (by simp [hs]))
            clear HAj HNo2 Hno'
            go_wp2
            go_roundw
            case rel => exact ⟨j, by omega, by go_num, rfl, HN3, trivial⟩
            case measure => first | (simp [intOf]; done) | (simp [intOf]; omega)
    · have hk16 : k = 16 := by omega
      subst hk16
      have hlt' : ¬ ((16 : Nat) : Int) + 1 ≤ 16 := by omega
      have HB := hide hB
      have HR := hide hrow
      clear hB hrow
      go_wp2
      go_ret
      exact ⟨_, rfl, unhide HR, unhide HB⟩
/-- A row of numbers of the call's own: where its cells lie. -/
theorem row_at {W : World} {base : Nat} {e : TypeId} {o : Value} {xs : List Int} (h : W.ownsRow base e 1 o xs.length (xs.map (Value.int .i64))) (h0 : 0 < xs.length) :
    ∃ g cap, o = .slice (some ⟨g, 0, none⟩) xs.length cap ∧ ∀ k, k < xs.length → W.cell? ⟨g, k, none⟩ = some (.int .i64 (xs.getD k 0)) := by
  have h1 := intsAt_of_owns h
  obtain ⟨_, h⟩ := h
  rcases h with ⟨_, h2⟩ | ⟨g, cap, cur, rfl, _⟩
  · omega
  · rcases h1 with ⟨h1, _⟩ | ⟨g', off, cap', h1, hc⟩
    · cases h1
    · cases h1
      exact ⟨g, cap, rfl, fun k hk => by simpa using hc k hk⟩
theorem last_value {l : List Ent} (h : histOk l) (n : Int) : -1048576 ≤ lastV l n ∧ lastV l n ≤ 1048576 := lastV_bound l n fun e he => by
  obtain ⟨i, hi, rfl⟩ := List.mem_iff_getElem.1 he
  have h2 := (ent_right (h.2 i hi)).2.2.1
  rw [List.getD_eq_getElem?_getD, List.getElem?_eq_getElem hi] at h2
  exact h2
theorem totalOf_ok (v : Value) (l : List Ent) (w : World) (hv : EntsIn w v l) (h : histOk l) :
    Calls Tryz.prog 12 #[v] w fun e w' => e = .returned (.int .i64 (totL l)) ∧ Below w.heap.size w w' := by
  have HL := hide (lastOf_ok v l w hv (by have := h.1; omega))
  obtain ⟨ad, cap, rfl, _⟩ := EntsIn.at hv
  have HS := hide (last_small h)
  have HV := hide (fun i => last_value h i)
  clear hv h
  go_enter Tryz.func12, Tryz.ntmps12
  go_wp2_with fail
  refine (unhide HL).mono ?_
  rintro E w2 ⟨o, rfl, hr, hB⟩
  obtain ⟨g, cap', rfl, hc⟩ := row_at (xs := lastL 16 l) (by rw [lastL_len]; exact hr) (by rw [lastL_len]; omega)
  rw [lastL_len] at hc ⊢
  have HC := hide hc
  have HB := hide hB
  clear hr hB hc
  go_wp2_with fail
  go_loopw [3, 5] (fun s i wr => ∃ k : Nat, k ≤ 16 ∧ i = .int .i64 k ∧ s = .int .i64 (sumL k (lastL 16 l)) ∧ wr = w2) (fun _ i _ => 16 - (intOf i).toNat)
  case atStart => exact ⟨0, by omega, rfl, rfl, rfl⟩
  case round =>
    obtain ⟨k, hk, rfl, rfl, rfl⟩ := hrel
    by_cases hlt : k < 16
    · have hc := unhide HC k hlt
      have s0 := unhide HS k hk
      have s1 := unhide HS (k + 1) (by omega)
      have hs := sumL_succ k (lastL 16 l) (by rw [lastL_len]; exact hlt)
      rw [hs] at s1
      have Hs := hide hs
      clear hs
      generalize (lastL 16 l).getD k 0 = x at *
      generalize sumL k (lastL 16 l) = y at *
      go_wp2
      go_roundw
      case rel => exact ⟨k + 1, by omega, by go_num, by rw [unhide Hs], trivial⟩
      case measure => simp [intOf]; omega
    · have : k = 16 := by omega
      subst this
      go_wp2
      go_ret
      exact ⟨rfl, unhide HB⟩
end Go.Proofs.YtglhapkclpllfadGreatDoor
