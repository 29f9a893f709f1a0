/-
  The contract of crew.Of: any numbers: the crew of those that are nodes, or an *api.Fault at the first that is none.
-/
import Derived.Test.YtglhapkclpllfaaDoorCrewOfM
namespace Go.Proofs.YtglhapkclpllfaaDoor
open Go.RowKit
/-- What the loop of Of has gathered behind the first m numbers, all nodes; then the end, or one that is none. -/
theorem of_walk (v : Value) (xs : List Int) (m : Nat) (te : TypeId) (pe : Value) (w : World) (hv : IntsIn w v xs) (hl : xs.length ≤ maxLen) (hm : m ≤ xs.length) (hn : ∀ i, i < m → Cm.isNode (xs.getD i 0)) (hbad : m < xs.length → ¬ Cm.isNode (xs.getD m 0))
    (hE : w.cell? ⟨3, 0, none⟩ = some (.iface te pe)) :
    Calls Tryd.prog 17 #[v] w fun e w' => (m = xs.length ∧ e = .returned (.tuple #[.int .i64 (Cm.ofN xs : Nat), .nilIface]) ∧ w' = w) ∨
      (m < xs.length ∧ e = .returned (.tuple #[.int .i64 0, .iface 29 (.pointer (some ⟨w.heap.size, 0, none⟩))]) ∧ w'.cell? ⟨w.heap.size, 0, none⟩ = some (.int .i64 m) ∧ w'.cell? ⟨w.heap.size, 0 + 1, none⟩ = some (.iface te pe) ∧ Below w.heap.size w w') := by
  unfold maxLen at hl
  obtain ⟨ad, cap, rfl, hcells⟩ := hv
  have HV := hide hcells
  have Hn := hide hn
  have Hbad := hide hbad
  obtain ⟨n, hn'⟩ : ∃ n, xs.length = n := ⟨_, rfl⟩
  have Hl : Hid (xs.length = n) := hn'
  rw [hn'] at hm hl ⊢
  clear hn' hcells hn hbad
  go_enter Tryd.func17, Tryd.ntmps17
  go_wp2
  go_loop [4, 10] (fun c i => ∃ k : Nat, k ≤ m ∧ i = .int .i64 k ∧ c = .int .i64 (Cm.ofN (xs.take k) : Nat)) (fun _ i => n - (intOf i).toNat)
  case atStart => exact ⟨0, by omega, rfl, rfl⟩
  case round =>
    obtain ⟨k, hk, rfl, rfl⟩ := hrel
    by_cases hlt : k < n
    · obtain ⟨b, off, rfl, hc⟩ := unhide HV k (by rw [unhide Hl]; exact hlt)
      obtain ⟨x, hx⟩ : ∃ x, xs.getD k 0 = x := ⟨_, rfl⟩
      rw [hx] at hc
      have HX := hide hx
      clear hx
      by_cases hkm : k < m
      · have hnode : Cm.isNode x := by rw [← unhide HX]; exact unhide Hn k hkm
        obtain ⟨y, rfl⟩ : ∃ y : Nat, x = (y : Int) := ⟨x.toNat, by have := hnode.1; omega⟩
        have hcle : Cm.ofN (xs.take k) ≤ 65535 := Cm.ofN_le _ fun z hz => by
          obtain ⟨i, hi, e⟩ := List.mem_iff_getElem.1 hz
          have hi' : i < k := by have := List.length_take_le k xs; omega
          have hi2 : i < xs.length := by rw [unhide Hl]; omega
          have : z = xs.getD i 0 := by rw [List.getD_eq_getElem?_getD, List.getElem?_eq_getElem hi2, ← e]; simp
          rw [this]; exact unhide Hn i (by omega)
        have hy1 := hnode.1
        have hy2 := hnode.2
        have hp := Cm.pow_le _ hnode
        have hor := i64_or_pow (Cm.ofN (xs.take k)) (y - 1) hcle (by simpa using hp)
        have hne := pow_ne (y - 1)
        have HN : Hid (Cm.ofN (xs.take (k + 1)) = Cm.ofN (xs.take k) ||| 2 ^ (y - 1)) := by
          show _ = _
          rw [take_snoc_getD xs k (by rw [unhide Hl]; exact hlt), Cm.ofN_snoc, unhide HX]; simp
        clear hcle hp hnode
        go_wp2_with (go_at_call 41; refine (bit_ok y (by omega) (by omega) _).mono ?_; rintro e w' ⟨rfl, rfl⟩)
        go_round
        case rel => exact ⟨k + 1, by omega, by go_num, by rw [unhide HN]⟩
        case measure => simp [intOf]; omega
      · have hkm' : k = m := by omega
        subst hkm'
        have hnode : ¬ Cm.isNode x := by rw [← unhide HX]; exact unhide Hbad (by rw [unhide Hl]; exact hlt)
        have hx : x < 1 ∨ 16 < x := by unfold Cm.isNode at hnode; omega
        clear hnode
        go_wp2_with (go_at_call 41; refine (bit_bad x hx _).mono ?_; rintro e w' ⟨rfl, rfl⟩)
        go_region
        all_goals (try go_wp2)
        all_goals go_ret2
        all_goals exact Or.inr ⟨hlt, rfl, by simp, by simp, ((Below.refl _ _).alloc (Nat.le_refl _) _).drew⟩
    · have : k = m := by omega
      subst this
      have hnk : k = n := by omega
      subst hnk
      go_wp2
      go_ret2
      exact ⟨ret_pair (by rw [List.take_of_length_le (by rw [unhide Hl]; exact Nat.le_refl _)]), rfl⟩
theorem of_ok (v : Value) (xs : List Int) (te : TypeId) (pe : Value) (w : World) (hv : IntsAt w v xs) (hl : xs.length ≤ maxLen) (hn : ∀ x ∈ xs, Cm.isNode x) (hE : w.cell? ⟨3, 0, none⟩ = some (.iface te pe)) :
    Calls Tryd.prog 17 #[v] w fun e w' => e = .returned (.tuple #[.int .i64 (Cm.ofN xs : Nat), .nilIface]) ∧ w' = w :=
  (of_walk v xs xs.length te pe w hv.in' hl (Nat.le_refl _) (fun i hi => hn _ (getD_mem xs i hi)) (fun h => absurd h (Nat.lt_irrefl _)) hE).mono fun _ _ h => by
    rcases h with h | h
    · exact h.2
    · exact absurd h.1 (Nat.lt_irrefl _)
end Go.Proofs.YtglhapkclpllfaaDoor
