/-
  What package clique's calls need of the world: five errors of package api (structure QSent); contracts of checkEntry and Check, whatever the history is.
-/
import Derived.Test.YtglhapkclpllfadGreatDoorProg
import Derived.Test.YtglhapkclpllfadGreatDoorGh
namespace Go.Proofs.YtglhapkclpllfadGreatDoor
open Go.RowKit

/-- Five errors of package api, each something: e 1 is ErrBound, e 2 ErrShape, e 3 ErrNode, e 6 ErrFull, e 9 ErrGap. -/
structure QSent (e : Nat → TypeId × Value) (w : World) : Prop where
  c1 : w.cell? ⟨0, 0, none⟩ = some (.iface (e 1).1 (e 1).2)
  c2 : w.cell? ⟨3, 0, none⟩ = some (.iface (e 2).1 (e 2).2)
  c3 : w.cell? ⟨4, 0, none⟩ = some (.iface (e 3).1 (e 3).2)
  c6 : w.cell? ⟨2, 0, none⟩ = some (.iface (e 6).1 (e 6).2)
  c9 : w.cell? ⟨9, 0, none⟩ = some (.iface (e 9).1 (e 9).2)
theorem QSent.below {e : Nat → TypeId × Value} {w w' : World} (S : QSent e w) (hb : Below w.heap.size w w') : QSent e w' := ⟨below_cell hb S.c1, below_cell hb S.c2, below_cell hb S.c3, below_cell hb S.c6, below_cell hb S.c9⟩
theorem checkE_ok (x : Ent) (i : Nat) (w : World) (h : entErr i x = 0) :
    Calls Tryz.prog 29 #[x.val, .int .i64 i] w fun r w' => r = .returned .nilIface ∧ Below w.heap.size w w' := by
  obtain ⟨s, a, hd, v⟩ := x
  obtain ⟨h1, ⟨h2, h3⟩, ⟨h4, h5⟩, h6⟩ := ent_right h
  simp only at h1 h2 h3 h4 h5 h6
  subst h1
  have HB := hide (show Below w.heap.size w (w.alloc (.cells #[.int .i64 (i : Int), .int .i64 a, .bool hd, .int .i64 v] 48)) from (Below.refl _ _).alloc (Nat.le_refl _) _)
  have q1 : ¬ a < 1 := by omega
  have q2 : ¬ (16 : Int) < a := by omega
  have q3 : ¬ v < -1048576 := by omega
  have q4 : ¬ (1048576 : Int) < v := by omega
  unfold Ent.val
  simp only
  clear h h2 h3 h4 h5
  cases hd with
  | false =>
    obtain rfl := h6 rfl
    clear h6
    go_enter Tryz.func29, Tryz.ntmps29
    go_wp2
    go_ret
    exact ⟨rfl, unhide HB⟩
  | true =>
    clear h6
    go_enter Tryz.func29, Tryz.ntmps29
    go_wp2
    go_ret
    exact ⟨rfl, unhide HB⟩
theorem checkE_no (e : Nat → TypeId × Value) (x : Ent) (i c : Nat) (w : World) (h : entErr i x = c + 1) (S : QSent e w) :
    Calls Tryz.prog 29 #[x.val, .int .i64 i] w fun r w' => r = .returned (.iface (e c).1 (e c).2) ∧ Below w.heap.size w w' := by
  obtain ⟨s, a, hd, v⟩ := x
  have hb : Below w.heap.size w (w.alloc (.cells #[.int .i64 s, .int .i64 a, .bool hd, .int .i64 v] 48)) := (Below.refl _ _).alloc (Nat.le_refl _) _
  have HB := hide hb
  obtain ⟨c1, c2, c3, c6, c9⟩ := S.below hb
  unfold Ent.val
  unfold entErr at h
  simp only at h ⊢
  clear hb S c6
  by_cases h1 : s ≠ (i : Int)
  · rw [if_pos h1] at h
    obtain rfl : c = 9 := by omega
    clear h c1 c2 c3
    go_enter Tryz.func29, Tryz.ntmps29
    go_wp2
    go_ret
    exact ⟨rfl, unhide HB⟩
  rw [if_neg h1] at h
  obtain rfl : s = (i : Int) := Decidable.not_not.1 h1
  clear h1 c9
  by_cases h2 : ¬ (1 ≤ a ∧ a ≤ 16)
  · rw [if_pos h2] at h
    obtain rfl : c = 3 := by omega
    have h2' : a < 1 ∨ (¬ a < 1 ∧ (16 : Int) < a) := by omega
    clear h c1 c2 h2
    rcases h2' with h2 | ⟨h2, h3⟩
    all_goals
      go_enter Tryz.func29, Tryz.ntmps29
      go_wp2
      go_ret
      exact ⟨rfl, unhide HB⟩
  rw [if_neg h2] at h
  have q1 : ¬ a < 1 := by omega
  have q2 : ¬ (16 : Int) < a := by omega
  clear h2 c3
  by_cases h3 : v < -1048576 ∨ 1048576 < v
  · rw [if_pos h3] at h
    obtain rfl : c = 1 := by omega
    have h3' : v < -1048576 ∨ (¬ v < -1048576 ∧ (1048576 : Int) < v) := by omega
    clear h c2 h3
    rcases h3' with h2 | ⟨h2, h3⟩
    all_goals
      go_enter Tryz.func29, Tryz.ntmps29
      go_wp2
      go_ret
      exact ⟨rfl, unhide HB⟩
  rw [if_neg h3] at h
  have q3 : ¬ v < -1048576 := by omega
  have q4 : ¬ (1048576 : Int) < v := by omega
  clear h3 c1
  by_cases h4 : hd = false ∧ v ≠ 0
  · rw [if_pos h4] at h
    obtain rfl : c = 2 := by omega
    obtain ⟨rfl, h5⟩ := h4
    clear h
    go_enter Tryz.func29, Tryz.ntmps29
    go_wp2
    go_ret
    exact ⟨rfl, unhide HB⟩
  · rw [if_neg h4] at h; cases h
theorem check_full (e : Nat → TypeId × Value) (v : Value) (l : List Ent) (w : World) (hv : EntsIn w v l) (h : 200 < l.length) (S : QSent e w) :
    Calls Tryz.prog 21 #[v] w fun r w' => r = .returned (.iface (e 6).1 (e 6).2) ∧ Below w.heap.size w w' := by
  obtain ⟨ad, cap, rfl, _⟩ := EntsIn.at hv
  have c6 := S.c6
  have h' : (200 : Int) < (l.length : Int) := by omega
  clear hv h S
  go_enter Tryz.func21, Tryz.ntmps21
  go_wp2
  go_ret
  exact ⟨rfl, Below.refl _ _⟩
set_option maxRecDepth 100000 in
/-- The history is right up to m, and there it ends, or is not. -/
theorem check_walk (e : Nat → TypeId × Value) (v : Value) (l : List Ent) (m c : Nat) (w : World) (hv : EntsIn w v l) (h200 : l.length ≤ 200) (hm : m ≤ l.length) (hn : ∀ i, i < m → entErr i (l.getD i Ent.zero) = 0) (hc : m < l.length → entErr m (l.getD m Ent.zero) = c + 1) (S : QSent e w) :
    Calls Tryz.prog 21 #[v] w fun r w' => ((∃ pb : Nat, m < l.length ∧ r = .returned (.iface 68 (.pointer (some ⟨pb, 0, none⟩))) ∧ w'.cell? ⟨pb, 0, none⟩ = some (.int .i64 m) ∧ w'.cell? ⟨pb, 0 + 1, none⟩ = some (.iface (e c).1 (e c).2)) ∨ (m = l.length ∧ r = .returned .nilIface)) ∧ Below w.heap.size w w' := by
  obtain ⟨ad, cap, rfl, hcell⟩ := EntsIn.at hv
  have HCell := hide hcell
  have HN := hide hn
  have HC := hide hc
  have HS := hide S
  have h' : ¬ (200 : Int) < (l.length : Int) := by omega
  obtain ⟨n, hln⟩ : ∃ n, l.length = n := ⟨_, rfl⟩
  rw [hln] at HCell HC hm h' ⊢
  have hn200 : n ≤ 200 := by omega
  clear hv hcell hn hc h200 hln S
  go_enter Tryz.func21, Tryz.ntmps21
  go_wp2_with fail
  go_loopw [12] (fun q wr => ∃ k : Nat, k ≤ m ∧ q = .int .i64 (k : Int) ∧ Hid (Below w.heap.size w wr)) (fun q _ => n - (intOf q).toNat)
  case atStart => exact ⟨0, by omega, by simp, Below.refl _ _⟩
  case round =>
    obtain ⟨k, hk, rfl, HB⟩ := hrel
    by_cases hlt : k < n
    · obtain ⟨b, off, rfl, c0, c1, c2, c3⟩ := unhide HCell k hlt
      have d0 := below_cell (unhide HB) c0
      have d1 := below_cell (unhide HB) c1
      have d2 := below_cell (unhide HB) c2
      have d3 := below_cell (unhide HB) c3
      have k0 : (0 : Int) ≤ (k : Int) := Int.natCast_nonneg _
      have k1 : (k : Int) < (n : Int) := by omega
      have lb := Nat.lt_of_lt_of_le (cell_lt c0) (unhide HB).size
      clear c0 c1 c2 c3
      by_cases hkm : k < m
      · have HE : Hid (∀ w', Calls Tryz.prog 29 #[(l.getD k Ent.zero).val, .int .i64 (k : Int)] w' fun r w2 => r = .returned .nilIface ∧ Below w'.heap.size w' w2) := fun w' => checkE_ok _ k w' (unhide HN k hkm)
        unfold Ent.val at HE
        generalize (l.getD k Ent.zero).slot = x0 at *
        generalize (l.getD k Ent.zero).src = x1 at *
        generalize (l.getD k Ent.zero).heard = x2 at *
        generalize (l.getD k Ent.zero).value = x3 at *
        have HA : Hid (Below w.heap.size w (wr.alloc (.cells #[.int .i64 x0, .int .i64 x1, .bool x2, .int .i64 x3] 48))) := (unhide HB).alloc (unhide HB).size _
        go_wp2_with (go_at_call 29; refine (unhide HE _).mono ?_; rintro E w2 ⟨rfl, hB2⟩; have HB2 := hide ((unhide HA).trans (hB2.mono (unhide HA).size)); clear hB2)
        go_roundw
        case rel => exact ⟨k + 1, by omega, by go_num, unhide HB2⟩
        case measure => simp [intOf]; omega
      · obtain rfl : k = m := by omega
        have HE : Hid (∀ w', Below w.heap.size w w' → Calls Tryz.prog 29 #[(l.getD k Ent.zero).val, .int .i64 (k : Int)] w' fun r w2 => r = .returned (.iface (e c).1 (e c).2) ∧ Below w'.heap.size w' w2) := fun w' hB => checkE_no e _ k c w' (unhide HC hlt) ((unhide HS).below hB)
        unfold Ent.val at HE
        generalize (l.getD k Ent.zero).slot = x0 at *
        generalize (l.getD k Ent.zero).src = x1 at *
        generalize (l.getD k Ent.zero).heard = x2 at *
        generalize (l.getD k Ent.zero).value = x3 at *
        have HA : Hid (Below w.heap.size w (wr.alloc (.cells #[.int .i64 x0, .int .i64 x1, .bool x2, .int .i64 x3] 48))) := (unhide HB).alloc (unhide HB).size _
        go_wp2_with (go_at_call 29; refine (unhide HE _ (unhide HA)).mono ?_; rintro E w2 ⟨rfl, hB2⟩; have HB2 := hide ((unhide HA).trans (hB2.mono (unhide HA).size)); clear hB2)
        go_ret
        exact ⟨Or.inl ⟨w2.heap.size, hlt, rfl, by simp, by simp⟩, (unhide HB2).alloc (unhide HB2).size _⟩
    · obtain rfl : k = n := by omega
      obtain rfl : m = k := by omega
      go_wp2
      go_ret
      exact ⟨rfl, unhide HB⟩
theorem check_yes (e : Nat → TypeId × Value) (v : Value) (l : List Ent) (w : World) (hv : EntsIn w v l) (h : histOk l) (S : QSent e w) :
    Calls Tryz.prog 21 #[v] w fun r w' => r = .returned .nilIface ∧ Below w.heap.size w w' :=
  (check_walk e v l l.length 0 w hv h.1 (Nat.le_refl _) h.2 (fun h => absurd h (Nat.lt_irrefl _)) S).mono (by
    rintro r w' ⟨⟨_, h, _⟩ | ⟨_, rfl⟩, hB⟩
    · exact absurd h (Nat.lt_irrefl _)
    · exact ⟨rfl, hB⟩)
theorem check_no (e : Nat → TypeId × Value) (v : Value) (l : List Ent) (w : World) (hv : EntsIn w v l) (h : ¬ histOk l) (S : QSent e w) :
    Calls Tryz.prog 21 #[v] w fun r w' => ∃ ty p, r = .returned (.iface ty p) ∧ HistErr e w' l ty p ∧ Below w.heap.size w w' := by
  by_cases h200 : 200 < l.length
  · exact (check_full e v l w hv h200 S).mono (by
      rintro r w' ⟨rfl, hB⟩
      exact ⟨_, _, rfl, Or.inl ⟨h200, rfl, rfl⟩, hB⟩)
  obtain ⟨m, a1, a2, a3⟩ := first_ent l l.length (Nat.le_refl _)
  by_cases hm : m < l.length
  · obtain ⟨c, hc⟩ : ∃ c, entErr m (l.getD m Ent.zero) = c + 1 := ⟨entErr m (l.getD m Ent.zero) - 1, by have := a3 hm; omega⟩
    refine (check_walk e v l m c w hv (by omega) (by omega) a2 (fun _ => hc) S).mono ?_
    rintro r w' ⟨⟨pb, _, rfl, c0, c1⟩ | ⟨h, _⟩, hB⟩
    · exact ⟨_, _, rfl, Or.inr ⟨m, c, pb, by omega, hm, a2, hc, rfl, rfl, c0, c1⟩, hB⟩
    · omega
  · exact absurd ⟨by omega, fun i hi => a2 i (by omega)⟩ h
end Go.Proofs.YtglhapkclpllfadGreatDoor
