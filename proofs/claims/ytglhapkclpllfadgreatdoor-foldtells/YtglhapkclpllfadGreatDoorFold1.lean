/-
  What package fold's calls need of the world (structure FoSent); contracts of lastValues, Last and Total, whatever the history is.
-/
import Derived.Test.YtglhapkclpllfadGreatDoorCheckC
import Derived.Test.YtglhapkclpllfadGreatDoorFoldProg
import Derived.Test.YtglhapkclpllfadGreatDoorCrewAtoi
import Derived.Deep.MidRow
import Derived.Deep.WholeRow
namespace Go.Proofs.YtglhapkclpllfadGreatDoor
open Go.RowKit Go.Shelf

/-- What package fold's calls need: the library's variables as they are laid, six errors of package api, each something: e 0 is ErrText. -/
structure FoSent (e : Nat → TypeId × Value) (w : World) : Prop where
  q : QSent e w
  c0 : w.cell? ⟨1, 0, none⟩ = some (.iface (e 0).1 (e 0).2)
  lib : LibOk w
  max : ∃ m, w.cell? ⟨12, 0, none⟩ = some (.int .i64 m)
theorem FoSent.below {e : Nat → TypeId × Value} {w w' : World} (S : FoSent e w) (hb : Below w.heap.size w w') : FoSent e w' := ⟨S.q.below hb, below_cell hb S.c0, S.lib.below hb, by obtain ⟨m, h⟩ := S.max; exact ⟨m, below_cell hb h⟩⟩
def zeros16 : Array Value := #[.int .i64 0, .int .i64 0, .int .i64 0, .int .i64 0, .int .i64 0, .int .i64 0, .int .i64 0, .int .i64 0, .int .i64 0, .int .i64 0, .int .i64 0, .int .i64 0, .int .i64 0, .int .i64 0, .int .i64 0, .int .i64 0]
theorem zeros_row (w : World) (t : TypeId) : OwnRow (w.alloc (.cells zeros16 t)) w.heap.size 0 (lastL 16 []) := fun k hk => by
  have h16 : k < 16 := by rw [lastL_len] at hk; exact hk
  have e1 : (lastL 16 []).getD k 0 = 0 := by
    have h1 := lastL_at 16 k [] h16
    rw [h1]
    rfl
  have e2 : zeros16[k]? = some (.int .i64 0) := by
    have h2 : zeros16 = Array.replicate 16 (.int .i64 0) := rfl
    rw [h2, Array.getElem?_replicate, if_pos h16]
  rw [e1]
  have h3 := heap_alloc_new w (.cells zeros16 t)
  refine ⟨?_, ?_⟩
  · simp only [World.cell?, h3, Nat.zero_add]
    exact e2
  · simp only [World.frozen?, h3]
    rfl

/-- Sixteen numbers as an array's value. -/
def rowV (xs : List Int) : Value := .agg (xs.map (Value.int .i64)).toArray
/-- Sixteen cells of a row, and that none is frozen. -/
theorem OwnRow.cells {w : World} {g : Nat} {x0 x1 x2 x3 x4 x5 x6 x7 x8 x9 x10 x11 x12 x13 x14 x15 : Int} (h : OwnRow w g 0 [x0, x1, x2, x3, x4, x5, x6, x7, x8, x9, x10, x11, x12, x13, x14, x15]) :
    w.cell? ⟨g, 0, none⟩ = some (.int .i64 x0) ∧ w.cell? ⟨g, 1, none⟩ = some (.int .i64 x1) ∧ w.cell? ⟨g, 2, none⟩ = some (.int .i64 x2) ∧ w.cell? ⟨g, 3, none⟩ = some (.int .i64 x3) ∧ w.cell? ⟨g, 4, none⟩ = some (.int .i64 x4) ∧ w.cell? ⟨g, 5, none⟩ = some (.int .i64 x5) ∧ w.cell? ⟨g, 6, none⟩ = some (.int .i64 x6) ∧ w.cell? ⟨g, 7, none⟩ = some (.int .i64 x7) ∧ w.cell? ⟨g, 8, none⟩ = some (.int .i64 x8) ∧ w.cell? ⟨g, 9, none⟩ = some (.int .i64 x9) ∧ w.cell? ⟨g, 10, none⟩ = some (.int .i64 x10) ∧ w.cell? ⟨g, 11, none⟩ = some (.int .i64 x11) ∧ w.cell? ⟨g, 12, none⟩ = some (.int .i64 x12) ∧ w.cell? ⟨g, 13, none⟩ = some (.int .i64 x13) ∧ w.cell? ⟨g, 14, none⟩ = some (.int .i64 x14) ∧ w.cell? ⟨g, 15, none⟩ = some (.int .i64 x15) :=
  ⟨by simpa using (h 0 (by simp)).1, by simpa using (h 1 (by simp)).1, by simpa using (h 2 (by simp)).1, by simpa using (h 3 (by simp)).1, by simpa using (h 4 (by simp)).1, by simpa using (h 5 (by simp)).1, by simpa using (h 6 (by simp)).1, by simpa using (h 7 (by simp)).1, by simpa using (h 8 (by simp)).1, by simpa using (h 9 (by simp)).1, by simpa using (h 10 (by simp)).1, by simpa using (h 11 (by simp)).1, by simpa using (h 12 (by simp)).1, by simpa using (h 13 (by simp)).1, by simpa using (h 14 (by simp)).1, by simpa using (h 15 (by simp)).1⟩
theorem OwnRow.warm {w : World} {g : Nat} {x0 x1 x2 x3 x4 x5 x6 x7 x8 x9 x10 x11 x12 x13 x14 x15 : Int} (h : OwnRow w g 0 [x0, x1, x2, x3, x4, x5, x6, x7, x8, x9, x10, x11, x12, x13, x14, x15]) :
    w.frozen? ⟨g, 0, none⟩ = false ∧ w.frozen? ⟨g, 1, none⟩ = false ∧ w.frozen? ⟨g, 2, none⟩ = false ∧ w.frozen? ⟨g, 3, none⟩ = false ∧ w.frozen? ⟨g, 4, none⟩ = false ∧ w.frozen? ⟨g, 5, none⟩ = false ∧ w.frozen? ⟨g, 6, none⟩ = false ∧ w.frozen? ⟨g, 7, none⟩ = false ∧ w.frozen? ⟨g, 8, none⟩ = false ∧ w.frozen? ⟨g, 9, none⟩ = false ∧ w.frozen? ⟨g, 10, none⟩ = false ∧ w.frozen? ⟨g, 11, none⟩ = false ∧ w.frozen? ⟨g, 12, none⟩ = false ∧ w.frozen? ⟨g, 13, none⟩ = false ∧ w.frozen? ⟨g, 14, none⟩ = false ∧ w.frozen? ⟨g, 15, none⟩ = false :=
  ⟨by simpa using (h 0 (by simp)).2, by simpa using (h 1 (by simp)).2, by simpa using (h 2 (by simp)).2, by simpa using (h 3 (by simp)).2, by simpa using (h 4 (by simp)).2, by simpa using (h 5 (by simp)).2, by simpa using (h 6 (by simp)).2, by simpa using (h 7 (by simp)).2, by simpa using (h 8 (by simp)).2, by simpa using (h 9 (by simp)).2, by simpa using (h 10 (by simp)).2, by simpa using (h 11 (by simp)).2, by simpa using (h 12 (by simp)).2, by simpa using (h 13 (by simp)).2, by simpa using (h 14 (by simp)).2, by simpa using (h 15 (by simp)).2⟩
theorem sixteen {xs : List Int} (h : xs.length = 16) : ∃ x0 x1 x2 x3 x4 x5 x6 x7 x8 x9 x10 x11 x12 x13 x14 x15 : Int, xs = [x0, x1, x2, x3, x4, x5, x6, x7, x8, x9, x10, x11, x12, x13, x14, x15] := by
  match xs, h with
  | [x0, x1, x2, x3, x4, x5, x6, x7, x8, x9, x10, x11, x12, x13, x14, x15], _ => exact ⟨x0, x1, x2, x3, x4, x5, x6, x7, x8, x9, x10, x11, x12, x13, x14, x15, rfl⟩
theorem zeros_last : lastL 16 [] = [0, 0, 0, 0, 0, 0, 0, 0, 0, 0, 0, 0, 0, 0, 0, 0] := rfl
theorem OwnRow.other {w : World} {g g' i : Nat} {xs : List Int} (h : OwnRow w g 0 xs) (hne : g ≠ g') (u : Value) : OwnRow (w.setCell ⟨g', i, none⟩ u) g 0 xs := fun k hk => by
  obtain ⟨h1, h2⟩ := h k hk
  exact ⟨by rw [World.cell?_setCell_other _ _ _ _ (fun e => hne (by injection e with e1; exact e1.symm))]; exact h1, by simpa using h2⟩
/-- Behind the writing of sixteen cells of the call's own. -/
theorem below_16 {w w2 : World} {g : Nat} (hB : Below w.heap.size w w2) (hg : w.heap.size ≤ g) (v0 v1 v2 v3 v4 v5 v6 v7 v8 v9 v10 v11 v12 v13 v14 v15 : Value) : Below w.heap.size w ((((((((((((((((w2.setCell ⟨g, 0, none⟩ v0).setCell ⟨g, 1, none⟩ v1).setCell ⟨g, 2, none⟩ v2).setCell ⟨g, 3, none⟩ v3).setCell ⟨g, 4, none⟩ v4).setCell ⟨g, 5, none⟩ v5).setCell ⟨g, 6, none⟩ v6).setCell ⟨g, 7, none⟩ v7).setCell ⟨g, 8, none⟩ v8).setCell ⟨g, 9, none⟩ v9).setCell ⟨g, 10, none⟩ v10).setCell ⟨g, 11, none⟩ v11).setCell ⟨g, 12, none⟩ v12).setCell ⟨g, 13, none⟩ v13).setCell ⟨g, 14, none⟩ v14).setCell ⟨g, 15, none⟩ v15) :=
  (((((((((((((((hB.setCell (p := ⟨g, 0, none⟩) hg _).setCell (p := ⟨g, 1, none⟩) hg _).setCell (p := ⟨g, 2, none⟩) hg _).setCell (p := ⟨g, 3, none⟩) hg _).setCell (p := ⟨g, 4, none⟩) hg _).setCell (p := ⟨g, 5, none⟩) hg _).setCell (p := ⟨g, 6, none⟩) hg _).setCell (p := ⟨g, 7, none⟩) hg _).setCell (p := ⟨g, 8, none⟩) hg _).setCell (p := ⟨g, 9, none⟩) hg _).setCell (p := ⟨g, 10, none⟩) hg _).setCell (p := ⟨g, 11, none⟩) hg _).setCell (p := ⟨g, 12, none⟩) hg _).setCell (p := ⟨g, 13, none⟩) hg _).setCell (p := ⟨g, 14, none⟩) hg _).setCell (p := ⟨g, 15, none⟩) hg _
/-- The history's error, behind the writing of sixteen numbers elsewhere. -/
theorem HistErr.far {e : Nat → TypeId × Value} {w : World} {l : List Ent} {t : TypeId} {p : Value} (h : HistErr e w l t p) {g : Nat} {x : Int} (hg : w.cell? ⟨g, 1, none⟩ = some (.int .i64 x)) (v0 v1 v2 v3 v4 v5 v6 v7 v8 v9 v10 v11 v12 v13 v14 v15 : Value) : HistErr e ((((((((((((((((w.setCell ⟨g, 0, none⟩ v0).setCell ⟨g, 1, none⟩ v1).setCell ⟨g, 2, none⟩ v2).setCell ⟨g, 3, none⟩ v3).setCell ⟨g, 4, none⟩ v4).setCell ⟨g, 5, none⟩ v5).setCell ⟨g, 6, none⟩ v6).setCell ⟨g, 7, none⟩ v7).setCell ⟨g, 8, none⟩ v8).setCell ⟨g, 9, none⟩ v9).setCell ⟨g, 10, none⟩ v10).setCell ⟨g, 11, none⟩ v11).setCell ⟨g, 12, none⟩ v12).setCell ⟨g, 13, none⟩ v13).setCell ⟨g, 14, none⟩ v14).setCell ⟨g, 15, none⟩ v15) l t p := by
  rcases h with h | ⟨m, c, pb, h1, h2, h3, h4, h5, h6, h7, h8⟩
  · exact Or.inl h
  · have hne : pb ≠ g := fun e => by
      rw [e, Nat.zero_add, hg] at h8
      cases h8
    have key : ∀ (i : Nat) (a : Addr) (W : World) (v : Value), a.block = pb → (W.setCell ⟨g, i, none⟩ v).cell? a = W.cell? a := fun i a W v ha => World.cell?_setCell_other _ _ _ _ (fun e => hne (by rw [← ha, ← e]))
    refine Or.inr ⟨m, c, pb, h1, h2, h3, h4, h5, h6, ?_, ?_⟩
    · iterate 16 rw [key _ _ _ _ rfl]
      exact h7
    · iterate 16 rw [key _ _ _ _ rfl]
      exact h8
set_option maxRecDepth 100000 in
set_option maxHeartbeats 4000000 in
theorem lastVs_no (e : Nat → TypeId × Value) (v : Value) (l : List Ent) (w : World) (hv : EntsIn w v l) (h : ¬ histOk l) (S : FoSent e w) :
    Calls Tryz.prog 20 #[v] w fun r w' => ∃ ty p, r = .returned (.tuple #[rowV (lastL 16 []), .iface ty p]) ∧ HistErr e w' l ty p ∧ Below w.heap.size w w' := by
  have hA : Below w.heap.size w (w.alloc (.cells zeros16 52)) := (Below.refl _ _).alloc (Nat.le_refl _) _
  have hB : Below w.heap.size w ((w.alloc (.cells zeros16 52)).alloc (.cells zeros16 52)) := hA.alloc (by simp) _
  have HC := hide (check_no e v l _ (hv.below hB) h (S.below hB).q)
  have HZ0 := hide ((zeros_row w 52).below ((Below.refl _ _).alloc (Nat.le_refl _) (.cells zeros16 52)))
  have HZ1 := hide (zeros_row (w.alloc (.cells zeros16 52)) 52)
  rw [zeros_last] at HZ0 HZ1 ⊢
  have HB := hide hB
  obtain ⟨ad, cap, rfl, _⟩ := EntsIn.at hv
  unfold zeros16 at HC HZ0 HZ1 HB
  clear hv h S hA hB
  go_enter Tryz.func20, Tryz.ntmps20
  go_wp2_with fail
  refine (unhide HC).mono ?_
  rintro E w2 ⟨ty, p, rfl, hE, hB2⟩
  have HE := hide hE
  have HB2 := hide ((unhide HB).trans (hB2.mono (unhide HB).size))
  obtain ⟨c0, c1, c2, c3, c4, c5, c6, c7, c8, c9, c10, c11, c12, c13, c14, c15⟩ := ((unhide HZ1).below hB2).cells
  obtain ⟨d0, d1, d2, d3, d4, d5, d6, d7, d8, d9, d10, d11, d12, d13, d14, d15⟩ := ((unhide HZ0).below hB2).cells
  obtain ⟨f0, f1, f2, f3, f4, f5, f6, f7, f8, f9, f10, f11, f12, f13, f14, f15⟩ := ((unhide HZ0).below hB2).warm
  simp only [World.size_alloc] at c0 c1 c2 c3 c4 c5 c6 c7 c8 c9 c10 c11 c12 c13 c14 c15
  clear hE hB2 HC HB HZ0 HZ1
  go_wp2_with fail
  exact bodyPost_ret (v := .tuple #[rowV [0, 0, 0, 0, 0, 0, 0, 0, 0, 0, 0, 0, 0, 0, 0, 0], .iface ty p]) (by simp [results, Tryz.results20, go_sem, rowV, *]) rfl ⟨_, _, rfl, (unhide HE).far d1 _ _ _ _ _ _ _ _ _ _ _ _ _ _ _ _ , below_16 (unhide HB2) (Nat.le_refl _) _ _ _ _ _ _ _ _ _ _ _ _ _ _ _ _ ⟩
set_option maxRecDepth 100000 in
set_option maxHeartbeats 4000000 in
theorem lastVs_ok (e : Nat → TypeId × Value) (v : Value) (l : List Ent) (w : World) (hv : EntsIn w v l) (h : histOk l) (S : FoSent e w) :
    Calls Tryz.prog 20 #[v] w fun r w' => r = .returned (.tuple #[rowV (lastL 16 l), .nilIface]) ∧ Below w.heap.size w w' := by
  have hA : Below w.heap.size w (w.alloc (.cells zeros16 52)) := (Below.refl _ _).alloc (Nat.le_refl _) _
  have hAB : Below w.heap.size w ((w.alloc (.cells zeros16 52)).alloc (.cells zeros16 52)) := hA.alloc (by simp) _
  have HC := hide (check_yes e v l _ (hv.below hAB) h (S.below hAB).q)
  have HZ0 := hide ((zeros_row w 52).below ((Below.refl _ _).alloc (Nat.le_refl _) (.cells zeros16 52)))
  have HZ1 := hide (zeros_row (w.alloc (.cells zeros16 52)) 52)
  have HB := hide hAB
  obtain ⟨ad, cap, rfl, hcell⟩ := EntsIn.at hv
  have HCell := hide hcell
  have HOk := hide h.2
  have h200 := h.1
  obtain ⟨n, hn⟩ : ∃ n, l.length = n := ⟨_, rfl⟩
  have Hn := hide hn
  rw [hn] at HC HCell HOk h200 ⊢
  unfold zeros16 at HC HZ0 HZ1 HB
  rw [World.size_alloc] at HZ1
  clear hv h S hcell hn hA hAB
  go_enter Tryz.func20, Tryz.ntmps20
  go_wp2_with fail
  refine (unhide HC).mono ?_
  rintro E w2 ⟨rfl, hB2⟩
  have HB2 := hide ((unhide HB).trans (hB2.mono (unhide HB).size))
  have HY0 := hide ((unhide HZ0).below hB2)
  have HY1 := hide ((unhide HZ1).below hB2)
  clear hB2 HC HB HZ0 HZ1
  go_wp2_with fail
  go_loopw [16] (fun q wr => ∃ k : Nat, k ≤ n ∧ q = .int .i64 (k : Int) ∧ Hid (OwnRow wr (w.heap.size + 1) 0 (lastL 16 (l.take k))) ∧ Hid (OwnRow wr w.heap.size 0 (lastL 16 [])) ∧ Hid (Below w.heap.size w wr)) (fun q _ => n - (intOf q).toNat)
  case atStart => exact ⟨0, by omega, rfl, unhide HY1, unhide HY0, unhide HB2⟩
  case round =>
    obtain ⟨k, hk, rfl, HO, HR, HB⟩ := hrel
    by_cases hlt : k < n
    · obtain ⟨b, off, rfl, c0, c1, c2, c3⟩ := unhide HCell k hlt
      have d0 := below_cell (unhide HB) c0
      have d1 := below_cell (unhide HB) c1
      have d2 := below_cell (unhide HB) c2
      have d3 := below_cell (unhide HB) c3
      have k0 : (0 : Int) ≤ (k : Int) := Int.natCast_nonneg _
      have k1 : (k : Int) < (n : Int) := by omega
      have lb := Nat.lt_of_lt_of_le (cell_lt c0) (unhide HB).size
      have g1 := (ent_right (unhide HOk k hlt)).2.1.1
      have g2 := (ent_right (unhide HOk k hlt)).2.1.2
      obtain ⟨q, hq⟩ : ∃ q : Nat, (l.getD k Ent.zero).src = (q : Int) + 1 := ⟨((l.getD k Ent.zero).src - 1).toNat, by omega⟩
      have hq16 : q < 16 := by omega
      have HStay : Hid ((l.getD k Ent.zero).heard = false → lastL 16 (l.take (k + 1)) = lastL 16 (l.take k)) := lastL_stay l k (by rw [unhide Hn]; exact hlt)
      have HNext : Hid ((l.getD k Ent.zero).heard = true → lastL 16 (l.take (k + 1)) = (lastL 16 (l.take k)).set q (l.getD k Ent.zero).value) := fun hh => lastL_next l k q (by rw [unhide Hn]; exact hlt) hh hq
      rw [hq] at d1
      clear c0 c1 c2 c3 g1 g2
      generalize (l.getD k Ent.zero).slot = x0 at *
      generalize (l.getD k Ent.zero).heard = x2 at *
      generalize (l.getD k Ent.zero).value = x3 at *
      have hba : Below wr.heap.size wr (wr.alloc (.cells #[.int .i64 x0, .int .i64 ((q : Int) + 1), .bool x2, .int .i64 x3] 48)) := (Below.refl _ _).alloc (Nat.le_refl _) _
      have HA : Hid (Below w.heap.size w (wr.alloc (.cells #[.int .i64 x0, .int .i64 ((q : Int) + 1), .bool x2, .int .i64 x3] 48))) := (unhide HB).trans (hba.mono (unhide HB).size)
      have HO2 := hide ((unhide HO).below hba)
      have HR2 := hide ((unhide HR).below hba)
      have hgl : w.heap.size + 1 < wr.heap.size := by
        have := (unhide HO) 0 (by rw [lastL_len]; omega)
        exact cell_lt this.1
      clear hba hq
      cases x2 with
      | false =>
        have hst := unhide HStay rfl
        go_wp2
        go_roundw
        case rel => exact ⟨k + 1, by omega, by go_num, by show OwnRow _ _ _ _; rw [hst]; exact unhide HO2, unhide HR2, unhide HA⟩
        case measure => simp [intOf]; omega
      | true =>
        have hst := hide (unhide HNext rfl)
        obtain ⟨t1, t2⟩ := (unhide HO2) q (by rw [lastL_len]; exact hq16)
        rw [Nat.zero_add] at t1 t2
        have hp := (unhide HO).put q (by rw [lastL_len]; exact hq16) x3
        rw [Nat.zero_add] at hp
        have HR3 := hide (((unhide HR).other (g' := w.heap.size + 1) (i := q) (by omega) (.int .i64 x3)).below ((Below.refl _ _).alloc (Nat.le_refl _) (.cells #[.int .i64 x0, .int .i64 ((q : Int) + 1), .bool true, .int .i64 x3] 48)))
        have HP := hide (hp.below ((Below.refl _ _).alloc (Nat.le_refl _) (.cells #[.int .i64 x0, .int .i64 ((q : Int) + 1), .bool true, .int .i64 x3] 48)))
        have HB4 := hide (((unhide HB).setCell (p := ⟨w.heap.size + 1, q, none⟩) (by show w.heap.size ≤ w.heap.size + 1; omega) (.int .i64 x3)).alloc (by have := (unhide HB).size; simp; omega) (.cells #[.int .i64 x0, .int .i64 ((q : Int) + 1), .bool true, .int .i64 x3] 48))
        clear hp
        have hne : ¬ wr.heap.size = w.heap.size + 1 := by omega
        have q0 : (0 : Int) ≤ (q : Int) := Int.natCast_nonneg _
        have q1 : (q : Int) < 16 := by omega
        go_wp2
        go_roundw
        case rel => exact ⟨k + 1, by omega, by go_num, by show OwnRow _ _ _ _; rw [unhide hst]; exact unhide HP, unhide HR3, unhide HB4⟩
        case measure => simp [intOf]; omega
    · obtain rfl : k = n := by omega
      have hO := unhide HO
      have hR := unhide HR
      rw [List.take_of_length_le (by rw [unhide Hn]; exact Nat.le_refl _)] at hO
      rw [zeros_last] at hR
      obtain ⟨x0, x1, x2, x3, x4, x5, x6, x7, x8, x9, x10, x11, x12, x13, x14, x15, hx⟩ := sixteen (lastL_len 16 l)
      rw [hx] at hO
      have HX := hide hx
      obtain ⟨c0, c1, c2, c3, c4, c5, c6, c7, c8, c9, c10, c11, c12, c13, c14, c15⟩ := hO.cells
      obtain ⟨d0, d1, d2, d3, d4, d5, d6, d7, d8, d9, d10, d11, d12, d13, d14, d15⟩ := hR.cells
      obtain ⟨f0, f1, f2, f3, f4, f5, f6, f7, f8, f9, f10, f11, f12, f13, f14, f15⟩ := hR.warm
      clear hO hR HO HR hx HCell HOk
      go_wp2_with fail
      exact bodyPost_ret (v := .tuple #[rowV [x0, x1, x2, x3, x4, x5, x6, x7, x8, x9, x10, x11, x12, x13, x14, x15], .nilIface]) (by simp [results, Tryz.results20, go_sem, rowV, *]) rfl ⟨by rw [unhide HX], below_16 (unhide HB) (Nat.le_refl _) _ _ _ _ _ _ _ _ _ _ _ _ _ _ _ _ ⟩
theorem HistErr.old {e : Nat → TypeId × Value} {w w' : World} {l : List Ent} {t : TypeId} {p : Value} (h : HistErr e w l t p) (hB : Below w.heap.size w w') : HistErr e w' l t p := by
  rcases h with h | ⟨m, c, pb, h1, h2, h3, h4, h5, h6, h7, h8⟩
  · exact Or.inl h
  · exact Or.inr ⟨m, c, pb, h1, h2, h3, h4, h5, h6, below_cell hB h7, below_cell hB h8⟩
theorem run_idx (t : TypeId) (n : Nat) (e : TypeId) (cs : Array Value) (j : Nat) (x : Int) (h : Tryz.prog.underlying t = some (.array n e)) (hz : ∀ w, (sizeOf e).run Tryz.prog w = .ok 1 w) (ha : ∀ w, (isAgg e).run Tryz.prog w = .ok false w) (hj : j < n) (hc : cs[j]? = some (.int .i64 x)) (w : World) :
    (Instr.index t (.agg cs) (.int .i64 (j : Int))).run Tryz.prog w = .ok (.int .i64 x) w := by
  have h0 : (0 : Int) ≤ (j : Int) ∧ (j : Int) < (n : Int) := ⟨Int.natCast_nonneg _, by omega⟩
  simp [Instr.index, run_underlying h, asIntOf, h0, hc, hj, go_sem, hz, ha, Result.andThen]
theorem row_any (w : World) (t : TypeId) (xs : List Int) : OwnRow (w.alloc (.cells (xs.map (Value.int .i64)).toArray t)) w.heap.size 0 xs := fun k hk => by
  have h3 := heap_alloc_new w (.cells (xs.map (Value.int .i64)).toArray t)
  refine ⟨?_, by simp only [World.frozen?, h3]; rfl⟩
  simp only [World.cell?, h3, Nat.zero_add]
  rw [List.getElem?_toArray, List.getElem?_map, List.getElem?_eq_getElem hk, List.getD_eq_getElem?_getD, List.getElem?_eq_getElem hk]
  rfl
theorem row_new (w : World) (t : TypeId) (x0 x1 x2 x3 x4 x5 x6 x7 x8 x9 x10 x11 x12 x13 x14 x15 : Int) : OwnRow (w.alloc (.cells #[.int .i64 x0, .int .i64 x1, .int .i64 x2, .int .i64 x3, .int .i64 x4, .int .i64 x5, .int .i64 x6, .int .i64 x7, .int .i64 x8, .int .i64 x9, .int .i64 x10, .int .i64 x11, .int .i64 x12, .int .i64 x13, .int .i64 x14, .int .i64 x15] t)) w.heap.size 0 [x0, x1, x2, x3, x4, x5, x6, x7, x8, x9, x10, x11, x12, x13, x14, x15] := row_any w t [x0, x1, x2, x3, x4, x5, x6, x7, x8, x9, x10, x11, x12, x13, x14, x15]
set_option maxRecDepth 100000 in
theorem last_no (e : Nat → TypeId × Value) (v : Value) (l : List Ent) (w : World) (hv : EntsIn w v l) (h : ¬ histOk l) (S : FoSent e w) :
    Calls Tryz.prog 6 #[v] w fun r w' => ∃ ad cap ty p, r = .returned (.tuple #[.slice ad 0 cap, .iface ty p]) ∧ HistErr e w' l ty p ∧ Below w.heap.size w w' := by
  have HC := hide (lastVs_no e v l w hv h S)
  obtain ⟨ad, cap, rfl, _⟩ := EntsIn.at hv
  rw [zeros_last] at HC
  unfold rowV at HC
  simp only [List.map_cons, List.map_nil] at HC
  clear hv h S
  go_enter Tryz.func6, Tryz.ntmps6
  go_wp2_with fail
  refine (unhide HC).mono ?_
  rintro E w2 ⟨ty, p, rfl, hE, hB⟩
  have HE := hide (hE.old ((Below.refl _ _).alloc (Nat.le_refl _) (.cells zeros16 52)))
  have HB := hide (hB.alloc hB.size (.cells zeros16 52))
  unfold zeros16 at HE HB
  clear hE hB
  go_wp2_with fail
  go_ret2
  exact ⟨_, _, _, _, rfl, unhide HE, unhide HB⟩
set_option maxRecDepth 100000 in
theorem last_ok (e : Nat → TypeId × Value) (v : Value) (l : List Ent) (w : World) (hv : EntsIn w v l) (h : histOk l) (S : FoSent e w) :
    Calls Tryz.prog 6 #[v] w fun r w' => ∃ g off cap, r = .returned (.tuple #[.slice (some ⟨g, off, none⟩) 16 cap, .nilIface]) ∧ w.heap.size ≤ g ∧ OwnRow w' g off (lastL 16 l) ∧ Below w.heap.size w w' := by
  have HC := hide (lastVs_ok e v l w hv h S)
  obtain ⟨ad, cap, rfl, _⟩ := EntsIn.at hv
  obtain ⟨x0, x1, x2, x3, x4, x5, x6, x7, x8, x9, x10, x11, x12, x13, x14, x15, hx⟩ := sixteen (lastL_len 16 l)
  rw [hx] at HC ⊢
  unfold rowV at HC
  simp only [List.map_cons, List.map_nil] at HC
  clear hv h S hx
  go_enter Tryz.func6, Tryz.ntmps6
  go_wp2_with fail
  refine (unhide HC).mono ?_
  rintro E w2 ⟨rfl, hB⟩
  have hs := hB.size
  have HR := hide (row_new w2 52 x0 x1 x2 x3 x4 x5 x6 x7 x8 x9 x10 x11 x12 x13 x14 x15)
  have HB := hide (hB.alloc hB.size (.cells #[.int .i64 x0, .int .i64 x1, .int .i64 x2, .int .i64 x3, .int .i64 x4, .int .i64 x5, .int .i64 x6, .int .i64 x7, .int .i64 x8, .int .i64 x9, .int .i64 x10, .int .i64 x11, .int .i64 x12, .int .i64 x13, .int .i64 x14, .int .i64 x15] 52))
  clear hB
  go_wp2_with fail
  go_ret2
  exact ⟨w2.heap.size, 0, _, rfl, hs, unhide HR, unhide HB⟩
set_option maxRecDepth 100000 in
theorem total_no (e : Nat → TypeId × Value) (v : Value) (l : List Ent) (w : World) (hv : EntsIn w v l) (h : ¬ histOk l) (S : FoSent e w) :
    Calls Tryz.prog 7 #[v] w fun r w' => ∃ ty p, r = .returned (.tuple #[.int .i64 0, .iface ty p]) ∧ HistErr e w' l ty p ∧ Below w.heap.size w w' := by
  have HC := hide (lastVs_no e v l w hv h S)
  obtain ⟨ad, cap, rfl, _⟩ := EntsIn.at hv
  rw [zeros_last] at HC
  unfold rowV at HC
  simp only [List.map_cons, List.map_nil] at HC
  clear hv h S
  go_enter Tryz.func7, Tryz.ntmps7
  go_wp2_with fail
  refine (unhide HC).mono ?_
  rintro E w2 ⟨ty, p, rfl, hE, hB⟩
  have HE := hide (hE.old ((Below.refl _ _).alloc (Nat.le_refl _) (.cells zeros16 52)))
  have HB := hide (hB.alloc hB.size (.cells zeros16 52))
  unfold zeros16 at HE HB
  clear hE hB
  go_wp2_with fail
  go_ret2
  exact ⟨_, _, rfl, unhide HE, unhide HB⟩
set_option maxRecDepth 100000 in
theorem total_ok (e : Nat → TypeId × Value) (v : Value) (l : List Ent) (w : World) (hv : EntsIn w v l) (h : histOk l) (S : FoSent e w) :
    Calls Tryz.prog 7 #[v] w fun r w' => r = .returned (.tuple #[.int .i64 (totL l), .nilIface]) ∧ Below w.heap.size w w' := by
  have HC := hide (lastVs_ok e v l w hv h S)
  have HS := hide (last_small h)
  obtain ⟨ad, cap, rfl, _⟩ := EntsIn.at hv
  rw [show totL l = sumL 16 (lastL 16 l) from rfl]
  have HL := hide (lastL_len 16 l)
  generalize lastL 16 l = L at *
  obtain ⟨cs, hcs⟩ : ∃ cs : Array Value, cs = (L.map (Value.int .i64)).toArray := ⟨_, rfl⟩
  unfold rowV at HC
  rw [← hcs] at HC
  have Hcs := hide hcs
  obtain ⟨x0, x1, x2, x3, x4, x5, x6, x7, x8, x9, x10, x11, x12, x13, x14, x15, hx⟩ := sixteen (unhide HL)
  have HX := hide hx
  have hcx : cs = #[.int .i64 x0, .int .i64 x1, .int .i64 x2, .int .i64 x3, .int .i64 x4, .int .i64 x5, .int .i64 x6, .int .i64 x7, .int .i64 x8, .int .i64 x9, .int .i64 x10, .int .i64 x11, .int .i64 x12, .int .i64 x13, .int .i64 x14, .int .i64 x15] := by rw [hcs, hx]; rfl
  subst hcx
  clear hv h S hx hcs
  go_enter Tryz.func7, Tryz.ntmps7
  go_wp2_with fail
  refine (unhide HC).mono ?_
  rintro E w2 ⟨rfl, hB⟩
  have HB := hide (hB.alloc hB.size (.cells #[.int .i64 x0, .int .i64 x1, .int .i64 x2, .int .i64 x3, .int .i64 x4, .int .i64 x5, .int .i64 x6, .int .i64 x7, .int .i64 x8, .int .i64 x9, .int .i64 x10, .int .i64 x11, .int .i64 x12, .int .i64 x13, .int .i64 x14, .int .i64 x15] 52))
  clear hB HC
  go_wp2_with fail
  obtain ⟨cs, hcs⟩ : ∃ cs : Array Value, #[Value.int .i64 x0, Value.int .i64 x1, Value.int .i64 x2, Value.int .i64 x3, Value.int .i64 x4, Value.int .i64 x5, Value.int .i64 x6, Value.int .i64 x7, Value.int .i64 x8, Value.int .i64 x9, Value.int .i64 x10, Value.int .i64 x11, Value.int .i64 x12, Value.int .i64 x13, Value.int .i64 x14, Value.int .i64 x15] = cs := ⟨_, rfl⟩
  rw [hcs] at Hcs HB ⊢
  have hsz : cs.size = 16 := by rw [← hcs]; rfl
  clear hcs
  generalize w2.alloc (.cells cs 52) = W at *
  go_loopw [6, 18] (fun s i w' => ∃ j : Nat, j ≤ 16 ∧ i = .int .i64 j ∧ s = .int .i64 (sumL j L) ∧ w' = W) (fun _ i _ => 16 - (intOf i).toNat)
  case atStart => exact ⟨0, by omega, rfl, rfl, rfl⟩
  case round =>
    obtain ⟨j, hj, rfl, rfl, rfl⟩ := hrel
    by_cases hlt : j < 16
    · have hc : cs[j]? = some (.int .i64 (L.getD j 0)) := by
        have hjl : j < L.length := by rw [unhide HL]; exact hlt
        rw [unhide Hcs, List.getElem?_toArray, List.getElem?_map, List.getElem?_eq_getElem hjl, List.getD_eq_getElem?_getD, List.getElem?_eq_getElem hjl]
        rfl
      have hidx := fun W => run_idx 52 16 _ cs j (L.getD j 0) Tryz.underlying52 (fun _ => by kernel_rfl) (fun _ => by kernel_rfl) hlt hc W
      have s0 := unhide HS j hj
      have s1 := unhide HS (j + 1) (by omega)
      have hs := sumL_succ j L (by rw [unhide HL]; exact hlt)
      rw [hs] at s1
      have Hs := hide hs
      have j0 : (0 : Int) ≤ (j : Int) := Int.natCast_nonneg _
      have j1 : (j : Int) < 16 := by omega
      clear hs
      generalize L.getD j 0 = x at *
      generalize sumL j L = y at *
      go_wp2
      go_roundw
      case rel => exact ⟨j + 1, by omega, by go_num, by rw [unhide Hs], trivial⟩
      case measure => simp [intOf]; omega
    · obtain rfl : j = 16 := by omega
      go_wp2
      go_ret2
      exact ⟨rfl, unhide HB⟩
end Go.Proofs.YtglhapkclpllfadGreatDoor
