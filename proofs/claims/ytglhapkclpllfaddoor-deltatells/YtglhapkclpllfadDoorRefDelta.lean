/-
  Contracts of the document's answer, chapter 10: SinceOf, JoinOf.
-/
import Derived.Test.YtglhapkclpllfadDoorRefHist2
import Derived.Test.YtglhapkclpllfadDoorDeltaMath
import Derived.Test.YtglhapkclpllfadDoorOwns
import Derived.Test.YtglhapkclpllfadDoorAppendEnts
import Derived.Test.YtglhapkclpllfadDoorSameEnts
import Derived.Test.YtglhapkclpllfadDoorAppendOn
import Derived.Deep.AppendLies
namespace Go.Proofs.YtglhapkclpllfadDoor
open Go.RowKit Go.Deep

theorem Tryd.infoEND : (Tryd.prog.info? 49).map (fun i => (i.zero, i.size, i.bytes)) = some (some entZero, 4, 32) := by kernel_rfl
theorem res_twoD {w : World} : Own2 (w.alloc (.cells #[.int .i64 0, .int .i64 0] 29)) w.heap.size (.int .i64 0) (.int .i64 0) := Own2.new _ _ _ _
set_option maxRecDepth 100000 in
theorem sinceOf_keep (v : Value) (l : List Ent) (hv' most c n : Int) (w : World) (hv : EntsIn w v l)
    (hp : ∀ w', EntsIn w' v l → Calls Tryd.prog 11 #[v] w' fun e w2 => e = .returned (.agg #[.int .i64 c, .int .i64 n]) ∧ Below w'.heap.size w' w2) (hc : 0 < c) :
    Calls Tryd.prog 26 #[v, .int .i64 hv', .int .i64 most] w fun e w' => e = .returned (.tuple #[.slice none 0 0, .agg #[.int .i64 c, .int .i64 n]]) ∧ Below w.heap.size w w' := by
  have hA : Below w.heap.size w (w.alloc (.cells #[.int .i64 0, .int .i64 0] 29)) := (Below.refl _ _).alloc (Nat.le_refl _) _
  have HP := hide (hp _ (hv.below hA))
  have HA := hide hA
  have HO := hide (res_twoD (w := w))
  obtain ⟨ad, cap, rfl, _⟩ := EntsIn.at hv
  have q1 : (c == 0) = false := by simp; omega
  have q2 : ¬ c = 0 := by omega
  clear hv hp hA
  go_enter Tryd.func26, Tryd.ntmps26
  go_wp2_with fail
  refine (unhide HP).mono ?_
  rintro e w2 ⟨rfl, hB2⟩
  have HBw0 := hide ((unhide HA).trans (hB2.mono (unhide HA).size))
  have hB3 : Below (w.alloc (.cells #[.int .i64 0, .int .i64 0] 29)).heap.size (w.alloc (.cells #[.int .i64 0, .int .i64 0] 29)) (w2.alloc (.cells #[.int .i64 c, .int .i64 n] 29)) := hB2.alloc hB2.size _
  obtain ⟨i0, i1, j0, j1⟩ := (unhide HO).below hB3
  obtain ⟨x0, x1, y0, y1⟩ := (unhide HO).below hB2
  have hlt0 : w.heap.size < w2.heap.size := cell_lt ((unhide HO).below hB2).c0
  have d1 : ¬ w2.heap.size = w.heap.size := by omega
  have d2 : ¬ w.heap.size = w2.heap.size := by omega
  clear hB2 hB3
  go_wp2_with fail
  go_region
  all_goals (try go_wp2)
  exact bodyPost_ret (v := .tuple #[.slice none 0 0, .agg #[.int .i64 c, .int .i64 n]]) (by simp [results, Tryd.results26, go_sem, *]) rfl ⟨rfl, ((below_res (unhide HBw0) _ _).alloc (by simp; omega) _).drew⟩
theorem below_two9 {w w3 : World} {b : Nat} (hB : Below w.heap.size w w3) (hb : w.heap.size ≤ b) (x y x' y' : Value) :
    Below w.heap.size w ((((w3.setCell ⟨b, 0, none⟩ x).setCell ⟨b, 1, none⟩ y).setCell ⟨w.heap.size, 0, none⟩ x').setCell ⟨w.heap.size, 1, none⟩ y') :=
  (((hB.setCell (p := ⟨b, 0, none⟩) hb _).setCell (p := ⟨b, 1, none⟩) hb _).setCell (p := ⟨w.heap.size, 0, none⟩) (Nat.le_refl _) _).setCell (p := ⟨w.heap.size, 1, none⟩) (Nat.le_refl _) _
set_option maxRecDepth 100000 in
theorem sinceOf_bound (v : Value) (l : List Ent) (hv' most : Int) (w : World) (hv : EntsIn w v l) (h : histOk l) (hr : hv' < 0 ∨ most < 1) :
    Calls Tryd.prog 26 #[v, .int .i64 hv', .int .i64 most] w fun e w' => e = .returned (.tuple #[.slice none 0 0, .agg #[.int .i64 2, .int .i64 (-1)]]) ∧ Below w.heap.size w w' := by
  have hA : Below w.heap.size w (w.alloc (.cells #[.int .i64 0, .int .i64 0] 29)) := (Below.refl _ _).alloc (Nat.le_refl _) _
  have HP := hide (histFault_ok v l _ (hv.below hA) h)
  have HA := hide hA
  have HO := hide (res_twoD (w := w))
  obtain ⟨ad, cap, rfl, _⟩ := EntsIn.at hv
  have hr2 : hv' < 0 ∨ (¬ hv' < 0 ∧ most < 1) := by omega
  clear hv hA h
  rcases hr2 with h1 | ⟨h1, h2⟩
  all_goals
    go_enter Tryd.func26, Tryd.ntmps26
    go_wp2_with fail
    refine (unhide HP).mono ?_
    rintro e w2 ⟨rfl, hB2⟩
    have hB3 : Below (w.alloc (.cells #[.int .i64 0, .int .i64 0] 29)).heap.size (w.alloc (.cells #[.int .i64 0, .int .i64 0] 29)) (w2.alloc (.cells #[.int .i64 0, .int .i64 (-1)] 29)) := hB2.alloc hB2.size _
    have HO3 := hide ((unhide HO).below hB3)
    have HF3 := hide (Own2.new w2 29 (.int .i64 0) (.int .i64 (-1)))
    have HB3 := hide ((unhide HA).trans (hB3.mono (unhide HA).size))
    have hlt0 : w.heap.size < w2.heap.size := cell_lt ((unhide HO).below hB2).c0
    have d1 : ¬ w2.heap.size = w.heap.size := by omega
    have d2 : ¬ w.heap.size = w2.heap.size := by omega
    clear hB2 hB3
    go_wp2_with fail
    refine (bare_ok 2 _).mono ?_
    rintro e w5 ⟨rfl, hB⟩
    obtain ⟨i0, i1, j0, j1⟩ := (unhide HO3).below hB
    obtain ⟨x0, x1, y0, y1⟩ := (unhide HF3).below hB
    have HB5 := hide ((unhide HB3).trans (hB.mono (unhide HB3).size))
    clear hB
    go_wp2_with fail
    go_region
    all_goals (try go_wp2)
    exact bodyPost_ret (v := .tuple #[.slice none 0 0, .agg #[.int .i64 2, .int .i64 (-1)]]) (by simp [results, Tryd.results26, go_sem, *]) rfl ⟨rfl, (below_two9 (unhide HB5) (Nat.le_of_lt hlt0) _ _ _ _).drew⟩
set_option maxRecDepth 100000 in
theorem sinceOf_gap (v : Value) (l : List Ent) (hv' most : Int) (w : World) (hv : EntsIn w v l) (h : histOk l) (h1 : 0 ≤ hv') (h2 : 1 ≤ most) (h3 : (l.length : Int) < hv') :
    Calls Tryd.prog 26 #[v, .int .i64 hv', .int .i64 most] w fun e w' => e = .returned (.tuple #[.slice none 0 0, .agg #[.int .i64 10, .int .i64 (-1)]]) ∧ Below w.heap.size w w' := by
  have hA : Below w.heap.size w (w.alloc (.cells #[.int .i64 0, .int .i64 0] 29)) := (Below.refl _ _).alloc (Nat.le_refl _) _
  have HP := hide (histFault_ok v l _ (hv.below hA) h)
  have HA := hide hA
  have HO := hide (res_twoD (w := w))
  obtain ⟨ad, cap, rfl, _⟩ := EntsIn.at hv
  have a1 : ¬ hv' < 0 := by omega
  have a2 : ¬ most < 1 := by omega
  clear hv hA h
  all_goals
    go_enter Tryd.func26, Tryd.ntmps26
    go_wp2_with fail
    refine (unhide HP).mono ?_
    rintro e w2 ⟨rfl, hB2⟩
    have hB3 : Below (w.alloc (.cells #[.int .i64 0, .int .i64 0] 29)).heap.size (w.alloc (.cells #[.int .i64 0, .int .i64 0] 29)) (w2.alloc (.cells #[.int .i64 0, .int .i64 (-1)] 29)) := hB2.alloc hB2.size _
    have HO3 := hide ((unhide HO).below hB3)
    have HF3 := hide (Own2.new w2 29 (.int .i64 0) (.int .i64 (-1)))
    have HB3 := hide ((unhide HA).trans (hB3.mono (unhide HA).size))
    have hlt0 : w.heap.size < w2.heap.size := cell_lt ((unhide HO).below hB2).c0
    have d1 : ¬ w2.heap.size = w.heap.size := by omega
    have d2 : ¬ w.heap.size = w2.heap.size := by omega
    clear hB2 hB3
    go_wp2_with fail
    refine (bare_ok 10 _).mono ?_
    rintro e w5 ⟨rfl, hB⟩
    obtain ⟨i0, i1, j0, j1⟩ := (unhide HO3).below hB
    obtain ⟨x0, x1, y0, y1⟩ := (unhide HF3).below hB
    have HB5 := hide ((unhide HB3).trans (hB.mono (unhide HB3).size))
    clear hB
    go_wp2_with fail
    go_region
    all_goals (try go_wp2)
    exact bodyPost_ret (v := .tuple #[.slice none 0 0, .agg #[.int .i64 10, .int .i64 (-1)]]) (by simp [results, Tryd.results26, go_sem, *]) rfl ⟨rfl, (below_two9 (unhide HB5) (Nat.le_of_lt hlt0) _ _ _ _).drew⟩
theorem own_form {W : World} {base : Nat} {e : TypeId} {s n : Nat} {v : Value} {xs : List Value} (h : W.ownsRow base e s v n xs) : ∃ ad cap, v = .slice ad n cap := by
  rcases h.2 with ⟨rfl, h0⟩ | ⟨g, cap, cur, rfl, _⟩
  · exact ⟨_, _, by rw [h0]⟩
  · exact ⟨_, _, rfl⟩
theorem since_at (l : List Ent) (h most j : Nat) (hj : j < (sinceL l h most).length) : (sinceL l h most).getD j Ent.zero = l.getD (h + j) Ent.zero ∧ h + j < l.length ∧ j < most := by
  have hl := since_len l h most
  have h1 : j < most := by omega
  have h2 : h + j < l.length := by omega
  refine ⟨?_, h2, h1⟩
  unfold sinceL
  rw [List.getD_eq_getElem?_getD, List.getElem?_take_of_lt h1, List.getElem?_drop, ← List.getD_eq_getElem?_getD]
theorem flat_take (ys : List Ent) (j : Nat) (hj : j < ys.length) : ((ys.take (j + 1)).map Ent.cells).flatten = ((ys.take j).map Ent.cells).flatten ++ [.int .i64 (ys.getD j Ent.zero).slot, .int .i64 (ys.getD j Ent.zero).src, .bool (ys.getD j Ent.zero).heard, .int .i64 (ys.getD j Ent.zero).value] := by
  rw [List.take_succ_eq_append_getElem hj, List.getD_eq_getElem?_getD, List.getElem?_eq_getElem hj, List.map_append, List.flatten_append]
  rfl
theorem below_appD {B S : Nat} {a wr w1 : World} {e : TypeId} {v : Value} {n : Nat} {xs : List Value} {o : Obj} (hB : Below B a wr) (hrow : wr.ownsRow B e S v n xs) (hgrow : (wr.alloc o).grownBy w1 v.ownBlock) (hle : B ≤ wr.heap.size) : Below B a w1 :=
  (hB.alloc hle o).grown hgrow (by simp; omega) fun k e => (hrow.lt k e).1
theorem ents_of_row {W : World} {base : Nat} {v : Value} {ys : List Ent} (h : W.ownsRow base 49 4 v ys.length (ys.map Ent.cells).flatten) : EntsIn W v ys :=
  RecsIn.of_owns (base := base) (e := 49) (size := 4) (xs := ys.map Ent.cells) (fun y hy => by
    obtain ⟨z, _, rfl⟩ := List.mem_map.1 hy
    rfl) (by rw [List.length_map]; exact h)
theorem own_blockD {W : World} {base : Nat} {e : TypeId} {s n : Nat} {v : Value} {xs : List Value} (h : W.ownsRow base e s v n xs) {r : Nat} (hr : r < base) : ∀ b off n cap, v = .slice (some ⟨b, off, none⟩) n cap → r ≠ b := fun b off n cap hv e => by
  have := (h.lt b (by rw [hv]; rfl)).1
  omega
theorem ents_resD {w2 : World} {v : Value} {ys : List Ent} {r : Nat} (h : EntsIn w2 v ys) (hg : ∀ b off n cap, v = .slice (some ⟨b, off, none⟩) n cap → r ≠ b) {x y : Value} : EntsIn ((w2.setCell ⟨r, 0, none⟩ x).setCell ⟨r, 1, none⟩ y).drew v ys := by
  obtain ⟨ad, cap, rfl, hr, h⟩ := h
  refine ⟨ad, cap, rfl, hr, fun k hk => ?_⟩
  obtain ⟨b, off, rfl, hc⟩ := h k hk
  refine ⟨b, off, rfl, fun j u hj => ?_⟩
  have h1 := hc j u hj
  have hne := hg b off _ cap rfl
  have h2 : ((w2.setCell ⟨r, 0, none⟩ x).setCell ⟨r, 1, none⟩ y).cell? ⟨b, off + (k * 4 + j), none⟩ = some u := by
    rw [World.cell?_setCell_other _ _ _ _ (fun e => hne (by injection e)), World.cell?_setCell_other _ _ _ _ (fun e => hne (by injection e))]
    exact h1
  exact h2
set_option maxRecDepth 100000 in
set_option maxHeartbeats 2000000 in
theorem sinceOf_ok (v : Value) (l : List Ent) (h : Nat) (most : Int) (w : World) (hv : EntsIn w v l) (hok : histOk l) (h2 : 1 ≤ most) (h3 : h ≤ l.length) :
    Calls Tryd.prog 26 #[v, .int .i64 (h : Int), .int .i64 most] w fun e w' => ∃ o, e = .returned (.tuple #[o, .agg #[.int .i64 0, .int .i64 (-1)]]) ∧ EntsIn w' o (sinceL l h most.toNat) ∧ Below w.heap.size w w' := by
  have hA : Below w.heap.size w (w.alloc (.cells #[.int .i64 0, .int .i64 0] 29)) := (Below.refl _ _).alloc (Nat.le_refl _) _
  have HP := hide (histFault_ok v l _ (hv.below hA) hok)
  have HA := hide hA
  have HO := hide (res_twoD (w := w))
  have h200 := hok.1
  obtain ⟨ad, cap, rfl, hfar⟩ := EntsIn.far hv
  have HFar := hide hfar
  have hSl := since_len l h most.toNat
  have HAt := hide (fun j hj => since_at l h most.toNat j hj)
  obtain ⟨ys, hys⟩ : ∃ ys, sinceL l h most.toNat = ys := ⟨_, rfl⟩
  rw [hys] at hSl HAt ⊢
  obtain ⟨n, hn⟩ : ∃ n, l.length = n := ⟨_, rfl⟩
  rw [hn] at HFar HP hSl HAt h200 h3 ⊢
  have a1 : ¬ (h : Int) < 0 := by omega
  have a2 : ¬ most < 1 := by omega
  have a3 : ¬ (n : Int) < (h : Int) := by omega
  have a4 : decide ((h : Int) < 0) = false := decide_eq_false a1
  have a5 : decide (most < 1) = false := decide_eq_false a2
  have a6 : decide (n < h) = false := decide_eq_false (by omega)
  clear hv hA hok hfar hys hn
  obtain ⟨i0, hi0, hz0, hz1, hz2⟩ := info_parts Tryd.infoEND
  go_enter Tryd.func26, Tryd.ntmps26
  go_wp2_with fail
  refine (unhide HP).mono ?_
  rintro e w2 ⟨rfl, hB2⟩
  obtain ⟨W, hW⟩ : ∃ W, W = w2.alloc (.cells #[.int .i64 0, .int .i64 (-1)] 29) := ⟨_, rfl⟩
  have hB3 : Below (w.alloc (.cells #[.int .i64 0, .int .i64 0] 29)).heap.size (w.alloc (.cells #[.int .i64 0, .int .i64 0] 29)) W := by rw [hW]; exact hB2.alloc hB2.size _
  have HO3 := hide ((unhide HO).below hB3)
  have HF3 : Hid (Own2 W w2.heap.size (.int .i64 0) (.int .i64 (-1))) := by rw [hW]; exact Own2.new w2 29 (.int .i64 0) (.int .i64 (-1))
  have HB3 := hide ((unhide HA).trans (hB3.mono (unhide HA).size))
  have hlt0 : w.heap.size < w2.heap.size := cell_lt ((unhide HO).below hB2).c0
  have hltW : w2.heap.size < W.heap.size := cell_lt (unhide HF3).c0
  have d1 : ¬ w2.heap.size = w.heap.size := by omega
  have d2 : ¬ w.heap.size = w2.heap.size := by omega
  clear hB2 hB3
  go_wp2_with fail
  rw [← hW]
  clear hW
  go_loopw [9, 10] (fun o i wr => ∃ j : Nat, j ≤ ys.length ∧ i = .int .i64 ((h + j : Nat) : Int) ∧ Hid (wr.ownsRow W.heap.size 49 4 o j ((ys.take j).map Ent.cells).flatten) ∧ Hid (Below W.heap.size W wr)) (fun _ i _ => n + 1 - (intOf i).toNat)
  case atStart => exact ⟨0, by omega, by simp, World.ownsRow_nil _ _ _ _, Below.refl _ _⟩
  case round =>
    obtain ⟨j, hj, rfl, HRow, HB⟩ := hrel
    obtain ⟨ad9, cap9, rfl⟩ := own_form (unhide HRow)
    by_cases hlt : j < ys.length
    · obtain ⟨hy, hn2, hm2⟩ := unhide HAt j hlt
      have b1 : ((h + j : Nat) : Int) < (n : Int) := by omega
      have b2 : (j : Int) < most := by omega
      have hBw := (unhide HB3).trans ((unhide HB).mono (unhide HB3).size)
      obtain ⟨b, off, rfl, f0, f1, f2, f3⟩ := unhide HFar wr hBw (h + j) (by omega)
      have HFl := hide (flat_take ys j hlt)
      rw [hy] at HFl
      generalize l.getD (h + j) Ent.zero = x at *
      obtain ⟨x0, x1, x2, x3⟩ := x
      simp only at f0 f1 f2 f3 HFl
      have hs6 := (unhide HB).size
      obtain ⟨q, hq⟩ : ∃ q, h + j = q := ⟨_, rfl⟩
      rw [hq] at b1 f0 f1 f2 f3 ⊢
      have Hq := hide hq
      clear hq
      clear hBw hy
      go_wp2_with (at_builtin; refine wpList_append_lies _ rfl _ _ 22 rfl W.heap.size 49 i0 _ 4 32 Tryd.underlying22 hi0 hz0 hz1 hz2 rfl (by omega) (.slice ad9 j cap9) j _ rfl ((unhide HRow).alloc _) ⟨_, 0, none⟩ 1 1 [.int .i64 x0, .int .i64 x1, .bool x2, .int .i64 x3] rfl rfl (World.news_of_block (heap_alloc_new _ _)) (by simp [Value.oneCell']) (by omega) (by unfold maxLen; omega) (by omega) (by simp; omega) _ rfl ?_; intro g1 cap1 w7 hown1 hgrow1 hat1 hlt1; have HOwn := hide hown1; have HGr := hide hgrow1; clear hown1 hgrow1 hat1 hlt1)
      go_roundw
      case rel => exact ⟨j + 1, by omega, by have e := unhide Hq; subst e; go_num, by rw [unhide HFl]; exact unhide HOwn, below_appD (unhide HB) (unhide HRow) (unhide HGr) (unhide HB).size⟩
      case measure => simp [intOf]; omega
    · have hje : j = ys.length := by omega
      have hall : ys.take j = ys := List.take_of_length_le (by omega)
      have HIn : Hid (EntsIn wr (.slice ad9 j cap9) ys) := ents_of_row (base := W.heap.size) (by rw [hall, hje] at HRow; rw [hje]; exact unhide HRow)
      have HGe := hide (own_blockD (unhide HRow) (show w.heap.size < W.heap.size by omega))
      obtain ⟨i0', i1, j0, j1⟩ := (unhide HO3).below (unhide HB)
      obtain ⟨x0, x1, y0, y1⟩ := (unhide HF3).below (unhide HB)
      have HBw := hide ((unhide HB3).trans ((unhide HB).mono (unhide HB3).size))
      have hcase : ¬ ((h + j : Nat) : Int) < (n : Int) ∨ (((h + j : Nat) : Int) < (n : Int) ∧ ¬ (j : Int) < most) := by omega
      rcases hcase with b1 | ⟨b1, b2⟩
      all_goals
        go_wp2_with fail
        go_region
        all_goals (try go_wp2)
        exact bodyPost_ret (v := .tuple #[.slice ad9 j cap9, .agg #[.int .i64 0, .int .i64 (-1)]]) (by simp [results, Tryd.results26, go_sem, *]) rfl ⟨_, rfl, ents_resD (unhide HIn) (unhide HGe), (below_res (unhide HBw) _ _).drew⟩
set_option maxRecDepth 100000 in
theorem joinOf_keep (v vm : Value) (l m : List Ent) (c n : Int) (w : World) (hv : EntsIn w v l) (hm : EntsIn w vm m)
    (hp : ∀ w', EntsIn w' v l → Calls Tryd.prog 11 #[v] w' fun e w2 => e = .returned (.agg #[.int .i64 c, .int .i64 n]) ∧ Below w'.heap.size w' w2) (hc : 0 < c) :
    Calls Tryd.prog 27 #[v, vm] w fun e w' => e = .returned (.tuple #[.slice none 0 0, .agg #[.int .i64 c, .int .i64 n]]) ∧ Below w.heap.size w w' := by
  have hA : Below w.heap.size w (w.alloc (.cells #[.int .i64 0, .int .i64 0] 29)) := (Below.refl _ _).alloc (Nat.le_refl _) _
  have HP := hide (hp _ (hv.below hA))
  have HA := hide hA
  have HO := hide (res_twoD (w := w))
  obtain ⟨ad, cap, rfl, _⟩ := EntsIn.at hv
  obtain ⟨adm, capm, rfl, _⟩ := EntsIn.at hm
  have q1 : (c == 0) = false := by simp; omega
  have q2 : ¬ c = 0 := by omega
  clear hv hp hA hm
  go_enter Tryd.func27, Tryd.ntmps27
  go_wp2_with fail
  refine (unhide HP).mono ?_
  rintro e w2 ⟨rfl, hB2⟩
  have HBw0 := hide ((unhide HA).trans (hB2.mono (unhide HA).size))
  have hB3 : Below (w.alloc (.cells #[.int .i64 0, .int .i64 0] 29)).heap.size (w.alloc (.cells #[.int .i64 0, .int .i64 0] 29)) (w2.alloc (.cells #[.int .i64 c, .int .i64 n] 29)) := hB2.alloc hB2.size _
  obtain ⟨i0, i1, j0, j1⟩ := (unhide HO).below hB3
  obtain ⟨x0, x1, y0, y1⟩ := (unhide HO).below hB2
  have hlt0 : w.heap.size < w2.heap.size := cell_lt ((unhide HO).below hB2).c0
  have d1 : ¬ w2.heap.size = w.heap.size := by omega
  have d2 : ¬ w.heap.size = w2.heap.size := by omega
  clear hB2 hB3
  go_wp2_with fail
  go_region
  all_goals (try go_wp2)
  exact bodyPost_ret (v := .tuple #[.slice none 0 0, .agg #[.int .i64 c, .int .i64 n]]) (by simp [results, Tryd.results27, go_sem, *]) rfl ⟨rfl, ((below_res (unhide HBw0) _ _).alloc (by simp; omega) _).drew⟩
theorem ents_resD0 {w2 : World} {v : Value} {ys : List Ent} {r : Nat} (h : EntsIn w2 v ys) (hg : ∀ b off n cap, v = .slice (some ⟨b, off, none⟩) n cap → r ≠ b) {x y : Value} : EntsIn ((w2.setCell ⟨r, 0, none⟩ x).setCell ⟨r, 1, none⟩ y) v ys := by
  obtain ⟨ad, cap, rfl, hr, h⟩ := h
  refine ⟨ad, cap, rfl, hr, fun k hk => ?_⟩
  obtain ⟨b, off, rfl, hc⟩ := h k hk
  refine ⟨b, off, rfl, fun j u hj => ?_⟩
  have h1 := hc j u hj
  have hne := hg b off _ cap rfl
  rw [World.cell?_setCell_other _ _ _ _ (fun e => hne (by injection e)), World.cell?_setCell_other _ _ _ _ (fun e => hne (by injection e))]
  exact h1
set_option maxRecDepth 100000 in
set_option maxHeartbeats 2000000 in
theorem joinOf_bad (v vm : Value) (l m : List Ent) (w : World) (hv : EntsIn w v l) (hm : EntsIn w vm m) (hok : histOk l) (hml : m.length ≤ 1000) (c n : Int) (hc : 0 < c) (hf : ∀ v w, EntsIn w v (l ++ m) → Calls Tryd.prog 11 #[v] w fun e w' => e = .returned (.agg #[.int .i64 c, .int .i64 n]) ∧ Below w.heap.size w w') :
    Calls Tryd.prog 27 #[v, vm] w fun e w' => e = .returned (.tuple #[.slice none 0 0, .agg #[.int .i64 c, .int .i64 n]]) ∧ Below w.heap.size w w' := by
  have hA : Below w.heap.size w (w.alloc (.cells #[.int .i64 0, .int .i64 0] 29)) := (Below.refl _ _).alloc (Nat.le_refl _) _
  have HP := hide (histFault_ok v l _ (hv.below hA) hok)
  have HA := hide hA
  have HO := hide (res_twoD (w := w))
  have HV := hide (fun w' (hB : Below w.heap.size w w') => hv.below hB)
  have HM := hide (fun w' (hB : Below w.heap.size w w') => hm.below hB)
  have h200 := hok.1
  have HF := hide hf
  obtain ⟨ad, cap, rfl, _⟩ := EntsIn.at hv
  obtain ⟨adm, capm, rfl, _⟩ := EntsIn.at hm
  have q1 : (c == 0) = false := by simp; omega
  have q2 : ¬ c = 0 := by omega
  clear hf
  clear hv hm hA hok
  obtain ⟨i0, hi0, hz0, hz1, hz2⟩ := info_parts Tryd.infoEND
  go_enter Tryd.func27, Tryd.ntmps27
  go_wp2_with fail
  refine (unhide HP).mono ?_
  rintro e w2 ⟨rfl, hB2⟩
  obtain ⟨W, hW⟩ : ∃ W, W = w2.alloc (.cells #[.int .i64 0, .int .i64 (-1)] 29) := ⟨_, rfl⟩
  have hB3 : Below (w.alloc (.cells #[.int .i64 0, .int .i64 0] 29)).heap.size (w.alloc (.cells #[.int .i64 0, .int .i64 0] 29)) W := by rw [hW]; exact hB2.alloc hB2.size _
  have HO3 := hide ((unhide HO).below hB3)
  have HF3 : Hid (Own2 W w2.heap.size (.int .i64 0) (.int .i64 (-1))) := by rw [hW]; exact Own2.new w2 29 (.int .i64 0) (.int .i64 (-1))
  have HB3 := hide ((unhide HA).trans (hB3.mono (unhide HA).size))
  have hlt0 : w.heap.size < w2.heap.size := cell_lt ((unhide HO).below hB2).c0
  have hltW : w2.heap.size < W.heap.size := cell_lt (unhide HF3).c0
  have d1 : ¬ w2.heap.size = w.heap.size := by omega
  have d2 : ¬ w.heap.size = w2.heap.size := by omega
  clear hB2 hB3
  have hWsz : (w2.alloc (.cells #[.int .i64 0, .int .i64 (-1)] 29)).heap.size = W.heap.size := by rw [hW]
  have hV3 := unhide HV _ (unhide HB3)
  have hM3 := unhide HM _ (unhide HB3)
  have HV3 := hide hV3
  have HM3 := hide hM3
  clear hV3 hM3 hWsz
  rw [hW] at HV3 HM3
  go_wp2_with (first
    | (at_builtin; refine wpList_append_ents rfl _ _ 22 rfl 49 i0 Tryd.underlying22 hi0 hz0 hz1 hz2 W.heap.size (by rw [hW]; exact Nat.le_refl _) (.slice none 0 0) [] rfl (World.ownsRow_nil _ _ _ _) (.slice ad l.length cap) l rfl (unhide HV3) (by simp; omega) ?_; intro v6 w6 hown6 hB6; have HOwn6 := hide hown6; have HM6 := hide ((unhide HM3).below (by rw [hW] at hB6; exact hB6)); have hs6 := hB6.size; have HB6 := hide hB6; clear hown6 hB6)
    | (at_builtin; refine wpList_append_ents rfl _ _ 22 rfl 49 i0 Tryd.underlying22 hi0 hz0 hz1 hz2 W.heap.size (by rw [hW]; exact hs6) v6 ([] ++ l) rfl (unhide HOwn6) (.slice adm m.length capm) m rfl (unhide HM6) (by simp; omega) ?_; intro v7 w7 hown7 hB7; have HOwn7 := hide hown7; have HB7 := hide ((unhide HB6).trans hB7); clear hown7 hB7))
  rw [← hW] at HB7
  clear hW HV3 HM3
  have HIn : Hid (EntsIn w7 v7 (l ++ m)) := ents_of_row (base := W.heap.size) (by simpa using unhide HOwn7)
  have HGe := hide (own_blockD (unhide HOwn7) (show w.heap.size < W.heap.size by omega))
  have HGf := hide (own_blockD (unhide HOwn7) (show w2.heap.size < W.heap.size by omega))
  refine (unhide HF _ _ (unhide HIn)).mono ?_
  rintro e w8 ⟨rfl, hB⟩
  have HB8 := hide ((unhide HB7).trans (hB.mono (unhide HB7).size))
  have HIn8 := hide ((unhide HIn).below hB)
  clear hB
  obtain ⟨z0, z1, j0, j1⟩ := (unhide HO3).below (unhide HB8)
  obtain ⟨x0, x1, y0, y1⟩ := (unhide HF3).below (unhide HB8)
  have HBw := hide ((unhide HB3).trans ((unhide HB8).mono (unhide HB3).size))
  go_wp2_with fail
  go_region
  all_goals (try go_wp2)
  exact bodyPost_ret (v := .tuple #[.slice none 0 0, .agg #[.int .i64 c, .int .i64 n]]) (by simp [results, Tryd.results27, go_sem, *]) rfl ⟨rfl, (below_two9 (unhide HBw) (Nat.le_of_lt hlt0) _ _ _ _).drew⟩
set_option maxRecDepth 100000 in
set_option maxHeartbeats 2000000 in
theorem joinOf_ok (v vm : Value) (l m : List Ent) (w : World) (hv : EntsIn w v l) (hm : EntsIn w vm m) (hok : histOk l) (hml : m.length ≤ 1000) (hok2 : histOk (l ++ m)) :
    Calls Tryd.prog 27 #[v, vm] w fun e w' => ∃ o, e = .returned (.tuple #[o, .agg #[.int .i64 0, .int .i64 (-1)]]) ∧ EntsIn w' o (l ++ m) ∧ Below w.heap.size w w' := by
  have hA : Below w.heap.size w (w.alloc (.cells #[.int .i64 0, .int .i64 0] 29)) := (Below.refl _ _).alloc (Nat.le_refl _) _
  have HP := hide (histFault_ok v l _ (hv.below hA) hok)
  have HA := hide hA
  have HO := hide (res_twoD (w := w))
  have HV := hide (fun w' (hB : Below w.heap.size w w') => hv.below hB)
  have HM := hide (fun w' (hB : Below w.heap.size w w') => hm.below hB)
  have h200 := hok.1
  have HF := hide (fun v w hv => histFault_ok v (l ++ m) w hv hok2)
  obtain ⟨ad, cap, rfl, _⟩ := EntsIn.at hv
  obtain ⟨adm, capm, rfl, _⟩ := EntsIn.at hm
  clear hok2
  clear hv hm hA hok
  obtain ⟨i0, hi0, hz0, hz1, hz2⟩ := info_parts Tryd.infoEND
  go_enter Tryd.func27, Tryd.ntmps27
  go_wp2_with fail
  refine (unhide HP).mono ?_
  rintro e w2 ⟨rfl, hB2⟩
  obtain ⟨W, hW⟩ : ∃ W, W = w2.alloc (.cells #[.int .i64 0, .int .i64 (-1)] 29) := ⟨_, rfl⟩
  have hB3 : Below (w.alloc (.cells #[.int .i64 0, .int .i64 0] 29)).heap.size (w.alloc (.cells #[.int .i64 0, .int .i64 0] 29)) W := by rw [hW]; exact hB2.alloc hB2.size _
  have HO3 := hide ((unhide HO).below hB3)
  have HF3 : Hid (Own2 W w2.heap.size (.int .i64 0) (.int .i64 (-1))) := by rw [hW]; exact Own2.new w2 29 (.int .i64 0) (.int .i64 (-1))
  have HB3 := hide ((unhide HA).trans (hB3.mono (unhide HA).size))
  have hlt0 : w.heap.size < w2.heap.size := cell_lt ((unhide HO).below hB2).c0
  have hltW : w2.heap.size < W.heap.size := cell_lt (unhide HF3).c0
  have d1 : ¬ w2.heap.size = w.heap.size := by omega
  have d2 : ¬ w.heap.size = w2.heap.size := by omega
  clear hB2 hB3
  have hWsz : (w2.alloc (.cells #[.int .i64 0, .int .i64 (-1)] 29)).heap.size = W.heap.size := by rw [hW]
  have hV3 := unhide HV _ (unhide HB3)
  have hM3 := unhide HM _ (unhide HB3)
  have HV3 := hide hV3
  have HM3 := hide hM3
  clear hV3 hM3 hWsz
  rw [hW] at HV3 HM3
  go_wp2_with (first
    | (at_builtin; refine wpList_append_ents rfl _ _ 22 rfl 49 i0 Tryd.underlying22 hi0 hz0 hz1 hz2 W.heap.size (by rw [hW]; exact Nat.le_refl _) (.slice none 0 0) [] rfl (World.ownsRow_nil _ _ _ _) (.slice ad l.length cap) l rfl (unhide HV3) (by simp; omega) ?_; intro v6 w6 hown6 hB6; have HOwn6 := hide hown6; have HM6 := hide ((unhide HM3).below (by rw [hW] at hB6; exact hB6)); have hs6 := hB6.size; have HB6 := hide hB6; clear hown6 hB6)
    | (at_builtin; refine wpList_append_ents rfl _ _ 22 rfl 49 i0 Tryd.underlying22 hi0 hz0 hz1 hz2 W.heap.size (by rw [hW]; exact hs6) v6 ([] ++ l) rfl (unhide HOwn6) (.slice adm m.length capm) m rfl (unhide HM6) (by simp; omega) ?_; intro v7 w7 hown7 hB7; have HOwn7 := hide hown7; have HB7 := hide ((unhide HB6).trans hB7); clear hown7 hB7))
  rw [← hW] at HB7
  clear hW HV3 HM3
  have HIn : Hid (EntsIn w7 v7 (l ++ m)) := ents_of_row (base := W.heap.size) (by simpa using unhide HOwn7)
  have HGe := hide (own_blockD (unhide HOwn7) (show w.heap.size < W.heap.size by omega))
  have HGf := hide (own_blockD (unhide HOwn7) (show w2.heap.size < W.heap.size by omega))
  refine (unhide HF _ _ (unhide HIn)).mono ?_
  rintro e w8 ⟨rfl, hB⟩
  have HB8 := hide ((unhide HB7).trans (hB.mono (unhide HB7).size))
  have HIn8 := hide ((unhide HIn).below hB)
  clear hB
  obtain ⟨z0, z1, j0, j1⟩ := (unhide HO3).below (unhide HB8)
  obtain ⟨x0, x1, y0, y1⟩ := (unhide HF3).below (unhide HB8)
  have HBw := hide ((unhide HB3).trans ((unhide HB8).mono (unhide HB3).size))
  go_wp2_with fail
  go_region
  all_goals (try go_wp2)
  exact bodyPost_ret (v := .tuple #[v7, .agg #[.int .i64 0, .int .i64 (-1)]]) (by simp [results, Tryd.results27, go_sem, *]) rfl ⟨_, rfl, ents_resD (ents_resD0 (unhide HIn8) (unhide HGf)) (unhide HGe), (below_two9 (unhide HBw) (Nat.le_of_lt hlt0) _ _ _ _).drew⟩
end Go.Proofs.YtglhapkclpllfadDoor
