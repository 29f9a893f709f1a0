/-
  The contract of the document's answer, chapter 9: ReadHistory, of a text that is not too long, and not a bare dash.
-/
import Derived.Test.YtglhapkclpllfadGreatDoorRefFold3
namespace Go.Proofs.YtglhapkclpllfadGreatDoor
open Go.RowKit Go.Shelf Go.Deep

/-- How the program's error fits the document's fault of a history that is not right. -/
def HFits (l : List Ent) (c n : Int) : Prop := ∀ e w t p, HistErr e w l t p → (t = (e 6).1 ∧ p = (e 6).2 ∧ c = 7 ∧ n = -1) ∨
  ∃ pb k : Nat, k < 11 ∧ t = 68 ∧ p = .pointer (some ⟨pb, 0, none⟩) ∧ c = (k : Int) + 1 ∧ w.cell? ⟨pb, 0, none⟩ = some (.int .i64 n) ∧ w.cell? ⟨pb, 0 + 1, none⟩ = some (.iface (e k).1 (e k).2)
/-- What ReadHistory answers. -/
def RHist (l : List UInt8) (e : Ending) (w' : World) : Prop :=
  (readH l = none ∧ e = .returned (.tuple #[.slice none 0 0, .agg #[.int .i64 1, .int .i64 (-1)]])) ∨
  ∃ ys, readH l = some ys ∧ ((histOk ys ∧ ∃ v, e = .returned (.tuple #[v, .agg #[.int .i64 0, .int .i64 (-1)]]) ∧ EntsIn w' v ys) ∨
    (¬ histOk ys ∧ ∃ c n : Int, 0 < c ∧ e = .returned (.tuple #[.slice none 0 0, .agg #[.int .i64 c, .int .i64 n]]) ∧ HFits ys c n))
theorem spl_pos (c : UInt8) : ∀ l, 0 < (spl c l).length := fun l => by
  rcases Nat.eq_zero_or_pos (spl c l).length with h | h
  · exact absurd (List.eq_nil_of_length_eq_zero h) (spl_ne c l)
  · exact h
theorem heap_new_two (w : World) (p q : Addr) (u v : Value) (o : Obj) : (((w.setCell p u).setCell q v).alloc o).heap[w.heap.size]? = some o := by
  have h := heap_alloc_new ((w.setCell p u).setCell q v) o
  have e : ((w.setCell p u).setCell q v).heap.size = w.heap.size := by simp
  rw [e] at h
  exact h
/-- A history, behind a new block and the writing of the result. -/
theorem ents_res {w2 : World} {v : Value} {ys : List Ent} {r : Nat} (h : EntsIn w2 v ys) (hg : ∀ b off n cap, v = .slice (some ⟨b, off, none⟩) n cap → r ≠ b) (o : Obj) {x y : Value} : EntsIn (((w2.setCell ⟨r, 0, none⟩ x).setCell ⟨r, 1, none⟩ y).alloc o).drew v ys := by
  obtain ⟨ad, cap, rfl, hr, h⟩ := h
  refine ⟨ad, cap, rfl, hr, fun k hk => ?_⟩
  obtain ⟨b, off, rfl, hc⟩ := h k hk
  refine ⟨b, off, rfl, fun j u hj => ?_⟩
  have h1 := hc j u hj
  have hne := hg b off _ cap rfl
  have h2 : ((w2.setCell ⟨r, 0, none⟩ x).setCell ⟨r, 1, none⟩ y).cell? ⟨b, off + (k * 4 + j), none⟩ = some u := by
    rw [World.cell?_setCell_other _ _ _ _ (fun e => hne (by injection e)), World.cell?_setCell_other _ _ _ _ (fun e => hne (by injection e))]
    exact h1
  exact old1 h2 o
theorem own_block {W : World} {base : Nat} {e : TypeId} {s n : Nat} {v : Value} {xs : List Value} (h : W.ownsRow base e s v n xs) {r : Nat} (hr : r < base) : ∀ b off n cap, v = .slice (some ⟨b, off, none⟩) n cap → r ≠ b := fun b off n cap hv e => by
  have := (h.lt b (by rw [hv]; rfl)).1
  omega
theorem last_byte (a : ByteArray) (h : 0 < a.size) : a.data.toList.getLast? = some (a[a.size - 1]'(by omega)) := by
  obtain ⟨⟨l⟩⟩ := a
  have h' : 0 < l.length := h
  show l.getLast? = _
  rw [List.getLast?_eq_getElem?, List.getElem?_eq_getElem (by omega)]
  rfl
theorem ext_drop (a : ByteArray) : (a.extract 0 (a.size - 1)).data.toList = a.data.toList.dropLast := by
  have h : (a.extract 0 (a.size - 1)).data = a.data.extract 0 (a.size - 1) := by simp
  rw [h]
  simp [List.dropLast_eq_take]
set_option maxRecDepth 100000 in
set_option maxHeartbeats 4000000 in
theorem readHist_walk (s : ByteArray) (hs : s.size ≤ 4000) (hne : s.data.toList ≠ [45]) (w : World) :
    Calls Tryz.prog 15 #[.string s] w fun e w' => RHist s.data.toList e w' ∧ Below w.heap.size w w' := by
  have h' : ¬ (4000 : Int) < (s.size : Int) := by omega
  have hne' : (s.toList == [45]) = false := by rw [toList_data]; simpa using hne
  obtain ⟨ws, hws⟩ : ∃ ws, spl 44 s.data.toList = ws := ⟨_, rfl⟩
  have HR : Hid (readH s.data.toList = readWs 0 ws) := by
    show _ = _
    unfold readH; rw [if_neg hne, hws]
  have hwl : ws.length ≤ 4001 := by rw [← hws]; have := spl_many 44 s.data.toList; simp at this; omega
  have HW : Hid (∀ x ∈ ws, x.length ≤ 4000) := by show ∀ x ∈ ws, x.length ≤ 4000; rw [← hws]; intro x hx; have := spl_len 44 _ x hx; simp at this; omega
  have HC := hide (cutAll_ok s 44 (by omega))
  rw [hws] at HC
  obtain ⟨L, hL⟩ : ∃ L, s.data.toList = L := ⟨_, rfl⟩
  rw [hL] at HR ⊢
  have hA : Below w.heap.size w (w.alloc (.cells #[.int .i64 0, .int .i64 0] 25)) := (Below.refl _ _).alloc (Nat.le_refl _) _
  have HA := hide hA
  have HO := hide (res_two (w := w))
  obtain ⟨n, hn⟩ : ∃ n, ws.length = n := ⟨_, rfl⟩
  have Hn := hide hn
  rw [hn] at hwl
  clear hws hne hs hA hL hn
  obtain ⟨i0, hi0, hz0, hz1, hz2⟩ := info_parts Tryz.infoENF
  go_enter Tryz.func15, Tryz.ntmps15
  go_wp2_with fail
  refine (unhide HC _).mono ?_
  rintro e w1 ⟨v, rfl, hv, hB1⟩
  obtain ⟨ad, cap, rfl, HV⟩ := strs_cells hv
  rw [unhide Hn] at HV ⊢
  have HO1 := hide ((unhide HO).below hB1)
  have HB1 := hide ((unhide HA).trans (hB1.mono (unhide HA).size))
  clear hv hB1 HC
  go_wp2_with fail
  go_loopw [5, 6] (fun o i wr => ∃ (k : Nat) (ys : List Ent), k ≤ n ∧ i = .int .i64 k ∧ Hid (rdInv ws k ys) ∧ Hid (wr.ownsRow w1.heap.size 48 4 o k (ys.map Ent.cells).flatten) ∧ Hid (Below w1.heap.size w1 wr)) (fun _ i _ => n - (intOf i).toNat)
  case atStart => exact ⟨0, [], by omega, rfl, ⟨rfl, rfl⟩, World.ownsRow_nil _ _ _ _, Below.refl _ _⟩
  case round =>
    obtain ⟨k, ys, hk, rfl, Hinv, HRow, HB⟩ := hrel
    by_cases hlt : k < n
    · obtain ⟨b, off, x, rfl, hc1, hx⟩ := unhide HV k hlt
      have hlen : x.size ≤ 4000 := size_of hx (unhide HW _ (word_mem ws k (by rw [unhide Hn]; exact hlt)))
      have hB2 : Below wr.heap.size wr (wr.alloc (.cells #[.int .i64 k, .int .i64 0, .bool false, .int .i64 0] 48)) := (Below.refl _ _).alloc (Nat.le_refl _) _
      have hc := below_cell hB2 (below_cell (unhide HB) hc1)
      have HB2 := hide hB2
      have HE := hide (Own4.new wr 48 (.int .i64 k) (.int .i64 0) (.bool false) (.int .i64 0))
      have HC2 := hide (cutAll_ok x 58 (by omega))
      have HStop : Hid (readW k x.data.toList = none → readH L = none) := fun he => by
        rw [hx] at he
        exact (unhide HR).trans (rd_stop (by rw [unhide Hn]; exact hlt) he)
      have HNext : Hid (∀ e, readW k x.data.toList = some e → rdInv ws (k + 1) (ys ++ [e])) := fun e he => by
        rw [hx] at he
        exact rd_next (unhide Hinv) (by rw [unhide Hn]; exact hlt) he
      have HLen := hide (fun y hy => spl_len 58 x.data.toList y hy)
      have HPos := hide (spl_pos 58 x.data.toList)
      have HRW : Hid (∀ p, spl 58 x.data.toList = p → readW k x.data.toList = match p with
        | [a] => if a.getLast? = some 33 then (match numOf a.dropLast with | some n => some ⟨k, n, false, 0⟩ | none => none) else none
        | [a, b] => match numOf a, numOf b with
          | some n, some v => some ⟨k, n, true, v⟩
          | _, _ => none
        | _ => none) := fun p hp => by rw [← hp]; rfl
      clear hB2 hc1 hx
      go_wp2_with fail
      refine (unhide HC2 _).mono ?_
      rintro e w3 ⟨v3, rfl, hv3, hB3⟩
      obtain ⟨p, hp⟩ : ∃ p, spl 58 x.data.toList = p := ⟨_, rfl⟩
      have HRW2 := hide (unhide HRW p hp)
      rw [hp] at hv3 HLen HPos
      obtain ⟨ad3, cap3, rfl, HV3⟩ := strs_cells hv3
      have HBr3 := hide ((unhide HB2).trans (hB3.mono (unhide HB2).size))
      have HE3 := hide ((unhide HE).below hB3)
      obtain ⟨b3, off3, a, rfl, ca, ha⟩ := unhide HV3 0 (unhide HPos)
      have hza : a.size ≤ 4000 := Nat.le_trans (size_of ha (unhide HLen _ (word_mem p 0 (unhide HPos)))) (by simpa using hlen)
      have na : (⟨wr.heap.size, 2, none⟩ : Addr) ≠ ⟨b3, off3, none⟩ := fun e => by
        have h := (unhide HE3).c2
        rw [e, show (⟨b3, off3, none⟩ : Addr) = ⟨b3, off3 + 0, none⟩ from rfl, ca] at h
        cases h
      rw [Nat.add_zero] at ca
      clear hv3 hB3 hc HC2 HRW HE HB2
      have Hha := hide ha
      have HRes : Hid (∀ (W : World), Below wr.heap.size wr W → Own2 W w.heap.size (.int .i64 0) (.int .i64 0) ∧ Below w.heap.size w W) := fun W hBW => by
        have h1 := (unhide HB).trans (hBW.mono (unhide HB).size)
        exact ⟨(unhide HO1).below h1, (unhide HB1).trans (h1.mono (unhide HB1).size)⟩
      match p, hp with
      | [], _ => exact absurd (unhide HPos) (by simp)
      | [a'], hp1 =>
        have ea : a.data.toList = a' := unhide Hha
        by_cases h0 : a.size = 0
        · have e0 : a = ⟨#[]⟩ := by
            obtain ⟨⟨q⟩⟩ := a
            have : q.length = 0 := h0
            rw [List.eq_nil_of_length_eq_zero this]
          subst e0
          have HN : Hid (readH L = none) := unhide HStop (by rw [unhide HRW2, ← ea]; rfl)
          clear HStop HNext HRW2 ha h0 ea
          obtain ⟨k0, k1, k2, k3, l0, l1, l2, l3⟩ := unhide HE3
          have hl1 : (List.length [a']) = 1 := rfl
          rw [hl1]
          go_wp2_with fail
          obtain ⟨W4, hW4⟩ : ∃ W4, W4 = w3.setCell ⟨wr.heap.size, 2, none⟩ (.bool false) := ⟨_, rfl⟩
          have HBr4 : Hid (Below wr.heap.size wr W4) := by rw [hW4]; exact (unhide HBr3).setCell (p := ⟨wr.heap.size, 2, none⟩) (Nat.le_refl _) _
          rw [← hW4]
          clear hW4 k0 k1 k2 k3 l0 l1 l2 l3
          refine (bare_ok 1 _).mono ?_
          rintro e w5 ⟨rfl, hB5⟩
          obtain ⟨⟨q0, q1, t0, t1⟩, hBw⟩ := unhide HRes w5 ((unhide HBr4).trans (hB5.mono (unhide HBr4).size))
          have HBw := hide hBw
          clear hBw hB5
          go_wp2
          exact bodyPost_ret (v := .tuple #[.slice none 0 0, .agg #[.int .i64 1, .int .i64 (-1)]]) (by simp [results, Tryz.results15, go_sem, *]) rfl ⟨Or.inl ⟨unhide HN, rfl⟩, below_res (unhide HBw) _ _⟩
        · have h1 : 0 < a.size := by omega
          have h1' : (0 : Int) < (a.size : Int) := by omega
          have hl1 : (List.length [a']) = 1 := rfl
          rw [hl1]
          obtain ⟨k0, k1, k2, k3, l0, l1, l2, l3⟩ := unhide HE3
          have hb : a.size - 1 < a.size := by omega
          have eL := last_byte a h1
          have eX := ext_drop a
          rw [ea] at eL eX
          have hzx : (a.extract 0 (a.size - 1)).size ≤ 4000 := by simp; omega
          have HNu := hide (number_ok (a.extract 0 (a.size - 1)) (by omega))
          rw [eX] at HNu
          have HEx := hide eX
          have HRW3 : Hid (readW k x.data.toList = if a'.getLast? = some 33 then (match numOf a'.dropLast with | some n => some ⟨k, n, false, 0⟩ | none => none) else none) := unhide HRW2
          clear HRW2 eX h0 ea
          by_cases c1 : a[a.size - 1] = 33
          · have c1' : ((a[a.size - 1].toNat : Int) != 33) = false := by rw [c1]; rfl
            rw [eL, c1, if_pos rfl] at HRW3
            by_cases c2 : a'.dropLast = []
            · have c2' : (a.extract 0 (a.size - 1)).toList.isEmpty = true := by rw [toList_data, unhide HEx, c2]; rfl
              have HN : Hid (readH L = none) := unhide HStop (by rw [unhide HRW3, c2]; rfl)
              clear HStop HNext HRW3 ha eL
              go_wp2_with fail
              obtain ⟨W4, hW4⟩ : ∃ W4, W4 = w3.setCell ⟨wr.heap.size, 2, none⟩ (.bool false) := ⟨_, rfl⟩
              have HBr4 : Hid (Below wr.heap.size wr W4) := by rw [hW4]; exact (unhide HBr3).setCell (p := ⟨wr.heap.size, 2, none⟩) (Nat.le_refl _) _
              rw [← hW4]
              clear hW4 k0 k1 k2 k3 l0 l1 l2 l3
              refine (bare_ok 1 _).mono ?_
              rintro e w5 ⟨rfl, hB5⟩
              obtain ⟨⟨q0, q1, t0, t1⟩, hBw⟩ := unhide HRes w5 ((unhide HBr4).trans (hB5.mono (unhide HBr4).size))
              have HBw := hide hBw
              clear hBw hB5
              go_wp2
              exact bodyPost_ret (v := .tuple #[.slice none 0 0, .agg #[.int .i64 1, .int .i64 (-1)]]) (by simp [results, Tryz.results15, go_sem, *]) rfl ⟨Or.inl ⟨unhide HN, rfl⟩, below_res (unhide HBw) _ _⟩
            · have c2' : (a.extract 0 (a.size - 1)).toList.isEmpty = false := by
                rw [toList_data, unhide HEx]
                cases hd : a'.dropLast with
                | nil => exact absurd hd c2
                | cons _ _ => rfl
              cases hnu : numOf a'.dropLast with
              | none =>
                rw [hnu] at HNu HRW3
                have HN : Hid (readH L = none) := unhide HStop (unhide HRW3)
                clear HStop HNext HRW3 ha eL hnu
                go_wp2_with fail
                obtain ⟨W4, hW4⟩ : ∃ W4, W4 = w3.setCell ⟨wr.heap.size, 2, none⟩ (.bool false) := ⟨_, rfl⟩
                have HBr4 : Hid (Below wr.heap.size wr W4) := by rw [hW4]; exact (unhide HBr3).setCell (p := ⟨wr.heap.size, 2, none⟩) (Nat.le_refl _) _
                have HE4 : Hid (Own4 W4 wr.heap.size (.int .i64 k) (.int .i64 0) (.bool false) (.int .i64 0)) := by rw [hW4]; exact (unhide HE3).put2 _
                rw [← hW4]
                clear hW4 k0 k1 k2 k3 l0 l1 l2 l3
                refine (unhide HNu _).mono ?_
                rintro e w5 ⟨rfl, rfl⟩
                simp only [numV, Option.getD, Option.isSome]
                obtain ⟨k0, k1, k2, k3, l0, l1, l2, l3⟩ := unhide HE4
                go_wp2_with fail
                refine (bare_ok 1 _).mono ?_
                rintro e w6 ⟨rfl, hB5⟩
                obtain ⟨⟨q0, q1, t0, t1⟩, hBw⟩ := unhide HRes w6 ((unhide HBr4).trans (hB5.mono (unhide HBr4).size))
                have HBw := hide hBw
                clear hBw hB5 k0 k1 k2 k3 l0 l1 l2 l3
                go_wp2
                exact bodyPost_ret (v := .tuple #[.slice none 0 0, .agg #[.int .i64 1, .int .i64 (-1)]]) (by simp [results, Tryz.results15, go_sem, *]) rfl ⟨Or.inl ⟨unhide HN, rfl⟩, below_res (unhide HBw) _ _⟩
              | some z =>
                rw [hnu] at HNu HRW3
                have HNx := hide (unhide HNext _ (unhide HRW3))
                clear HStop HNext HRW3 ha eL hnu
                go_wp2_with fail
                obtain ⟨W4, hW4⟩ : ∃ W4, W4 = w3.setCell ⟨wr.heap.size, 2, none⟩ (.bool false) := ⟨_, rfl⟩
                have HBr4 : Hid (Below wr.heap.size wr W4) := by rw [hW4]; exact (unhide HBr3).setCell (p := ⟨wr.heap.size, 2, none⟩) (Nat.le_refl _) _
                have HE4 : Hid (Own4 W4 wr.heap.size (.int .i64 k) (.int .i64 0) (.bool false) (.int .i64 0)) := by rw [hW4]; exact (unhide HE3).put2 _
                rw [← hW4]
                clear hW4 k0 k1 k2 k3 l0 l1 l2 l3
                refine (unhide HNu _).mono ?_
                rintro e w5 ⟨rfl, rfl⟩
                simp only [numV, Option.getD, Option.isSome]
                obtain ⟨k0, k1, k2, k3, l0, l1, l2, l3⟩ := unhide HE4
                have HBr6 : Hid (Below wr.heap.size wr ((w5.setCell ⟨wr.heap.size, 1, none⟩ (.int .i64 z)).setCell ⟨wr.heap.size, 3, none⟩ (.int .i64 0))) := ((unhide HBr4).setCell (p := ⟨wr.heap.size, 1, none⟩) (Nat.le_refl _) _).setCell (p := ⟨wr.heap.size, 3, none⟩) (Nat.le_refl _) _
                have HRow6 := hide (owns_below (unhide HRow) (unhide HBr6))
                have HB6 := hide ((unhide HB).trans ((unhide HBr6).mono (unhide HB).size))
                have hs6 := (unhide HB6).size
                go_wp2_with (at_builtin; refine wpList_append_lies _ rfl _ _ 22 rfl w1.heap.size 48 i0 _ 4 32 Tryz.underlying22 hi0 hz0 hz1 hz2 rfl (by omega) u5 k _ rfl ((unhide HRow6).alloc _) ⟨_, 0, none⟩ 1 1 [.int .i64 (k : Int), .int .i64 z, .bool false, .int .i64 0] rfl rfl (World.news_of_block (heap_new_two _ _ _ _ _ _)) (by simp [Value.oneCell']) (by omega) (by unfold maxLen; omega) (by omega) (by have := hs6; simp at this ⊢; omega) _ rfl ?_; intro g1 cap1 w7 hown1 hgrow1 hat1 hlt1; have HOwn := hide hown1; have HGr := hide hgrow1; clear hown1 hgrow1 hat1 hlt1)
                go_roundw
                case rel => exact ⟨k + 1, _, by omega, by go_num, unhide HNx, by rw [cells_snoc]; exact unhide HOwn, below_app (unhide HB6) (unhide HRow6) (unhide HGr) (unhide HB6).size⟩
                case measure => simp [intOf]; omega
          · have c1' : ((a[a.size - 1].toNat : Int) != 33) = true := by
              simp only [bne_iff_ne, ne_eq]
              intro e
              exact c1 (UInt8.toNat_inj.1 (by simpa using (by omega : a[a.size - 1].toNat = 33)))
            have HN : Hid (readH L = none) := unhide HStop (by rw [unhide HRW3, if_neg (by rw [eL]; exact fun e => c1 (Option.some.inj e))])
            clear HStop HNext HRW3 ha eL
            go_wp2_with fail
            obtain ⟨W4, hW4⟩ : ∃ W4, W4 = w3.setCell ⟨wr.heap.size, 2, none⟩ (.bool false) := ⟨_, rfl⟩
            have HBr4 : Hid (Below wr.heap.size wr W4) := by rw [hW4]; exact (unhide HBr3).setCell (p := ⟨wr.heap.size, 2, none⟩) (Nat.le_refl _) _
            rw [← hW4]
            clear hW4 k0 k1 k2 k3 l0 l1 l2 l3
            refine (bare_ok 1 _).mono ?_
            rintro e w5 ⟨rfl, hB5⟩
            obtain ⟨⟨q0, q1, t0, t1⟩, hBw⟩ := unhide HRes w5 ((unhide HBr4).trans (hB5.mono (unhide HBr4).size))
            have HBw := hide hBw
            clear hBw hB5
            go_wp2
            exact bodyPost_ret (v := .tuple #[.slice none 0 0, .agg #[.int .i64 1, .int .i64 (-1)]]) (by simp [results, Tryz.results15, go_sem, *]) rfl ⟨Or.inl ⟨unhide HN, rfl⟩, below_res (unhide HBw) _ _⟩
      | [a', b'], hp2 =>
        have ea : a.data.toList = a' := unhide Hha
        obtain ⟨b4, off4, bb, e4, cb, hb⟩ := unhide HV3 1 (show 1 < 2 by omega)
        cases e4
        have eb : bb.data.toList = b' := hb
        have hzb : bb.size ≤ 4000 := Nat.le_trans (size_of hb (unhide HLen _ (word_mem [a', b'] 1 (show 1 < 2 by omega)))) (by simpa using hlen)
        have nb : (⟨wr.heap.size, 2, none⟩ : Addr) ≠ ⟨b3, off3 + 1, none⟩ := fun e => by
          have h := (unhide HE3).c2
          rw [e, cb] at h
          cases h
        have hl1 : (List.length [a', b']) = 2 := rfl
        rw [hl1]
        have HRW3 : Hid (readW k x.data.toList = match numOf a', numOf b' with
          | some n, some v => some ⟨k, n, true, v⟩
          | _, _ => none) := unhide HRW2
        by_cases h0 : a.size = 0
        · have e0 : a = ⟨#[]⟩ := by
            obtain ⟨⟨q⟩⟩ := a
            have : q.length = 0 := h0
            rw [List.eq_nil_of_length_eq_zero this]
          subst e0
          have HN : Hid (readH L = none) := unhide HStop (by rw [unhide HRW3, ← ea]; rfl)
          clear HStop HNext HRW2 HRW3 ha h0 ea hb eb
          obtain ⟨k0, k1, k2, k3, l0, l1, l2, l3⟩ := unhide HE3
          go_wp2_with fail
          obtain ⟨W4, hW4⟩ : ∃ W4, W4 = w3.setCell ⟨wr.heap.size, 2, none⟩ (.bool true) := ⟨_, rfl⟩
          have HBr4 : Hid (Below wr.heap.size wr W4) := by rw [hW4]; exact (unhide HBr3).setCell (p := ⟨wr.heap.size, 2, none⟩) (Nat.le_refl _) _
          rw [← hW4]
          clear hW4 k0 k1 k2 k3 l0 l1 l2 l3
          refine (bare_ok 1 _).mono ?_
          rintro e w5 ⟨rfl, hB5⟩
          obtain ⟨⟨q0, q1, t0, t1⟩, hBw⟩ := unhide HRes w5 ((unhide HBr4).trans (hB5.mono (unhide HBr4).size))
          have HBw := hide hBw
          clear hBw hB5
          go_wp2
          exact bodyPost_ret (v := .tuple #[.slice none 0 0, .agg #[.int .i64 1, .int .i64 (-1)]]) (by simp [results, Tryz.results15, go_sem, *]) rfl ⟨Or.inl ⟨unhide HN, rfl⟩, below_res (unhide HBw) _ _⟩
        · have c2' : a.toList.isEmpty = false := by
            rw [toList_data]
            cases hd : a.data.toList with
            | nil => exact absurd (by have := congrArg List.length hd; simpa using this) h0
            | cons _ _ => rfl
          have HNu := hide (number_ok a (by omega))
          have HNv := hide (number_ok bb (by omega))
          rw [ea] at HNu
          rw [eb] at HNv
          clear HRW2 ha h0 ea hb eb
          obtain ⟨k0, k1, k2, k3, l0, l1, l2, l3⟩ := unhide HE3
          cases hnu : numOf a' with
          | none =>
            rw [hnu] at HNu HRW3
            have HN : Hid (readH L = none) := unhide HStop (by rw [unhide HRW3])
            obtain ⟨nv, bv, hnv⟩ : ∃ (nv : Int) (bv : Bool), numV (numOf b') = .tuple #[.int .i64 nv, .bool bv] := ⟨_, _, rfl⟩
            rw [hnv] at HNv
            clear HStop HNext HRW3 hnu hnv
            go_wp2_with fail
            obtain ⟨W4, hW4⟩ : ∃ W4, W4 = w3.setCell ⟨wr.heap.size, 2, none⟩ (.bool true) := ⟨_, rfl⟩
            have HBr4 : Hid (Below wr.heap.size wr W4) := by rw [hW4]; exact (unhide HBr3).setCell (p := ⟨wr.heap.size, 2, none⟩) (Nat.le_refl _) _
            have HE4 : Hid (Own4 W4 wr.heap.size (.int .i64 k) (.int .i64 0) (.bool true) (.int .i64 0)) := by rw [hW4]; exact (unhide HE3).put2 _
            have cb4 : W4.cell? ⟨b3, off3 + 1, none⟩ = some (.string bb) := by rw [hW4, World.cell?_setCell_other _ _ _ _ nb]; exact cb
            rw [← hW4]
            clear hW4 k0 k1 k2 k3 l0 l1 l2 l3 cb nb ca na
            refine (unhide HNu _).mono ?_
            rintro e w5 ⟨rfl, rfl⟩
            simp only [numV, Option.getD, Option.isSome]
            obtain ⟨k0, k1, k2, k3, l0, l1, l2, l3⟩ := unhide HE4
            go_wp2_with fail
            refine (unhide HNv _).mono ?_
            rintro e w5 ⟨rfl, rfl⟩
            go_wp2_with fail
            refine (bare_ok 1 _).mono ?_
            rintro e w6 ⟨rfl, hB5⟩
            obtain ⟨⟨q0, q1, t0, t1⟩, hBw⟩ := unhide HRes w6 ((unhide HBr4).trans (hB5.mono (unhide HBr4).size))
            have HBw := hide hBw
            clear hBw hB5 k0 k1 k2 k3 l0 l1 l2 l3
            go_wp2
            exact bodyPost_ret (v := .tuple #[.slice none 0 0, .agg #[.int .i64 1, .int .i64 (-1)]]) (by simp [results, Tryz.results15, go_sem, *]) rfl ⟨Or.inl ⟨unhide HN, rfl⟩, below_res (unhide HBw) _ _⟩
          | some z =>
            rw [hnu] at HNu HRW3
            cases hnv : numOf b' with
            | none =>
              rw [hnv] at HNv HRW3
              have HN : Hid (readH L = none) := unhide HStop (by rw [unhide HRW3])
              clear HStop HNext HRW3 hnu hnv
              go_wp2_with fail
              obtain ⟨W4, hW4⟩ : ∃ W4, W4 = w3.setCell ⟨wr.heap.size, 2, none⟩ (.bool true) := ⟨_, rfl⟩
              have HBr4 : Hid (Below wr.heap.size wr W4) := by rw [hW4]; exact (unhide HBr3).setCell (p := ⟨wr.heap.size, 2, none⟩) (Nat.le_refl _) _
              have HE4 : Hid (Own4 W4 wr.heap.size (.int .i64 k) (.int .i64 0) (.bool true) (.int .i64 0)) := by rw [hW4]; exact (unhide HE3).put2 _
              have cb4 : W4.cell? ⟨b3, off3 + 1, none⟩ = some (.string bb) := by rw [hW4, World.cell?_setCell_other _ _ _ _ nb]; exact cb
              rw [← hW4]
              clear hW4 k0 k1 k2 k3 l0 l1 l2 l3 cb nb ca na
              refine (unhide HNu _).mono ?_
              rintro e w5 ⟨rfl, rfl⟩
              simp only [numV, Option.getD, Option.isSome]
              obtain ⟨k0, k1, k2, k3, l0, l1, l2, l3⟩ := unhide HE4
              go_wp2_with fail
              refine (unhide HNv _).mono ?_
              rintro e w5 ⟨rfl, rfl⟩
              simp only [numV, Option.getD, Option.isSome]
              go_wp2_with fail
              refine (bare_ok 1 _).mono ?_
              rintro e w6 ⟨rfl, hB5⟩
              obtain ⟨⟨q0, q1, t0, t1⟩, hBw⟩ := unhide HRes w6 ((unhide HBr4).trans (hB5.mono (unhide HBr4).size))
              have HBw := hide hBw
              clear hBw hB5 k0 k1 k2 k3 l0 l1 l2 l3
              go_wp2
              exact bodyPost_ret (v := .tuple #[.slice none 0 0, .agg #[.int .i64 1, .int .i64 (-1)]]) (by simp [results, Tryz.results15, go_sem, *]) rfl ⟨Or.inl ⟨unhide HN, rfl⟩, below_res (unhide HBw) _ _⟩
            | some zv =>
              rw [hnv] at HNv HRW3
              have HNx := hide (unhide HNext _ (unhide HRW3))
              clear HStop HNext HRW3 hnu hnv
              go_wp2_with fail
              obtain ⟨W4, hW4⟩ : ∃ W4, W4 = w3.setCell ⟨wr.heap.size, 2, none⟩ (.bool true) := ⟨_, rfl⟩
              have HBr4 : Hid (Below wr.heap.size wr W4) := by rw [hW4]; exact (unhide HBr3).setCell (p := ⟨wr.heap.size, 2, none⟩) (Nat.le_refl _) _
              have HE4 : Hid (Own4 W4 wr.heap.size (.int .i64 k) (.int .i64 0) (.bool true) (.int .i64 0)) := by rw [hW4]; exact (unhide HE3).put2 _
              have cb4 : W4.cell? ⟨b3, off3 + 1, none⟩ = some (.string bb) := by rw [hW4, World.cell?_setCell_other _ _ _ _ nb]; exact cb
              rw [← hW4]
              clear hW4 k0 k1 k2 k3 l0 l1 l2 l3 cb nb ca na
              refine (unhide HNu _).mono ?_
              rintro e w5 ⟨rfl, rfl⟩
              simp only [numV, Option.getD, Option.isSome]
              obtain ⟨k0, k1, k2, k3, l0, l1, l2, l3⟩ := unhide HE4
              go_wp2_with fail
              refine (unhide HNv _).mono ?_
              rintro e w5 ⟨rfl, rfl⟩
              simp only [numV, Option.getD, Option.isSome]
              have HBr6 : Hid (Below wr.heap.size wr ((w5.setCell ⟨wr.heap.size, 1, none⟩ (.int .i64 z)).setCell ⟨wr.heap.size, 3, none⟩ (.int .i64 zv))) := ((unhide HBr4).setCell (p := ⟨wr.heap.size, 1, none⟩) (Nat.le_refl _) _).setCell (p := ⟨wr.heap.size, 3, none⟩) (Nat.le_refl _) _
              have HRow6 := hide (owns_below (unhide HRow) (unhide HBr6))
              have HB6 := hide ((unhide HB).trans ((unhide HBr6).mono (unhide HB).size))
              have hs6 := (unhide HB6).size
              go_wp2_with (at_builtin; refine wpList_append_lies _ rfl _ _ 22 rfl w1.heap.size 48 i0 _ 4 32 Tryz.underlying22 hi0 hz0 hz1 hz2 rfl (by omega) u5 k _ rfl ((unhide HRow6).alloc _) ⟨_, 0, none⟩ 1 1 [.int .i64 (k : Int), .int .i64 z, .bool true, .int .i64 zv] rfl rfl (World.news_of_block (heap_new_two _ _ _ _ _ _)) (by simp [Value.oneCell']) (by omega) (by unfold maxLen; omega) (by omega) (by have := hs6; simp at this ⊢; omega) _ rfl ?_; intro g1 cap1 w7 hown1 hgrow1 hat1 hlt1; have HOwn := hide hown1; have HGr := hide hgrow1; clear hown1 hgrow1 hat1 hlt1)
              go_roundw
              case rel => exact ⟨k + 1, _, by omega, by go_num, unhide HNx, by rw [cells_snoc]; exact unhide HOwn, below_app (unhide HB6) (unhide HRow6) (unhide HGr) (unhide HB6).size⟩
              case measure => simp [intOf]; omega
      | a' :: b' :: c' :: r', hp3 =>
        have hm2 : ((((a' :: b' :: c' :: r').length : Nat) : Int) == 2) = false := by simp; omega
        have hm1 : ((((a' :: b' :: c' :: r').length : Nat) : Int) == 1) = false := by simp; omega
        have hm3 : (2 : Int) < (((a' :: b' :: c' :: r').length : Nat) : Int) := by simp; omega
        have hm0 : (0 : Int) < (((a' :: b' :: c' :: r').length : Nat) : Int) := by omega
        have HN : Hid (readH L = none) := unhide HStop (unhide HRW2)
        generalize (a' :: b' :: c' :: r').length = mm at *
        clear HStop HNext HRW2 ha
        obtain ⟨k0, k1, k2, k3, l0, l1, l2, l3⟩ := unhide HE3
        go_wp2_with fail
        obtain ⟨W4, hW4⟩ : ∃ W4, W4 = w3.setCell ⟨wr.heap.size, 2, none⟩ (.bool false) := ⟨_, rfl⟩
        have HBr4 : Hid (Below wr.heap.size wr W4) := by rw [hW4]; exact (unhide HBr3).setCell (p := ⟨wr.heap.size, 2, none⟩) (Nat.le_refl _) _
        rw [← hW4]
        clear hW4 k0 k1 k2 k3 l0 l1 l2 l3
        refine (bare_ok 1 _).mono ?_
        rintro e w5 ⟨rfl, hB5⟩
        obtain ⟨⟨q0, q1, t0, t1⟩, hBw⟩ := unhide HRes w5 ((unhide HBr4).trans (hB5.mono (unhide HBr4).size))
        have HBw := hide hBw
        clear hBw hB5
        go_wp2
        exact bodyPost_ret (v := .tuple #[.slice none 0 0, .agg #[.int .i64 1, .int .i64 (-1)]]) (by simp [results, Tryz.results15, go_sem, *]) rfl ⟨Or.inl ⟨unhide HN, rfl⟩, below_res (unhide HBw) _ _⟩
    · have hkn : k = n := by omega
      subst hkn
      have HIn : Hid (EntsIn wr u5 ys) := RecsIn.of_owns (base := w1.heap.size) (e := 48) (size := 4) (xs := ys.map Ent.cells) (fun y hy => by
        obtain ⟨z, _, rfl⟩ := List.mem_map.1 hy
        rfl) (by rw [List.length_map, (unhide Hinv).2]; exact unhide HRow)
      have hlt1 : w.heap.size < w1.heap.size := cell_lt (unhide HO1).c0
      have HGe := hide (own_block (unhide HRow) hlt1)
      have HRd : Hid (readH L = some ys) := (unhide HR).trans (rd_end (by rw [unhide Hn]; exact unhide Hinv))
      have HRes : Hid (∀ (W : World), Below wr.heap.size wr W → Own2 W w.heap.size (.int .i64 0) (.int .i64 0) ∧ Below w.heap.size w W) := fun W hBW => by
        have h1 := (unhide HB).trans (hBW.mono (unhide HB).size)
        exact ⟨(unhide HO1).below h1, (unhide HB1).trans (h1.mono (unhide HB1).size)⟩
      by_cases hok : histOk ys
      · have HF := hide (histFault_ok u5 ys wr (unhide HIn) hok)
        have Hok := hide hok
        clear hok
        go_wp2_with fail
        refine (unhide HF).mono ?_
        rintro e w2 ⟨rfl, hB2⟩
        have HIn2 := hide ((unhide HIn).below hB2)
        obtain ⟨⟨_, _, _, _⟩, hBw0⟩ := unhide HRes w2 hB2
        have HBw0 := hide hBw0
        have hB3 : Below wr.heap.size wr (w2.alloc (.cells #[.int .i64 0, .int .i64 (-1)] 25)) := hB2.alloc hB2.size _
        obtain ⟨⟨i0', i1, j0, j1⟩, hBw⟩ := unhide HRes _ hB3
        have HBw := hide hBw
        have hlt0 : w.heap.size < w2.heap.size := by
          obtain ⟨⟨z0, _, _, _⟩, _⟩ := unhide HRes w2 hB2
          exact cell_lt z0
        have HLt := hide hlt0
        have d1 : ¬ w2.heap.size = w.heap.size := by omega
        have d2 : ¬ w.heap.size = w2.heap.size := by omega
        clear hBw hB2 hB3 hBw0
        go_wp2_with fail
        go_region
        all_goals (try go_wp2)
        exact bodyPost_ret (v := .tuple #[u5, .agg #[.int .i64 0, .int .i64 (-1)]]) (by simp [results, Tryz.results15, go_sem, *]) rfl ⟨Or.inr ⟨ys, unhide HRd, Or.inl ⟨unhide Hok, u5, rfl, ents_res (unhide HIn2) (unhide HGe) _⟩⟩, ((below_res (unhide HBw0) _ _).alloc (by have := unhide HLt; simp; omega) _).drew⟩
      · obtain ⟨c, q, hc, hf, hfit⟩ := histFault_no ys hok
        have HF := hide (hf u5 wr (unhide HIn))
        have Hok := hide hok
        have Hfit : Hid (HFits ys c q) := hfit
        have q1 : ¬ c = 0 := by omega
        clear hok hf hfit
        go_wp2_with fail
        refine (unhide HF).mono ?_
        rintro e w2 ⟨rfl, hB2⟩
        obtain ⟨⟨_, _, _, _⟩, hBw0⟩ := unhide HRes w2 hB2
        have HBw0 := hide hBw0
        have hB3 : Below wr.heap.size wr (w2.alloc (.cells #[.int .i64 c, .int .i64 q] 25)) := hB2.alloc hB2.size _
        obtain ⟨⟨i0', i1, j0, j1⟩, hBw⟩ := unhide HRes _ hB3
        have HBw := hide hBw
        have hlt0 : w.heap.size < w2.heap.size := by
          obtain ⟨⟨z0, _, _, _⟩, _⟩ := unhide HRes w2 hB2
          exact cell_lt z0
        have HLt := hide hlt0
        have d1 : ¬ w2.heap.size = w.heap.size := by omega
        have d2 : ¬ w.heap.size = w2.heap.size := by omega
        clear hBw hB2 hB3 hBw0
        go_wp2_with fail
        go_region
        all_goals (try go_wp2)
        exact bodyPost_ret (v := .tuple #[.slice none 0 0, .agg #[.int .i64 c, .int .i64 q]]) (by simp [results, Tryz.results15, go_sem, *]) rfl ⟨Or.inr ⟨ys, unhide HRd, Or.inr ⟨unhide Hok, c, q, hc, rfl, unhide Hfit⟩⟩, ((below_res (unhide HBw0) _ _).alloc (by have := unhide HLt; simp; omega) _).drew⟩
theorem readHist_ok (s : ByteArray) (hs : s.size ≤ 4000) (w : World) :
    Calls Tryz.prog 15 #[.string s] w fun e w' => RHist s.data.toList e w' ∧ Below w.heap.size w w' := by
  by_cases h45 : s.data.toList = [45]
  · have e45 : s = ⟨#[45]⟩ := by
      obtain ⟨⟨l⟩⟩ := s
      simp at h45
      rw [h45]
    subst e45
    refine (readHist_dash w).mono ?_
    rintro e w' ⟨rfl, hB⟩
    exact ⟨Or.inr ⟨[], rfl, Or.inl ⟨⟨by decide, fun i hi => absurd hi (by simp)⟩, _, rfl, ⟨_, _, rfl, Nat.zero_le _, fun k hk => absurd hk (by simp)⟩⟩⟩, hB⟩
  · exact readHist_walk s hs h45 w
end Go.Proofs.YtglhapkclpllfadGreatDoor
