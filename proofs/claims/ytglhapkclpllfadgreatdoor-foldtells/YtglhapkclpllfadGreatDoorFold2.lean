/-
  Contracts of package fold: wordOf, Text, whatever the history is.
-/
import Derived.Test.YtglhapkclpllfadGreatDoorFold1
import Derived.Test.YtglhapkclpllfadGreatDoorGf
import Derived.Test.YtglhapkclpllfadGreatDoorGo
namespace Go.Proofs.YtglhapkclpllfadGreatDoor
open Go.RowKit Go.Shelf

theorem owns_below0 {w w' : World} {B : Nat} {e : TypeId} {s : Nat} {v : Value} {n : Nat} {xs : List Value} (h : w.ownsRow B e s v n xs) (hB : Below w.heap.size w w') : w'.ownsRow B e s v n xs := by
  refine ⟨h.1, ?_⟩
  rcases h.2 with h | ⟨g, cap, cur, hv, hb, hg, r⟩
  · exact Or.inl h
  · exact Or.inr ⟨g, cap, cur, hv, hb, below_row hB hg, r⟩
theorem itoa_fold (n : Int) (h0 : -9223372036854775808 ≤ n) (h1 : n ≤ 9223372036854775807) (w : World) (L : LibOk w) : Calls Tryz.prog 30 #[.int .i64 n] w fun r w' => r = .returned (.string ⟨(Lib.itoa n).toArray⟩) ∧ Below w.heap.size w w' := by
  refine (Tryz.strconv_Itoa n h0 h1 w L.pow).mono ?_
  rintro r w' ⟨rfl, k, os, hw⟩
  exact ⟨rfl, by rw [hw]; exact Lib.below_grow _ _ (Nat.le_refl _) _ _⟩
theorem bytes_same {a b : ByteArray} (h : a.data.toList = b.data.toList) : a = b := by
  obtain ⟨⟨a⟩⟩ := a
  obtain ⟨⟨b⟩⟩ := b
  simp at h
  rw [h]
theorem itoa_size {n : Int} (h0 : -9223372036854775808 ≤ n) (h1 : n ≤ 9223372036854775807) : (ByteArray.mk (Lib.itoa n).toArray).size ≤ 20 := by
  show (Lib.itoa n).toArray.size ≤ _
  rw [List.size_toArray]
  exact itoa_len n h0 h1
theorem wordE_len {e : Ent} (h0 : -9223372036854775808 ≤ e.src) (h1 : e.src ≤ 9223372036854775807) (h2 : -9223372036854775808 ≤ e.value) (h3 : e.value ≤ 9223372036854775807) : (wordE e).length ≤ 41 := by
  have a := itoa_len e.src h0 h1
  have b := itoa_len e.value h2 h3
  unfold wordE
  rw [List.length_append]
  split
  · rw [List.length_cons]; omega
  · simp; omega
theorem wordOf_ok (x : Ent) (h0 : -9223372036854775808 ≤ x.src) (h1 : x.src ≤ 9223372036854775807) (h2 : -9223372036854775808 ≤ x.value) (h3 : x.value ≤ 9223372036854775807) (w : World) (L : LibOk w) :
    Calls Tryz.prog 22 #[x.val] w fun r w' => r = .returned (.string ⟨(wordE x).toArray⟩) ∧ Below w.heap.size w w' := by
  obtain ⟨s, a, hd, v⟩ := x
  simp only at h0 h1 h2 h3
  have hb : Below w.heap.size w (w.alloc (.cells #[.int .i64 s, .int .i64 a, .bool hd, .int .i64 v] 48)) := (Below.refl _ _).alloc (Nat.le_refl _) _
  have HB := hide hb
  have HL := hide (L.below hb)
  have HO := hide (Own4.new w 48 (.int .i64 s) (.int .i64 a) (.bool hd) (.int .i64 v))
  have H1 := hide (itoa_fold a h0 h1)
  have H2 := hide (itoa_fold v h2 h3)
  have z1 := itoa_size h0 h1
  have z2 := itoa_size h2 h3
  have HW : Hid (ByteArray.mk (wordE ⟨s, a, hd, v⟩).toArray = if hd then (ByteArray.mk (Lib.itoa a).toArray ++ ⟨#[58]⟩) ++ ByteArray.mk (Lib.itoa v).toArray else ByteArray.mk (Lib.itoa a).toArray ++ ⟨#[33]⟩) := by
    apply bytes_same
    cases hd with
    | true => rw [if_pos rfl, cat_data, cat_data]; simp [wordE]
    | false => rw [if_neg (by decide), cat_data]; simp [wordE]
  unfold Ent.val
  simp only
  generalize ByteArray.mk (wordE ⟨s, a, hd, v⟩).toArray = W0 at *
  generalize ByteArray.mk (Lib.itoa a).toArray = ia at *
  generalize ByteArray.mk (Lib.itoa v).toArray = iv at *
  have p1 : ¬ (9223372036854775807 : Int) < (ia.size : Int) + 1 := by omega
  have p2 : (ia ++ ⟨#[58]⟩).size = ia.size + 1 := by rw [ByteArray.size_append]; rfl
  have p3 : ¬ (9223372036854775807 : Int) < ((ia ++ ⟨#[58]⟩).size : Int) + (iv.size : Int) := by rw [p2]; omega
  clear hb L h0 h1 h2 h3 z1 z2
  cases hd with
  | false =>
    go_enter Tryz.func22, Tryz.ntmps22
    go_wp2_with fail
    refine (unhide H1 _ (unhide HL)).mono ?_
    rintro E w2 ⟨rfl, hB⟩
    obtain ⟨c0, c1, c2, c3, _, _, _, _⟩ := (unhide HO).below hB
    have HB2 := hide ((unhide HB).trans (hB.mono (unhide HB).size))
    clear hB
    go_wp2_with fail
    go_ret
    exact ⟨by rw [unhide HW]; rfl, unhide HB2⟩
  | true =>
    go_enter Tryz.func22, Tryz.ntmps22
    go_wp2_with fail
    refine (unhide H1 _ (unhide HL)).mono ?_
    rintro E w2 ⟨rfl, hB⟩
    obtain ⟨c0, c1, c2, c3, _, _, _, _⟩ := (unhide HO).below hB
    have HL2 := hide ((unhide HL).below hB)
    have HB2 := hide ((unhide HB).trans (hB.mono (unhide HB).size))
    clear hB
    go_wp2_with fail
    refine (unhide H2 _ (unhide HL2)).mono ?_
    rintro E w3 ⟨rfl, hB⟩
    have HB3 := hide ((unhide HB2).trans (hB.mono (unhide HB2).size))
    clear hB c0 c1 c2 c3
    go_wp2_with fail
    go_ret
    exact ⟨by rw [unhide HW]; rfl, unhide HB3⟩
/-- The first k words of a history written, and the rest empty. -/
def wds (l : List Ent) (k : Nat) : List Value := (l.take k).map (fun e => Value.string ⟨(wordE e).toArray⟩) ++ List.replicate (l.length - k) (Value.string ⟨#[]⟩)
theorem wds_len (l : List Ent) (k : Nat) (h : k ≤ l.length) : (wds l k).length = l.length := by
  unfold wds
  rw [List.length_append, List.length_map, List.length_take, List.length_replicate]; omega
theorem wds_zero (l : List Ent) : wds l 0 = List.replicate l.length (Value.string ⟨#[]⟩) := by
  unfold wds; simp
theorem wds_next (l : List Ent) (k : Nat) (h : k < l.length) : (wds l k).set k (.string ⟨(wordE (l.getD k Ent.zero)).toArray⟩) = wds l (k + 1) := by
  unfold wds
  have hk : ((l.take k).map (fun e => Value.string ⟨(wordE e).toArray⟩)).length = k := by rw [List.length_map, List.length_take]; omega
  obtain ⟨m, hm⟩ : ∃ m, l.length - k = m + 1 := ⟨l.length - k - 1, by omega⟩
  rw [List.set_append_right _ _ (by omega), hk, Nat.sub_self, hm, List.replicate_succ, List.set_cons_zero, show l.length - (k + 1) = m by omega, List.take_succ_eq_append_getElem h, List.map_append, List.append_assoc, List.getD_eq_getElem?_getD, List.getElem?_eq_getElem h]
  rfl
theorem wds_at (l : List Ent) (k : Nat) (h : k < l.length) : (wds l k)[k]? = some (Value.string ⟨#[]⟩) := by
  unfold wds
  have hk : ((l.take k).map (fun e => Value.string ⟨(wordE e).toArray⟩)).length = k := by rw [List.length_map, List.length_take]; omega
  rw [List.getElem?_append_right (by omega), hk, Nat.sub_self, List.getElem?_replicate, if_pos (by omega)]
theorem wds_all (l : List Ent) : wds l l.length = (l.map fun e => ByteArray.mk (wordE e).toArray).map Value.string := by
  unfold wds
  simp
theorem words_join : ∀ (l : List Ent) (_ : ∀ e ∈ l, (wordE e).length ≤ 41), (Lib.join (l.map wordE) [44]).length ≤ 42 * l.length
  | [], _ => by simp [Lib.join_nil]
  | [e], h => by have := h e (by simp); rw [List.map_cons, List.map_nil, Lib.join_one]; simp; omega
  | e :: y :: l, h => by
    have h1 := h e (by simp)
    have ih := words_join (y :: l) (fun x hx => h x (List.mem_cons_of_mem _ hx))
    have e1 : Lib.join ((e :: y :: l).map wordE) [44] = wordE e ++ 44 :: Lib.join ((y :: l).map wordE) [44] := by simp [Lib.join, List.intercalate]
    rw [e1, List.length_append, List.length_cons]
    simp only [List.length_cons] at ih ⊢
    omega
theorem text_no (e : Nat → TypeId × Value) (v : Value) (l : List Ent) (w : World) (hv : EntsIn w v l) (h : ¬ histOk l) (S : FoSent e w) :
    Calls Tryz.prog 8 #[v] w fun r w' => ∃ ty p, r = .returned (.tuple #[.string ⟨#[]⟩, .iface ty p]) ∧ HistErr e w' l ty p ∧ Below w.heap.size w w' := by
  have HC := hide (check_no e v l w hv h S.q)
  obtain ⟨ad, cap, rfl, _⟩ := EntsIn.at hv
  clear hv h S
  go_enter Tryz.func8, Tryz.ntmps8
  go_wp2_with fail
  refine (unhide HC).mono ?_
  rintro E w2 ⟨ty, p, rfl, hE, hB⟩
  have HE := hide hE
  have HB := hide hB
  clear hE hB
  go_wp2
  go_ret2
  exact ⟨_, _, rfl, unhide HE, unhide HB⟩
theorem text_none (e : Nat → TypeId × Value) (v : Value) (w : World) (hv : EntsIn w v []) (S : FoSent e w) :
    Calls Tryz.prog 8 #[v] w fun r w' => r = .returned (.tuple #[.string ⟨#[45]⟩, .nilIface]) ∧ Below w.heap.size w w' := by
  have HC := hide (check_yes e v [] w hv ⟨by decide, fun i hi => absurd hi (by simp)⟩ S.q)
  obtain ⟨ad, cap, rfl, _⟩ := EntsIn.at hv
  clear hv S
  go_enter Tryz.func8, Tryz.ntmps8
  go_wp2_with fail
  refine (unhide HC).mono ?_
  rintro E w2 ⟨rfl, hB⟩
  have HB := hide hB
  clear hB
  go_wp2
  go_ret2
  exact ⟨rfl, unhide HB⟩
theorem Tryz.infoSTRF : (Tryz.prog.info? 9).map (fun i => (i.zero, i.size, i.bytes)) = some (some (.string ⟨#[]⟩), 1, 16) := by kernel_rfl
set_option maxRecDepth 100000 in
set_option maxHeartbeats 2000000 in
theorem text_some (e : Nat → TypeId × Value) (v : Value) (l : List Ent) (w : World) (hv : EntsIn w v l) (h : histOk l) (h0 : l.length ≠ 0) (S : FoSent e w) :
    Calls Tryz.prog 8 #[v] w fun r w' => r = .returned (.tuple #[.string ⟨(Lib.join (l.map wordE) [44]).toArray⟩, .nilIface]) ∧ Below w.heap.size w w' := by
  have HC := hide (check_yes e v l w hv h S.q)
  obtain ⟨ad, cap, rfl, hcell⟩ := EntsIn.at hv
  have HCell := hide hcell
  have HOk := hide h.2
  have h200 := h.1
  have HS := hide S
  have HJ : Hid ((Lib.join (l.map wordE) [44]).length ≤ 140737488355328) := by
    have := words_join l (fun x hx => by
      obtain ⟨i, hi, rfl⟩ := List.mem_iff_getElem.1 hx
      have h2 := ent_right (h.2 i hi)
      rw [List.getD_eq_getElem?_getD, List.getElem?_eq_getElem hi, Option.getD_some] at h2
      exact wordE_len (by omega) (by omega) (by omega) (by omega))
    show _ ≤ _
    omega
  obtain ⟨n, hn⟩ : ∃ n, l.length = n := ⟨_, rfl⟩
  have Hn := hide hn
  rw [hn] at HC HCell HOk h200 h0 ⊢
  obtain ⟨i0, hi0, hz0, hz1, hz2⟩ := info_parts Tryz.infoSTRF
  have hmk : ∀ w : World, (Instr.makeSlice 56 (.int .i64 (n : Int)) (.int .i64 (n : Int))).run Tryz.prog w = .ok (.slice (some ⟨w.heap.size, 0, none⟩) n n) (w.alloc (.cells (madeCells #[.string ⟨#[]⟩] n) 9)) := fun w => by
    have := run_make (P := Tryz.prog) (w := w) 56 9 i0 _ Tryz.underlying56 hi0 hz0 .i64 .i64 (n : Int) (n : Int) (by omega) (by omega) (by rw [hz2]; omega) (by omega)
    rw [hz1, Nat.mul_one] at this
    exact this
  have h0' : ((n : Int) == 0) = false := by simpa using h0
  clear hv h S hcell hn hi0 hz0 hz1 hz2 h0
  go_enter Tryz.func8, Tryz.ntmps8
  go_wp2_with fail
  refine (unhide HC).mono ?_
  rintro E w2 ⟨rfl, hB⟩
  have HB2 := hide (hB.alloc hB.size (.cells (madeCells #[.string ⟨#[]⟩] n) 9))
  have hs2 := hB.size
  have HR : Hid ((w2.alloc (.cells (madeCells #[.string ⟨#[]⟩] n) 9)).ownsRow w2.heap.size 9 1 (.slice (some ⟨w2.heap.size, 0, none⟩) n n) n (wds l 0)) := by
    have hr := World.ownsRow_lit (base := w2.heap.size) (e := 9) (size := 1) w2 (madeCells #[.string ⟨#[]⟩] n) n (Nat.le_refl _) (by unfold maxLen; omega) (by rw [size_madeCells, Nat.mul_one])
    rw [toList_madeCells_one] at hr
    show World.ownsRow _ _ _ _ _ _ _
    rw [wds_zero, unhide Hn]
    exact hr
  clear hB HC
  go_wp2_with fail
  generalize w2.alloc (.cells (madeCells #[.string ⟨#[]⟩] n) 9) = W2 at *
  go_loopw [21] (fun q wr => ∃ k : Nat, k ≤ n ∧ q = .int .i64 (k : Int) ∧ Hid (wr.ownsRow w2.heap.size 9 1 (.slice (some ⟨w2.heap.size, 0, none⟩) n n) n (wds l k)) ∧ Hid (Below w.heap.size w wr)) (fun q _ => n - (intOf q).toNat)
  case atStart => exact ⟨0, by omega, rfl, unhide HR, unhide HB2⟩
  case round =>
    obtain ⟨k, hk, rfl, HO, HB⟩ := hrel
    by_cases hlt : k < n
    · obtain ⟨b, off, rfl, c0, c1, c2, c3⟩ := unhide HCell k hlt
      have d0 := below_cell (unhide HB) c0
      have d1 := below_cell (unhide HB) c1
      have d2 := below_cell (unhide HB) c2
      have d3 := below_cell (unhide HB) c3
      have k0 : (0 : Int) ≤ (k : Int) := Int.natCast_nonneg _
      have k1 : (k : Int) < (n : Int) := by omega
      have hkl : k < l.length := by rw [unhide Hn]; exact hlt
      have lb := Nat.lt_of_lt_of_le (cell_lt c0) (unhide HB).size
      obtain ⟨g0, g1, g2, g3⟩ := ent_right (unhide HOk k hlt)
      have hba : ∀ o, Below wr.heap.size wr (wr.alloc o) := fun o => (Below.refl _ _).alloc (Nat.le_refl _) _
      have HW : Hid (∀ w', Below wr.heap.size wr w' → Calls Tryz.prog 22 #[(l.getD k Ent.zero).val] w' fun r w2 => r = .returned (.string ⟨(wordE (l.getD k Ent.zero)).toArray⟩) ∧ Below w'.heap.size w' w2) := fun w' hB => wordOf_ok _ (by omega) (by omega) (by omega) (by omega) w' (((unhide HS).below ((unhide HB).trans (hB.mono (unhide HB).size))).lib)
      have HNx := hide (wds_next l k hkl)
      have HAt := hide (wds_at l k hkl)
      unfold Ent.val at HW
      generalize (ByteArray.mk (wordE (l.getD k Ent.zero)).toArray) = wd at *
      generalize (l.getD k Ent.zero).slot = x0 at *
      generalize (l.getD k Ent.zero).src = x1 at *
      generalize (l.getD k Ent.zero).heard = x2 at *
      generalize (l.getD k Ent.zero).value = x3 at *
      have HA := hide (hba (.cells #[.int .i64 x0, .int .i64 x1, .bool x2, .int .i64 x3] 48))
      clear hba c0 c1 c2 c3 g0 g1 g2 g3 hkl
      go_wp2_with (go_at_call 22; refine (unhide HW _ (unhide HA)).mono ?_; rintro E w3 ⟨rfl, hB3⟩; have HBr := hide ((unhide HA).trans (hB3.mono (unhide HA).size)); have HO3 := hide (owns_below0 (unhide HO) (unhide HBr)); have t1 := ((unhide HO3).cellAt k (by omega)).trans (unhide HAt); have t2 := (unhide HO3).frozenAt k; clear hB3)
      go_roundw
      case rel => exact ⟨k + 1, by omega, by go_num, by show World.ownsRow _ _ _ _ _ _ _; rw [← unhide HNx]; exact ((unhide HO3).stored k _).1, ((unhide HB).trans ((unhide HBr).mono (unhide HB).size)).setCell hs2 _⟩
      case measure => simp [intOf]; omega
    · obtain rfl : k = n := by omega
      have HJO := hide (Tryz.strings_Join w2.heap.size 0 k (l.map fun e => ByteArray.mk (wordE e).toArray) ⟨#[44]⟩ wr (fun j z hz => by
        have hj : j < l.length := by
          have := (List.getElem?_eq_some_iff.1 hz).1
          simpa using this
        rw [Nat.zero_add, (unhide HO).cellAt j (by rw [← unhide Hn]; omega), ← unhide Hn, wds_all, List.getElem?_map, hz]; rfl) (by
          have := (unhide HO).lt w2.heap.size rfl
          exact this.2) (by have := unhide Hn; rw [List.length_map]; omega) (by have := unhide Hn; rw [List.length_map]; omega) (by
          have := unhide HJ
          rw [List.map_map]
          exact this))
      rw [List.length_map, unhide Hn, List.map_map] at HJO
      go_wp2_with fail
      refine (unhide HJO).mono ?_
      rintro E w4 ⟨rfl, hB4⟩
      have HB4 := hide ((unhide HB).trans (hB4.mono (unhide HB).size))
      clear hB4
      go_wp2
      go_ret2
      exact ⟨rfl, unhide HB4⟩
theorem text_ok' (e : Nat → TypeId × Value) (v : Value) (l : List Ent) (w : World) (hv : EntsIn w v l) (h : histOk l) (S : FoSent e w) :
    Calls Tryz.prog 8 #[v] w fun r w' => r = .returned (.tuple #[.string ⟨(histL l).toArray⟩, .nilIface]) ∧ Below w.heap.size w w' := by
  unfold histL
  by_cases h0 : l.length = 0
  · obtain rfl := List.eq_nil_of_length_eq_zero h0
    rw [if_pos h0]
    exact text_none e v w hv S
  · rw [if_neg h0]
    exact text_some e v l w hv h h0 S
end Go.Proofs.YtglhapkclpllfadGreatDoor
