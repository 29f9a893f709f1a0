/-
  The contract of the document's answer, chapter 3: ReadFrame.
-/
import Derived.Test.YtglhapkclpllfacGreatDoorRefFrame2
import Derived.Test.YtglhapkclpllfacGreatDoorRef6
namespace Go.Proofs.YtglhapkclpllfacGreatDoor
open Go.RowKit

/-- What ReadFrame answers. -/
def rfV (r : Except Nat Frm) : Value := match r with
  | .ok f => .tuple #[frmV f, .int .i64 0]
  | .error k => .tuple #[frmV zeroF, .int .i64 (k : Nat)]
/-- What the loop of ReadFrame takes of a word. -/
def oa (m : Nat) (ws : List (List UInt8)) (k : Nat) : Option Int := if k = 2 then some (m : Int) else if k = 5 then numOf (ws.getD k []) else cntOf (ws.getD k [])
theorem oa_none {ws : List (List UInt8)} {m k : Nat} (h7 : ws.length = 7) (h0 : ws.getD 0 [] = frameW) (h2 : readOf (ws.getD 2 []) = some m) (h1 : 1 ≤ k) (h6 : k ≤ 6) (h : oa m ws k = none) : wordsF ws = none := by
  rw [words_seven h7 h0, h2]
  unfold oa at h
  by_cases e2 : k = 2
  · rw [if_pos e2] at h; cases h
  rw [if_neg e2] at h
  by_cases e5 : k = 5
  · rw [if_pos e5] at h
    subst e5
    rw [h]
    cases cntOf (ws.getD 1 []) <;> cases cntOf (ws.getD 3 []) <;> cases cntOf (ws.getD 4 []) <;> rfl
  rw [if_neg e5] at h
  have hk : k = 1 ∨ k = 3 ∨ k = 4 ∨ k = 6 := by omega
  rcases hk with rfl | rfl | rfl | rfl
  · rw [h]
  · rw [h]
    cases cntOf (ws.getD 1 []) <;> rfl
  · rw [h]
    cases cntOf (ws.getD 1 []) <;> cases cntOf (ws.getD 3 []) <;> rfl
  · rw [h]
    cases cntOf (ws.getD 1 []) <;> cases cntOf (ws.getD 3 []) <;> cases cntOf (ws.getD 4 []) <;> cases numOf (ws.getD 5 []) <;> rfl
theorem oa_all {ws : List (List UInt8)} {m : Nat} {xs : List Int} (h7 : ws.length = 7) (h0 : ws.getD 0 [] = frameW) (h2 : readOf (ws.getD 2 []) = some m) (h : ∀ j, j < 6 → oa m ws (j + 1) = some (xs.getD j 0)) :
    wordsF ws = some (⟨xs.getD 0 0, xs.getD 1 0, xs.getD 2 0, xs.getD 3 0, xs.getD 4 0⟩, xs.getD 5 0) := by
  have a0 : cntOf (ws.getD 1 []) = some (xs.getD 0 0) := h 0 (by omega)
  have a1 : some (m : Int) = some (xs.getD 1 0) := h 1 (by omega)
  have a2 : cntOf (ws.getD 3 []) = some (xs.getD 2 0) := h 2 (by omega)
  have a3 : cntOf (ws.getD 4 []) = some (xs.getD 3 0) := h 3 (by omega)
  have a4 : numOf (ws.getD 5 []) = some (xs.getD 4 0) := h 4 (by omega)
  have a5 : cntOf (ws.getD 6 []) = some (xs.getD 5 0) := h 5 (by omega)
  rw [words_seven h7 h0, h2, a0, a2, a3, a4, a5, ← Option.some.inj a1]
theorem oa_two (m : Nat) (ws : List (List UInt8)) : oa m ws 2 = some (m : Int) := rfl
theorem oa_num {ws : List (List UInt8)} {m k : Nat} {n : Int} (h2 : k ≠ 2) (h : numOf (ws.getD k []) = some n) (hs : 0 ≤ n ∨ k = 5) : oa m ws k = some n := by
  unfold oa
  rw [if_neg h2]
  by_cases h5 : k = 5
  · rw [if_pos h5, h]
  · rw [if_neg h5]
    unfold cntOf
    rw [h]
    simp only
    rw [if_neg (by omega)]
theorem oa_bad {ws : List (List UInt8)} {m k : Nat} (h2 : k ≠ 2) (h : numOf (ws.getD k []) = none ∨ ∃ n, numOf (ws.getD k []) = some n ∧ n < 0 ∧ k ≠ 5) : oa m ws k = none := by
  unfold oa
  rw [if_neg h2]
  rcases h with h | ⟨n, h, hn, h5⟩
  · by_cases h5 : k = 5
    · rw [if_pos h5, h]
    · rw [if_neg h5]; unfold cntOf; rw [h]
  · rw [if_neg h5]
    unfold cntOf
    rw [h]
    simp only
    rw [if_pos hn]
set_option maxHeartbeats 1000000 in
theorem rf_long (s : ByteArray) (h : 100 < s.size) (w : World) : Calls Tryz.prog 24 #[.string s] w fun r w' => r = .returned (rfV (.error 2)) ∧ Below w.heap.size w w' := by
  have h' : (100 : Int) < (s.size : Int) := by omega
  clear h
  go_enter Tryz.func24, Tryz.ntmps24
  go_wp2
  exact bodyPost_ret (v := .tuple #[frmV zeroF, .int .i64 2]) (by simp [results, Tryz.results24, go_sem, frmV, zeroF]) rfl ⟨rfl, (Below.refl _ _).alloc (Nat.le_refl _) _⟩
set_option maxHeartbeats 1000000 in
set_option maxRecDepth 100000 in
theorem rf_short (s : ByteArray) (h : s.size ≤ 100) (h7 : (spl 32 s.data.toList).length ≠ 7) (w : World) : Calls Tryz.prog 24 #[.string s] w fun r w' => r = .returned (rfV (.error 1)) ∧ Below w.heap.size w w' := by
  have h' : ¬ (100 : Int) < (s.size : Int) := by omega
  have HC := hide (cutAll_ok s 32 (by omega))
  generalize spl 32 s.data.toList = ws at *
  have h7' : ¬ ((ws.length : Int) = 7) := by omega
  have hb : Below w.heap.size w (w.alloc (.cells #[.int .i64 0, .int .i64 0, .int .i64 0, .int .i64 0, .int .i64 0] 53)) := (Below.refl _ _).alloc (Nat.le_refl _) _
  have HB := hide hb
  have HR := hide (Res5.new w)
  clear hb h7
  go_enter Tryz.func24, Tryz.ntmps24
  go_wp2_with fail
  refine (unhide HC _).mono ?_
  rintro E w1 ⟨v, rfl, hv, hB⟩
  obtain ⟨ad, cap, rfl, _⟩ := strs_cells hv
  have HB1 := hide ((unhide HB).trans (hB.mono (unhide HB).size))
  have HR1 := hide ((unhide HR).below hB)
  clear hB hv
  have f0 := (unhide HR1).f0
  have f1 := (unhide HR1).f1
  have f2 := (unhide HR1).f2
  have f3 := (unhide HR1).f3
  have f4 := (unhide HR1).f4
  have c0 := (unhide HR1).c0
  have c1 := (unhide HR1).c1
  have c2 := (unhide HR1).c2
  have c3 := (unhide HR1).c3
  have c4 := (unhide HR1).c4
  go_wp2_with fail
  exact bodyPost_ret (v := .tuple #[frmV zeroF, .int .i64 1]) (by simp [results, Tryz.results24, go_sem, frmV, zeroF, c0, c1, c2, c3, c4]) rfl ⟨rfl, below_five (unhide HB1) _ _ _ _ _⟩
/-- Seven words in a row of memory. -/
structure Words7 (w : World) (b o : Nat) (ws : List (List UInt8)) (ss : Nat → ByteArray) : Prop where
  cell : ∀ k, k < 7 → w.cell? ⟨b, o + k, none⟩ = some (.string (ss k))
  word : ∀ k, k < 7 → (ss k).data.toList = ws.getD k []
theorem Words7.below {w w' : World} {b o : Nat} {ws : List (List UInt8)} {ss : Nat → ByteArray} (h : Words7 w b o ws ss) (hB : Below w.heap.size w w') : Words7 w' b o ws ss := ⟨fun k hk => below_cell hB (h.cell k hk), h.word⟩
theorem words7_of {w : World} {v : Value} {ws : List (List UInt8)} (h : StrsAt w v ws) (h7 : ws.length = 7) : ∃ b o cap ss, v = .slice (some ⟨b, o, none⟩) 7 cap ∧ Words7 w b o ws ss := by
  rcases h with ⟨_, rfl⟩ | ⟨b, o, cap, rfl, hc⟩
  · cases h7
  · rw [h7] at hc
    refine ⟨b, o, cap, fun k => if h : k < 7 then Classical.choose (hc k h) else ⟨#[]⟩, by rw [h7], ⟨fun k hk => ?_, fun k hk => ?_⟩⟩
    · rw [dif_pos hk]; exact (Classical.choose_spec (hc k hk)).1
    · rw [dif_pos hk]; exact (Classical.choose_spec (hc k hk)).2
theorem word_size {s : ByteArray} {ws : List (List UInt8)} {l : List UInt8} {k : Nat} (hw : s.data.toList = ws.getD k []) (hs : spl 32 l = ws) (hk : k < ws.length) (hl : l.length ≤ 100) : s.size ≤ 100 := by
  have h1 := spl_len 32 l (ws.getD k []) (by rw [hs]; exact word_mem ws k hk)
  have h2 : s.size = s.data.toList.length := by simp
  rw [h2, hw]; omega
set_option maxHeartbeats 2000000 in
set_option maxRecDepth 100000 in
theorem rf_first (s : ByteArray) (h : s.size ≤ 100) (h7 : (spl 32 s.data.toList).length = 7) (hno : (spl 32 s.data.toList).getD 0 [] ≠ frameW ∨ readOf ((spl 32 s.data.toList).getD 2 []) = none) (w : World) : Calls Tryz.prog 24 #[.string s] w fun r w' => r = .returned (rfV (.error 1)) ∧ Below w.heap.size w w' := by
  have h' : ¬ (100 : Int) < (s.size : Int) := by omega
  have HC := hide (cutAll_ok s 32 (by omega))
  have HZ : Hid (∀ x : ByteArray, x.data.toList = (spl 32 s.data.toList).getD 2 [] → x.size ≤ 100) := fun x hx => word_size hx rfl (by omega) (by simpa using h)
  generalize spl 32 s.data.toList = ws at *
  have hb : Below w.heap.size w (w.alloc (.cells #[.int .i64 0, .int .i64 0, .int .i64 0, .int .i64 0, .int .i64 0] 53)) := (Below.refl _ _).alloc (Nat.le_refl _) _
  have HB := hide hb
  have HR := hide (Res5.new w)
  have HNO := hide hno
  clear hb hno
  go_enter Tryz.func24, Tryz.ntmps24
  go_wp2_with fail
  refine (unhide HC _).mono ?_
  rintro E w1 ⟨v, rfl, hv, hB⟩
  obtain ⟨b, o, cap, ss, rfl, hW⟩ := words7_of hv h7
  have HB1 := hide ((unhide HB).trans (hB.mono (unhide HB).size))
  have HR1 := hide ((unhide HR).below hB)
  have HW1 := hide hW
  have q2 := hW.cell 2 (by omega)
  have HRC := hide (readCrew_ok (ss 2) (by have := unhide HZ (ss 2) (hW.word 2 (by omega)); omega) w1)
  rw [hW.word 2 (by omega)] at HRC
  clear hB hv hW
  go_wp2_with fail
  refine (unhide HRC).mono ?_
  rintro E w2 ⟨hE, hB⟩
  have HB2 := hide ((unhide HB1).trans (hB.mono (unhide HB1).size))
  have HR2 := hide ((unhide HR1).below hB)
  have HW2 := hide ((unhide HW1).below hB)
  clear hB q2
  have f0 := (unhide HR2).f0
  have f1 := (unhide HR2).f1
  have f2 := (unhide HR2).f2
  have f3 := (unhide HR2).f3
  have f4 := (unhide HR2).f4
  have c0 := (unhide HR2).c0
  have c1 := (unhide HR2).c1
  have c2 := (unhide HR2).c2
  have c3 := (unhide HR2).c3
  have c4 := (unhide HR2).c4
  have q0 := (unhide HW2).cell 0 (by omega)
  rw [Nat.add_zero] at q0
  by_cases hw0 : ws.getD 0 [] = frameW
  · have e0 : ss 0 = ⟨#[102, 114, 97, 109, 101]⟩ := bytes_eq (((unhide HW2).word 0 (by omega)).trans hw0)
    rw [e0] at q0
    have hn : readOf (ws.getD 2 []) = none := (unhide HNO).resolve_left (fun x => x hw0)
    rcases hE with ⟨c, hc, _⟩ | ⟨_, rfl⟩
    · rw [hn] at hc; cases hc
    clear hw0 hn e0
    go_wp2_with fail
    exact bodyPost_ret (v := .tuple #[frmV zeroF, .int .i64 1]) (by simp [results, Tryz.results24, go_sem, frmV, zeroF, c0, c1, c2, c3, c4]) rfl ⟨rfl, below_five (unhide HB2) _ _ _ _ _⟩
  · have hne := bytes_ne (s := ss 0) (by rw [(unhide HW2).word 0 (by omega)]; exact hw0)
    have hE' : ∃ x y : Int, E = .returned (.tuple #[.int .i64 x, .int .i64 y]) := by
      rcases hE with ⟨c, _, rfl⟩ | ⟨_, rfl⟩
      · exact ⟨_, _, rfl⟩
      · exact ⟨_, _, rfl⟩
    obtain ⟨x, y, rfl⟩ := hE'
    clear hE hw0
    go_wp2_with fail
    exact bodyPost_ret (v := .tuple #[frmV zeroF, .int .i64 1]) (by simp [results, Tryz.results24, go_sem, frmV, zeroF, c0, c1, c2, c3, c4]) rfl ⟨rfl, below_five (unhide HB2) _ _ _ _ _⟩
theorem snoc_inv {m : Nat} {ws : List (List UInt8)} {xs : List Int} {x : Int} (h : ∀ j, j < xs.length → oa m ws (j + 1) = some (xs.getD j 0)) (hx : oa m ws (xs.length + 1) = some x) : ∀ j, j < (xs ++ [x]).length → oa m ws (j + 1) = some ((xs ++ [x]).getD j 0) := fun j hj => by
  by_cases hl : j < xs.length
  · rw [h j hl, List.getD_eq_getElem?_getD, List.getD_eq_getElem?_getD, List.getElem?_append_left hl]
  · have e : j = xs.length := by simp at hj; omega
    subst e
    rw [hx, List.getD_eq_getElem?_getD, List.getElem?_append_right (Nat.le_refl _), Nat.sub_self]
    rfl
theorem opt_parts' (o : Option Int) : ∃ (n : Int) (b : Bool), numV o = .tuple #[.int .i64 n, .bool b] := ⟨_, _, rfl⟩
set_option maxHeartbeats 4000000 in
set_option maxRecDepth 100000 in
theorem rf_all (s : ByteArray) (h : s.size ≤ 100) (h7 : (spl 32 s.data.toList).length = 7) (h0 : (spl 32 s.data.toList).getD 0 [] = frameW) (m : Nat) (h2 : readOf ((spl 32 s.data.toList).getD 2 []) = some m) (w : World) :
    Calls Tryz.prog 24 #[.string s] w fun r w' => r = .returned (rfV (readF s.data.toList)) ∧ Below w.heap.size w w' := by
  have h' : ¬ (100 : Int) < (s.size : Int) := by omega
  have hl100 : s.data.toList.length ≤ 100 := by simpa using h
  have HC := hide (cutAll_ok s 32 (by omega))
  have HZ : Hid (∀ (k : Nat) (x : ByteArray), k < 7 → x.data.toList = (spl 32 s.data.toList).getD k [] → x.size ≤ 100) := fun k x hk hx => word_size hx rfl (by omega) hl100
  have HN1 : Hid (∀ k, 1 ≤ k → k ≤ 6 → oa m (spl 32 s.data.toList) k = none → readF s.data.toList = .error 1) := fun k h1 h6 hk => readF_none hl100 (oa_none h7 h0 h2 h1 h6 hk)
  have HA1 : Hid (∀ xs : List Int, (∀ j, j < 6 → oa m (spl 32 s.data.toList) (j + 1) = some (xs.getD j 0)) → ∃ p w6 : List UInt8, s.data.toList = p ++ 32 :: w6 ∧ (spl 32 s.data.toList).getD 6 [] = w6 ∧
      readF s.data.toList = if (sumF p : Int) ≠ xs.getD 5 0 then .error 8 else if fErr ⟨xs.getD 0 0, xs.getD 1 0, xs.getD 2 0, xs.getD 3 0, xs.getD 4 0⟩ = 0 then .ok ⟨xs.getD 0 0, xs.getD 1 0, xs.getD 2 0, xs.getD 3 0, xs.getD 4 0⟩ else .error (fErr ⟨xs.getD 0 0, xs.getD 1 0, xs.getD 2 0, xs.getD 3 0, xs.getD 4 0⟩)) := fun xs hx => by
    obtain ⟨p, w6, e1, _, _, e2, e3⟩ := readF_some hl100 (oa_all h7 h0 h2 hx)
    exact ⟨p, w6, e1, e2, e3⟩
  have HH0 := hide h0
  have HH2 := hide h2
  generalize spl 32 s.data.toList = ws at *
  generalize readF s.data.toList = rr at *
  have hb : Below w.heap.size w (w.alloc (.cells #[.int .i64 0, .int .i64 0, .int .i64 0, .int .i64 0, .int .i64 0] 53)) := (Below.refl _ _).alloc (Nat.le_refl _) _
  have HB := hide hb
  have HR := hide (Res5.new w)
  obtain ⟨i0, hi, hz0, hz1, hz2⟩ := info_parts Tryz.infoInt'
  clear hb h0 h2 hl100
  go_enter Tryz.func24, Tryz.ntmps24
  go_wp2_with fail
  refine (unhide HC _).mono ?_
  rintro E w1 ⟨v, rfl, hv, hB⟩
  obtain ⟨b, o, cap, ss, rfl, hW⟩ := words7_of hv h7
  have HB1 := hide ((unhide HB).trans (hB.mono (unhide HB).size))
  have HR1 := hide ((unhide HR).below hB)
  have HW1 := hide hW
  have q2 := hW.cell 2 (by omega)
  have HRC := hide (readCrew_ok (ss 2) (by have := unhide HZ 2 (ss 2) (by omega) (hW.word 2 (by omega)); omega) w1)
  rw [hW.word 2 (by omega)] at HRC
  clear hB hv hW h7
  go_wp2_with fail
  refine (unhide HRC).mono ?_
  rintro E w2 ⟨hE, hB⟩
  have HB2 := hide ((unhide HB1).trans (hB.mono (unhide HB1).size))
  have HR2 := hide ((unhide HR1).below hB)
  have HW2 := hide ((unhide HW1).below hB)
  clear hB q2
  have hE' : E = .returned (.tuple #[.int .i64 m, .int .i64 0]) := by
    rcases hE with ⟨c, hc, rfl⟩ | ⟨hc, _⟩
    · rw [unhide HH2] at hc; cases hc; rfl
    · rw [unhide HH2] at hc; cases hc
  subst hE'
  have q0 := (unhide HW2).cell 0 (by omega)
  rw [Nat.add_zero, bytes_eq (((unhide HW2).word 0 (by omega)).trans (unhide HH0))] at q0
  clear hE HH0 HH2
  go_wp2_with fail
  clear q0
  go_loopw [3, 7, 8] (fun _ l i wr => ∃ (n : Nat) (xs : List Int), 1 ≤ n ∧ n ≤ 7 ∧ i = .int .i64 n ∧ xs.length + 1 = n ∧ Hid (∀ j, j < xs.length → oa m ws (j + 1) = some (xs.getD j 0)) ∧ wr.ownsRow w2.heap.size 3 1 l xs.length (xs.map (Value.int .i64)) ∧ Below w2.heap.size w2 wr) (fun _ _ i _ => 7 - (intOf i).toNat)
  case atStart => exact ⟨1, [], by omega, by omega, rfl, rfl, fun j hj => absurd hj (by simp), World.ownsRow_nil _ _ _ _, Below.refl _ _⟩
  case round =>
    obtain ⟨n, xs, hn1, hn7, rfl, hxn, Hinv, hrow, hB⟩ := hrel
    by_cases hlt : n < 7
    · have qn := below_cell hB ((unhide HW2).cell n hlt)
      have HNU := hide (number_ok (ss n) (by have := unhide HZ n (ss n) hlt ((unhide HW2).word n hlt); omega))
      rw [(unhide HW2).word n hlt] at HNU
      have hlt' : (n : Int) < 7 := by omega
      by_cases hn2 : n = 2
      · subst hn2
        obtain ⟨nv, nb, hnv⟩ := opt_parts' (numOf (ws.getD 2 []))
        rw [hnv] at HNU
        have hm0 : 0 ≤ (m : Int) := by omega
        clear hnv
        go_wp2_with (first
          | (go_at_call 42; refine (unhide HNU _).mono ?_; rintro e w' ⟨rfl, rfl⟩)
          | (at_builtin; refine wpList_append_own _ rfl _ _ 22 rfl w2.heap.size 3 i0 (.int .i64 0) 1 8 Tryz.underlying22 hi hz0 hz1 hz2 rfl (by decide) _ _ _ rfl (hrow.alloc _) ⟨_, 0, none⟩ 1 1 [.int .i64 m] rfl rfl (cell_one_new _ _ _) (by simp [Value.oneCell']) (by unfold maxLen; omega) (by omega) (by have := hB.size; simp; omega) ?_; intro v' w3 hown' hgrow _))
        go_roundw
        case rel => exact ⟨3, xs ++ [(m : Int)], by omega, by omega, by go_num, by simp; omega, fun j hj => snoc_inv (unhide Hinv) (by rw [show xs.length + 1 = 2 by omega]; rfl) j hj, by simpa using hown', below_append hB hrow hgrow hB.size⟩
        case measure => simp [intOf]
      · have hn2' : ¬ ((n : Int) = 2) := by omega
        have hn2q : ((n : Int) == 2) = false := by simpa using hn2'
        cases hnum : numOf (ws.getD n []) with
        | none =>
          rw [hnum] at HNU
          have HE : Hid (rr = .error 1) := unhide HN1 n hn1 (by omega) (oa_bad hn2 (Or.inl hnum))
          have HRr := hide ((unhide HR2).below hB)
          have f0 := (unhide HRr).f0
          have f1 := (unhide HRr).f1
          have f2 := (unhide HRr).f2
          have f3 := (unhide HRr).f3
          have f4 := (unhide HRr).f4
          have c0 := (unhide HRr).c0
          have c1 := (unhide HRr).c1
          have c2 := (unhide HRr).c2
          have c3 := (unhide HRr).c3
          have c4 := (unhide HRr).c4
          have HBr := hide ((unhide HB2).trans (hB.mono (unhide HB2).size))
          clear hB hrow hnum
          go_wp2_with (go_at_call 42; refine (unhide HNU _).mono ?_; rintro e w' ⟨rfl, rfl⟩; simp only [numV, Option.getD, Option.isSome])
          exact bodyPost_ret (v := .tuple #[frmV zeroF, .int .i64 1]) (by simp [results, Tryz.results24, go_sem, frmV, zeroF, c0, c1, c2, c3, c4]) rfl ⟨by rw [unhide HE]; rfl, below_five (unhide HBr) _ _ _ _ _⟩
        | some x =>
          rw [hnum] at HNU
          by_cases hx : x < 0
          · by_cases h5 : n = 5
            · subst h5
              have HO := hide (oa_num (m := m) hn2 hnum (Or.inr rfl))
              clear hnum
              go_wp2_with (first
                | (go_at_call 42; refine (unhide HNU _).mono ?_; rintro e w' ⟨rfl, rfl⟩; simp only [numV, Option.getD, Option.isSome])
                | (at_builtin; refine wpList_append_own _ rfl _ _ 22 rfl w2.heap.size 3 i0 (.int .i64 0) 1 8 Tryz.underlying22 hi hz0 hz1 hz2 rfl (by decide) _ _ _ rfl (hrow.alloc _) ⟨_, 0, none⟩ 1 1 [.int .i64 x] rfl rfl (cell_one_new _ _ _) (by simp [Value.oneCell']) (by unfold maxLen; omega) (by omega) (by have := hB.size; simp; omega) ?_; intro v' w3 hown' hgrow _))
              go_roundw
              case rel => exact ⟨6, xs ++ [x], by omega, by omega, by go_num, by simp; omega, fun j hj => snoc_inv (unhide Hinv) (by rw [show xs.length + 1 = 5 by omega]; exact unhide HO) j hj, by simpa using hown', below_append hB hrow hgrow hB.size⟩
              case measure => simp [intOf]
            · have HE : Hid (rr = .error 1) := unhide HN1 n hn1 (by omega) (oa_bad hn2 (Or.inr ⟨x, hnum, hx, h5⟩))
              have h5' : ¬ ((n : Int) = 5) := by omega
              have h5q : ((n : Int) == 5) = false := by simpa using h5'
              have HRr := hide ((unhide HR2).below hB)
              have f0 := (unhide HRr).f0
              have f1 := (unhide HRr).f1
              have f2 := (unhide HRr).f2
              have f3 := (unhide HRr).f3
              have f4 := (unhide HRr).f4
              have c0 := (unhide HRr).c0
              have c1 := (unhide HRr).c1
              have c2 := (unhide HRr).c2
              have c3 := (unhide HRr).c3
              have c4 := (unhide HRr).c4
              have HBr := hide ((unhide HB2).trans (hB.mono (unhide HB2).size))
              clear hB hrow hnum
              go_wp2_with (go_at_call 42; refine (unhide HNU _).mono ?_; rintro e w' ⟨rfl, rfl⟩; simp only [numV, Option.getD, Option.isSome])
              exact bodyPost_ret (v := .tuple #[frmV zeroF, .int .i64 1]) (by simp [results, Tryz.results24, go_sem, frmV, zeroF, c0, c1, c2, c3, c4]) rfl ⟨by rw [unhide HE]; rfl, below_five (unhide HBr) _ _ _ _ _⟩
          · have HO := hide (oa_num (m := m) hn2 hnum (Or.inl (by omega)))
            clear hnum
            go_wp2_with (first
              | (go_at_call 42; refine (unhide HNU _).mono ?_; rintro e w' ⟨rfl, rfl⟩; simp only [numV, Option.getD, Option.isSome])
              | (at_builtin; refine wpList_append_own _ rfl _ _ 22 rfl w2.heap.size 3 i0 (.int .i64 0) 1 8 Tryz.underlying22 hi hz0 hz1 hz2 rfl (by decide) _ _ _ rfl (hrow.alloc _) ⟨_, 0, none⟩ 1 1 [.int .i64 x] rfl rfl (cell_one_new _ _ _) (by simp [Value.oneCell']) (by unfold maxLen; omega) (by omega) (by have := hB.size; simp; omega) ?_; intro v' w3 hown' hgrow _))
            go_roundw
            case rel => exact ⟨n + 1, xs ++ [x], by omega, by omega, by go_num, by simp; omega, fun j hj => snoc_inv (unhide Hinv) (by rw [show xs.length + 1 = n by omega]; exact unhide HO) j hj, by simpa using hown', below_append hB hrow hgrow hB.size⟩
            case measure => simp [intOf]; omega
    · have hn : n = 7 := by omega
      subst hn
      have hx6 : xs.length = 6 := by omega
      obtain ⟨p, w6, hp, hw6, hrr⟩ := unhide HA1 xs (fun j hj => unhide Hinv j (by omega))
      have hcells : ∃ g o' c, u7 = .slice (some ⟨g, o', none⟩) 6 c ∧ ∀ j, j < 6 → wr.cell? ⟨g, o' + j, none⟩ = some (.int .i64 (xs.getD j 0)) := by
        rcases intsAt_of_owns hrow with ⟨_, rfl⟩ | ⟨g, o', c, e, hc⟩
        · simp at hx6
        · rw [hx6] at e hc
          exact ⟨g, o', c, e, hc⟩
      obtain ⟨g, o', c, rfl, hc⟩ := hcells
      have k0 := hc 0 (by omega)
      have k1 := hc 1 (by omega)
      have k2 := hc 2 (by omega)
      have k3 := hc 3 (by omega)
      have k4 := hc 4 (by omega)
      have k5 := hc 5 (by omega)
      rw [Nat.add_zero] at k0
      have HFE := hide (frameError_ok ⟨xs.getD 0 0, xs.getD 1 0, xs.getD 2 0, xs.getD 3 0, xs.getD 4 0⟩)
      generalize xs.getD 0 0 = x0 at *
      generalize xs.getD 1 0 = x1 at *
      generalize xs.getD 2 0 = x2 at *
      generalize xs.getD 3 0 = x3 at *
      generalize xs.getD 4 0 = x4 at *
      generalize xs.getD 5 0 = x5 at *
      generalize fErr ⟨x0, x1, x2, x3, x4⟩ = er at *
      unfold frmV at HFE
      have q6 := below_cell hB ((unhide HW2).cell 6 (by omega))
      have hs6 : (ss 6).data.toList = w6 := ((unhide HW2).word 6 (by omega)).trans hw6
      have hsz6 := unhide HZ 6 (ss 6) (by omega) ((unhide HW2).word 6 (by omega))
      have hl6 : (ss 6).size = w6.length := by have : (ss 6).size = (ss 6).data.toList.length := by simp
                                               rw [this, hs6]
      have hls : s.size = p.length + (w6.length + 1) := by
        have : s.size = s.data.toList.length := by simp
        rw [this, hp]; simp
      have hdif : (s.size : Int) - ((ss 6).size : Int) - 1 = (p.length : Int) := by omega
      have HU : Hid (∀ w, Calls Tryz.prog 43 #[.string (s.extract 0 p.length)] w fun r w' => r = .returned (.int .i64 (sumF p : Nat)) ∧ w' = w) := fun w => by
        have e : (s.extract 0 p.length).data.toList = p := by rw [Lib.extract_from_zero, hp, List.take_left]
        have hz : (s.extract 0 p.length).size ≤ maxLen := by
          have h1 : (s.extract 0 p.length).size = (s.extract 0 p.length).data.toList.length := by simp
          rw [h1, e]
          unfold maxLen
          omega
        have := sumOf_ok (s.extract 0 p.length) hz w
        rw [e] at this
        exact this
      have hpl : p.length ≤ s.size := by omega
      have hspl := sumF_lt p
      generalize sumF p = sp at *
      generalize p.length = pl at *
      have Hrr := hide hrr
      have HRr := hide ((unhide HR2).below hB)
      have HBr := hide ((unhide HB2).trans (hB.mono (unhide HB2).size))
      have Hc := hide hc
      generalize ss 6 = s6 at *
      clear hB hrow hc hrr hw6 hs6 hl6 hls hp hx6 Hinv hxn hn1 hn7 hlt
      go_wp2_with fail
      go_quiet ((go_at_call 43; exact Calls.quiet_of_same (unhide HU _)))
      by_cases hsum : (sp : Int) = x5
      · have hrr2 := unhide Hrr
        rw [if_neg (fun x => x hsum)] at hrr2
        have Hrr2 := hide hrr2
        clear hrr2
        have hbd := below_draw (Below.refl wr.heap.size wr) nq
        have e0 := below_cell hbd k0
        have e1 := below_cell hbd k1
        have e2 := below_cell hbd k2
        have e3 := below_cell hbd k3
        have e4 := below_cell hbd k4
        have HRw := hide ((unhide HRr).below hbd)
        have HBw := hide ((unhide HBr).trans (hbd.mono (unhide HBr).size))
        clear k0 k1 k2 k3 k4 k5 q6 hbd Hc HRr HBr
        go_wp2_with fail
        generalize wr.drewN nq = W at *
        have hng : ¬ (W.heap.size = g) := by have := cell_lt e0; simp only at this; omega
        have hng' : ¬ (g = W.heap.size) := by omega
        go_region_held3 (fun w' => w'.cell? ⟨g, o', none⟩ = some (.int .i64 x0) ∧ w'.cell? ⟨g, o' + 1, none⟩ = some (.int .i64 x1) ∧ w'.cell? ⟨g, o' + 2, none⟩ = some (.int .i64 x2) ∧ w'.cell? ⟨g, o' + 3, none⟩ = some (.int .i64 x3) ∧ w'.cell? ⟨g, o' + 4, none⟩ = some (.int .i64 x4)) (go_keep) (fail)
        clear e0 e1 e2 e3 e4
        have hba : Below W.heap.size W (W.alloc (.cells #[.int .i64 x0, .int .i64 x1, .int .i64 x2, .int .i64 x3, .int .i64 x4] 53)).drew := ((Below.refl _ W).alloc (Nat.le_refl _) _).drew
        have HBa := hide ((unhide HBw).trans (hba.mono (unhide HBw).size))
        have HRa := hide ((unhide HRw).below hba)
        have HQa := hide ((FrmAt.new W x0 x1 x2 x3 x4).below (Below.refl _ _).drew)
        clear hba
        go_wp2_with fail
        refine (unhide HFE _).mono ?_
        rintro E w5 ⟨rfl, hB⟩
        have HB5 := hide ((unhide HBa).trans (hB.mono (unhide HBa).size))
        have HR5 := hide ((unhide HRa).below hB)
        have HQ5 := hide ((unhide HQa).below hB)
        clear hB
        have f0 := (unhide HR5).f0
        have f1 := (unhide HR5).f1
        have f2 := (unhide HR5).f2
        have f3 := (unhide HR5).f3
        have f4 := (unhide HR5).f4
        have c0 := (unhide HR5).c0
        have c1 := (unhide HR5).c1
        have c2 := (unhide HR5).c2
        have c3 := (unhide HR5).c3
        have c4 := (unhide HR5).c4
        have q0 := (unhide HQ5).c0
        have q1 := (unhide HQ5).c1
        have q2 := (unhide HQ5).c2
        have q3 := (unhide HQ5).c3
        have q4 := (unhide HQ5).c4
        by_cases her : er = 0
        · have HE : Hid (rr = .ok ⟨x0, x1, x2, x3, x4⟩) := by show _ = _; rw [unhide Hrr2, if_pos her]
          subst her
          go_wp2_with fail
          exact bodyPost_ret (v := .tuple #[frmV ⟨x0, x1, x2, x3, x4⟩, .int .i64 0]) (by simp [results, Tryz.results24, go_sem, frmV, c0, c1, c2, c3, c4]) rfl ⟨by rw [unhide HE]; rfl, below_five (unhide HB5) _ _ _ _ _⟩
        · have HE : Hid (rr = .error er) := by show _ = _; rw [unhide Hrr2, if_neg her]
          have her' : (0 : Int) < (er : Int) := by omega
          go_wp2_with fail
          exact bodyPost_ret (v := .tuple #[frmV zeroF, .int .i64 (er : Nat)]) (by simp [results, Tryz.results24, go_sem, frmV, zeroF, c0, c1, c2, c3, c4]) rfl ⟨by rw [unhide HE]; rfl, below_five (unhide HB5) _ _ _ _ _⟩
      · have hrr2 := unhide Hrr
        rw [if_pos hsum] at hrr2
        have Hrr2 := hide hrr2
        clear hrr2
        have f0 := (unhide HRr).f0
        have f1 := (unhide HRr).f1
        have f2 := (unhide HRr).f2
        have f3 := (unhide HRr).f3
        have f4 := (unhide HRr).f4
        have c0 := (unhide HRr).c0
        have c1 := (unhide HRr).c1
        have c2 := (unhide HRr).c2
        have c3 := (unhide HRr).c3
        have c4 := (unhide HRr).c4
        go_wp2_with fail
        exact bodyPost_ret (v := .tuple #[frmV zeroF, .int .i64 8]) (by simp [results, Tryz.results24, go_sem, frmV, zeroF, c0, c1, c2, c3, c4]) rfl ⟨by rw [unhide Hrr2]; rfl, below_draw (below_five (unhide HBr) _ _ _ _ _) _⟩
/-- ReadFrame, any text. -/
theorem readFrame_ok (s : ByteArray) (w : World) : Calls Tryz.prog 24 #[.string s] w fun r w' => r = .returned (rfV (readF s.data.toList)) ∧ Below w.heap.size w w' := by
  have hz : s.size = s.data.toList.length := by simp
  by_cases h : s.size ≤ 100
  · by_cases h7 : (spl 32 s.data.toList).length = 7
    · by_cases h0 : (spl 32 s.data.toList).getD 0 [] = frameW
      · cases h2 : readOf ((spl 32 s.data.toList).getD 2 []) with
        | none =>
          rw [readF_none (by omega) (words_none _ h2 h7 h0)]
          exact rf_first s h h7 (Or.inr h2) w
        | some m => exact rf_all s h h7 h0 m h2 w
      · rw [readF_none (by omega) (words_first h7 h0)]
        exact rf_first s h h7 (Or.inl h0) w
    · rw [readF_none (by omega) (words_short h7)]
      exact rf_short s h h7 w
  · rw [readF_long (by omega)]
    exact rf_long s (by omega) w
end Go.Proofs.YtglhapkclpllfacGreatDoor
