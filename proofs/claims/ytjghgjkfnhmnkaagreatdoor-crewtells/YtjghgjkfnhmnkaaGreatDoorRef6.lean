/-
  Contracts of the document's answer: ReadCrew.
-/
import Derived.Test.YtjghgjkfnhmnkaaGreatDoorRef5
namespace Go.Proofs.YtjghgjkfnhmnkaaGreatDoor
open Go.RowKit

theorem dec_val : ∀ (k : Nat) (d : List UInt8), d.length = k + 1 → (∀ b ∈ d, isDg b) → (1 < d.length → d.head? ≠ some 48) → Lib.decDigits (decVal d) = d
  | k, d, hk, hd, hh => by
    rcases List.eq_nil_or_concat d with rfl | ⟨d', b, rfl⟩
    · simp at hk
    · rw [List.concat_eq_append] at *
      have hb := hd b (by simp)
      have hb' := hb
      unfold isDg at hb'
      have e48 : UInt8.ofNat (48 + (b.toNat - 48)) = b := by
        rw [show 48 + (b.toNat - 48) = b.toNat by omega]; simp
      rw [decVal_snoc]
      cases k with
      | zero =>
        have : d' = [] := List.eq_nil_of_length_eq_zero (by simpa using hk)
        subst this
        rw [Lib.decDigits_one (by simp [decVal]; omega)]
        simp only [decVal, List.foldl_nil, Nat.mul_zero, Nat.zero_add, e48, List.nil_append]
      | succ k =>
        have hl : d'.length = k + 1 := by simpa using hk
        have hne : d' ≠ [] := fun e => by rw [e] at hl; simp at hl
        have hhead : d'.head? ≠ some 48 := by
          have := hh (by simp; omega)
          cases d' with
          | nil => exact absurd rfl hne
          | cons x y => exact this
        have ih := dec_val k d' hl (fun x hx => hd x (by simp [hx])) (fun _ => hhead)
        have hpos : decVal d' ≠ 0 := fun e => by
          rw [e, Lib.decDigits_one (by omega)] at ih
          rw [← ih] at hhead
          exact hhead rfl
        rw [Lib.decDigits, dif_neg (by omega), show (10 * decVal d' + (b.toNat - 48)) / 10 = decVal d' by omega, show (10 * decVal d' + (b.toNat - 48)) % 10 = b.toNat - 48 by omega, ih, e48]
theorem numOf_itoa {l : List UInt8} {n : Int} (h : numOf l = some n) : Lib.itoa n = l ∧ -9999999 ≤ n ∧ n ≤ 9999999 := by
  unfold numOf at h
  by_cases h45 : l.head? = some 45
  · rw [if_pos h45] at h
    by_cases hk : dOk true l.tail
    · rw [if_pos hk] at h
      cases h
      obtain ⟨h1, h2, h3, h4, h5⟩ := hk
      have e := dec_val (l.tail.length - 1) l.tail (by omega) h5 h3
      have hlt := decVal_lt l.tail h5
      have h10 : 10 ^ l.tail.length ≤ 10 ^ 7 := Nat.pow_le_pow_right (by omega) h2
      have hpos : decVal l.tail ≠ 0 := fun e0 => by
        rw [e0, Lib.decDigits_one (by omega)] at e
        exact h4 rfl e.symm
      refine ⟨?_, by omega, by omega⟩
      rw [Lib.itoa_neg _ (by omega), e]
      cases l with
      | nil => cases h45
      | cons x l => cases h45; rfl
    · rw [if_neg hk] at h; cases h
  · rw [if_neg h45] at h
    by_cases hk : dOk false l
    · rw [if_pos hk] at h
      cases h
      obtain ⟨h1, h2, h3, h4, h5⟩ := hk
      have e := dec_val (l.length - 1) l (by omega) h5 h3
      have hlt := decVal_lt l h5
      have h10 : 10 ^ l.length ≤ 10 ^ 7 := Nat.pow_le_pow_right (by omega) h2
      exact ⟨by rw [Lib.itoa_nonneg, e], by omega, by omega⟩
    · rw [if_neg hk] at h; cases h
theorem num_dg : ∀ x : Fin 16, numOf (dg x) = some ((x.val : Int) + 1) := by decide
theorem node_num {l : List UInt8} {n : Int} (h : numOf l = some n) (hn : Cm.isNode n) : nodeOf l = n.toNat := by
  have h1 := (numOf_itoa h).1
  obtain ⟨x, rfl⟩ : ∃ x : Fin 16, n = (x.val : Int) + 1 := ⟨⟨n.toNat - 1, by unfold Cm.isNode at hn; omega⟩, by unfold Cm.isNode at hn; show n = ((n.toNat - 1 : Nat) : Int) + 1; omega⟩
  rw [itoa_dg] at h1
  rw [← h1, nodeOf_dg]; omega
theorem num_node {l : List UInt8} (h : nodeOf l ≠ 0) : numOf l = some (nodeOf l : Int) ∧ Cm.isNode (nodeOf l : Int) := by
  by_cases hx : ∃ x, dg x = l
  · obtain ⟨x, rfl⟩ := hx
    rw [num_dg, nodeOf_dg]
    exact ⟨rfl, by unfold Cm.isNode; omega⟩
  · exact absurd (nodeOf_no fun x e => hx ⟨x, e⟩) h

/-- What a reader of words answers: the nodes, rising. -/
def rdW : List (List UInt8) → Nat → Nat → Option Nat
  | [], c, _ => some c
  | x :: r, c, last => if nodeOf x ≤ last then none else rdW r (c ||| 2 ^ (nodeOf x - 1)) (nodeOf x)
theorem cut_spl : ∀ l, spl 44 l = (cutL l).1 :: (if (cutL l).2.2 then spl 44 (cutL l).2.1 else [])
  | [] => rfl
  | b :: r => by
    have ih := cut_spl r
    by_cases hb : (b == 44) = true
    · simp [spl, cutL, hb]
    · simp [spl, cutL, hb, ih]
theorem readGo_rd : ∀ (f : Nat) (l : List UInt8) (c last : Nat), l.length < f → readGo f l c last = rdW (spl 44 l) c last
  | 0, _, _, _, h => by omega
  | f + 1, l, c, last, h => by
    rw [cut_spl]
    unfold readGo rdW
    split
    · rfl
    · split
      · rename_i h1
        exact readGo_rd f _ _ _ (by have := (cut_len l).2.2 h1; omega)
      · rfl
theorem spl_len (c : UInt8) : ∀ l, ∀ x ∈ spl c l, x.length ≤ l.length
  | [], x, h => by simp [spl] at h; simp [h]
  | b :: r, x, h => by
    have ih := spl_len c r
    unfold spl at h
    split at h
    · rcases List.mem_cons.1 h with rfl | h
      · simp
      · have := ih x h; simp; omega
    · revert h
      cases hr : spl c r with
      | nil => exact absurd hr (spl_ne c r)
      | cons y t =>
        intro h
        rcases List.mem_cons.1 h with rfl | h
        · have := ih y (by rw [hr]; simp); simp; omega
        · have := ih x (by rw [hr]; simp [h]); simp; omega
theorem spl_many (c : UInt8) : ∀ l, (spl c l).length ≤ l.length + 1
  | [] => by simp [spl]
  | b :: r => by
    have ih := spl_many c r
    unfold spl
    split
    · simp; omega
    · cases hr : spl c r with
      | nil => exact absurd hr (spl_ne c r)
      | cons y t => rw [hr] at ih; simp at ih ⊢; omega
theorem strs_cells {w : World} {v : Value} {xs : List (List UInt8)} (h : StrsAt w v xs) : ∃ a c, v = .slice a xs.length c ∧ Hid (∀ k, k < xs.length → ∃ b off, ∃ s : ByteArray, a = some ⟨b, off, none⟩ ∧ w.cell? ⟨b, off + k, none⟩ = some (.string s) ∧ s.data.toList = xs.getD k []) := by
  rcases h with ⟨rfl, rfl⟩ | ⟨b, o, c, rfl, h⟩
  · exact ⟨_, _, rfl, fun k hk => absurd hk (by simp)⟩
  · exact ⟨_, _, rfl, fun k hk => by obtain ⟨s, h1, h2⟩ := h k hk; exact ⟨b, o, s, rfl, h1, h2⟩⟩
theorem word_mem (xs : List (List UInt8)) (k : Nat) (h : k < xs.length) : xs.getD k [] ∈ xs := by
  rw [List.getD_eq_getElem?_getD, List.getElem?_eq_getElem h]; exact List.getElem_mem h
theorem last_snoc (xs : List Int) (j : Nat) (h : xs.length = j + 1) : xs.getLastD 0 = xs.getD j 0 := by
  rw [List.getD_eq_getElem?_getD, List.getLastD_eq_getLast?, List.getLast?_eq_getElem?, show xs.length - 1 = j by omega]
/-- What the loop of ReadCrew keeps. -/
def rcInv (ws : List (List UInt8)) (k : Nat) (xs : List Int) : Prop :=
  xs.length = k ∧ (∀ x ∈ xs, Cm.isNode x) ∧ rdW ws 0 0 = rdW (ws.drop k) (Cm.ofN xs) (xs.getLastD 0).toNat
theorem rc_next {ws : List (List UInt8)} {k : Nat} {xs : List Int} (h : rcInv ws k xs) (hk : k < ws.length) {n : Int} (hn : numOf (ws.getD k []) = some n) (hi : Cm.isNode n) (hl : xs.getLastD 0 < n) : rcInv ws (k + 1) (xs ++ [n]) := by
  obtain ⟨h1, h2, h3⟩ := h
  have hw := node_num hn hi
  refine ⟨by simp [h1], fun x hx => ?_, ?_⟩
  · rcases List.mem_append.1 hx with hx | hx
    · exact h2 x hx
    · rw [List.mem_singleton.1 hx]; exact hi
  · rw [h3, List.drop_eq_getElem_cons hk]
    have : ws[k] = ws.getD k [] := by simp [List.getD_eq_getElem?_getD, List.getElem?_eq_getElem hk]
    rw [this, rdW, hw, if_neg (by unfold Cm.isNode at hi; omega), Cm.ofN_snoc]
    simp
theorem rc_low {ws : List (List UInt8)} {k : Nat} {xs : List Int} (h : rcInv ws k xs) (hk : k < ws.length) {n : Int} (hn : numOf (ws.getD k []) = some n) (hi : Cm.isNode n) (hl : n ≤ xs.getLastD 0) : rdW ws 0 0 = none := by
  obtain ⟨h1, h2, h3⟩ := h
  have hw := node_num hn hi
  have : ws[k] = ws.getD k [] := by simp [List.getD_eq_getElem?_getD, List.getElem?_eq_getElem hk]
  rw [h3, List.drop_eq_getElem_cons hk, this, rdW, hw, if_pos (by unfold Cm.isNode at hi; omega)]
theorem rc_none {ws : List (List UInt8)} {k : Nat} {xs : List Int} (h : rcInv ws k xs) (hk : k < ws.length) (hn : ∀ n, numOf (ws.getD k []) = some n → ¬ Cm.isNode n) : rdW ws 0 0 = none := by
  obtain ⟨h1, h2, h3⟩ := h
  have : ws[k] = ws.getD k [] := by simp [List.getD_eq_getElem?_getD, List.getElem?_eq_getElem hk]
  have h0 : nodeOf (ws.getD k []) = 0 := Classical.byContradiction fun h => hn _ (num_node h).1 (num_node h).2
  rw [h3, List.drop_eq_getElem_cons hk, this, rdW, h0, if_pos (by omega)]
theorem rc_end {ws : List (List UInt8)} {xs : List Int} (h : rcInv ws ws.length xs) : rdW ws 0 0 = some (Cm.ofN xs) := by
  rw [h.2.2]; simp [rdW]
set_option maxHeartbeats 1000000 in
set_option maxRecDepth 8000 in
theorem readCrew_ok (s : ByteArray) (hs : s.size ≤ 281474976) (w : World) :
    Calls Tryz.prog 23 #[.string s] w fun e w' => ((∃ c : Nat, readOf s.data.toList = some c ∧ e = .returned (.tuple #[.int .i64 c, .int .i64 0])) ∨ (readOf s.data.toList = none ∧ e = .returned (.tuple #[.int .i64 0, .int .i64 1]))) ∧ Below w.heap.size w w' := by
  by_cases h45 : s.data.toList = [45]
  · have e45 : s = ⟨#[45]⟩ := by
      obtain ⟨⟨l⟩⟩ := s
      simp at h45
      rw [h45]
    subst e45
    go_enter Tryz.func23, Tryz.ntmps23
    go_wp2
    go_ret2
    exact ⟨Or.inl ⟨0, rfl, rfl⟩, Below.refl _ _⟩
  have hne : (s.toList == [45]) = false := by rw [toList_data]; simpa using h45
  obtain ⟨ws, hws⟩ : ∃ ws, spl 44 s.data.toList = ws := ⟨_, rfl⟩
  have HR : Hid (readOf s.data.toList = rdW ws 0 0) := by
    show _ = _
    unfold readOf; rw [if_neg h45, readGo_rd _ _ _ _ (Nat.lt_succ_self _), hws]
  have hwl : ws.length ≤ s.size + 1 := by rw [← hws]; have := spl_many 44 s.data.toList; simpa using this
  have HW : Hid (∀ x ∈ ws, x.length ≤ s.size) := by show ∀ x ∈ ws, x.length ≤ s.size; rw [← hws]; intro x hx; have := spl_len 44 _ x hx; simpa using this
  have HC := hide (cutAll_ok s 44 (by omega))
  rw [hws] at HC
  obtain ⟨r, hr⟩ : ∃ r, readOf s.data.toList = r := ⟨_, rfl⟩
  rw [hr] at HR ⊢
  clear hws h45 hr
  obtain ⟨i0, hi, hz0, hz1, hz2⟩ := info_parts Tryz.infoInt'
  go_enter Tryz.func23, Tryz.ntmps23
  go_wp2_with (go_at_call 43; refine (unhide HC _).mono ?_; rintro e w1 ⟨v, rfl, hv, hB1⟩; clear HC; obtain ⟨ad, cap, rfl, HV⟩ := strs_cells hv; clear hv; have HB1 := hide hB1; have hsz := hB1.size; clear hB1)
  go_loopw [2, 3, 5, 6] (fun _ _ l i wr => ∃ (k : Nat) (xs : List Int), k ≤ ws.length ∧ i = .int .i64 k ∧ xs.length = k ∧ Hid (rcInv ws k xs) ∧ wr.ownsRow w1.heap.size 3 1 l xs.length (xs.map (Value.int .i64)) ∧ Below w1.heap.size w1 wr) (fun _ _ _ i _ => ws.length - (intOf i).toNat)
  case atStart => exact ⟨0, [], by omega, rfl, rfl, ⟨rfl, by simp, rfl⟩, World.ownsRow_nil _ _ _ _, Below.refl _ _⟩
  case round =>
    obtain ⟨k, xs, hk, rfl, hxk, Hinv, hrow, hB⟩ := hrel
    have hBsz := hB.size
    by_cases hlt : k < ws.length
    · obtain ⟨b, off, x, rfl, hc1, hx⟩ := unhide HV k hlt
      have hc := below_cell hB hc1
      clear hc1
      have HX := hide hx
      have HN := hide (number_ok x (by have := unhide HW _ (word_mem ws k hlt); rw [← hx] at this; simp at this; omega))
      rw [hx] at HN
      clear hx
      cases hn : numOf (ws.getD k []) with
      | none =>
        rw [hn] at HN
        have H0 : Hid (rdW ws 0 0 = none) := rc_none (unhide Hinv) hlt (fun n e => by rw [hn] at e; cases e)
        have HI := hide (isNode_no 0 (by unfold Cm.isNode; omega))
        have HB := hide hB
        clear hB hrow hn
        go_wp2_with (first
          | (go_at_call 44; refine (unhide HN _).mono ?_; rintro e w' ⟨rfl, rfl⟩; simp only [numV, Option.getD, Option.isSome])
          | (go_at_call 30; refine (unhide HI _).mono ?_; rintro e w' ⟨rfl, rfl⟩))
        go_ret2
        exact ⟨Or.inr ⟨(unhide HR).trans (unhide H0), rfl⟩, (unhide HB1).trans ((unhide HB).mono hsz)⟩
      | some n =>
        rw [hn] at HN
        have HR1 := numOf_itoa hn
        have hr1 := HR1.2.1
        have hr2 := HR1.2.2
        clear HR1
        have Hn := hide hn
        clear hn
        by_cases hin : Cm.isNode n
        · have HI := hide (isNode_yes n hin)
          have Hin := hide hin
          clear hin
          by_cases hk0 : k = 0
          · subst hk0
            have hx0 : xs = [] := List.eq_nil_of_length_eq_zero hxk
            subst hx0
            rw [Nat.add_zero] at hc
            have HNX := hide (rc_next (unhide Hinv) hlt (unhide Hn) (unhide Hin) (by have := unhide Hin; unfold Cm.isNode at this; simp; omega))
            go_wp2_with (first
              | (go_at_call 44; refine (unhide HN _).mono ?_; rintro e w' ⟨rfl, rfl⟩; simp only [numV, Option.getD, Option.isSome])
              | (go_at_call 30; refine (unhide HI _).mono ?_; rintro e w' ⟨rfl, rfl⟩)
              | (at_builtin; refine wpList_append_own _ rfl _ _ 22 rfl w1.heap.size 3 i0 (.int .i64 0) 1 8 Tryz.underlying22 hi hz0 hz1 hz2 rfl (by decide) _ _ _ rfl (hrow.alloc _) ⟨_, 0, none⟩ 1 1 [.int .i64 n] rfl rfl (cell_one_new _ _ _) (by simp [Value.oneCell']) (by unfold maxLen; simp) (by simp) (by simp; omega) ?_; intro v' w2 hown' hgrow _))
            go_roundw
            case rel => exact ⟨1, [n], by omega, by go_num, rfl, unhide HNX, by simpa using hown', below_append hB hrow hgrow hB.size⟩
            case measure => simp [intOf]; omega
          · have hk1 : 0 < k := by omega
            obtain ⟨j, hj⟩ : ∃ j, k - 1 = j := ⟨_, rfl⟩
            obtain ⟨y, hy⟩ : ∃ y, xs.getD j 0 = y := ⟨_, rfl⟩
            have HY : Hid (xs.getLastD 0 = y) := (last_snoc xs j (by omega)).trans hy
            have hcell : ∃ g o c, u5 = .slice (some ⟨g, o, none⟩) k c ∧ wr.cell? ⟨g, o + j, none⟩ = some (.int .i64 y) := by
              rcases intsAt_of_owns hrow with ⟨_, rfl⟩ | ⟨g, o, c, e, h⟩
              · simp at hxk; omega
              · exact ⟨g, o, c, by rw [← hxk]; exact e, by rw [← hy]; exact h j (by omega)⟩
            rw [hxk] at hrow
            clear hy
            obtain ⟨g, o, c5, rfl, hcy⟩ := hcell
            by_cases hny : n ≤ y
            · have H0 : Hid (rdW ws 0 0 = none) := rc_low (unhide Hinv) hlt (unhide Hn) (unhide Hin) (by rw [unhide HY]; exact hny)
              have HB := hide hB
              clear hB hrow
              go_wp2_with (first
                | (go_at_call 44; refine (unhide HN _).mono ?_; rintro e w' ⟨rfl, rfl⟩; simp only [numV, Option.getD, Option.isSome])
                | (go_at_call 30; refine (unhide HI _).mono ?_; rintro e w' ⟨rfl, rfl⟩))
              go_ret2
              exact ⟨Or.inr ⟨(unhide HR).trans (unhide H0), rfl⟩, (unhide HB1).trans ((unhide HB).mono hsz)⟩
            · have HNX := hide (rc_next (unhide Hinv) hlt (unhide Hn) (unhide Hin) (by rw [unhide HY]; omega))
              go_wp2_with (first
                | (go_at_call 44; refine (unhide HN _).mono ?_; rintro e w' ⟨rfl, rfl⟩; simp only [numV, Option.getD, Option.isSome])
                | (go_at_call 30; refine (unhide HI _).mono ?_; rintro e w' ⟨rfl, rfl⟩)
                | (at_builtin; refine wpList_append_own _ rfl _ _ 22 rfl w1.heap.size 3 i0 (.int .i64 0) 1 8 Tryz.underlying22 hi hz0 hz1 hz2 rfl (by decide) _ _ _ rfl (hrow.alloc _) ⟨_, 0, none⟩ 1 1 [.int .i64 n] rfl rfl (cell_one_new _ _ _) (by simp [Value.oneCell']) (by unfold maxLen; omega) (by omega) (by simp; omega) ?_; intro v' w2 hown' hgrow _))
              go_roundw
              case rel => exact ⟨k + 1, xs ++ [n], by omega, by go_num, by simp [hxk], unhide HNX, by simpa [hxk] using hown', below_append hB hrow hgrow hB.size⟩
              case measure => simp [intOf]; omega
        · have HI := hide (isNode_no n hin)
          have H0 : Hid (rdW ws 0 0 = none) := rc_none (unhide Hinv) hlt (fun m e => by rw [unhide Hn] at e; cases e; exact hin)
          have HB := hide hB
          clear hB hrow hin
          go_wp2_with (first
            | (go_at_call 44; refine (unhide HN _).mono ?_; rintro e w' ⟨rfl, rfl⟩; simp only [numV, Option.getD, Option.isSome])
            | (go_at_call 30; refine (unhide HI _).mono ?_; rintro e w' ⟨rfl, rfl⟩))
          go_ret2
          exact ⟨Or.inr ⟨(unhide HR).trans (unhide H0), rfl⟩, (unhide HB1).trans ((unhide HB).mono hsz)⟩
    · have hks : k = ws.length := by omega
      subst hks
      have HCO := hide (crewOf_ok _ xs wr (intsAt_of_owns hrow) (by unfold maxLen; omega) (unhide Hinv).2.1)
      have HE := hide (rc_end (unhide Hinv))
      have HB := hide hB
      clear hB hrow
      go_wp2_with (go_at_call 25; refine (unhide HCO).mono ?_; rintro e w3 ⟨rfl, hB3⟩)
      go_ret2
      exact ⟨Or.inl ⟨_, (unhide HR).trans (unhide HE), rfl⟩, ((unhide HB1).trans ((unhide HB).mono hsz)).trans ((hB3.mono (by omega)).alloc (by have := hB3.size; omega) _)⟩
end Go.Proofs.YtjghgjkfnhmnkaaGreatDoor
