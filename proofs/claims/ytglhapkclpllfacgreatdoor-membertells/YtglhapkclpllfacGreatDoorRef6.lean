/-
  Contracts of the document's answer: ReadCrew.
-/
import Derived.Test.YtglhapkclpllfacGreatDoorRef5
import Derived.Test.YtglhapkclpllfacGreatDoorRefOf
namespace Go.Proofs.YtglhapkclpllfacGreatDoor
open Go.RowKit

theorem last_snoc (xs : List Int) (j : Nat) (h : xs.length = j + 1) : xs.getLastD 0 = xs.getD j 0 := by
  rw [List.getD_eq_getElem?_getD, List.getLastD_eq_getLast?, List.getLast?_eq_getElem?, show xs.length - 1 = j by omega]
/-- What the loop of ReadCrew keeps. -/
def rcInv (ws : List (List UInt8)) (k : Nat) (xs : List Int) : Prop :=
  xs.length = k ∧ (∀ x ∈ xs, Cm.isNode x) ∧ rdW ws 0 0 = rdW (ws.drop k) (Cm.ofN xs) (xs.getLastD 0).toNat
theorem rc_next {ws : List (List UInt8)} {k : Nat} {xs : List Int} (h : rcInv ws k xs) (hk : k < ws.length) {n : Int} (hn : numOf (ws.getD k []) = some n) (hi : Cm.isNode n) (hl : xs.getLastD 0 < n) : rcInv ws (k + 1) (xs ++ [n]) := by
  obtain ⟨h1, h2, h3⟩ := h
  have hw := node_num hn hi
  refine ⟨by simp [h1], fun x hx => ?_, ?_⟩
  · rcases List.mem_append.1 hx with hx | hx
    · exact h2 x hx
    · rw [List.mem_singleton.1 hx]; exact hi
  · rw [h3, List.drop_eq_getElem_cons hk]
    have : ws[k] = ws.getD k [] := by simp [List.getD_eq_getElem?_getD, List.getElem?_eq_getElem hk]
    rw [this, rdW, hw, if_neg (by unfold Cm.isNode at hi; omega), Cm.ofN_snoc]
    simp
theorem rc_low {ws : List (List UInt8)} {k : Nat} {xs : List Int} (h : rcInv ws k xs) (hk : k < ws.length) {n : Int} (hn : numOf (ws.getD k []) = some n) (hi : Cm.isNode n) (hl : n ≤ xs.getLastD 0) : rdW ws 0 0 = none := by
  obtain ⟨h1, h2, h3⟩ := h
  have hw := node_num hn hi
  have : ws[k] = ws.getD k [] := by simp [List.getD_eq_getElem?_getD, List.getElem?_eq_getElem hk]
  rw [h3, List.drop_eq_getElem_cons hk, this, rdW, hw, if_pos (by unfold Cm.isNode at hi; omega)]
theorem rc_none {ws : List (List UInt8)} {k : Nat} {xs : List Int} (h : rcInv ws k xs) (hk : k < ws.length) (hn : ∀ n, numOf (ws.getD k []) = some n → ¬ Cm.isNode n) : rdW ws 0 0 = none := by
  obtain ⟨h1, h2, h3⟩ := h
  have : ws[k] = ws.getD k [] := by simp [List.getD_eq_getElem?_getD, List.getElem?_eq_getElem hk]
  have h0 : nodeOf (ws.getD k []) = 0 := Classical.byContradiction fun h => hn _ (num_node h).1 (num_node h).2
  rw [h3, List.drop_eq_getElem_cons hk, this, rdW, h0, if_pos (by omega)]
theorem rc_end {ws : List (List UInt8)} {xs : List Int} (h : rcInv ws ws.length xs) : rdW ws 0 0 = some (Cm.ofN xs) := by
  rw [h.2.2]; simp [rdW]
set_option maxHeartbeats 1000000 in
set_option maxRecDepth 8000 in
theorem readCrew_ok (s : ByteArray) (hs : s.size ≤ 281474976) (w : World) :
    Calls Tryz.prog 41 #[.string s] w fun e w' => ((∃ c : Nat, readOf s.data.toList = some c ∧ e = .returned (.tuple #[.int .i64 c, .int .i64 0])) ∨ (readOf s.data.toList = none ∧ e = .returned (.tuple #[.int .i64 0, .int .i64 1]))) ∧ Below w.heap.size w w' := by
  by_cases h45 : s.data.toList = [45]
  · have e45 : s = ⟨#[45]⟩ := by
      obtain ⟨⟨l⟩⟩ := s
      simp at h45
      rw [h45]
    subst e45
    go_enter Tryz.func41, Tryz.ntmps41
    go_wp2
    go_ret2
    exact ⟨Or.inl ⟨0, rfl, rfl⟩, Below.refl _ _⟩
  have hne : (s.toList == [45]) = false := by rw [toList_data]; simpa using h45
  obtain ⟨ws, hws⟩ : ∃ ws, spl 44 s.data.toList = ws := ⟨_, rfl⟩
  have HR : Hid (readOf s.data.toList = rdW ws 0 0) := by
    show _ = _
    unfold readOf; rw [if_neg h45, readGo_rd _ _ _ _ (Nat.lt_succ_self _), hws]
  have hwl : ws.length ≤ s.size + 1 := by rw [← hws]; have := spl_many 44 s.data.toList; simpa using this
  have HW : Hid (∀ x ∈ ws, x.length ≤ s.size) := by show ∀ x ∈ ws, x.length ≤ s.size; rw [← hws]; intro x hx; have := spl_len 44 _ x hx; simpa using this
  have HC := hide (cutAll_ok s 44 (by omega))
  rw [hws] at HC
  obtain ⟨r, hr⟩ : ∃ r, readOf s.data.toList = r := ⟨_, rfl⟩
  rw [hr] at HR ⊢
  clear hws h45 hr
  obtain ⟨i0, hi, hz0, hz1, hz2⟩ := info_parts Tryz.infoInt'
  go_enter Tryz.func41, Tryz.ntmps41
  go_wp2_with (go_at_call 40; refine (unhide HC _).mono ?_; rintro e w1 ⟨v, rfl, hv, hB1⟩; clear HC; obtain ⟨ad, cap, rfl, HV⟩ := strs_cells hv; clear hv; have HB1 := hide hB1; have hsz := hB1.size; clear hB1)
  go_loopw [2, 3, 5, 6] (fun _ _ l i wr => ∃ (k : Nat) (xs : List Int), k ≤ ws.length ∧ i = .int .i64 k ∧ xs.length = k ∧ Hid (rcInv ws k xs) ∧ wr.ownsRow w1.heap.size 3 1 l xs.length (xs.map (Value.int .i64)) ∧ Below w1.heap.size w1 wr) (fun _ _ _ i _ => ws.length - (intOf i).toNat)
  case atStart => exact ⟨0, [], by omega, rfl, rfl, ⟨rfl, by simp, rfl⟩, World.ownsRow_nil _ _ _ _, Below.refl _ _⟩
  case round =>
    obtain ⟨k, xs, hk, rfl, hxk, Hinv, hrow, hB⟩ := hrel
    have hBsz := hB.size
    by_cases hlt : k < ws.length
    · obtain ⟨b, off, x, rfl, hc1, hx⟩ := unhide HV k hlt
      have hc := below_cell hB hc1
      clear hc1
      have HX := hide hx
      have HN := hide (number_ok x (by have := unhide HW _ (word_mem ws k hlt); rw [← hx] at this; simp at this; omega))
      rw [hx] at HN
      clear hx
      cases hn : numOf (ws.getD k []) with
      | none =>
        rw [hn] at HN
        have H0 : Hid (rdW ws 0 0 = none) := rc_none (unhide Hinv) hlt (fun n e => by rw [hn] at e; cases e)
        have HI := hide (isNode_no 0 (by unfold Cm.isNode; omega))
        have HB := hide hB
        clear hB hrow hn
        go_wp2_with (first
          | (go_at_call 42; refine (unhide HN _).mono ?_; rintro e w' ⟨rfl, rfl⟩; simp only [numV, Option.getD, Option.isSome])
          | (go_at_call 38; refine (unhide HI _).mono ?_; rintro e w' ⟨rfl, rfl⟩))
        go_ret2
        exact ⟨Or.inr ⟨(unhide HR).trans (unhide H0), rfl⟩, (unhide HB1).trans ((unhide HB).mono hsz)⟩
      | some n =>
        rw [hn] at HN
        have HR1 := numOf_itoa hn
        have hr1 := HR1.2.1
        have hr2 := HR1.2.2
        clear HR1
        have Hn := hide hn
        clear hn
        by_cases hin : Cm.isNode n
        · have HI := hide (isNode_yes n hin)
          have Hin := hide hin
          clear hin
          by_cases hk0 : k = 0
          · subst hk0
            have hx0 : xs = [] := List.eq_nil_of_length_eq_zero hxk
            subst hx0
            rw [Nat.add_zero] at hc
            have HNX := hide (rc_next (unhide Hinv) hlt (unhide Hn) (unhide Hin) (by have := unhide Hin; unfold Cm.isNode at this; simp; omega))
            go_wp2_with (first
              | (go_at_call 42; refine (unhide HN _).mono ?_; rintro e w' ⟨rfl, rfl⟩; simp only [numV, Option.getD, Option.isSome])
              | (go_at_call 38; refine (unhide HI _).mono ?_; rintro e w' ⟨rfl, rfl⟩)
              | (at_builtin; refine wpList_append_own _ rfl _ _ 22 rfl w1.heap.size 3 i0 (.int .i64 0) 1 8 Tryz.underlying22 hi hz0 hz1 hz2 rfl (by decide) _ _ _ rfl (hrow.alloc _) ⟨_, 0, none⟩ 1 1 [.int .i64 n] rfl rfl (cell_one_new _ _ _) (by simp [Value.oneCell']) (by unfold maxLen; simp) (by simp) (by simp; omega) ?_; intro v' w2 hown' hgrow _))
            go_roundw
            case rel => exact ⟨1, [n], by omega, by go_num, rfl, unhide HNX, by simpa using hown', below_append hB hrow hgrow hB.size⟩
            case measure => simp [intOf]; omega
          · have hk1 : 0 < k := by omega
            obtain ⟨j, hj⟩ : ∃ j, k - 1 = j := ⟨_, rfl⟩
            obtain ⟨y, hy⟩ : ∃ y, xs.getD j 0 = y := ⟨_, rfl⟩
            have HY : Hid (xs.getLastD 0 = y) := (last_snoc xs j (by omega)).trans hy
            have hcell : ∃ g o c, u5 = .slice (some ⟨g, o, none⟩) k c ∧ wr.cell? ⟨g, o + j, none⟩ = some (.int .i64 y) := by
              rcases intsAt_of_owns hrow with ⟨_, rfl⟩ | ⟨g, o, c, e, h⟩
              · simp at hxk; omega
              · exact ⟨g, o, c, by rw [← hxk]; exact e, by rw [← hy]; exact h j (by omega)⟩
            rw [hxk] at hrow
            clear hy
            obtain ⟨g, o, c5, rfl, hcy⟩ := hcell
            by_cases hny : n ≤ y
            · have H0 : Hid (rdW ws 0 0 = none) := rc_low (unhide Hinv) hlt (unhide Hn) (unhide Hin) (by rw [unhide HY]; exact hny)
              have HB := hide hB
              clear hB hrow
              go_wp2_with (first
                | (go_at_call 42; refine (unhide HN _).mono ?_; rintro e w' ⟨rfl, rfl⟩; simp only [numV, Option.getD, Option.isSome])
                | (go_at_call 38; refine (unhide HI _).mono ?_; rintro e w' ⟨rfl, rfl⟩))
              go_ret2
              exact ⟨Or.inr ⟨(unhide HR).trans (unhide H0), rfl⟩, (unhide HB1).trans ((unhide HB).mono hsz)⟩
            · have HNX := hide (rc_next (unhide Hinv) hlt (unhide Hn) (unhide Hin) (by rw [unhide HY]; omega))
              go_wp2_with (first
                | (go_at_call 42; refine (unhide HN _).mono ?_; rintro e w' ⟨rfl, rfl⟩; simp only [numV, Option.getD, Option.isSome])
                | (go_at_call 38; refine (unhide HI _).mono ?_; rintro e w' ⟨rfl, rfl⟩)
                | (at_builtin; refine wpList_append_own _ rfl _ _ 22 rfl w1.heap.size 3 i0 (.int .i64 0) 1 8 Tryz.underlying22 hi hz0 hz1 hz2 rfl (by decide) _ _ _ rfl (hrow.alloc _) ⟨_, 0, none⟩ 1 1 [.int .i64 n] rfl rfl (cell_one_new _ _ _) (by simp [Value.oneCell']) (by unfold maxLen; omega) (by omega) (by simp; omega) ?_; intro v' w2 hown' hgrow _))
              go_roundw
              case rel => exact ⟨k + 1, xs ++ [n], by omega, by go_num, by simp [hxk], unhide HNX, by simpa [hxk] using hown', below_append hB hrow hgrow hB.size⟩
              case measure => simp [intOf]; omega
        · have HI := hide (isNode_no n hin)
          have H0 : Hid (rdW ws 0 0 = none) := rc_none (unhide Hinv) hlt (fun m e => by rw [unhide Hn] at e; cases e; exact hin)
          have HB := hide hB
          clear hB hrow hin
          go_wp2_with (first
            | (go_at_call 42; refine (unhide HN _).mono ?_; rintro e w' ⟨rfl, rfl⟩; simp only [numV, Option.getD, Option.isSome])
            | (go_at_call 38; refine (unhide HI _).mono ?_; rintro e w' ⟨rfl, rfl⟩))
          go_ret2
          exact ⟨Or.inr ⟨(unhide HR).trans (unhide H0), rfl⟩, (unhide HB1).trans ((unhide HB).mono hsz)⟩
    · have hks : k = ws.length := by omega
      subst hks
      have HCO := hide (crewOf_ok _ xs wr (intsAt_of_owns hrow) (by unfold maxLen; omega) (unhide Hinv).2.1)
      have HE := hide (rc_end (unhide Hinv))
      have HB := hide hB
      clear hB hrow
      go_wp2_with (go_at_call 67; refine (unhide HCO).mono ?_; rintro e w3 ⟨rfl, hB3⟩)
      go_ret2
      exact ⟨Or.inl ⟨_, (unhide HR).trans (unhide HE), rfl⟩, ((unhide HB1).trans ((unhide HB).mono hsz)).trans ((hB3.mono (by omega)).alloc (by have := hB3.size; omega) _)⟩
end Go.Proofs.YtglhapkclpllfacGreatDoor
