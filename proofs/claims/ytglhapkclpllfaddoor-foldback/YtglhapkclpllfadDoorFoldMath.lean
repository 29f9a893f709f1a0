/-
  Plain mathematics of histories as texts: what is written is read; what each node said last, from the front and from behind.
-/
import Derived.Test.YtglhapkclpllfadDoorFrameMath
import Derived.Test.YtglhapkclpllfadDoorCliqueMath
namespace Go.Proofs.YtglhapkclpllfadDoor
open Go.RowKit Go.Shelf

/-- An entry as a word. -/
def wordE (e : Ent) : List UInt8 := Lib.itoa e.src ++ (if e.heard then 58 :: Lib.itoa e.value else [33])
/-- A history as a text. -/
def histL (l : List Ent) : List UInt8 := if l.length = 0 then [45] else Lib.join (l.map wordE) [44]
/-- A word, read as the entry of a place. -/
def readW (i : Nat) (w : List UInt8) : Option Ent := match spl 58 w with
  | [a] => if a.getLast? = some 33 then (match numOf a.dropLast with | some n => some ⟨i, n, false, 0⟩ | none => none) else none
  | [a, b] => match numOf a, numOf b with
    | some n, some v => some ⟨i, n, true, v⟩
    | _, _ => none
  | _ => none
def readWs : Nat → List (List UInt8) → Option (List Ent)
  | _, [] => some []
  | i, w :: ws => match readW i w, readWs (i + 1) ws with
    | some e, some l => some (e :: l)
    | _, _ => none
/-- A text, read as a history (whose entries may be wrong). -/
def readH (l : List UInt8) : Option (List Ent) := if l = [45] then some [] else readWs 0 (spl 44 l)
theorem itoa_sign (n : Int) : ∀ b ∈ Lib.itoa n, b = 45 ∨ isDg b := fun b hb => by
  unfold Lib.itoa at hb
  split at hb
  · rcases List.mem_cons.1 hb with rfl | hb
    · exact Or.inl rfl
    · exact Or.inr (dec_isDg _ b hb)
  · exact Or.inr (dec_isDg _ b hb)
theorem itoa_no (n : Int) (c : UInt8) (h1 : c ≠ 45) (h2 : ¬ isDg c) : ∀ b ∈ Lib.itoa n, b ≠ c := fun b hb e => by
  subst e
  rcases itoa_sign n b hb with h | h
  · exact h1 h
  · exact h2 h
theorem word_comma (e : Ent) : ∀ b ∈ wordE e, b ≠ 44 := fun b hb => by
  unfold wordE at hb
  rcases List.mem_append.1 hb with hb | hb
  · exact itoa_no _ 44 (by decide) (by decide) b hb
  · cases hh : e.heard with
    | true =>
      rw [hh, if_pos rfl] at hb
      rcases List.mem_cons.1 hb with rfl | hb
      · decide
      · exact itoa_no _ 44 (by decide) (by decide) b hb
    | false =>
      rw [hh, if_neg (by decide)] at hb
      rw [List.mem_singleton.1 hb]
      decide
theorem read_word (i : Nat) (e : Ent) (h : entErr i e = 0) : readW i (wordE e) = some e := by
  obtain ⟨h1, h2, h3, h4⟩ := ent_right h
  obtain ⟨sl, sr, he, va⟩ := e
  simp only at h1 h2 h3 h4
  subst h1
  unfold readW wordE
  simp only
  cases he with
  | true =>
    rw [if_pos rfl, spl_word 58 _ _ (itoa_no _ 58 (by decide) (by decide)), spl_last 58 _ (itoa_no _ 58 (by decide) (by decide))]
    simp only
    rw [numOf_of sr (by omega) (by omega), numOf_of va (by omega) (by omega)]
  | false =>
    rw [if_neg (by decide), spl_last 58 _ (fun b hb => by
      rcases List.mem_append.1 hb with hb | hb
      · exact itoa_no _ 58 (by decide) (by decide) b hb
      · rw [List.mem_singleton.1 hb]; decide)]
    simp only
    rw [List.getLast?_concat, if_pos rfl, List.dropLast_concat, numOf_of sr (by omega) (by omega)]
    simp only
    rw [h4 rfl]
theorem spl_words (c : UInt8) : ∀ (ws : List (List UInt8)) (w : List UInt8), (∀ x ∈ w :: ws, ∀ b ∈ x, b ≠ c) → spl c (Lib.join (w :: ws) [c]) = w :: ws
  | [], w, h => by rw [Lib.join_one]; exact spl_last c w (h w (by simp))
  | y :: ws, w, h => by
    have e : Lib.join (w :: y :: ws) [c] = w ++ c :: Lib.join (y :: ws) [c] := by simp [Lib.join, List.intercalate]
    rw [e, spl_word c w _ (h w (by simp)), spl_words c ws y (fun x hx => h x (List.mem_cons_of_mem _ hx))]
theorem read_words : ∀ (l : List Ent) (i : Nat), (∀ k, k < l.length → entErr (i + k) (l.getD k Ent.zero) = 0) → readWs i (l.map wordE) = some l
  | [], _, _ => rfl
  | e :: l, i, h => by
    have h0 : entErr i e = 0 := by simpa using h 0 (by simp)
    have ih := read_words l (i + 1) (fun k hk => by
      have := h (k + 1) (by simpa using hk)
      rw [show i + 1 + k = i + (k + 1) by omega]
      simpa using this)
    rw [List.map_cons, readWs, read_word i e h0, ih]
theorem word_dash {e : Ent} (h : 1 ≤ e.src) (r : List UInt8) : wordE e ++ r ≠ [45] := by
  obtain ⟨k, hk⟩ : ∃ k : Nat, e.src = (k : Int) := ⟨e.src.toNat, by omega⟩
  unfold wordE
  rw [hk, Lib.itoa_nonneg]
  intro hh
  have hl := congrArg List.length hh
  have hd : 0 < (Lib.decDigits k).length := List.length_pos_iff.2 (dec_ne k)
  have ht : 0 < (if e.heard = true then (58 : UInt8) :: Lib.itoa e.value else [33]).length := by split <;> simp
  rw [List.length_append, List.length_append] at hl
  simp only [List.length_cons, List.length_nil] at hl
  omega
theorem read_hist (l : List Ent) (h : histOk l) : readH (histL l) = some l := by
  unfold histL
  by_cases h0 : l.length = 0
  · rw [if_pos h0, List.eq_nil_of_length_eq_zero h0]; rfl
  rw [if_neg h0]
  match l, h0, h with
  | e :: l, _, h =>
    have he : entErr 0 e = 0 := by simpa using h.2 0 (by simp)
    obtain ⟨_, h2, _⟩ := ent_right he
    have hne : Lib.join ((e :: l).map wordE) [44] ≠ [45] := by
      cases l with
      | nil =>
        have := word_dash h2.1 []
        rw [List.append_nil] at this
        simpa [Lib.join_one] using this
      | cons y l =>
        have e1 : Lib.join ((e :: y :: l).map wordE) [44] = wordE e ++ 44 :: Lib.join ((y :: l).map wordE) [44] := by simp [Lib.join, List.intercalate]
        rw [e1]
        exact word_dash h2.1 _
    unfold readH
    rw [if_neg hne, List.map_cons, spl_words 44 _ _ (fun x hx b hb => by
      rw [← List.map_cons] at hx
      obtain ⟨z, _, rfl⟩ := List.mem_map.1 hx
      exact word_comma z b hb), ← List.map_cons]
    exact read_words (e :: l) 0 (fun k hk => by rw [Nat.zero_add]; exact h.2 k hk)
/-- What a node said last that was heard; nothing: 0. -/
def lastV (l : List Ent) (n : Int) : Int := l.foldl (fun v e => if e.heard && e.src == n then e.value else v) 0
theorem lastV_snoc (l : List Ent) (k : Nat) (n : Int) (h : k < l.length) : lastV (l.take (k + 1)) n = if (l.getD k Ent.zero).heard && (l.getD k Ent.zero).src == n then (l.getD k Ent.zero).value else lastV (l.take k) n := by
  unfold lastV
  rw [List.take_succ_eq_append_getElem h, List.foldl_append, List.getD_eq_getElem?_getD, List.getElem?_eq_getElem h]
  rfl
theorem lastV_none : ∀ (l : List Ent) (n v : Int), (∀ e ∈ l, (e.heard && e.src == n) = false) → l.foldl (fun v e => if e.heard && e.src == n then e.value else v) v = v
  | [], _, _, _ => rfl
  | e :: l, n, v, h => by
    rw [List.foldl_cons, h e (by simp), if_neg (by decide)]
    exact lastV_none l n v (fun x hx => h x (List.mem_cons_of_mem _ hx))
/-- From behind: the first that is found is the last. -/
theorem lastV_at (l : List Ent) (n : Int) (k : Nat) (h : k < l.length) (hk : ((l.getD k Ent.zero).heard && (l.getD k Ent.zero).src == n) = true) (hno : ∀ i, k < i → i < l.length → ((l.getD i Ent.zero).heard && (l.getD i Ent.zero).src == n) = false) : lastV l n = (l.getD k Ent.zero).value := by
  have h1 := lastV_snoc l k n h
  rw [hk, if_pos rfl] at h1
  unfold lastV at h1 ⊢
  have h2 : l.foldl (fun v e => if e.heard && e.src == n then e.value else v) 0 = (l.take (k + 1) ++ l.drop (k + 1)).foldl (fun v e => if e.heard && e.src == n then e.value else v) 0 := by rw [List.take_append_drop]
  rw [h2, List.foldl_append, h1]
  refine lastV_none _ _ _ fun x hx => ?_
  obtain ⟨i, hi, rfl⟩ := List.mem_iff_getElem.1 hx
  rw [List.length_drop] at hi
  have := hno (k + 1 + i) (by omega) (by omega)
  rw [List.getD_eq_getElem?_getD, List.getElem?_eq_getElem (by omega)] at this
  rw [List.getElem_drop]
  exact this
theorem lastV_no (l : List Ent) (n : Int) (hno : ∀ i, i < l.length → ((l.getD i Ent.zero).heard && (l.getD i Ent.zero).src == n) = false) : lastV l n = 0 := by
  unfold lastV
  refine lastV_none _ _ _ fun x hx => ?_
  obtain ⟨i, hi, rfl⟩ := List.mem_iff_getElem.1 hx
  have := hno i hi
  rw [List.getD_eq_getElem?_getD, List.getElem?_eq_getElem hi] at this
  exact this
theorem lastV_bound (l : List Ent) (n : Int) (h : ∀ e ∈ l, -1048576 ≤ e.value ∧ e.value ≤ 1048576) : -1048576 ≤ lastV l n ∧ lastV l n ≤ 1048576 := by
  unfold lastV
  have key : ∀ (l : List Ent) (v : Int), (∀ e ∈ l, -1048576 ≤ e.value ∧ e.value ≤ 1048576) → (-1048576 ≤ v ∧ v ≤ 1048576) → -1048576 ≤ l.foldl (fun v e => if e.heard && e.src == n then e.value else v) v ∧ l.foldl (fun v e => if e.heard && e.src == n then e.value else v) v ≤ 1048576 := by
    intro l
    induction l with
    | nil => intro v _ hv; exact hv
    | cons e l ih =>
      intro v h hv
      rw [List.foldl_cons]
      refine ih _ (fun x hx => h x (List.mem_cons_of_mem _ hx)) ?_
      split
      · exact h e (by simp)
      · exact hv
  exact key l 0 h (by omega)
end Go.Proofs.YtglhapkclpllfadDoor
