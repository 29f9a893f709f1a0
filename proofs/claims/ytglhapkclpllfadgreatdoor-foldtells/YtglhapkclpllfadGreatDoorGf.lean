/-
  Plain mathematics of histories as texts: what is written is read; what each node said last, from the front and from behind.
-/
import Derived.Test.YtglhapkclpllfadGreatDoorFrameMath
import Derived.Test.YtglhapkclpllfadGreatDoorGh
import Derived.Test.YtglhapkclpllfadGreatDoorProg
import Derived.Lib.IndexBytes
import Derived.Lib.Strings
namespace Go.Proofs.YtglhapkclpllfadGreatDoor
open Go.RowKit Go.Shelf

/-- An entry as a word. -/
def wordE (e : Ent) : List UInt8 := Lib.itoa e.src ++ (if e.heard then 58 :: Lib.itoa e.value else [33])
/-- A history as a text. -/
def histL (l : List Ent) : List UInt8 := if l.length = 0 then [45] else Lib.join (l.map wordE) [44]
/-- A word, read as the entry of a place. -/
def readW (i : Nat) (w : List UInt8) : Option Ent := match spl 58 w with
  | [a] => if a.getLast? = some 33 then (match numOf a.dropLast with | some n => some ⟨i, n, false, 0⟩ | none => none) else none
  | [a, b] => match numOf a, numOf b with
    | some n, some v => some ⟨i, n, true, v⟩
    | _, _ => none
  | _ => none
def readWs : Nat → List (List UInt8) → Option (List Ent)
  | _, [] => some []
  | i, w :: ws => match readW i w, readWs (i + 1) ws with
    | some e, some l => some (e :: l)
    | _, _ => none
/-- A text, read as a history (whose entries may be wrong). -/
def readH (l : List UInt8) : Option (List Ent) := if l = [45] then some [] else readWs 0 (spl 44 l)
theorem itoa_sign (n : Int) : ∀ b ∈ Lib.itoa n, b = 45 ∨ isDg b := fun b hb => by
  unfold Lib.itoa at hb
  split at hb
  · rcases List.mem_cons.1 hb with rfl | hb
    · exact Or.inl rfl
    · exact Or.inr (dec_isDg _ b hb)
  · exact Or.inr (dec_isDg _ b hb)
theorem itoa_no (n : Int) (c : UInt8) (h1 : c ≠ 45) (h2 : ¬ isDg c) : ∀ b ∈ Lib.itoa n, b ≠ c := fun b hb e => by
  subst e
  rcases itoa_sign n b hb with h | h
  · exact h1 h
  · exact h2 h
theorem word_comma (e : Ent) : ∀ b ∈ wordE e, b ≠ 44 := fun b hb => by
  unfold wordE at hb
  rcases List.mem_append.1 hb with hb | hb
  · exact itoa_no _ 44 (by decide) (by decide) b hb
  · cases hh : e.heard with
    | true =>
      rw [hh, if_pos rfl] at hb
      rcases List.mem_cons.1 hb with rfl | hb
      · decide
      · exact itoa_no _ 44 (by decide) (by decide) b hb
    | false =>
      rw [hh, if_neg (by decide)] at hb
      rw [List.mem_singleton.1 hb]
      decide
theorem read_word (i : Nat) (e : Ent) (h : entErr i e = 0) : readW i (wordE e) = some e := by
  obtain ⟨h1, h2, h3, h4⟩ := ent_right h
  obtain ⟨sl, sr, he, va⟩ := e
  simp only at h1 h2 h3 h4
  subst h1
  unfold readW wordE
  simp only
  cases he with
  | true =>
    rw [if_pos rfl, spl_word 58 _ _ (itoa_no _ 58 (by decide) (by decide)), spl_last 58 _ (itoa_no _ 58 (by decide) (by decide))]
    simp only
    rw [numOf_of sr (by omega) (by omega), numOf_of va (by omega) (by omega)]
  | false =>
    rw [if_neg (by decide), spl_last 58 _ (fun b hb => by
      rcases List.mem_append.1 hb with hb | hb
      · exact itoa_no _ 58 (by decide) (by decide) b hb
      · rw [List.mem_singleton.1 hb]; decide)]
    simp only
    rw [List.getLast?_concat, if_pos rfl, List.dropLast_concat, numOf_of sr (by omega) (by omega)]
    simp only
    rw [h4 rfl]
theorem spl_words (c : UInt8) : ∀ (ws : List (List UInt8)) (w : List UInt8), (∀ x ∈ w :: ws, ∀ b ∈ x, b ≠ c) → spl c (Lib.join (w :: ws) [c]) = w :: ws
  | [], w, h => by rw [Lib.join_one]; exact spl_last c w (h w (by simp))
  | y :: ws, w, h => by
    have e : Lib.join (w :: y :: ws) [c] = w ++ c :: Lib.join (y :: ws) [c] := by simp [Lib.join, List.intercalate]
    rw [e, spl_word c w _ (h w (by simp)), spl_words c ws y (fun x hx => h x (List.mem_cons_of_mem _ hx))]
theorem read_words : ∀ (l : List Ent) (i : Nat), (∀ k, k < l.length → entErr (i + k) (l.getD k Ent.zero) = 0) → readWs i (l.map wordE) = some l
  | [], _, _ => rfl
  | e :: l, i, h => by
    have h0 : entErr i e = 0 := by simpa using h 0 (by simp)
    have ih := read_words l (i + 1) (fun k hk => by
      have := h (k + 1) (by simpa using hk)
      rw [show i + 1 + k = i + (k + 1) by omega]
      simpa using this)
    rw [List.map_cons, readWs, read_word i e h0, ih]
theorem word_dash {e : Ent} (h : 1 ≤ e.src) (r : List UInt8) : wordE e ++ r ≠ [45] := by
  obtain ⟨k, hk⟩ : ∃ k : Nat, e.src = (k : Int) := ⟨e.src.toNat, by omega⟩
  unfold wordE
  rw [hk, Lib.itoa_nonneg]
  intro hh
  have hl := congrArg List.length hh
  have hd : 0 < (Lib.decDigits k).length := List.length_pos_iff.2 (dec_ne k)
  have ht : 0 < (if e.heard = true then (58 : UInt8) :: Lib.itoa e.value else [33]).length := by split <;> simp
  rw [List.length_append, List.length_append] at hl
  simp only [List.length_cons, List.length_nil] at hl
  omega
theorem read_hist (l : List Ent) (h : histOk l) : readH (histL l) = some l := by
  unfold histL
  by_cases h0 : l.length = 0
  · rw [if_pos h0, List.eq_nil_of_length_eq_zero h0]; rfl
  rw [if_neg h0]
  match l, h0, h with
  | e :: l, _, h =>
    have he : entErr 0 e = 0 := by simpa using h.2 0 (by simp)
    obtain ⟨_, h2, _⟩ := ent_right he
    have hne : Lib.join ((e :: l).map wordE) [44] ≠ [45] := by
      cases l with
      | nil =>
        have := word_dash h2.1 []
        rw [List.append_nil] at this
        simpa [Lib.join_one] using this
      | cons y l =>
        have e1 : Lib.join ((e :: y :: l).map wordE) [44] = wordE e ++ 44 :: Lib.join ((y :: l).map wordE) [44] := by simp [Lib.join, List.intercalate]
        rw [e1]
        exact word_dash h2.1 _
    unfold readH
    rw [if_neg hne, List.map_cons, spl_words 44 _ _ (fun x hx b hb => by
      rw [← List.map_cons] at hx
      obtain ⟨z, _, rfl⟩ := List.mem_map.1 hx
      exact word_comma z b hb), ← List.map_cons]
    exact read_words (e :: l) 0 (fun k hk => by rw [Nat.zero_add]; exact h.2 k hk)
/-- What a node said last that was heard; nothing: 0. -/
def lastV (l : List Ent) (n : Int) : Int := l.foldl (fun v e => if e.heard && e.src == n then e.value else v) 0
theorem lastV_snoc (l : List Ent) (k : Nat) (n : Int) (h : k < l.length) : lastV (l.take (k + 1)) n = if (l.getD k Ent.zero).heard && (l.getD k Ent.zero).src == n then (l.getD k Ent.zero).value else lastV (l.take k) n := by
  unfold lastV
  rw [List.take_succ_eq_append_getElem h, List.foldl_append, List.getD_eq_getElem?_getD, List.getElem?_eq_getElem h]
  rfl
theorem lastV_none : ∀ (l : List Ent) (n v : Int), (∀ e ∈ l, (e.heard && e.src == n) = false) → l.foldl (fun v e => if e.heard && e.src == n then e.value else v) v = v
  | [], _, _, _ => rfl
  | e :: l, n, v, h => by
    rw [List.foldl_cons, h e (by simp), if_neg (by decide)]
    exact lastV_none l n v (fun x hx => h x (List.mem_cons_of_mem _ hx))
/-- From behind: the first that is found is the last. -/
theorem lastV_at (l : List Ent) (n : Int) (k : Nat) (h : k < l.length) (hk : ((l.getD k Ent.zero).heard && (l.getD k Ent.zero).src == n) = true) (hno : ∀ i, k < i → i < l.length → ((l.getD i Ent.zero).heard && (l.getD i Ent.zero).src == n) = false) : lastV l n = (l.getD k Ent.zero).value := by
  have h1 := lastV_snoc l k n h
  rw [hk, if_pos rfl] at h1
  unfold lastV at h1 ⊢
  have h2 : l.foldl (fun v e => if e.heard && e.src == n then e.value else v) 0 = (l.take (k + 1) ++ l.drop (k + 1)).foldl (fun v e => if e.heard && e.src == n then e.value else v) 0 := by rw [List.take_append_drop]
  rw [h2, List.foldl_append, h1]
  refine lastV_none _ _ _ fun x hx => ?_
  obtain ⟨i, hi, rfl⟩ := List.mem_iff_getElem.1 hx
  rw [List.length_drop] at hi
  have := hno (k + 1 + i) (by omega) (by omega)
  rw [List.getD_eq_getElem?_getD, List.getElem?_eq_getElem (by omega)] at this
  rw [List.getElem_drop]
  exact this
theorem lastV_no (l : List Ent) (n : Int) (hno : ∀ i, i < l.length → ((l.getD i Ent.zero).heard && (l.getD i Ent.zero).src == n) = false) : lastV l n = 0 := by
  unfold lastV
  refine lastV_none _ _ _ fun x hx => ?_
  obtain ⟨i, hi, rfl⟩ := List.mem_iff_getElem.1 hx
  have := hno i hi
  rw [List.getD_eq_getElem?_getD, List.getElem?_eq_getElem hi] at this
  exact this
theorem lastV_bound (l : List Ent) (n : Int) (h : ∀ e ∈ l, -1048576 ≤ e.value ∧ e.value ≤ 1048576) : -1048576 ≤ lastV l n ∧ lastV l n ≤ 1048576 := by
  unfold lastV
  have key : ∀ (l : List Ent) (v : Int), (∀ e ∈ l, -1048576 ≤ e.value ∧ e.value ≤ 1048576) → (-1048576 ≤ v ∧ v ≤ 1048576) → -1048576 ≤ l.foldl (fun v e => if e.heard && e.src == n then e.value else v) v ∧ l.foldl (fun v e => if e.heard && e.src == n then e.value else v) v ≤ 1048576 := by
    intro l
    induction l with
    | nil => intro v _ hv; exact hv
    | cons e l ih =>
      intro v h hv
      rw [List.foldl_cons]
      refine ih _ (fun x hx => h x (List.mem_cons_of_mem _ hx)) ?_
      split
      · exact h e (by simp)
      · exact hv
  exact key l 0 h (by omega)
end Go.Proofs.YtglhapkclpllfadGreatDoor
/-
  Plain mathematics of histories: what each of the nodes said last, as a list; what that makes together.
-/
namespace Go.Proofs.YtglhapkclpllfadGreatDoor
open Go.RowKit Go.Shelf

/-- What the first k nodes said last. -/
def lastL (k : Nat) (l : List Ent) : List Int := (List.range k).map fun (i : Nat) => lastV l ((i : Int) + 1)
theorem lastL_len (k : Nat) (l : List Ent) : (lastL k l).length = k := by simp [lastL]
theorem lastL_succ (k : Nat) (l : List Ent) : lastL (k + 1) l = lastL k l ++ [lastV l ((k : Int) + 1)] := by
  unfold lastL
  rw [List.range_succ, List.map_append]
  rfl
theorem lastL_at (k i : Nat) (l : List Ent) (h : i < k) : (lastL k l).getD i 0 = lastV l ((i : Int) + 1) := by
  unfold lastL
  rw [List.getD_eq_getElem?_getD, List.getElem?_map, List.getElem?_range h]
  rfl
/-- What the first k of them make together. -/
def sumL (k : Nat) (l : List Int) : Int := (l.take k).foldl (· + ·) 0
theorem sumL_zero (l : List Int) : sumL 0 l = 0 := rfl
theorem sumL_succ (k : Nat) (l : List Int) (h : k < l.length) : sumL (k + 1) l = sumL k l + l.getD k 0 := by
  unfold sumL
  rw [List.take_succ_eq_append_getElem h, List.foldl_append, List.getD_eq_getElem?_getD, List.getElem?_eq_getElem h]
  rfl
theorem sumL_bound (l : List Int) (B : Nat) (h : ∀ i, i < l.length → -(B : Int) ≤ l.getD i 0 ∧ l.getD i 0 ≤ B) : ∀ k, k ≤ l.length → -((k * B : Nat) : Int) ≤ sumL k l ∧ sumL k l ≤ ((k * B : Nat) : Int)
  | 0, _ => by rw [sumL_zero]; simp
  | k + 1, hk => by
    have ih := sumL_bound l B h k (by omega)
    have h1 := h k (by omega)
    rw [sumL_succ k l (by omega), Nat.add_mul, Nat.one_mul]
    omega
def totL (l : List Ent) : Int := sumL 16 (lastL 16 l)
/-- One entry more: who was heard has its value there, nobody else turns. -/
theorem lastL_step (l : List Ent) (k : Nat) (h : k < l.length) :
    ((l.getD k Ent.zero).heard = false → ∀ i, lastV (l.take (k + 1)) i = lastV (l.take k) i) ∧
    ((l.getD k Ent.zero).heard = true → ∀ i : Int, lastV (l.take (k + 1)) i = if i = (l.getD k Ent.zero).src then (l.getD k Ent.zero).value else lastV (l.take k) i) := by
  constructor
  · intro hh i
    rw [lastV_snoc l k i h, hh, Bool.false_and, if_neg (by decide)]
  · intro hh i
    rw [lastV_snoc l k i h, hh, Bool.true_and]
    by_cases e : i = (l.getD k Ent.zero).src
    · rw [if_pos e, if_pos (by rw [e]; exact beq_self_eq_true _)]
    · rw [if_neg e, if_neg (by simp; exact fun e' => e e'.symm)]
theorem last_small {l : List Ent} (h : histOk l) : ∀ k, k ≤ 16 → -16777216 ≤ sumL k (lastL 16 l) ∧ sumL k (lastL 16 l) ≤ 16777216 := fun k hk => by
  have hb : ∀ e ∈ l, -1048576 ≤ e.value ∧ e.value ≤ 1048576 := fun e he => by
    obtain ⟨i, hi, rfl⟩ := List.mem_iff_getElem.1 he
    have h2 := (ent_right (h.2 i hi)).2.2.1
    rw [List.getD_eq_getElem?_getD, List.getElem?_eq_getElem hi] at h2
    exact h2
  have h1 := sumL_bound (lastL 16 l) 1048576 (fun i hi => by
    rw [lastL_len] at hi
    rw [lastL_at 16 i l hi]
    exact lastV_bound l _ hb) k (by rw [lastL_len]; exact hk)
  have h2 : k * 1048576 ≤ 16 * 1048576 := Nat.mul_le_mul_right _ hk
  omega
end Go.Proofs.YtglhapkclpllfadGreatDoor
/-
  Plain mathematics of reading a history, word by word; a word's parts as the library cuts them; rows of entries that grow.
-/
namespace Go.Proofs.YtglhapkclpllfadGreatDoor
open Go.RowKit Go.Shelf

theorem Tryz.infoENF : (Tryz.prog.info? 48).map (fun i => (i.zero, i.size, i.bytes)) = some (some (.agg #[.int .i64 0, .int .i64 0, .bool false, .int .i64 0]), 4, 32) := by kernel_rfl
theorem readWs_append : ∀ (a b : List (List UInt8)) (i : Nat), readWs i (a ++ b) = (readWs i a).bind fun x => (readWs (i + a.length) b).map fun y => x ++ y
  | [], b, i => by simp [readWs]
  | w :: a, b, i => by
    rw [List.cons_append, readWs, readWs, readWs_append a b (i + 1), show i + 1 + a.length = i + (w :: a).length by simp; omega]
    cases readW i w with
    | none => rfl
    | some e => cases readWs (i + 1) a with
      | none => rfl
      | some l => cases readWs (i + (w :: a).length) b <;> rfl
/-- The first k words are read. -/
def rdInv (ws : List (List UInt8)) (k : Nat) (ys : List Ent) : Prop := readWs 0 (ws.take k) = some ys ∧ ys.length = k
theorem rd_next {ws : List (List UInt8)} {k : Nat} {ys : List Ent} {e : Ent} (h : rdInv ws k ys) (hk : k < ws.length) (he : readW k (ws.getD k []) = some e) : rdInv ws (k + 1) (ys ++ [e]) := by
  refine ⟨?_, by rw [List.length_append, h.2]; rfl⟩
  rw [List.take_succ_eq_append_getElem hk, readWs_append, h.1, List.length_take, Nat.min_eq_left (Nat.le_of_lt hk), Nat.zero_add]
  rw [List.getD_eq_getElem?_getD, List.getElem?_eq_getElem hk, Option.getD_some] at he
  simp [readWs, he]
theorem rd_stop {ws : List (List UInt8)} {k : Nat} (hk : k < ws.length) (he : readW k (ws.getD k []) = none) : readWs 0 ws = none := by
  rw [List.getD_eq_getElem?_getD, List.getElem?_eq_getElem hk, Option.getD_some] at he
  have e : ws = ws.take k ++ ws[k] :: ws.drop (k + 1) := by rw [← List.drop_eq_getElem_cons hk, List.take_append_drop]
  rw [e, readWs_append, List.length_take, Nat.min_eq_left (Nat.le_of_lt hk), Nat.zero_add]
  cases readWs 0 (ws.take k) with
  | none => rfl
  | some l => simp [readWs, he]
theorem rd_end {ws : List (List UInt8)} {ys : List Ent} (h : rdInv ws ws.length ys) : readWs 0 ws = some ys := by
  have := h.1
  rwa [List.take_of_length_le (Nat.le_refl _)] at this
/-- Behind an append to a row of records. -/
theorem below_app {B S : Nat} {a wr w1 : World} {e : TypeId} {v : Value} {n : Nat} {xs : List Value} {o : Obj} (hB : Below B a wr) (hrow : wr.ownsRow B e S v n xs) (hgrow : (wr.alloc o).grownBy w1 v.ownBlock) (hle : B ≤ wr.heap.size) : Below B a w1 :=
  (hB.alloc hle o).grown hgrow (by simp; omega) fun k e => (hrow.lt k e).1
theorem cells_snoc (ys : List Ent) (e : Ent) : ((ys ++ [e]).map Ent.cells).flatten = (ys.map Ent.cells).flatten ++ [.int .i64 e.slot, .int .i64 e.src, .bool e.heard, .int .i64 e.value] := by
  simp [Ent.cells]

/-- A text cut at its first byte c. -/
def cutC (c : UInt8) : List UInt8 → List UInt8 × List UInt8 × Bool
  | [] => ([], [], false)
  | b :: r => if b == c then ([], r, true) else (b :: (cutC c r).1, (cutC c r).2.1, (cutC c r).2.2)
theorem cutC_no (c : UInt8) : ∀ l, Lib.indexByte l c = -1 → cutC c l = (l, [], false)
  | [], _ => rfl
  | b :: r, h => by
    unfold Lib.indexByte at h
    by_cases hb : (b == c) = true
    · rw [if_pos hb] at h; simp at h
    · rw [if_neg hb] at h
      by_cases hr : (Lib.indexByte r c == -1) = true
      · have ih := cutC_no c r (eq_of_beq hr)
        simp [cutC, hb, ih]
      · rw [if_neg hr] at h
        have := Lib.indexByte_ge r c
        simp at hr; omega
theorem cutC_yes (c : UInt8) : ∀ l (i : Nat), Lib.indexByte l c = (i : Int) → i < l.length ∧ cutC c l = (l.take i, l.drop (i + 1), true)
  | [], i, h => by simp [Lib.indexByte] at h
  | b :: r, i, h => by
    unfold Lib.indexByte at h
    by_cases hb : (b == c) = true
    · rw [if_pos hb] at h
      have : i = 0 := by omega
      subst this
      simp [cutC, hb]
    · rw [if_neg hb] at h
      by_cases hr : (Lib.indexByte r c == -1) = true
      · rw [if_pos hr] at h; omega
      · rw [if_neg hr] at h
        have h0 := Lib.indexByte_ge r c
        have hr' : Lib.indexByte r c ≠ -1 := by simpa using hr
        obtain ⟨j, rfl⟩ : ∃ j, i = j + 1 := ⟨i - 1, by omega⟩
        obtain ⟨hj, ih⟩ := cutC_yes c r j (by omega)
        simp [cutC, hb, ih, hj]
theorem cutC_len (c : UInt8) : ∀ l, (cutC c l).1.length ≤ l.length ∧ (cutC c l).2.1.length ≤ l.length
  | [] => by simp [cutC]
  | b :: r => by
    have ih := cutC_len c r
    by_cases hb : (b == c) = true
    · simp [cutC, hb]
    · simp only [cutC, hb]
      exact ⟨by simp; exact ih.1, by simp; omega⟩
theorem cutC_mem (c : UInt8) : ∀ l, (c ∈ l ↔ (cutC c l).2.2 = true) ∧ ((cutC c l).2.2 = false → cutC c l = (l, [], false)) ∧ ((cutC c l).2.2 = true → l = (cutC c l).1 ++ c :: (cutC c l).2.1 ∧ c ∉ (cutC c l).1)
  | [] => by simp [cutC]
  | b :: r => by
    obtain ⟨h1, h2, h3⟩ := cutC_mem c r
    by_cases hb : (b == c) = true
    · have e := eq_of_beq hb
      subst e
      simp [cutC]
    · have hne : ¬ c = b := fun e => hb (by rw [e]; exact beq_self_eq_true _)
      simp only [cutC, hb]
      refine ⟨by simp [hne, h1], fun h => ?_, fun h => ?_⟩
      · have h' := h2 h
        simp [h']
      · obtain ⟨e1, e2⟩ := h3 h
        exact ⟨by simp; exact e1, by simp [hne, e2]⟩
theorem num_signs {l : List UInt8} {n : Int} (h : numOf l = some n) : ∀ b ∈ l, b = 45 ∨ isDg b := by
  rw [← (numOf_itoa h).1]
  exact itoa_sign n
theorem num_no {l : List UInt8} (b : UInt8) (hb : b ∈ l) (h1 : b ≠ 45) (h2 : ¬ isDg b) : numOf l = none := by
  cases h : numOf l with
  | none => rfl
  | some n => rcases num_signs h b hb with e | e
              · exact absurd e h1
              · exact absurd e h2
/-- A word's parts, and whether it is an entry's: its end looked at first. -/
def rwOf (l : List UInt8) : Int × Bool × Int × Bool :=
  if Lib.hasSuffix l [33] = true then ((numOf (Lib.trimSuffix l [33])).getD 0, false, 0, (numOf (Lib.trimSuffix l [33])).isSome)
  else ((numOf (cutC 58 l).1).getD 0, true, (numOf (cutC 58 l).2.1).getD 0, (numOf (cutC 58 l).1).isSome && (numOf (cutC 58 l).2.1).isSome)
theorem suffix_one (l : List UInt8) : Lib.hasSuffix l [33] = true ↔ ∃ a, l = a ++ [33] := by
  unfold Lib.hasSuffix
  rw [List.isSuffixOf_iff_suffix]
  constructor
  · rintro ⟨a, h⟩; exact ⟨a, h.symm⟩
  · rintro ⟨a, h⟩; exact ⟨a, h.symm⟩
theorem trim_one (a : List UInt8) : Lib.trimSuffix (a ++ [33]) [33] = a := by
  unfold Lib.trimSuffix
  rw [if_pos ((suffix_one _).2 ⟨a, rfl⟩)]
  simp
theorem readW_eq (i : Nat) (l : List UInt8) : readW i l = if (rwOf l).2.2.2 = true then some ⟨i, (rwOf l).1, (rwOf l).2.1, (rwOf l).2.2.1⟩ else none := by
  obtain ⟨hm, hno, hyes⟩ := cutC_mem 58 l
  unfold rwOf
  by_cases hs : Lib.hasSuffix l [33] = true
  · rw [if_pos hs]
    obtain ⟨a, rfl⟩ := (suffix_one l).1 hs
    rw [trim_one]
    simp only
    cases hc : (cutC 58 (a ++ [33])).2.2 with
    | false =>
      have h58 : ∀ x ∈ a ++ [33], x ≠ 58 := fun x hx e => by
        rw [e] at hx
        rw [hm.1 hx] at hc
        cases hc
      unfold readW
      rw [spl_last 58 _ h58]
      simp only
      rw [List.getLast?_concat, if_pos rfl, List.dropLast_concat]
      cases numOf a <;> rfl
    | true =>
      obtain ⟨e1, e2⟩ := hyes hc
      have ha : numOf a = none := by
        have h58 : (58 : UInt8) ∈ a ++ [33] := hm.2 hc
        rcases List.mem_append.1 h58 with h | h
        · exact num_no 58 h (by decide) (by decide)
        · exact absurd (List.mem_singleton.1 h) (by decide)
      rw [ha]
      simp only [Option.isSome_none, Bool.false_eq_true, if_false]
      unfold readW
      have h33 : (33 : UInt8) ∈ (cutC 58 (a ++ [33])).2.1 := by
        have hl := congrArg List.getLast? e1
        rw [List.getLast?_concat] at hl
        cases hr : (cutC 58 (a ++ [33])).2.1 with
        | nil => rw [hr] at hl; simp at hl
        | cons y r =>
          rw [hr] at hl
          rw [List.getLast?_append] at hl
          simp at hl
          cases hz : (y :: r).getLast? with
          | none => simp at hz
          | some z =>
            rw [hz] at hl
            have hz33 : z = 33 := by simpa using hl.symm
            rw [hz33] at hz
            exact List.mem_of_getLast? hz
      generalize cutC 58 (a ++ [33]) = q at *
      rw [e1, spl_word 58 _ _ (fun x hx e => e2 (e ▸ hx))]
      cases hsp : spl 58 q.2.1 with
      | nil => exact absurd hsp (spl_ne 58 _)
      | cons y r => cases r with
        | cons z r => rfl
        | nil =>
          have hj := spl_join 58 q.2.1
          rw [hsp, Lib.join_one] at hj
          have hy : numOf y = none := num_no 33 (by rw [hj]; exact h33) (by decide) (by decide)
          simp only [hy]
          cases numOf q.1 <;> rfl
  · rw [if_neg hs]
    simp only
    cases hc : (cutC 58 l).2.2 with
    | false =>
      have h58 : ∀ x ∈ l, x ≠ 58 := fun x hx e => by
        rw [e] at hx
        rw [hm.1 hx] at hc
        cases hc
      rw [hno hc]
      have h0 : numOf [] = none := rfl
      simp only [h0, Option.isSome_none, Bool.and_false, Bool.false_eq_true, if_false]
      unfold readW
      rw [spl_last 58 _ h58]
      simp only
      rw [if_neg]
      intro hl
      obtain ⟨a, ha⟩ := List.getLast?_eq_some_iff.1 hl
      exact hs ((suffix_one l).2 ⟨a, ha⟩)
    | true =>
      obtain ⟨e1, e2⟩ := hyes hc
      unfold readW
      generalize cutC 58 l = q at *
      rw [e1, spl_word 58 _ _ (fun x hx e => e2 (e ▸ hx))]
      cases hsp : spl 58 q.2.1 with
      | nil => exact absurd hsp (spl_ne 58 _)
      | cons y r =>
        have hj := spl_join 58 q.2.1
        rw [hsp] at hj
        cases r with
        | nil =>
          rw [Lib.join_one] at hj
          simp only [hj]
          cases numOf q.1 <;> cases numOf q.2.1 <;> rfl
        | cons z r =>
          have hy : numOf q.2.1 = none := num_no 58 (by
            rw [← hj]
            simp [Lib.join, List.intercalate]) (by decide) (by decide)
          simp only [hy, Option.isSome_none, Bool.and_false, Bool.false_eq_true, if_false]
end Go.Proofs.YtglhapkclpllfadGreatDoor
