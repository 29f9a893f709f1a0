/-
  Plain mathematics of reading a history, word by word; a word's parts as the library cuts them; rows of entries that grow.
-/
import Derived.Test.YtglhapkclpllfadDoorProg
import Derived.Test.YtglhapkclpllfadDoorFoldMath
import Derived.Lib.IndexBytes
import Derived.Lib.Strings
namespace Go.Proofs.YtglhapkclpllfadDoor
open Go.RowKit Go.Shelf

theorem Tryd.infoENF : (Tryd.prog.info? 49).map (fun i => (i.zero, i.size, i.bytes)) = some (some (.agg #[.int .i64 0, .int .i64 0, .bool false, .int .i64 0]), 4, 32) := by kernel_rfl
theorem readWs_append : ∀ (a b : List (List UInt8)) (i : Nat), readWs i (a ++ b) = (readWs i a).bind fun x => (readWs (i + a.length) b).map fun y => x ++ y
  | [], b, i => by simp [readWs]
  | w :: a, b, i => by
    rw [List.cons_append, readWs, readWs, readWs_append a b (i + 1), show i + 1 + a.length = i + (w :: a).length by simp; omega]
    cases readW i w with
    | none => rfl
    | some e => cases readWs (i + 1) a with
      | none => rfl
      | some l => cases readWs (i + (w :: a).length) b <;> rfl
/-- The first k words are read. -/
def rdInv (ws : List (List UInt8)) (k : Nat) (ys : List Ent) : Prop := readWs 0 (ws.take k) = some ys ∧ ys.length = k
theorem rd_next {ws : List (List UInt8)} {k : Nat} {ys : List Ent} {e : Ent} (h : rdInv ws k ys) (hk : k < ws.length) (he : readW k (ws.getD k []) = some e) : rdInv ws (k + 1) (ys ++ [e]) := by
  refine ⟨?_, by rw [List.length_append, h.2]; rfl⟩
  rw [List.take_succ_eq_append_getElem hk, readWs_append, h.1, List.length_take, Nat.min_eq_left (Nat.le_of_lt hk), Nat.zero_add]
  rw [List.getD_eq_getElem?_getD, List.getElem?_eq_getElem hk, Option.getD_some] at he
  simp [readWs, he]
theorem rd_stop {ws : List (List UInt8)} {k : Nat} (hk : k < ws.length) (he : readW k (ws.getD k []) = none) : readWs 0 ws = none := by
  rw [List.getD_eq_getElem?_getD, List.getElem?_eq_getElem hk, Option.getD_some] at he
  have e : ws = ws.take k ++ ws[k] :: ws.drop (k + 1) := by rw [← List.drop_eq_getElem_cons hk, List.take_append_drop]
  rw [e, readWs_append, List.length_take, Nat.min_eq_left (Nat.le_of_lt hk), Nat.zero_add]
  cases readWs 0 (ws.take k) with
  | none => rfl
  | some l => simp [readWs, he]
theorem rd_end {ws : List (List UInt8)} {ys : List Ent} (h : rdInv ws ws.length ys) : readWs 0 ws = some ys := by
  have := h.1
  rwa [List.take_of_length_le (Nat.le_refl _)] at this
/-- Behind an append to a row of records. -/
theorem below_app {B S : Nat} {a wr w1 : World} {e : TypeId} {v : Value} {n : Nat} {xs : List Value} {o : Obj} (hB : Below B a wr) (hrow : wr.ownsRow B e S v n xs) (hgrow : (wr.alloc o).grownBy w1 v.ownBlock) (hle : B ≤ wr.heap.size) : Below B a w1 :=
  (hB.alloc hle o).grown hgrow (by simp; omega) fun k e => (hrow.lt k e).1
theorem cells_snoc (ys : List Ent) (e : Ent) : ((ys ++ [e]).map Ent.cells).flatten = (ys.map Ent.cells).flatten ++ [.int .i64 e.slot, .int .i64 e.src, .bool e.heard, .int .i64 e.value] := by
  simp [Ent.cells]

/-- A text cut at its first byte c. -/
def cutC (c : UInt8) : List UInt8 → List UInt8 × List UInt8 × Bool
  | [] => ([], [], false)
  | b :: r => if b == c then ([], r, true) else (b :: (cutC c r).1, (cutC c r).2.1, (cutC c r).2.2)
theorem cutC_no (c : UInt8) : ∀ l, Lib.indexByte l c = -1 → cutC c l = (l, [], false)
  | [], _ => rfl
  | b :: r, h => by
    unfold Lib.indexByte at h
    by_cases hb : (b == c) = true
    · rw [if_pos hb] at h; simp at h
    · rw [if_neg hb] at h
      by_cases hr : (Lib.indexByte r c == -1) = true
      · have ih := cutC_no c r (eq_of_beq hr)
        simp [cutC, hb, ih]
      · rw [if_neg hr] at h
        have := Lib.indexByte_ge r c
        simp at hr; omega
theorem cutC_yes (c : UInt8) : ∀ l (i : Nat), Lib.indexByte l c = (i : Int) → i < l.length ∧ cutC c l = (l.take i, l.drop (i + 1), true)
  | [], i, h => by simp [Lib.indexByte] at h
  | b :: r, i, h => by
    unfold Lib.indexByte at h
    by_cases hb : (b == c) = true
    · rw [if_pos hb] at h
      have : i = 0 := by omega
      subst this
      simp [cutC, hb]
    · rw [if_neg hb] at h
      by_cases hr : (Lib.indexByte r c == -1) = true
      · rw [if_pos hr] at h; omega
      · rw [if_neg hr] at h
        have h0 := Lib.indexByte_ge r c
        have hr' : Lib.indexByte r c ≠ -1 := by simpa using hr
        obtain ⟨j, rfl⟩ : ∃ j, i = j + 1 := ⟨i - 1, by omega⟩
        obtain ⟨hj, ih⟩ := cutC_yes c r j (by omega)
        simp [cutC, hb, ih, hj]
theorem cutC_len (c : UInt8) : ∀ l, (cutC c l).1.length ≤ l.length ∧ (cutC c l).2.1.length ≤ l.length
  | [] => by simp [cutC]
  | b :: r => by
    have ih := cutC_len c r
    by_cases hb : (b == c) = true
    · simp [cutC, hb]
    · simp only [cutC, hb]
      exact ⟨by simp; exact ih.1, by simp; omega⟩
theorem cutC_mem (c : UInt8) : ∀ l, (c ∈ l ↔ (cutC c l).2.2 = true) ∧ ((cutC c l).2.2 = false → cutC c l = (l, [], false)) ∧ ((cutC c l).2.2 = true → l = (cutC c l).1 ++ c :: (cutC c l).2.1 ∧ c ∉ (cutC c l).1)
  | [] => by simp [cutC]
  | b :: r => by
    obtain ⟨h1, h2, h3⟩ := cutC_mem c r
    by_cases hb : (b == c) = true
    · have e := eq_of_beq hb
      subst e
      simp [cutC]
    · have hne : ¬ c = b := fun e => hb (by rw [e]; exact beq_self_eq_true _)
      simp only [cutC, hb]
      refine ⟨by simp [hne, h1], fun h => ?_, fun h => ?_⟩
      · have h' := h2 h
        simp [h']
      · obtain ⟨e1, e2⟩ := h3 h
        exact ⟨by simp; exact e1, by simp [hne, e2]⟩
theorem num_signs {l : List UInt8} {n : Int} (h : numOf l = some n) : ∀ b ∈ l, b = 45 ∨ isDg b := by
  rw [← (numOf_itoa h).1]
  exact itoa_sign n
theorem num_no {l : List UInt8} (b : UInt8) (hb : b ∈ l) (h1 : b ≠ 45) (h2 : ¬ isDg b) : numOf l = none := by
  cases h : numOf l with
  | none => rfl
  | some n => rcases num_signs h b hb with e | e
              · exact absurd e h1
              · exact absurd e h2
/-- A word's parts, and whether it is an entry's: its end looked at first. -/
def rwOf (l : List UInt8) : Int × Bool × Int × Bool :=
  if Lib.hasSuffix l [33] = true then ((numOf (Lib.trimSuffix l [33])).getD 0, false, 0, (numOf (Lib.trimSuffix l [33])).isSome)
  else ((numOf (cutC 58 l).1).getD 0, true, (numOf (cutC 58 l).2.1).getD 0, (numOf (cutC 58 l).1).isSome && (numOf (cutC 58 l).2.1).isSome)
theorem suffix_one (l : List UInt8) : Lib.hasSuffix l [33] = true ↔ ∃ a, l = a ++ [33] := by
  unfold Lib.hasSuffix
  rw [List.isSuffixOf_iff_suffix]
  constructor
  · rintro ⟨a, h⟩; exact ⟨a, h.symm⟩
  · rintro ⟨a, h⟩; exact ⟨a, h.symm⟩
theorem trim_one (a : List UInt8) : Lib.trimSuffix (a ++ [33]) [33] = a := by
  unfold Lib.trimSuffix
  rw [if_pos ((suffix_one _).2 ⟨a, rfl⟩)]
  simp
theorem readW_eq (i : Nat) (l : List UInt8) : readW i l = if (rwOf l).2.2.2 = true then some ⟨i, (rwOf l).1, (rwOf l).2.1, (rwOf l).2.2.1⟩ else none := by
  obtain ⟨hm, hno, hyes⟩ := cutC_mem 58 l
  unfold rwOf
  by_cases hs : Lib.hasSuffix l [33] = true
  · rw [if_pos hs]
    obtain ⟨a, rfl⟩ := (suffix_one l).1 hs
    rw [trim_one]
    simp only
    cases hc : (cutC 58 (a ++ [33])).2.2 with
    | false =>
      have h58 : ∀ x ∈ a ++ [33], x ≠ 58 := fun x hx e => by
        rw [e] at hx
        rw [hm.1 hx] at hc
        cases hc
      unfold readW
      rw [spl_last 58 _ h58]
      simp only
      rw [List.getLast?_concat, if_pos rfl, List.dropLast_concat]
      cases numOf a <;> rfl
    | true =>
      obtain ⟨e1, e2⟩ := hyes hc
      have ha : numOf a = none := by
        have h58 : (58 : UInt8) ∈ a ++ [33] := hm.2 hc
        rcases List.mem_append.1 h58 with h | h
        · exact num_no 58 h (by decide) (by decide)
        · exact absurd (List.mem_singleton.1 h) (by decide)
      rw [ha]
      simp only [Option.isSome_none, Bool.false_eq_true, if_false]
      unfold readW
      have h33 : (33 : UInt8) ∈ (cutC 58 (a ++ [33])).2.1 := by
        have hl := congrArg List.getLast? e1
        rw [List.getLast?_concat] at hl
        cases hr : (cutC 58 (a ++ [33])).2.1 with
        | nil => rw [hr] at hl; simp at hl
        | cons y r =>
          rw [hr] at hl
          rw [List.getLast?_append] at hl
          simp at hl
          cases hz : (y :: r).getLast? with
          | none => simp at hz
          | some z =>
            rw [hz] at hl
            have hz33 : z = 33 := by simpa using hl.symm
            rw [hz33] at hz
            exact List.mem_of_getLast? hz
      generalize cutC 58 (a ++ [33]) = q at *
      rw [e1, spl_word 58 _ _ (fun x hx e => e2 (e ▸ hx))]
      cases hsp : spl 58 q.2.1 with
      | nil => exact absurd hsp (spl_ne 58 _)
      | cons y r => cases r with
        | cons z r => rfl
        | nil =>
          have hj := spl_join 58 q.2.1
          rw [hsp, Lib.join_one] at hj
          have hy : numOf y = none := num_no 33 (by rw [hj]; exact h33) (by decide) (by decide)
          simp only [hy]
          cases numOf q.1 <;> rfl
  · rw [if_neg hs]
    simp only
    cases hc : (cutC 58 l).2.2 with
    | false =>
      have h58 : ∀ x ∈ l, x ≠ 58 := fun x hx e => by
        rw [e] at hx
        rw [hm.1 hx] at hc
        cases hc
      rw [hno hc]
      have h0 : numOf [] = none := rfl
      simp only [h0, Option.isSome_none, Bool.and_false, Bool.false_eq_true, if_false]
      unfold readW
      rw [spl_last 58 _ h58]
      simp only
      rw [if_neg]
      intro hl
      obtain ⟨a, ha⟩ := List.getLast?_eq_some_iff.1 hl
      exact hs ((suffix_one l).2 ⟨a, ha⟩)
    | true =>
      obtain ⟨e1, e2⟩ := hyes hc
      unfold readW
      generalize cutC 58 l = q at *
      rw [e1, spl_word 58 _ _ (fun x hx e => e2 (e ▸ hx))]
      cases hsp : spl 58 q.2.1 with
      | nil => exact absurd hsp (spl_ne 58 _)
      | cons y r =>
        have hj := spl_join 58 q.2.1
        rw [hsp] at hj
        cases r with
        | nil =>
          rw [Lib.join_one] at hj
          simp only [hj]
          cases numOf q.1 <;> cases numOf q.2.1 <;> rfl
        | cons z r =>
          have hy : numOf q.2.1 = none := num_no 58 (by
            rw [← hj]
            simp [Lib.join, List.intercalate]) (by decide) (by decide)
          simp only [hy, Option.isSome_none, Bool.and_false, Bool.false_eq_true, if_false]
end Go.Proofs.YtglhapkclpllfadDoor
