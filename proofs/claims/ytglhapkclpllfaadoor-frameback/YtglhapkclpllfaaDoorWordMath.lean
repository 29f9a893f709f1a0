/-
  Plain mathematics of words and numbers in texts: a text cut by a byte, the decimal digits of a number, what is read as one.
-/
import Derived.Test.YtglhapkclpllfaaDoorCrewBack
import Derived.Laws.IdiomStrings
namespace Go.Proofs.YtglhapkclpllfaaDoor
open Go.RowKit Go.Shelf

theorem digit_nat (d : Nat) (h : d < 10) : (UInt8.ofNat (48 + d)).toNat = 48 + d := by
  rw [UInt8.toNat_ofNat']; omega
theorem cat_data (a b : ByteArray) : (a ++ b).data.toList = a.data.toList ++ b.data.toList := by
  simp
theorem dec_len : ∀ k m, m < 10 ^ (k + 1) → (Lib.decDigits m).length ≤ k + 1
  | 0, m, h => by rw [dec_small m (by simpa using h)]; simp
  | k + 1, m, h => by
    by_cases h10 : m < 10
    · rw [dec_small m h10]; simp
    · have ih := dec_len k (m / 10) (by rw [Nat.pow_succ] at h; omega)
      rw [Lib.decDigits, dif_neg h10, List.length_append]
      simp; omega
theorem size_of {s : ByteArray} {l : List UInt8} {k : Nat} (h : s.data.toList = l) (hk : l.length ≤ k) : s.size ≤ k := by
  have : s.size = s.data.toList.length := by simp
  rw [this, h]; exact hk
theorem itoa_len (n : Int) (h0 : -9223372036854775808 ≤ n) (h1 : n ≤ 9223372036854775807) : (Lib.itoa n).length ≤ 20 := by
  unfold Lib.itoa
  split
  · have := dec_len 18 n.natAbs (by omega)
    simp; omega
  · have := dec_len 18 n.toNat (by omega)
    omega
/-- The slice v holds these texts. -/
def StrsAt (w : World) (v : Value) (xs : List (List UInt8)) : Prop :=
  (v = .slice none 0 0 ∧ xs = []) ∨ ∃ b off cap, v = .slice (some ⟨b, off, none⟩) xs.length cap ∧ ∀ i, i < xs.length → ∃ s : ByteArray, w.cell? ⟨b, off + i, none⟩ = some (.string s) ∧ s.data.toList = xs.getD i []
theorem StrsAt.below {w w' : World} {v : Value} {xs : List (List UInt8)} (h : StrsAt w v xs) (hb : Below w.heap.size w w') : StrsAt w' v xs := by
  rcases h with h | ⟨b, o, c, rfl, h⟩
  · exact Or.inl h
  · exact Or.inr ⟨b, o, c, rfl, fun i hi => by obtain ⟨s, h1, h2⟩ := h i hi; exact ⟨s, below_cell hb h1, h2⟩⟩
theorem strsAt_of_owns {W : World} {base : Nat} {e : TypeId} {v : Value} {ss : List ByteArray} (h : W.ownsRow base e 1 v ss.length (ss.map Value.string)) : StrsAt W v (ss.map (·.data.toList)) := by
  obtain ⟨_, h⟩ := h
  rcases h with ⟨rfl, h0⟩ | ⟨g, cap, cur, rfl, _, hb, _, _, _, hx⟩
  · exact Or.inl ⟨rfl, by rw [List.eq_nil_of_length_eq_zero h0]; rfl⟩
  · refine Or.inr ⟨g, 0, cap, by rw [List.length_map], fun i hi => ?_⟩
    rw [List.length_map] at hi
    refine ⟨ss[i], ?_, ?_⟩
    · have e1 : (cur.toList.take (ss.length * 1))[i]? = some (.string ss[i]) := by
        rw [hx, List.getElem?_map, List.getElem?_eq_getElem hi]; rfl
      rw [List.getElem?_take_of_lt (by omega)] at e1
      simp only [World.cell?, hb, Nat.zero_add]
      rw [← e1]; simp
    · rw [List.getD_eq_getElem?_getD, List.getElem?_map, List.getElem?_eq_getElem hi]; rfl
/-- A text, cut by a byte. -/
def spl (c : UInt8) : List UInt8 → List (List UInt8)
  | [] => [[]]
  | b :: r => if b == c then [] :: spl c r else match spl c r with
    | [] => [[b]]
    | h :: t => (b :: h) :: t
theorem spl_ne (c : UInt8) : ∀ l, spl c l ≠ []
  | [] => by simp [spl]
  | b :: r => by
    unfold spl
    split
    · simp
    · cases spl c r <;> simp
theorem spl_word (c : UInt8) : ∀ a b : List UInt8, (∀ x ∈ a, x ≠ c) → spl c (a ++ c :: b) = a :: spl c b
  | [], b, _ => by simp [spl]
  | x :: a, b, h => by
    have hx := h x (by simp)
    have ih := spl_word c a b (fun y hy => h y (List.mem_cons_of_mem _ hy))
    simp [spl, hx, ih]
theorem spl_last (c : UInt8) : ∀ a : List UInt8, (∀ x ∈ a, x ≠ c) → spl c a = [a]
  | [], _ => rfl
  | x :: a, h => by
    have hx := h x (by simp)
    have ih := spl_last c a (fun y hy => h y (List.mem_cons_of_mem _ hy))
    simp [spl, hx, ih]
/-- Is a byte a digit? -/
abbrev isDg (b : UInt8) : Prop := 48 ≤ b.toNat ∧ b.toNat ≤ 57
/-- The number of these digits. -/
def decVal (l : List UInt8) : Nat := l.foldl (fun n b => 10 * n + (b.toNat - 48)) 0
theorem decVal_snoc (l : List UInt8) (b : UInt8) : decVal (l ++ [b]) = 10 * decVal l + (b.toNat - 48) := by simp [decVal]
/-- The digits of a number that is not below 0, seven at most. -/
abbrev dOk (bel : Bool) (d : List UInt8) : Prop := 1 ≤ d.length ∧ d.length ≤ 7 ∧ (1 < d.length → d.head? ≠ some 48) ∧ (bel = true → d ≠ [48]) ∧ ∀ b ∈ d, isDg b
/-- What NumberOf answers. -/
def numOf (l : List UInt8) : Option Int :=
  if l.head? = some 45 then (if dOk true l.tail then some (-(decVal l.tail : Int)) else none) else (if dOk false l then some (decVal l : Int) else none)
theorem fold_lt : ∀ (l : List UInt8) (a : Nat), (∀ b ∈ l, isDg b) → l.foldl (fun n b => 10 * n + (b.toNat - 48)) a < (a + 1) * 10 ^ l.length
  | [], a, _ => by simp
  | b :: l, a, h => by
    have h2 := h b (by simp)
    unfold isDg at h2
    have ih := fold_lt l (10 * a + (b.toNat - 48)) (fun x hx => h x (List.mem_cons_of_mem _ hx))
    rw [List.foldl_cons, List.length_cons, Nat.pow_succ]
    refine Nat.lt_of_lt_of_le ih ?_
    rw [Nat.mul_comm (10 ^ l.length) 10, ← Nat.mul_assoc]
    exact Nat.mul_le_mul_right _ (by omega)
theorem decVal_lt (l : List UInt8) (h : ∀ b ∈ l, isDg b) : decVal l < 10 ^ l.length := by
  have := fold_lt l 0 h
  simpa [decVal] using this
theorem take_byte (t : ByteArray) (k : Nat) (h : k < t.size) : t.data.toList.take (k + 1) = t.data.toList.take k ++ [t[k]] := by
  rw [List.take_succ_eq_append_getElem (by simpa using h)]
  rfl
theorem head_byte (t : ByteArray) (h : 0 < t.size) : t.data.toList.head? = some t[0] := by
  have : 0 < t.data.toList.length := by simpa using h
  rw [List.head?_eq_getElem?, List.getElem?_eq_getElem this]
  rfl
theorem dec_val : ∀ (k : Nat) (d : List UInt8), d.length = k + 1 → (∀ b ∈ d, isDg b) → (1 < d.length → d.head? ≠ some 48) → Lib.decDigits (decVal d) = d
  | k, d, hk, hd, hh => by
    rcases List.eq_nil_or_concat d with rfl | ⟨d', b, rfl⟩
    · simp at hk
    · rw [List.concat_eq_append] at *
      have hb := hd b (by simp)
      have hb' := hb
      unfold isDg at hb'
      have e48 : UInt8.ofNat (48 + (b.toNat - 48)) = b := by
        rw [show 48 + (b.toNat - 48) = b.toNat by omega]; simp
      rw [decVal_snoc]
      cases k with
      | zero =>
        have : d' = [] := List.eq_nil_of_length_eq_zero (by simpa using hk)
        subst this
        rw [Lib.decDigits_one (by simp [decVal]; omega)]
        simp only [decVal, List.foldl_nil, Nat.mul_zero, Nat.zero_add, e48, List.nil_append]
      | succ k =>
        have hl : d'.length = k + 1 := by simpa using hk
        have hne : d' ≠ [] := fun e => by rw [e] at hl; simp at hl
        have hhead : d'.head? ≠ some 48 := by
          have := hh (by simp; omega)
          cases d' with
          | nil => exact absurd rfl hne
          | cons x y => exact this
        have ih := dec_val k d' hl (fun x hx => hd x (by simp [hx])) (fun _ => hhead)
        have hpos : decVal d' ≠ 0 := fun e => by
          rw [e, Lib.decDigits_one (by omega)] at ih
          rw [← ih] at hhead
          exact hhead rfl
        rw [Lib.decDigits, dif_neg (by omega), show (10 * decVal d' + (b.toNat - 48)) / 10 = decVal d' by omega, show (10 * decVal d' + (b.toNat - 48)) % 10 = b.toNat - 48 by omega, ih, e48]
theorem numOf_itoa {l : List UInt8} {n : Int} (h : numOf l = some n) : Lib.itoa n = l ∧ -9999999 ≤ n ∧ n ≤ 9999999 := by
  unfold numOf at h
  by_cases h45 : l.head? = some 45
  · rw [if_pos h45] at h
    by_cases hk : dOk true l.tail
    · rw [if_pos hk] at h
      cases h
      obtain ⟨h1, h2, h3, h4, h5⟩ := hk
      have e := dec_val (l.tail.length - 1) l.tail (by omega) h5 h3
      have hlt := decVal_lt l.tail h5
      have h10 : 10 ^ l.tail.length ≤ 10 ^ 7 := Nat.pow_le_pow_right (by omega) h2
      have hpos : decVal l.tail ≠ 0 := fun e0 => by
        rw [e0, Lib.decDigits_one (by omega)] at e
        exact h4 rfl e.symm
      refine ⟨?_, by omega, by omega⟩
      rw [Lib.itoa_neg _ (by omega), e]
      cases l with
      | nil => cases h45
      | cons x l => cases h45; rfl
    · rw [if_neg hk] at h; cases h
  · rw [if_neg h45] at h
    by_cases hk : dOk false l
    · rw [if_pos hk] at h
      cases h
      obtain ⟨h1, h2, h3, h4, h5⟩ := hk
      have e := dec_val (l.length - 1) l (by omega) h5 h3
      have hlt := decVal_lt l h5
      have h10 : 10 ^ l.length ≤ 10 ^ 7 := Nat.pow_le_pow_right (by omega) h2
      exact ⟨by rw [Lib.itoa_nonneg, e], by omega, by omega⟩
    · rw [if_neg hk] at h; cases h
theorem num_dg : ∀ x : Fin 16, numOf (dg x) = some ((x.val : Int) + 1) := by decide
theorem node_num {l : List UInt8} {n : Int} (h : numOf l = some n) (hn : Cm.isNode n) : nodeOf l = n.toNat := by
  have h1 := (numOf_itoa h).1
  obtain ⟨x, rfl⟩ : ∃ x : Fin 16, n = (x.val : Int) + 1 := ⟨⟨n.toNat - 1, by unfold Cm.isNode at hn; omega⟩, by unfold Cm.isNode at hn; show n = ((n.toNat - 1 : Nat) : Int) + 1; omega⟩
  rw [itoa_dg] at h1
  rw [← h1, nodeOf_dg]; omega
theorem num_node {l : List UInt8} (h : nodeOf l ≠ 0) : numOf l = some (nodeOf l : Int) ∧ Cm.isNode (nodeOf l : Int) := by
  by_cases hx : ∃ x, dg x = l
  · obtain ⟨x, rfl⟩ := hx
    rw [num_dg, nodeOf_dg]
    exact ⟨rfl, by unfold Cm.isNode; omega⟩
  · exact absurd (nodeOf_no fun x e => hx ⟨x, e⟩) h
/-- What a reader of words answers: the nodes, rising. -/
def rdW : List (List UInt8) → Nat → Nat → Option Nat
  | [], c, _ => some c
  | x :: r, c, last => if nodeOf x ≤ last then none else rdW r (c ||| 2 ^ (nodeOf x - 1)) (nodeOf x)
theorem cut_spl : ∀ l, spl 44 l = (cutL l).1 :: (if (cutL l).2.2 then spl 44 (cutL l).2.1 else [])
  | [] => rfl
  | b :: r => by
    have ih := cut_spl r
    by_cases hb : (b == 44) = true
    · simp [spl, cutL, hb]
    · simp [spl, cutL, hb, ih]
theorem readGo_rd : ∀ (f : Nat) (l : List UInt8) (c last : Nat), l.length < f → readGo f l c last = rdW (spl 44 l) c last
  | 0, _, _, _, h => by omega
  | f + 1, l, c, last, h => by
    rw [cut_spl]
    unfold readGo rdW
    split
    · rfl
    · split
      · rename_i h1
        exact readGo_rd f _ _ _ (by have := (cut_len l).2.2 h1; omega)
      · rfl
theorem spl_len (c : UInt8) : ∀ l, ∀ x ∈ spl c l, x.length ≤ l.length
  | [], x, h => by simp [spl] at h; simp [h]
  | b :: r, x, h => by
    have ih := spl_len c r
    unfold spl at h
    split at h
    · rcases List.mem_cons.1 h with rfl | h
      · simp
      · have := ih x h; simp; omega
    · revert h
      cases hr : spl c r with
      | nil => exact absurd hr (spl_ne c r)
      | cons y t =>
        intro h
        rcases List.mem_cons.1 h with rfl | h
        · have := ih y (by rw [hr]; simp); simp; omega
        · have := ih x (by rw [hr]; simp [h]); simp; omega
theorem spl_many (c : UInt8) : ∀ l, (spl c l).length ≤ l.length + 1
  | [] => by simp [spl]
  | b :: r => by
    have ih := spl_many c r
    unfold spl
    split
    · simp; omega
    · cases hr : spl c r with
      | nil => exact absurd hr (spl_ne c r)
      | cons y t => rw [hr] at ih; simp at ih ⊢; omega
theorem strs_cells {w : World} {v : Value} {xs : List (List UInt8)} (h : StrsAt w v xs) : ∃ a c, v = .slice a xs.length c ∧ Hid (∀ k, k < xs.length → ∃ b off, ∃ s : ByteArray, a = some ⟨b, off, none⟩ ∧ w.cell? ⟨b, off + k, none⟩ = some (.string s) ∧ s.data.toList = xs.getD k []) := by
  rcases h with ⟨rfl, rfl⟩ | ⟨b, o, c, rfl, h⟩
  · exact ⟨_, _, rfl, fun k hk => absurd hk (by simp)⟩
  · exact ⟨_, _, rfl, fun k hk => by obtain ⟨s, h1, h2⟩ := h k hk; exact ⟨b, o, s, rfl, h1, h2⟩⟩
theorem word_mem (xs : List (List UInt8)) (k : Nat) (h : k < xs.length) : xs.getD k [] ∈ xs := by
  rw [List.getD_eq_getElem?_getD, List.getElem?_eq_getElem h]; exact List.getElem_mem h
theorem joinTail_snoc (l : List (List UInt8)) (x : List UInt8) : Lib.joinTail [44] (l ++ [x]) = Lib.joinTail [44] l ++ 44 :: x := by
  simp [Lib.joinTail]
theorem join_snoc (l : List (List UInt8)) (x : List UInt8) : Lib.join (l ++ [x]) [44] = if l.length = 0 then x else Lib.join l [44] ++ 44 :: x := by
  cases l with
  | nil => simp [Lib.join_one]
  | cons y r =>
    rw [if_neg (by simp), List.cons_append, Lib.join_cons, Lib.join_cons, joinTail_snoc, List.append_assoc]
theorem textOf_itoa (c : Nat) (h : c ≠ 0) : textOf c = Lib.join ((ints (Cm.nodes c)).map Lib.itoa) [44] := by
  rw [textOf_dg c h, ← nodesF_num, List.map_map]
  congr 1
  apply List.map_congr_left
  intro x _
  exact (itoa_dg x).symm
end Go.Proofs.YtglhapkclpllfaaDoor
