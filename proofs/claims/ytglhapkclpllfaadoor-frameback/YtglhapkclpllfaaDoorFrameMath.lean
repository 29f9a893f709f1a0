/-
  Plain mathematics of frames: the sum of a text; what is written is read, and what is read is written; with one byte another one a frame is none.
-/
import Derived.Test.YtglhapkclpllfaaDoorWordMath
namespace Go.Proofs.YtglhapkclpllfaaDoor
open Go.RowKit Go.Shelf

/-! ### what is read as a crew is written so -/
theorem asc_lt : ∀ {l : List Nat} {p : Nat}, asc p l → ∀ x ∈ l, p < x
  | [], _, _, x, hx => by cases hx
  | n :: r, p, h, x, hx => by
    rcases List.mem_cons.1 hx with rfl | hx
    · exact h.1
    · have := asc_lt h.2 x hx
      have := h.1
      omega
theorem nl_of : ∀ (f p c : Nat) (ns : List Nat), asc p ns → (∀ n ∈ ns, n ≤ p + f) → (∀ i, c.testBit i = decide (p + i + 1 ∈ ns)) → Cm.nl f p c = ns
  | 0, p, c, ns, ha, hb, _ => by
    cases ns with
    | nil => rfl
    | cons n r =>
      have h1 := ha.1
      have h2 := hb n List.mem_cons_self
      omega
  | f + 1, p, c, ns, ha, hb, hc => by
    have hd : ∀ i, (c / 2).testBit i = decide (p + 1 + i + 1 ∈ ns) := fun i => by
      rw [← Nat.testBit_succ, hc (i + 1), show p + (i + 1) + 1 = p + 1 + i + 1 by omega]
    have h0 : decide (c % 2 = 1) = decide (p + 0 + 1 ∈ ns) := by rw [← hc 0, Nat.testBit_zero]
    unfold Cm.nl
    cases ns with
    | nil =>
      have : ¬ c % 2 = 1 := by simpa using h0
      rw [if_neg this]
      exact nl_of f (p + 1) (c / 2) [] trivial (fun n hn => by cases hn) hd
    | cons n r =>
      by_cases hn : n = p + 1
      · subst hn
        have : c % 2 = 1 := by simpa using h0
        rw [if_pos this]
        congr 1
        refine nl_of f (p + 1) (c / 2) r ha.2 (fun x hx => ?_) (fun i => ?_)
        · have := hb x (List.mem_cons_of_mem _ hx)
          omega
        · rw [hd i]
          exact decide_eq_decide.2 ⟨fun h => (List.mem_cons.1 h).resolve_left (by omega), List.mem_cons_of_mem _⟩
      · have h1 := ha.1
        have : ¬ c % 2 = 1 := by
          have hno : p + 0 + 1 ∉ n :: r := fun hm => by
            rcases List.mem_cons.1 hm with e | hm
            · omega
            · have := asc_lt ha.2 _ hm
              omega
          intro e
          rw [decide_eq_true e, decide_eq_false hno] at h0
          cases h0
        rw [if_neg this]
        refine nl_of f (p + 1) (c / 2) (n :: r) ⟨by omega, ha.2⟩ (fun x hx => ?_) hd
        have := hb x hx
        omega
theorem orL_bit : ∀ (l : List Nat) (acc i : Nat), (∀ n ∈ l, 1 ≤ n) → (orL acc l).testBit i = (acc.testBit i || decide (i + 1 ∈ l))
  | [], acc, i, _ => by simp [orL]
  | n :: r, acc, i, h => by
    have ih := orL_bit r (acc ||| 2 ^ (n - 1)) i (fun x hx => h x (List.mem_cons_of_mem _ hx))
    have h1 := h n List.mem_cons_self
    rw [show orL acc (n :: r) = orL (acc ||| 2 ^ (n - 1)) r from rfl, ih, Nat.testBit_or, Nat.testBit_two_pow]
    by_cases e : i + 1 = n
    · have : n - 1 = i := by omega
      simp [e, this]
    · have : ¬ n - 1 = i := by omega
      simp [e, this]
theorem nodes_orL (ns : List Nat) (h : asc 0 ns) (h16 : ∀ n ∈ ns, n ≤ 16) : Cm.nodes (orL 0 ns) = ns :=
  nl_of 16 0 _ ns h (fun n hn => by have := h16 n hn; omega) fun i => by
    rw [orL_bit ns 0 i (fun n hn => asc_lt h n hn)]
    simp
/-- A word that is a node is its digits. -/
theorem word_node {l : List UInt8} (h : nodeOf l ≠ 0) : Lib.itoa (nodeOf l : Int) = l := (numOf_itoa (num_node h).1).1
theorem rdW_words : ∀ (ws : List (List UInt8)) (c0 last c : Nat), rdW ws c0 last = some c → ∃ ns : List Nat, asc last ns ∧ (∀ n ∈ ns, n ≤ 16) ∧ ws = ns.map (fun (n : Nat) => Lib.itoa (n : Int)) ∧ c = orL c0 ns
  | [], c0, last, c, h => ⟨[], trivial, (fun n hn => by cases hn), rfl, by cases h; rfl⟩
  | x :: r, c0, last, c, h => by
    unfold rdW at h
    by_cases hx : nodeOf x ≤ last
    · rw [if_pos hx] at h; cases h
    · rw [if_neg hx] at h
      obtain ⟨ns, h1, h2, h3, h4⟩ := rdW_words r _ _ c h
      refine ⟨nodeOf x :: ns, ⟨by omega, h1⟩, fun n hn => ?_, ?_, h4⟩
      · rcases List.mem_cons.1 hn with rfl | hn
        · exact nodeOf_le x
        · exact h2 n hn
      · rw [List.map_cons, word_node (by omega), h3]
theorem spl_join (c : UInt8) : ∀ l, Lib.join (spl c l) [c] = l
  | [] => by simp [spl, Lib.join]
  | b :: r => by
    have ih := spl_join c r
    unfold spl
    cases hs : spl c r with
    | nil => exact absurd hs (spl_ne c r)
    | cons h t =>
      rw [hs] at ih
      by_cases hb : b == c
      · rw [if_pos hb, eq_of_beq hb]
        simp only [Lib.join, List.intercalate, List.intersperse, List.flatten_cons, List.nil_append] at ih ⊢
        rw [← ih]; rfl
      · rw [if_neg hb]
        cases t with
        | nil => simp [Lib.join, List.intercalate] at ih ⊢; exact ih
        | cons y t => simp [Lib.join, List.intercalate, List.intersperse] at ih ⊢; exact ih
theorem text_read {l : List UInt8} {c : Nat} (h : readOf l = some c) : textOf c = l ∧ c ≤ 65535 := by
  unfold readOf at h
  by_cases h45 : l = [45]
  · rw [if_pos h45] at h
    cases h
    rw [h45]
    exact ⟨rfl, by omega⟩
  · rw [if_neg h45, readGo_rd _ _ _ _ (Nat.lt_succ_self _)] at h
    obtain ⟨ns, h1, h2, h3, rfl⟩ := rdW_words _ _ _ _ h
    have hn := nodes_orL ns h1 h2
    have hne : ns ≠ [] := fun e => by
      subst e
      exact absurd h3 (spl_ne 44 l)
    have hc0 : orL 0 ns ≠ 0 := fun e => by
      rw [e] at hn
      exact hne (hn.symm.trans (by decide))
    refine ⟨?_, ?_⟩
    · rw [textOf_itoa _ hc0, hn, ← spl_join 44 l, h3, ints, List.map_map]
      rfl
    · have : ∀ i, 16 ≤ i → (orL 0 ns).testBit i = false := fun i hi => by
        rw [orL_bit ns 0 i (fun n hn => asc_lt h1 n hn)]
        have : i + 1 ∉ ns := fun hm => by have := h2 _ hm; omega
        simp [this]
      have := Nat.lt_pow_two_of_testBit (n := 16) (orL 0 ns) this
      omega

/-! ### numbers in digits -/
theorem dec_ne (n : Nat) : Lib.decDigits n ≠ [] := by
  rw [Lib.decDigits]
  split <;> simp
theorem dec_isDg : ∀ n : Nat, ∀ b ∈ Lib.decDigits n, isDg b := fun n => by
  induction n using Nat.strongRecOn with
  | _ n ih =>
    intro b hb
    by_cases h : n < 10
    · rw [Lib.decDigits_one h, List.mem_singleton] at hb
      subst hb
      unfold isDg
      rw [digit_nat n h]
      omega
    · rw [Lib.decDigits, dif_neg h] at hb
      rcases List.mem_append.1 hb with hb | hb
      · exact ih (n / 10) (by omega) b hb
      · rw [List.mem_singleton] at hb
        subst hb
        unfold isDg
        rw [digit_nat _ (by omega)]
        omega
theorem dec_back : ∀ n : Nat, decVal (Lib.decDigits n) = n := fun n => by
  induction n using Nat.strongRecOn with
  | _ n ih =>
    by_cases h : n < 10
    · rw [Lib.decDigits_one h]
      simp only [decVal, List.foldl_cons, List.foldl_nil, digit_nat n h]
      omega
    · rw [Lib.decDigits, dif_neg h, decVal_snoc, ih (n / 10) (by omega), digit_nat _ (by omega)]
      omega
theorem dec_head : ∀ n : Nat, n ≠ 0 → (Lib.decDigits n).head? ≠ some 48 := fun n => by
  induction n using Nat.strongRecOn with
  | _ n ih =>
    intro h0
    by_cases h : n < 10
    · rw [Lib.decDigits_one h]
      intro e
      have e2 : UInt8.ofNat (48 + n) = 48 := by simpa using e
      have := congrArg UInt8.toNat e2
      rw [digit_nat n h] at this
      simp at this
      omega
    · rw [Lib.decDigits, dif_neg h]
      have ih2 := ih (n / 10) (by omega) (by omega)
      obtain ⟨b, r, hb⟩ := List.exists_cons_of_ne_nil (dec_ne (n / 10))
      rw [hb] at ih2 ⊢
      simpa using ih2
theorem dec_long (n : Nat) (h : 1 < (Lib.decDigits n).length) : n ≠ 0 := fun e => by
  subst e
  rw [Lib.decDigits_one (by omega)] at h
  simp at h
theorem isDg_ne {b x : UInt8} (h : isDg b) (hx : x.toNat < 48) : b ≠ x := fun e => by
  subst e
  have := h.1
  omega
theorem dec_dOk (bel : Bool) (n : Nat) (h : n ≤ 9999999) (h0 : bel = true → n ≠ 0) : dOk bel (Lib.decDigits n) := by
  have h1 := List.length_pos_iff.2 (dec_ne n)
  refine ⟨h1, dec_len 6 n (by omega), fun hl => dec_head n (dec_long n hl), fun hb e => ?_, dec_isDg n⟩
  have := dec_back n
  rw [e] at this
  exact h0 hb (this.symm.trans (by decide))
theorem numOf_of (n : Int) (h0 : -9999999 ≤ n) (h1 : n ≤ 9999999) : numOf (Lib.itoa n) = some n := by
  unfold numOf
  by_cases hn : n < 0
  · obtain ⟨k, rfl⟩ : ∃ k : Nat, n = -(k : Int) := ⟨n.natAbs, by omega⟩
    rw [Lib.itoa_neg k (by omega), if_pos (show (45 :: Lib.decDigits k).head? = some 45 from rfl), if_pos (show dOk true (45 :: Lib.decDigits k).tail from dec_dOk true k (by omega) (fun _ => by omega))]
    show some (-(decVal (Lib.decDigits k) : Int)) = _
    rw [dec_back]
  · obtain ⟨k, rfl⟩ : ∃ k : Nat, n = (k : Int) := ⟨n.toNat, by omega⟩
    have hh : (Lib.decDigits k).head? ≠ some 45 := fun e => by
      obtain ⟨b, r, hb⟩ := List.exists_cons_of_ne_nil (dec_ne k)
      rw [hb] at e
      have hd := dec_isDg k b (by rw [hb]; exact List.mem_cons_self)
      have : b = 45 := by simpa using e
      exact isDg_ne hd (by decide) this
    rw [Lib.itoa_nonneg, if_neg hh, if_pos (dec_dOk false k (by omega) (fun h => by cases h)), dec_back]
theorem itoa_inj {a b : Nat} (h : Lib.itoa (a : Int) = Lib.itoa (b : Int)) : a = b := by
  rw [Lib.itoa_nonneg, Lib.itoa_nonneg] at h
  rw [← dec_back a, h, dec_back]
theorem itoa_blank (n : Int) : ∀ b ∈ Lib.itoa n, b ≠ 32 := fun b hb => by
  unfold Lib.itoa at hb
  split at hb
  · rcases List.mem_cons.1 hb with rfl | hb
    · decide
    · exact isDg_ne (dec_isDg _ b hb) (by decide)
  · exact isDg_ne (dec_isDg _ b hb) (by decide)
theorem join_mem (sep : List UInt8) : ∀ (ls : List (List UInt8)) (b : UInt8), b ∈ Lib.join ls sep → b ∈ sep ∨ ∃ l ∈ ls, b ∈ l
  | [], b, h => by simp [Lib.join, List.intercalate] at h
  | [x], b, h => Or.inr ⟨x, List.mem_cons_self, by simpa [Lib.join, List.intercalate] using h⟩
  | x :: y :: r, b, h => by
    have e : Lib.join (x :: y :: r) sep = x ++ (sep ++ Lib.join (y :: r) sep) := by simp [Lib.join, List.intercalate, List.intersperse]
    rw [e] at h
    rcases List.mem_append.1 h with h | h
    · exact Or.inr ⟨x, List.mem_cons_self, h⟩
    · rcases List.mem_append.1 h with h | h
      · exact Or.inl h
      · rcases join_mem sep (y :: r) b h with h | ⟨l, hl, h⟩
        · exact Or.inl h
        · exact Or.inr ⟨l, List.mem_cons_of_mem _ hl, h⟩
theorem text_blank (c : Nat) : ∀ b ∈ textOf c, b ≠ 32 := fun b hb => by
  by_cases h : c = 0
  · subst h
    have : b = 45 := by simpa [textOf] using hb
    rw [this]; decide
  · rw [textOf_itoa c h] at hb
    rcases join_mem _ _ b hb with hb | ⟨l, hl, hb⟩
    · have : b = 44 := by simpa using hb
      rw [this]; decide
    · obtain ⟨n, _, rfl⟩ := List.mem_map.1 hl
      exact itoa_blank n b hb

/-! ### the sum of a text -/
def sumStep (n : Nat) (b : UInt8) : Nat := (n * 257 + b.toNat + 1) % 65521
def sumF (l : List UInt8) : Nat := l.foldl sumStep 1
theorem sumF_snoc (l : List UInt8) (b : UInt8) : sumF (l ++ [b]) = sumStep (sumF l) b := by simp [sumF]
theorem sumStep_lt (n : Nat) (b : UInt8) : sumStep n b < 65521 := Nat.mod_lt _ (by decide)
theorem sum_lt : ∀ (l : List UInt8) (m : Nat), m < 65521 → l.foldl sumStep m < 65521
  | [], _, h => h
  | b :: l, m, _ => sum_lt l _ (sumStep_lt m b)
theorem sumF_lt (l : List UInt8) : sumF l < 65521 := sum_lt l 1 (by decide)
theorem sum_inj : ∀ (l : List UInt8) (m n : Nat), m < 65521 → n < 65521 → l.foldl sumStep m = l.foldl sumStep n → m = n
  | [], _, _, _, _, h => h
  | b :: l, m, n, hm, hn, h => by
    have := sum_inj l _ _ (sumStep_lt m b) (sumStep_lt n b) h
    unfold sumStep at this
    omega
theorem sum_set : ∀ (l : List UInt8) (i : Nat) (x : UInt8) (m : Nat), i < l.length → l.getD i 0 ≠ x → (l.set i x).foldl sumStep m ≠ l.foldl sumStep m
  | [], _, _, _, h, _ => absurd h (by simp)
  | b :: l, 0, x, m, _, hx => fun e => by
    have := sum_inj l _ _ (sumStep_lt m x) (sumStep_lt m b) e
    unfold sumStep at this
    have h1 := x.toNat_lt
    have h2 := b.toNat_lt
    exact hx (UInt8.toNat_inj.1 (by simp; omega))
  | b :: l, i + 1, x, m, h, hx => sum_set l i x _ (by simpa using h) (by simpa using hx)
/-- The sum from behind: what there is, and the power. -/
def sumB : List UInt8 → Nat × Nat
  | [] => (0, 1)
  | b :: l => (((sumB l).1 + (sumB l).2 * (b.toNat + 1)) % 65521, (sumB l).2 * 257 % 65521)
theorem sumB_fold : ∀ (l : List UInt8) (m : Nat), l.foldl sumStep m % 65521 = (m * (sumB l).2 + (sumB l).1) % 65521
  | [], m => by simp [sumB]
  | b :: l, m => by
    rw [List.foldl_cons, sumB_fold l, sumB, sumStep]
    generalize (sumB l).1 = n
    generalize (sumB l).2 = q
    simp only
    rw [Nat.add_mod, Nat.mod_mul_mod, Nat.add_mod (m * (q * 257 % 65521)), Nat.mul_mod_mod, Nat.mod_mod, ← Nat.add_mod, ← Nat.add_mod]
    congr 1
    grind
theorem sumB_eq (l : List UInt8) : ((sumB l).1 + (sumB l).2) % 65521 = sumF l := by
  have h := sumB_fold l 1
  rw [Nat.mod_eq_of_lt (sum_lt l 1 (by decide)), Nat.one_mul, Nat.add_comm] at h
  exact h.symm

/-! ### frames -/
/-- A frame: from, members, mode, slot, value. -/
structure Frm where
  fr : Int
  me : Int
  mo : Int
  sl : Int
  va : Int
/-- The number of a frame's error; 0: it is right. -/
def fErr (f : Frm) : Nat :=
  if ¬ (1 ≤ f.fr ∧ f.fr ≤ 16) then 4 else if ¬ (0 ≤ f.me ∧ f.me ≤ 65535) then 2 else if f.me.toNat.testBit (f.fr.toNat - 1) = false then 3
  else if ¬ (0 ≤ f.mo ∧ f.mo ≤ 3 ∧ 0 ≤ f.sl ∧ f.sl ≤ 1000000 ∧ -1048576 ≤ f.va ∧ f.va ≤ 1048576) then 2 else 0
theorem fErr_zero {f : Frm} (h : fErr f = 0) : (1 ≤ f.fr ∧ f.fr ≤ 16) ∧ (0 ≤ f.me ∧ f.me ≤ 65535) ∧ (0 ≤ f.mo ∧ f.mo ≤ 3 ∧ 0 ≤ f.sl ∧ f.sl ≤ 1000000 ∧ -1048576 ≤ f.va ∧ f.va ≤ 1048576) := by
  unfold fErr at h
  by_cases h1 : 1 ≤ f.fr ∧ f.fr ≤ 16
  · rw [if_neg (fun e => e h1)] at h
    by_cases h2 : 0 ≤ f.me ∧ f.me ≤ 65535
    · rw [if_neg (fun e => e h2)] at h
      by_cases h3 : f.me.toNat.testBit (f.fr.toNat - 1) = false
      · rw [if_pos h3] at h; omega
      · rw [if_neg h3] at h
        by_cases h4 : 0 ≤ f.mo ∧ f.mo ≤ 3 ∧ 0 ≤ f.sl ∧ f.sl ≤ 1000000 ∧ -1048576 ≤ f.va ∧ f.va ≤ 1048576
        · exact ⟨h1, h2, h4⟩
        · rw [if_pos h4] at h; omega
    · rw [if_pos h2] at h; omega
  · rw [if_pos h1] at h; omega
def frameW : List UInt8 := [102, 114, 97, 109, 101]
/-- What is summed of a frame's text. -/
def headL (f : Frm) : List UInt8 := frameW ++ 32 :: (Lib.itoa f.fr ++ 32 :: (textOf f.me.toNat ++ 32 :: (Lib.itoa f.mo ++ 32 :: (Lib.itoa f.sl ++ 32 :: Lib.itoa f.va))))
/-- A frame's text. -/
def frameL (f : Frm) : List UInt8 := headL f ++ 32 :: Lib.itoa (sumF (headL f) : Nat)
/-- What is read of a text: a frame, or the number of an error. -/
def readF (l : List UInt8) : Except Nat Frm :=
  if 100 < l.length then .error 2 else
  match spl 32 l with
  | [w0, w1, w2, w3, w4, w5, w6] =>
    if w0 ≠ frameW then .error 1 else
    match numOf w1, readOf w2, numOf w3, numOf w4, numOf w5, numOf w6 with
    | some a, some m, some mo, some sl, some va, some su =>
      if a < 0 ∨ mo < 0 ∨ sl < 0 ∨ su < 0 then .error 1
      else if (sumF (l.take (l.length - w6.length - 1)) : Int) ≠ su then .error 8
      else if fErr ⟨a, m, mo, sl, va⟩ = 0 then .ok ⟨a, m, mo, sl, va⟩ else .error (fErr ⟨a, m, mo, sl, va⟩)
    | _, _, _, _, _, _ => .error 1
  | _ => .error 1
theorem frame_words (f : Frm) : spl 32 (frameL f) = [frameW, Lib.itoa f.fr, textOf f.me.toNat, Lib.itoa f.mo, Lib.itoa f.sl, Lib.itoa f.va, Lib.itoa (sumF (headL f) : Nat)] := by
  unfold frameL
  have e : headL f ++ 32 :: Lib.itoa (sumF (headL f) : Nat) = frameW ++ 32 :: (Lib.itoa f.fr ++ 32 :: (textOf f.me.toNat ++ 32 :: (Lib.itoa f.mo ++ 32 :: (Lib.itoa f.sl ++ 32 :: (Lib.itoa f.va ++ 32 :: Lib.itoa (sumF (headL f) : Nat)))))) := by
    generalize Lib.itoa (sumF (headL f) : Nat) = z
    simp [headL]
  rw [e, spl_word 32 _ _ (by decide), spl_word 32 _ _ (itoa_blank _), spl_word 32 _ _ (text_blank _), spl_word 32 _ _ (itoa_blank _), spl_word 32 _ _ (itoa_blank _), spl_word 32 _ _ (itoa_blank _), spl_last 32 _ (itoa_blank _)]
theorem itoa_short (n : Int) (k : Nat) (h0 : 0 ≤ n) (h1 : n < 10 ^ (k + 1)) : (Lib.itoa n).length ≤ k + 1 := by
  obtain ⟨m, rfl⟩ : ∃ m : Nat, n = (m : Int) := ⟨n.toNat, by omega⟩
  rw [Lib.itoa_nonneg]
  exact dec_len k m (by have : ((10 ^ (k + 1) : Nat) : Int) = (10 : Int) ^ (k + 1) := by simp
                        omega)
theorem itoa_value (n : Int) (h0 : -1048576 ≤ n) (h1 : n ≤ 1048576) : (Lib.itoa n).length ≤ 8 := by
  unfold Lib.itoa
  split
  · have := dec_len 6 n.natAbs (by omega)
    simp; omega
  · have := dec_len 6 n.toNat (by omega)
    omega
theorem head_len (f : Frm) (h : fErr f = 0) : (headL f).length ≤ 80 := by
  obtain ⟨h1, h2, h3⟩ := fErr_zero h
  have l1 := itoa_short f.fr 1 (by omega) (by omega)
  have l2 := textOf_len f.me.toNat
  have l3 := itoa_short f.mo 0 (by omega) (by omega)
  have l4 := itoa_short f.sl 6 (by omega) (by omega)
  have l5 := itoa_value f.va (by omega) (by omega)
  simp [headL, frameW]
  omega
theorem frame_len (f : Frm) (h : fErr f = 0) : (frameL f).length ≤ 86 := by
  have h1 := head_len f h
  have h2 := sumF_lt (headL f)
  have h3 := itoa_short (sumF (headL f) : Nat) 4 (by omega) (by omega)
  unfold frameL
  rw [List.length_append, List.length_cons]
  omega
/-- A frame is read as it was made. -/
theorem read_frame (f : Frm) (h : fErr f = 0) : readF (frameL f) = .ok f := by
  obtain ⟨h1, h2, h3⟩ := fErr_zero h
  have hs := sumF_lt (headL f)
  have hm : ((f.me.toNat : Nat) : Int) = f.me := by omega
  have ht : (frameL f).take ((frameL f).length - (Lib.itoa (sumF (headL f) : Nat)).length - 1) = headL f := by
    have e : (frameL f).length - (Lib.itoa (sumF (headL f) : Nat)).length - 1 = (headL f).length := by
      unfold frameL
      rw [List.length_append, List.length_cons]
      omega
    rw [e]
    unfold frameL
    rw [List.take_left]
  unfold readF
  rw [if_neg (by have := frame_len f h; omega), frame_words]
  simp only [ht]
  rw [if_neg (fun e => e rfl), numOf_of f.fr (by omega) (by omega), read_text _ (by omega), numOf_of f.mo (by omega) (by omega), numOf_of f.sl (by omega) (by omega), numOf_of f.va (by omega) (by omega), numOf_of _ (by omega) (by omega)]
  simp only [hm]
  rw [if_neg (by omega), if_neg (fun e => e rfl), if_pos h]
/-- What is read is made as it was. -/
theorem frame_read {l : List UInt8} {f : Frm} (h : readF l = .ok f) : frameL f = l ∧ fErr f = 0 := by
  unfold readF at h
  by_cases h100 : 100 < l.length
  · rw [if_pos h100] at h; cases h
  rw [if_neg h100] at h
  have hj := spl_join 32 l
  split at h
  · rename_i w0 w1 w2 w3 w4 w5 w6 hw
    by_cases h0 : w0 = frameW
    · rw [if_neg (fun e => e h0)] at h
      split at h
      · rename_i a m mo sl va su e1 e2 e3 e4 e5 e6
        by_cases hneg : a < 0 ∨ mo < 0 ∨ sl < 0 ∨ su < 0
        · rw [if_pos hneg] at h; cases h
        rw [if_neg hneg] at h
        by_cases hsum : (sumF (l.take (l.length - w6.length - 1)) : Int) = su
        · rw [if_neg (fun e => e hsum)] at h
          by_cases he : fErr ⟨a, m, mo, sl, va⟩ = 0
          · rw [if_pos he] at h
            cases h
            refine ⟨?_, he⟩
            rw [hw] at hj
            have x1 := (numOf_itoa e1).1
            have x2 := (text_read e2).1
            have x3 := (numOf_itoa e3).1
            have x4 := (numOf_itoa e4).1
            have x5 := (numOf_itoa e5).1
            have x6 := (numOf_itoa e6).1
            have hl : headL ⟨a, m, mo, sl, va⟩ ++ 32 :: w6 = l := by
              rw [← hj]
              simp [headL, x1, x2, x3, x4, x5, h0, Lib.join, List.intercalate, List.intersperse]
            have ht : l.take (l.length - w6.length - 1) = headL ⟨a, m, mo, sl, va⟩ := by
              rw [← hl, List.length_append, List.length_cons, show (headL ⟨a, m, mo, sl, va⟩).length + (w6.length + 1) - w6.length - 1 = (headL ⟨a, m, mo, sl, va⟩).length by omega, List.take_left]
            rw [ht] at hsum
            unfold frameL
            rw [hsum, x6, hl]
          · rw [if_neg he] at h; cases h
        · rw [if_pos hsum] at h; cases h
      · cases h
    · rw [if_pos h0] at h; cases h
  · cases h
/-- Of two ways to part a text at its last blank there is one. -/
theorem last_blank : ∀ (a b c d : List UInt8), (∀ x ∈ b, x ≠ 32) → (∀ x ∈ d, x ≠ 32) → a ++ 32 :: b = c ++ 32 :: d → a = c ∧ b = d
  | [], b, [], d, _, _, h => ⟨rfl, by simpa using h⟩
  | [], b, y :: c, d, hb, _, h => by
    have h2 : b = c ++ 32 :: d := by simpa using (List.cons.inj h).2
    exact absurd rfl (hb 32 (by rw [h2]; simp))
  | x :: a, b, [], d, _, hd, h => by
    have h2 : a ++ 32 :: b = d := by simpa using (List.cons.inj h).2
    exact absurd rfl (hd 32 (by rw [← h2]; simp))
  | x :: a, b, y :: c, d, hb, hd, h => by
    obtain ⟨h1, h2⟩ := List.cons.inj h
    obtain ⟨h3, h4⟩ := last_blank a b c d hb hd h2
    exact ⟨by rw [h1, h3], h4⟩
/-- With one byte another one a frame is none; the last blank stays where it is. -/
theorem one_byte (f : Frm) (i : Nat) (x : UInt8) (hi : i < (frameL f).length) (hx : (frameL f).getD i 0 ≠ x) (hl : i ≠ (headL f).length) (hb : (headL f).length < i → x ≠ 32) (g : Frm) : readF ((frameL f).set i x) ≠ .ok g := fun h => by
  obtain ⟨hg, _⟩ := frame_read h
  have hS := itoa_blank (sumF (headL f) : Nat)
  have hS' := itoa_blank (sumF (headL g) : Nat)
  rcases Nat.lt_or_gt_of_ne hl with hlt | hgt
  · have e : (frameL f).set i x = (headL f).set i x ++ 32 :: Lib.itoa (sumF (headL f) : Nat) := by
      unfold frameL
      rw [List.set_append_left _ _ hlt]
    rw [e] at hg
    obtain ⟨h1, h2⟩ := last_blank _ _ _ _ hS' hS hg
    have h3 := itoa_inj h2
    rw [h1] at h3
    refine sum_set (headL f) i x 1 hlt ?_ h3
    have : (frameL f).getD i 0 = (headL f).getD i 0 := by
      unfold frameL
      rw [List.getD_eq_getElem?_getD, List.getD_eq_getElem?_getD, List.getElem?_append_left hlt]
    rw [← this]; exact hx
  · obtain ⟨k, rfl⟩ : ∃ k, i = (headL f).length + (k + 1) := ⟨i - (headL f).length - 1, by omega⟩
    have e : (frameL f).set ((headL f).length + (k + 1)) x = headL f ++ 32 :: (Lib.itoa (sumF (headL f) : Nat)).set k x := by
      unfold frameL
      rw [List.set_append_right _ _ (by omega), show (headL f).length + (k + 1) - (headL f).length = k + 1 by omega, List.set_cons_succ]
    rw [e] at hg
    have hS2 : ∀ y ∈ (Lib.itoa (sumF (headL f) : Nat)).set k x, y ≠ 32 := fun y hy => by
      rcases List.mem_or_eq_of_mem_set hy with hy | rfl
      · exact hS y hy
      · exact hb hgt
    obtain ⟨h1, h2⟩ := last_blank _ _ _ _ hS' hS2 hg
    rw [h1] at h2
    have hk : k < (Lib.itoa (sumF (headL f) : Nat)).length := by
      unfold frameL at hi
      rw [List.length_append, List.length_cons] at hi
      omega
    have h3 : (Lib.itoa (sumF (headL f) : Nat)).getD k 0 = x := by
      conv => lhs; rw [h2]
      rw [List.getD_eq_getElem?_getD, List.getElem?_set_self (by simpa using hk)]
      rfl
    have h4 : (frameL f).getD ((headL f).length + (k + 1)) 0 = (Lib.itoa (sumF (headL f) : Nat)).getD k 0 := by
      unfold frameL
      rw [List.getD_eq_getElem?_getD, List.getElem?_append_right (by omega), show (headL f).length + (k + 1) - (headL f).length = k + 1 by omega, List.getElem?_cons_succ, List.getD_eq_getElem?_getD]
    exact hx (h4.trans h3)
end Go.Proofs.YtglhapkclpllfaaDoor
