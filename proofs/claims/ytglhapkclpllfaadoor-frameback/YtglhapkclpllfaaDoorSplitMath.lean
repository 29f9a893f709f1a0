/-
  Plain mathematics: a text cut by a byte, its last place, a number in digits: as the library's functions cut, find and read them.
-/
import Derived.Test.YtglhapkclpllfaaDoorFrameMath
import Derived.Lib.SplitLaws
import Derived.Lib.LastIndexByte
import Derived.Lib.AtoiAllCases
namespace Go.Proofs.YtglhapkclpllfaaDoor
open Go.RowKit Go.Shelf

/-! ### a text cut by a byte, as the library cuts it -/
theorem splitK_spl (c : UInt8) : ∀ l : List UInt8, Lib.splitK [c] 0 (Lib.count l [c]) l = spl c l
  | [] => by
    rw [Lib.count_miss (by simp [Lib.index])]
    rfl
  | b :: l => by
    have ih := splitK_spl c l
    by_cases h : b = c
    · subst h
      have hix : Lib.index (b :: l) [b] = 0 := by rw [Lib.index]; simp [List.isPrefixOf]
      rw [Lib.count_cons_eq, Nat.add_comm, Lib.splitK, hix]
      simp [spl, ih]
    · have hp : ([c] : List UInt8).isPrefixOf (b :: l) = false := by simp [List.isPrefixOf, Ne.symm h]
      have hix : Lib.index (b :: l) [c] = if Lib.index l [c] == -1 then -1 else Lib.index l [c] + 1 := by rw [Lib.index, hp]; simp
      have hb : (b == c) = false := by simpa using h
      rw [Lib.count_cons_ne b c l h]
      by_cases hm : Lib.index l [c] = -1
      · rw [Lib.count_miss hm] at ih ⊢
        have e : spl c l = [l] := ih.symm
        simp [Lib.splitK, spl, hb, e]
      · have hge := Lib.index_ge l [c]
        obtain ⟨j, hj⟩ : ∃ j : Nat, Lib.index l [c] = j := ⟨(Lib.index l [c]).toNat, by omega⟩
        have hix' : Lib.index (b :: l) [c] = ((j + 1 : Nat) : Int) := by rw [hix, if_neg (fun e => hm (beq_iff_eq.1 e)), hj]; omega
        have hc := Lib.count_hit (sub := [c]) (by simp) hj
        have n1 : ¬ (((j : Nat) : Int) == -1) = true := fun e => by have := beq_iff_eq.1 e; omega
        have n2 : ¬ ((((j + 1 : Nat)) : Int) == -1) = true := fun e => by have := beq_iff_eq.1 e; omega
        rw [hc, Nat.add_comm, Lib.splitK, hj, if_neg n1] at ih
        rw [hc, Nat.add_comm, Lib.splitK, hix', if_neg n2]
        have e1 : (((j : Nat) : Int)).toNat = j := by omega
        have e2 : ((((j + 1 : Nat)) : Int)).toNat = j + 1 := by omega
        rw [e1] at ih
        rw [e2]
        simp only [spl, hb]
        rw [← ih]
        simp
theorem spl_no (c : UInt8) : ∀ l, ∀ x ∈ spl c l, c ∉ x
  | [], x, h => by simp [spl] at h; simp [h]
  | b :: r, x, h => by
    have ih := spl_no c r
    unfold spl at h
    by_cases hb : (b == c) = true
    · rw [if_pos hb] at h
      rcases List.mem_cons.1 h with rfl | h
      · simp
      · exact ih x h
    · rw [if_neg hb] at h
      revert h
      cases hr : spl c r with
      | nil => exact absurd hr (spl_ne c r)
      | cons y t =>
        intro h
        rcases List.mem_cons.1 h with rfl | h
        · have h1 := ih y (by rw [hr]; simp)
          have h2 : ¬ b = c := by simpa using hb
          intro hc
          rcases List.mem_cons.1 hc with e | hc
          · exact h2 e.symm
          · exact h1 hc
        · exact ih x (by rw [hr]; simp [h])
/-- The last place of a byte in front of a word that has none. -/
theorem last_place (s : ByteArray) (c : UInt8) (p x : List UInt8) (h : s.data.toList = p ++ c :: x) (hx : c ∉ x) : Lib.lastIndexByte s (c.toNat : Int) = (p.length : Int) := by
  have hsz : s.size = p.length + (x.length + 1) := by
    have : s.size = s.data.toList.length := by simp
    rw [this, h]; simp
  have hat : ∀ j, j < s.size → s.data[j]! = (p ++ c :: x).getD j 0 := fun j hj => by
    rw [getElem!_pos s.data j (by simpa using hj), ← h, List.getD_eq_getElem?_getD, List.getElem?_eq_getElem (by simpa using hj)]
    simp
  rcases Lib.lastIndexByte_spec s (c.toNat : Int) with ⟨_, hn⟩ | ⟨i, hi, e, hc, hn⟩
  · exact absurd (by rw [hat _ (by omega)]; simp) (hn p.length (by omega))
  · rw [e]
    rcases Nat.lt_trichotomy i p.length with hlt | rfl | hgt
    · exact absurd (by rw [hat _ (by omega)]; simp) (hn p.length hlt (by omega))
    · rfl
    · exfalso
      rw [hat i hi] at hc
      obtain ⟨k, rfl⟩ : ∃ k, i = p.length + (k + 1) := ⟨i - p.length - 1, by omega⟩
      have hk : k < x.length := by omega
      rw [List.getD_eq_getElem?_getD, List.getElem?_append_right (by omega), show p.length + (k + 1) - p.length = k + 1 by omega, List.getElem?_cons_succ, List.getElem?_eq_getElem hk] at hc
      have : x[k] = c := UInt8.toNat_inj.1 (by simp at hc; omega)
      exact hx (this ▸ List.getElem_mem hk)
theorem join_last (c : UInt8) : ∀ (ws : List (List UInt8)) (x : List UInt8), ws ≠ [] → Lib.join (ws ++ [x]) [c] = Lib.join ws [c] ++ c :: x
  | [], _, h => absurd rfl h
  | [a], x, _ => by simp [Lib.join, List.intercalate, List.intersperse]
  | a :: b :: r, x, _ => by
    have ih := join_last c (b :: r) x (by simp)
    have e : ∀ (y z : List UInt8) (t : List (List UInt8)), Lib.join (y :: z :: t) [c] = y ++ (c :: Lib.join (z :: t) [c]) := fun y z t => by simp [Lib.join, List.intercalate, List.intersperse]
    rw [List.cons_append, List.cons_append, e, e, ← List.cons_append, ih]
    simp

/-! ### a number in digits, as the library reads it -/
theorem parse_dec : ∀ (l : List UInt8) (acc : Nat), (∀ b ∈ l, isDg b) → l.foldl (fun n b => 10 * n + (b.toNat - 48)) acc < 18446744073709551616 → Lib.parseUint10 acc l = .ok (l.foldl (fun n b => 10 * n + (b.toNat - 48)) acc)
  | [], acc, _, _ => rfl
  | b :: l, acc, h, hlt => by
    have hb := h b (by simp)
    have hmono : ∀ (l : List UInt8) (a : Nat), a ≤ l.foldl (fun n b => 10 * n + (b.toNat - 48)) a := fun l => by
      induction l with
      | nil => intro a; exact Nat.le_refl _
      | cons c l ih => intro a; rw [List.foldl_cons]; exact Nat.le_trans (by omega) (ih _)
    rw [List.foldl_cons] at hlt ⊢
    have h1 := hmono l (10 * acc + (b.toNat - 48))
    unfold isDg at hb
    rw [Lib.parseUint10, if_pos hb, if_neg (by omega), if_neg (by omega), show acc * 10 + (b.toNat - 48) = 10 * acc + (b.toNat - 48) by omega]
    exact parse_dec l _ (fun x hx => h x (List.mem_cons_of_mem _ hx)) hlt
theorem mag_dec (n : Nat) (h : n < 18446744073709551616) : Lib.parseMag (Lib.decDigits n) = .ok n := by
  have e : (Lib.decDigits n).foldl (fun n b => 10 * n + (b.toNat - 48)) 0 = n := dec_back n
  unfold Lib.parseMag
  rw [if_neg (dec_ne n), parse_dec _ 0 (dec_isDg n) (by rw [e]; exact h), e]
theorem atoi_itoa (n : Int) (h0 : -9223372036854775808 ≤ n) (h1 : n ≤ 9223372036854775807) : Lib.atoiAll (Lib.itoa n) = .ok n := by
  by_cases hn : n < 0
  · obtain ⟨k, rfl⟩ : ∃ k : Nat, n = -(k : Int) := ⟨n.natAbs, by omega⟩
    rw [Lib.itoa_neg k (by omega), Lib.atoiAll_minus, mag_dec k (by omega)]
    simp only [Lib.signed]
    rw [if_neg (by omega)]
  · obtain ⟨k, rfl⟩ : ∃ k : Nat, n = (k : Int) := ⟨n.toNat, by omega⟩
    obtain ⟨b, r, hb⟩ := List.exists_cons_of_ne_nil (dec_ne k)
    have hd := dec_isDg k b (by rw [hb]; exact List.mem_cons_self)
    unfold isDg at hd
    rw [Lib.itoa_nonneg, hb, Lib.atoiAll_plain b r (by omega) (by omega), ← hb, mag_dec k (by omega)]
    simp only [Lib.signless]
    rw [if_neg (by omega)]
theorem num_atoi {l : List UInt8} {n : Int} (h : numOf l = some n) : Lib.atoiAll l = .ok n := by
  obtain ⟨h1, h2, h3⟩ := numOf_itoa h
  rw [← h1]
  exact atoi_itoa n (by omega) (by omega)
/-- A number without a sign. -/
def cntOf (l : List UInt8) : Option Int := match numOf l with
  | some n => if n < 0 then none else some n
  | none => none
/-- What the seven words of a frame tell: the frame, and its sum; neither is checked. -/
def wordsF (ws : List (List UInt8)) : Option (Frm × Int) := match ws with
  | [w0, w1, w2, w3, w4, w5, w6] => if w0 ≠ frameW then none else match readOf w2, cntOf w1, cntOf w3, cntOf w4, numOf w5, cntOf w6 with
    | some m, some a, some mo, some sl, some va, some su => some (⟨a, m, mo, sl, va⟩, su)
    | _, _, _, _, _, _ => none
  | _ => none
theorem cnt_some {l : List UInt8} {n : Int} (h : cntOf l = some n) : numOf l = some n ∧ 0 ≤ n := by
  unfold cntOf at h
  split at h
  · rename_i m hm
    split at h
    · cases h
    · cases h
      exact ⟨hm, by omega⟩
  · cases h
theorem cnt_none {l : List UInt8} (h : cntOf l = none) : numOf l = none ∨ ∃ n, numOf l = some n ∧ n < 0 := by
  unfold cntOf at h
  split at h
  · rename_i m hm
    split at h
    · exact Or.inr ⟨m, hm, by omega⟩
    · cases h
  · rename_i hm
    exact Or.inl hm
theorem readF_long {l : List UInt8} (h : 100 < l.length) : readF l = .error 2 := by
  unfold readF
  rw [if_pos h]
theorem readF_none {l : List UInt8} (h : l.length ≤ 100) (hw : wordsF (spl 32 l) = none) : readF l = .error 1 := by
  unfold readF
  rw [if_neg (by omega)]
  unfold wordsF at hw
  split
  · rename_i w0 w1 w2 w3 w4 w5 w6 e
    rw [e] at hw
    simp only at hw
    by_cases h0 : w0 = frameW
    · rw [if_neg (fun x => x h0)] at hw ⊢
      split
      · rename_i a m mo sl va su e1 e2 e3 e4 e5 e6
        by_cases hneg : a < 0 ∨ mo < 0 ∨ sl < 0 ∨ su < 0
        · rw [if_pos hneg]
        · exfalso
          have c1 : cntOf w1 = some a := by unfold cntOf; rw [e1]; simp only; rw [if_neg (by omega)]
          have c3 : cntOf w3 = some mo := by unfold cntOf; rw [e3]; simp only; rw [if_neg (by omega)]
          have c4 : cntOf w4 = some sl := by unfold cntOf; rw [e4]; simp only; rw [if_neg (by omega)]
          have c6 : cntOf w6 = some su := by unfold cntOf; rw [e6]; simp only; rw [if_neg (by omega)]
          rw [e2, c1, c3, c4, e5, c6] at hw
          cases hw
      · rfl
    · rw [if_pos h0]
  · rfl
theorem words_some {ws : List (List UInt8)} {f : Frm} {su : Int} (h : wordsF ws = some (f, su)) :
    ∃ w1 w2 w3 w4 w5 w6, ws = [frameW, w1, w2, w3, w4, w5, w6] ∧ ∃ m : Nat, readOf w2 = some m ∧ f.me = m ∧ numOf w1 = some f.fr ∧ numOf w3 = some f.mo ∧ numOf w4 = some f.sl ∧ numOf w5 = some f.va ∧ numOf w6 = some su ∧ 0 ≤ f.fr ∧ 0 ≤ f.mo ∧ 0 ≤ f.sl ∧ 0 ≤ su := by
  unfold wordsF at h
  split at h
  · rename_i w0 w1 w2 w3 w4 w5 w6
    by_cases h0 : w0 = frameW
    · rw [if_neg (fun x => x h0)] at h
      split at h
      · rename_i m a mo sl va su' e2 e1 e3 e4 e5 e6
        cases h
        obtain ⟨n1, p1⟩ := cnt_some e1
        obtain ⟨n3, p3⟩ := cnt_some e3
        obtain ⟨n4, p4⟩ := cnt_some e4
        obtain ⟨n6, p6⟩ := cnt_some e6
        subst h0
        exact ⟨w1, w2, w3, w4, w5, w6, rfl, m, e2, rfl, n1, n3, n4, e5, n6, p1, p3, p4, p6⟩
      · cases h
    · rw [if_pos h0] at h; cases h
  · cases h
/-- The last blank of seven words, and what is read of them. -/
theorem readF_some {l : List UInt8} (h : l.length ≤ 100) {f : Frm} {su : Int} (hw : wordsF (spl 32 l) = some (f, su)) :
    ∃ p w6 : List UInt8, l = p ++ 32 :: w6 ∧ (32 : UInt8) ∉ w6 ∧ l.take (l.length - w6.length - 1) = p ∧ (spl 32 l).getD 6 [] = w6 ∧
      readF l = if (sumF p : Int) ≠ su then .error 8 else if fErr f = 0 then .ok f else .error (fErr f) := by
  obtain ⟨w1, w2, w3, w4, w5, w6, e, m, e2, hm, e1, e3, e4, e5, e6, p1, p3, p4, p6⟩ := words_some hw
  have hj := spl_join 32 l
  rw [e, show [frameW, w1, w2, w3, w4, w5, w6] = [frameW, w1, w2, w3, w4, w5] ++ [w6] from rfl, join_last 32 _ _ (by simp)] at hj
  have hno := spl_no 32 l w6 (by rw [e]; simp)
  generalize hp : Lib.join [frameW, w1, w2, w3, w4, w5] [32] = p at hj
  have ht : l.take (l.length - w6.length - 1) = p := by
    rw [← hj, List.length_append, List.length_cons, show p.length + (w6.length + 1) - w6.length - 1 = p.length by omega, List.take_left]
  refine ⟨p, w6, hj.symm, hno, ht, by rw [e]; rfl, ?_⟩
  unfold readF
  rw [if_neg (by omega), e]
  simp only
  rw [if_neg (fun x => x rfl), e1, e2, e3, e4, e5, e6]
  simp only
  rw [if_neg (by omega), ht]
  obtain ⟨fr, me, mo, sl, va⟩ := f
  simp only at hm ⊢
  rw [hm]
end Go.Proofs.YtglhapkclpllfaaDoor
