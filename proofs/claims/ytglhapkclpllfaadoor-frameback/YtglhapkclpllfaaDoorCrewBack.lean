/-
  Plain mathematics: the crew of a crew's nodes is that crew; what is written is read as it was.
-/
import Derived.Test.YtglhapkclpllfaaDoorCrewRead
namespace Go.Proofs.YtglhapkclpllfaaDoor
open Go.RowKit Go.Shelf

theorem or_place (p c : Nat) (h : c % 2 = 1) : 2 ^ p ||| 2 ^ (p + 1) * (c / 2) = 2 ^ p * c := by
  have hlt : 2 ^ p < 2 ^ (p + 1) := by rw [Nat.pow_succ]; have := Nat.two_pow_pos p; omega
  have h1 := Nat.two_pow_add_eq_or_of_lt hlt (c / 2)
  rw [Nat.or_comm, ← h1, Nat.pow_succ]
  have h2 : c = 2 * (c / 2) + 1 := by omega
  generalize c / 2 = d at *
  subst h2
  generalize 2 ^ p = q
  rw [Nat.mul_add, Nat.mul_assoc]; omega
/-- The crew of nodes. -/
def orL (acc : Nat) (l : List Nat) : Nat := l.foldl (fun c n => c ||| 2 ^ (n - 1)) acc
theorem orL_nl : ∀ f p c acc, c < 2 ^ f → orL acc (Cm.nl f p c) = acc ||| 2 ^ p * c
  | 0, p, c, acc, h => by
    have : c = 0 := by simpa using h
    subst this
    simp [orL, Cm.nl]
  | f + 1, p, c, acc, h => by
    have hp : 2 ^ (f + 1) = 2 * 2 ^ f := by rw [Nat.pow_succ]; omega
    rcases Nat.mod_two_eq_zero_or_one c with h2 | h2
    · have ih := orL_nl f (p + 1) (c / 2) acc (by omega)
      have e : 2 ^ (p + 1) * (c / 2) = 2 ^ p * c := by
        rw [Nat.pow_succ, Nat.mul_assoc, show 2 * (c / 2) = c by omega]
      unfold Cm.nl
      rw [if_neg (by omega), ih, e]
    · have ih := orL_nl f (p + 1) (c / 2) (acc ||| 2 ^ p) (by omega)
      unfold Cm.nl
      rw [if_pos h2]
      show orL (acc ||| 2 ^ (p + 1 - 1)) (Cm.nl f (p + 1) (c / 2)) = _
      rw [Nat.add_sub_cancel, ih, Nat.or_assoc, or_place p c h2]
theorem orL_nodes (c : Nat) (h : c ≤ 65535) : orL 0 (Cm.nodes c) = c := by
  unfold Cm.nodes
  rw [orL_nl 16 0 c 0 (by omega)]; simp
theorem ofN_fold : ∀ (l : List Nat) (acc : Nat), (ints l).foldl (fun c x => c ||| 2 ^ (x.toNat - 1)) acc = orL acc l
  | [], _ => rfl
  | n :: r, acc => by
    show (ints r).foldl _ (acc ||| 2 ^ (((n : Nat) : Int).toNat - 1)) = orL (acc ||| 2 ^ (n - 1)) r
    rw [ofN_fold r]; simp
theorem ofN_nodes (c : Nat) (h : c ≤ 65535) : Cm.ofN (ints (Cm.nodes c)) = c := by
  unfold Cm.ofN
  rw [ofN_fold, orL_nodes c h]
theorem nodes_isNode (c : Nat) : ∀ x ∈ ints (Cm.nodes c), Cm.isNode x := fun x hx => by
  obtain ⟨n, hn, rfl⟩ := List.mem_map.1 hx
  have := nodes_mem hn
  exact ⟨by omega, by omega⟩

/-! ### the text is read as it was written -/
theorem cut_word : ∀ (a b : List UInt8), (∀ x ∈ a, x ≠ 44) → cutL (a ++ 44 :: b) = (a, b, true)
  | [], b, _ => by simp [cutL]
  | x :: a, b, h => by
    have hx := h x (by simp)
    have ih := cut_word a b (fun y hy => h y (List.mem_cons_of_mem _ hy))
    simp [cutL, hx, ih]
theorem cut_last : ∀ (a : List UInt8), (∀ x ∈ a, x ≠ 44) → cutL a = (a, [], false)
  | [], _ => rfl
  | x :: a, h => by
    have hx := h x (by simp)
    have ih := cut_last a (fun y hy => h y (List.mem_cons_of_mem _ hy))
    simp [cutL, hx, ih]
theorem dg_word : ∀ x : Fin 16, ∀ b ∈ dg x, b ≠ 44 := by decide
/-- Rising, all above last. -/
def asc (last : Nat) : List Nat → Prop
  | [] => True
  | n :: r => last < n ∧ asc n r
theorem asc_mono {a b : Nat} (h : a ≤ b) : ∀ {l : List Nat}, asc b l → asc a l
  | [], _ => trivial
  | _ :: _, h2 => ⟨by have := h2.1; omega, h2.2⟩
theorem nl_asc : ∀ f p c, asc p (Cm.nl f p c)
  | 0, _, _ => trivial
  | f + 1, p, c => by
    have ih := nl_asc f (p + 1) (c / 2)
    unfold Cm.nl
    split
    · exact ⟨by omega, ih⟩
    · exact asc_mono (by omega) ih
theorem join_two (x y : List UInt8) (r : List (List UInt8)) : Lib.join (x :: y :: r) [44] = x ++ 44 :: Lib.join (y :: r) [44] := by
  rw [Lib.join_cons, Lib.join_cons]
  simp [Lib.joinTail]
theorem join_pos (x : Fin 16) (r : List (List UInt8)) : 0 < (Lib.join (dg x :: r) [44]).length := by
  rw [Lib.join_cons]
  have : ∀ x : Fin 16, 0 < (dg x).length := by decide
  have := this x
  simp; omega
theorem read_join : ∀ (l : List (Fin 16)) (x : Fin 16) (f c last : Nat), asc last ((x :: l).map fun y => y.val + 1) → (Lib.join ((x :: l).map dg) [44]).length < f →
    readGo f (Lib.join ((x :: l).map dg) [44]) c last = some (orL c ((x :: l).map fun y => y.val + 1))
  | [], x, f, c, last, ha, hf => by
    obtain ⟨g, rfl⟩ : ∃ g, f = g + 1 := ⟨f - 1, by omega⟩
    have e : Lib.join ([x].map dg) [44] = dg x := Lib.join_one _ _
    have h1 : last < x.val + 1 := ha.1
    rw [e, readGo, cut_last _ (dg_word x)]
    simp only [nodeOf_dg]
    rw [if_neg (by omega)]
    simp [orL]
  | y :: l, x, f, c, last, ha, hf => by
    obtain ⟨g, rfl⟩ : ∃ g, f = g + 1 := ⟨f - 1, by omega⟩
    have e : Lib.join ((x :: y :: l).map dg) [44] = dg x ++ 44 :: Lib.join ((y :: l).map dg) [44] := join_two _ _ _
    have h1 : last < x.val + 1 := ha.1
    have ih := read_join l y g (c ||| 2 ^ x.val) (x.val + 1) ha.2 (by rw [e] at hf; simp at hf ⊢; omega)
    rw [e, readGo, cut_word _ _ (dg_word x)]
    simp only [nodeOf_dg]
    rw [if_neg (by omega)]
    simp only [if_true, Nat.add_sub_cancel]
    rw [ih]
    simp [orL]
theorem nodesF_val (c : Nat) : (nodesF c).map (fun y => y.val + 1) = Cm.nodes c := by
  unfold nodesF
  rw [List.map_map]
  conv => rhs; rw [← List.map_id (Cm.nodes c)]
  apply List.map_congr_left
  intro n hn
  have := nodes_mem hn
  simp only [Function.comp, id]
  rw [Nat.mod_eq_of_lt (by omega)]; omega
theorem textOf_dg (c : Nat) (h : c ≠ 0) : textOf c = Lib.join ((nodesF c).map dg) [44] := by
  unfold textOf
  rw [if_neg h]
  congr 1
  apply List.map_congr_left
  intro x _
  exact digs_eq x
theorem read_text (c : Nat) (h : c ≤ 65535) : readOf (textOf c) = some c := by
  by_cases h0 : c = 0
  · subst h0; rfl
  · rw [textOf_dg c h0]
    have hval := nodesF_val c
    have hasc : asc 0 ((nodesF c).map fun y => y.val + 1) := by rw [hval]; exact nl_asc 16 0 c
    have hor : orL 0 ((nodesF c).map fun y => y.val + 1) = c := by rw [hval]; exact orL_nodes c h
    cases hl : nodesF c with
    | nil =>
      rw [hl] at hor
      exact absurd hor.symm h0
    | cons x l =>
      rw [hl] at hasc hor
      have hr := read_join l x ((Lib.join ((x :: l).map dg) [44]).length + 1) 0 0 hasc (Nat.lt_succ_self _)
      have hne : Lib.join ((x :: l).map dg) [44] ≠ [45] := fun e => by
        have h45 : ∀ x : Fin 16, (dg x).head? ≠ some 45 := by decide
        have hpos : ∀ x : Fin 16, dg x ≠ [] := by decide
        have e1 : Lib.join ((x :: l).map dg) [44] = dg x ++ Lib.joinTail [44] (l.map dg) := Lib.join_cons _ _ _
        rw [e1] at e
        apply h45 x
        cases hd : dg x with
        | nil => exact absurd hd (hpos x)
        | cons a t => rw [hd] at e; simp at e; simp [e.1]
      unfold readOf
      rw [if_neg hne, hr, hor]
end Go.Proofs.YtglhapkclpllfaaDoor
