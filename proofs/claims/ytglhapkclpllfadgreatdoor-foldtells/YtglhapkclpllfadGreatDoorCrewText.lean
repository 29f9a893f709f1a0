/-
  The contract of crew.Text: of a crew that is right: its nodes, rising, a comma between; of none: a dash.
-/
import Derived.Test.YtglhapkclpllfadGreatDoorCrewNodes
import Derived.Test.YtglhapkclpllfadGreatDoorShelf
import Derived.Lib.Join
import Derived.Shelf.RegionOpen
import Derived.RangeFuncCalls
namespace Go.Proofs.YtglhapkclpllfadGreatDoor
open Go.RowKit Go.Shelf

attribute [local go_sem] Oper.semAt_some

/-- A node's digits. -/
def digs (x : Fin 16) : ByteArray := ⟨(Lib.decDigits (x.val + 1)).toArray⟩
theorem itoa_node (x : Fin 16) (w : World) : Calls Tryz.prog 30 #[.int .i64 ((x.val : Int) + 1)] w fun e w' => e = .returned (.string (digs x)) ∧ w' = w :=
  Tryz.strconv_Itoa_small (x.val + 1) (by omega) w
/-- The text of a crew. -/
def textOf (c : Nat) : List UInt8 := if c = 0 then [45] else Lib.join ((nodesF c).map fun x => (digs x).data.toList) [44]
theorem Tryz.infoStr : (Tryz.prog.info? 9).map (fun i => (i.zero, i.size, i.bytes)) = some (some (.string ⟨#[]⟩), 1, 16) := by kernel_rfl

/-- The step of an append inside a region, kept from the walk's own unfolding. -/
def AppendStep (F : Fence) (n : Nat) (P : Program) (o : Oper) (a : Act) (w : World) (K : Act → World → Prop) (Q : Exit → Act → World → Prop) : Prop := Oper.wpIn F n P o a w K Q
theorem append_step {F : Fence} {n : Nat} {P : Program} (w : World) {o : Oper} {a : Act} {K : Act → World → Prop} {Q : Exit → Act → World → Prop} (s x : Operand) (t : TypeId) (hop : o.op = Op.call { callee := Callee.builtin Builtin.append, args := #[s, x], argTypes := #[t, t] })
    (base : Nat) (e : TypeId) (i : TypeInfo) (z : Value) (size bytes : Nat) (h1 : P.underlying t = some (.slice e)) (h2 : P.info? e = some i) (h3 : i.zero = some z) (h4 : i.size = size) (h5 : i.bytes = bytes) (h6 : z.cells.size = size) (h7 : 0 < size)
    (v : Value) (k : Nat) (xs : List Value) (hs : a.eval s = v) (hown : w.ownsRow base e size v k xs) (ad : Addr) (m c : Nat) (news : List Value) (hx : a.eval x = .slice (some ad) m c) (hn : news.length = m * size)
    (hc : ∀ j u, news[j]? = some u → w.cell? (ad.add j) = some u) (h1c : ∀ u ∈ news, u.oneCell' = true) (b1 : k + m ≤ maxLen) (b2 : (k + m) * bytes ≤ 140737488355328) (b3 : base ≤ w.heap.size)
    (hK : ∀ v' w', w'.ownsRow base e size v' (k + m) (xs ++ news) → w.grownBy w' v.ownBlock → (v' = .slice none 0 0 ↔ v = .slice none 0 0 ∧ m = 0) → K (a.put o.dst v') w') : AppendStep F n P o a w K Q := by
  obtain ⟨v', w', hrun, r1, r2, r3⟩ := run_append_own (P := P) w base t o.type e i z size bytes h1 h2 h3 h4 h5 h6 h7 v k xs hown ad m c news hn hc h1c b1 b2 b3
  unfold AppendStep Oper.wpIn
  refine ⟨?_, ?_⟩
  · simp [Oper.about, hop, resolve, Target.leads, Sem.run_pure]
  · rw [Oper.semAt_plain F _ _ (by rw [hop]; intro c hc'; cases hc')]
    simp [execOp, hop, resolve, invoke, builtin, hs, hx, hrun, Result.andThen]
    exact hK v' w' r1 r2 r3

/-- A node's digits, written out. -/
def dg (x : Fin 16) : List UInt8 := if x.val < 9 then [UInt8.ofNat (49 + x.val)] else [49, UInt8.ofNat (39 + x.val)]
theorem dec_small (n : Nat) (h : n < 10) : Lib.decDigits n = [UInt8.ofNat (48 + n)] := by rw [Lib.decDigits, dif_pos h]
theorem dec_two (n : Nat) (h : ¬ n < 10) (h2 : n < 100) : Lib.decDigits n = [UInt8.ofNat (48 + n / 10), UInt8.ofNat (48 + n % 10)] := by
  rw [Lib.decDigits, dif_neg h, dec_small (n / 10) (by omega)]; rfl
theorem digs_eq (x : Fin 16) : (digs x).data.toList = dg x := by
  unfold digs dg
  have hx := x.isLt
  by_cases h : x.val < 9
  · rw [if_pos h, dec_small _ (by omega), show 48 + (x.val + 1) = 49 + x.val by omega]
  · rw [if_neg h, dec_two _ (by omega) (by omega), show 48 + (x.val + 1) / 10 = 49 by omega, show 48 + (x.val + 1) % 10 = 39 + x.val by omega]; rfl
theorem digs_len (x : Fin 16) : (digs x).data.toList.length ≤ 2 := by
  rw [digs_eq]; unfold dg; split <;> simp
theorem join_len (sep : List UInt8) (hs : sep.length ≤ 1) : ∀ ls : List (List UInt8), (∀ l ∈ ls, l.length ≤ 2) → (Lib.join ls sep).length ≤ 3 * ls.length
  | [], _ => by simp [Lib.join_nil]
  | [a], h => by have := h a (by simp); rw [Lib.join_one]; simp; omega
  | a :: b :: r, h => by
    have h1 := h a (by simp)
    have ih := join_len sep hs (b :: r) (fun l hl => h l (List.mem_cons_of_mem _ hl))
    rw [Lib.join_cons, Lib.joinTail] at ih ⊢
    simp only [List.map_cons, List.flatten_cons, List.length_append, List.length_cons] at ih ⊢
    omega
theorem text_len (c : Nat) : (Lib.join (((nodesF c).map digs).map (·.data.toList)) [44]).length ≤ 48 := by
  have h := join_len [44] (by decide) (((nodesF c).map digs).map (·.data.toList)) (fun l hl => by
    obtain ⟨y, hy, rfl⟩ := List.mem_map.1 hl
    obtain ⟨x, _, rfl⟩ := List.mem_map.1 hy
    exact digs_len x)
  have := nodesF_len c
  simp only [List.length_map] at h
  omega
theorem textOf_eq (c : Nat) (h : c ≠ 0) : textOf c = Lib.join (((nodesF c).map digs).map (·.data.toList)) [44] := by
  unfold textOf; rw [if_neg h, List.map_map]; rfl
theorem textOf_len (c : Nat) : (textOf c).length ≤ 48 := by
  by_cases h : c = 0
  · subst h; decide
  · rw [textOf_eq c h]; exact text_len c
end Go.Proofs.YtglhapkclpllfadGreatDoor
