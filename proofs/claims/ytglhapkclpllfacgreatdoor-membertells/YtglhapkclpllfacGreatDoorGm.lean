/-
  Plain mathematics of membership: one node put into a crew, or taken out of it; which two crews are the same but for one node.
-/
import Derived.Test.YtglhapkclpllfacGreatDoorRefMath0
import Derived.Test.YtglhapkclpllfacGreatDoorBase
import Derived.Deep.Slices
import Derived.Deep.Strs
import Derived.Lib.SmallJoins
import Derived.ProofKit
import Derived.OpenShut
import Derived.Test.YtglhapkclpllfacGreatDoorGa
namespace Go.Proofs.YtglhapkclpllfacGreatDoor
open Go.RowKit

/-- A crew with the node of place k. -/
def withN (m k : Nat) : Nat := m ||| 2 ^ k
/-- A crew without it. -/
def lessN (m k : Nat) : Nat := m &&& (65535 - 2 ^ k)
theorem pow_16 (k : Nat) (h : k < 16) : 2 ^ k ≤ 65535 := Nat.le_trans (Nat.pow_le_pow_right (by omega) (show k ≤ 15 by omega)) (by decide)
theorem bits_16 {a b : Nat} (ha : a ≤ 65535) (hb : b ≤ 65535) (h : ∀ i, i < 16 → a.testBit i = b.testBit i) : a = b := by
  refine Nat.eq_of_testBit_eq fun i => ?_
  by_cases hi : i < 16
  · exact h i hi
  · have hp : 2 ^ 16 ≤ 2 ^ i := Nat.pow_le_pow_right (by omega) (by omega)
    rw [Nat.testBit_lt_two_pow (by omega), Nat.testBit_lt_two_pow (by omega)]
theorem with_le (m k : Nat) (hm : m ≤ 65535) (hk : k < 16) : withN m k ≤ 65535 := Cm.or_le m _ hm (pow_16 k hk)
theorem less_le (m k : Nat) (hm : m ≤ 65535) : lessN m k ≤ 65535 := Cm.and_le m _ hm
theorem with_bit (m k i : Nat) : (withN m k).testBit i = (m.testBit i || decide (k = i)) := by
  unfold withN
  rw [Nat.testBit_or, Nat.testBit_two_pow]
theorem less_bit (m k i : Nat) (hk : k < 16) (hi : i < 16) : (lessN m k).testBit i = (m.testBit i && !decide (k = i)) := by
  unfold lessN
  rw [Nat.testBit_and, bit_inv _ i (pow_16 k hk) hi, Nat.testBit_two_pow]
theorem with_has (m k : Nat) (h : m.testBit k = true) : withN m k = m := by
  refine Nat.eq_of_testBit_eq fun i => ?_
  rw [with_bit]
  by_cases e : k = i
  · subst e; rw [h]; rfl
  · rw [decide_eq_false e, Bool.or_false]
theorem less_has (m k : Nat) (hm : m ≤ 65535) (hk : k < 16) (h : m.testBit k = false) : lessN m k = m := by
  refine bits_16 (less_le m k hm) hm fun i hi => ?_
  rw [less_bit m k i hk hi]
  by_cases e : k = i
  · subst e; rw [h]; rfl
  · rw [decide_eq_false e]; simp
/-- One that is not there, added. -/
theorem with_add (m k : Nat) (hm : m ≤ 65535) (hk : k < 16) (h : m.testBit k = false) : m + 2 ^ k = withN m k := by
  have h1 := bsum_or (2 ^ k) m (pow_16 k hk) hm
  have h2 : 2 ^ k &&& (65535 - m) = 2 ^ k := by
    refine bits_16 (Cm.and_le _ _ (pow_16 k hk)) (pow_16 k hk) fun i hi => ?_
    rw [Nat.testBit_and, bit_inv m i hm hi, Nat.testBit_two_pow]
    by_cases e : k = i
    · subst e; rw [h]; simp
    · simp [e]
  rw [h2] at h1
  rw [h1]
  exact Nat.or_comm _ _
/-- One that is there, taken away. -/
theorem less_sub (m k : Nat) (hm : m ≤ 65535) (hk : k < 16) (h : m.testBit k = true) : m - 2 ^ k = lessN m k ∧ 2 ^ k ≤ m := by
  have h1 := bsum_or m (2 ^ k) hm (pow_16 k hk)
  have h2 := with_has m k h
  unfold withN at h2
  unfold lessN
  rw [h2] at h1
  omega
/-- With the node both the same: the others are the same. -/
theorem with_same (u v k : Nat) (hu : u ≤ 65535) (hv : v ≤ 65535) (hk : k < 16) : withN u k = withN v k ↔ ∀ i, i < 16 → i ≠ k → u.testBit i = v.testBit i := by
  constructor
  · intro h i _ hik
    have h1 := with_bit u k i
    rw [h, with_bit v k i] at h1
    have hd : decide (k = i) = false := decide_eq_false (fun e => hik e.symm)
    rw [hd, Bool.or_false, Bool.or_false] at h1
    exact h1.symm
  · intro h
    refine bits_16 (with_le u k hu hk) (with_le v k hv hk) fun i hi => ?_
    rw [with_bit, with_bit]
    by_cases e : k = i
    · rw [decide_eq_true e, Bool.or_true, Bool.or_true]
    · rw [h i hi (fun e' => e e'.symm)]
theorem with_twice (m k : Nat) : withN (withN m k) k = withN m k := by
  unfold withN
  rw [Nat.or_assoc, Nat.or_self]
theorem with_less (m k : Nat) (hm : m ≤ 65535) (hk : k < 16) : withN (lessN m k) k = withN m k :=
  (with_same _ _ k (less_le m k hm) hm hk).2 fun i hi hik => by
    rw [less_bit m k i hk hi, decide_eq_false (fun e => hik e.symm)]; simp
end Go.Proofs.YtglhapkclpllfacGreatDoor
/-
  Slices of records (structs of one-cell fields): where their cells lie, whatever program it is; from an argument's reading, from a row of the call's own.
-/
namespace Go.Proofs.YtglhapkclpllfacGreatDoor
open Go.RowKit Go.ChangeShapes Go.WideShapes Go.Deep

/-- The slice v holds records of so many cells each; an empty one may lie anywhere; it has room for them. -/
def RecsIn (w : World) (size : Nat) (v : Value) (xs : List (List Value)) : Prop :=
  ∃ ad cap, v = .slice ad xs.length cap ∧ xs.length ≤ cap ∧ ∀ k, k < xs.length → ∃ b off, ad = some ⟨b, off, none⟩ ∧ ∀ j u, (xs.getD k [])[j]? = some u → w.cell? ⟨b, off + (k * size + j), none⟩ = some u
theorem RecsIn.below {w w' : World} {size : Nat} {v : Value} {xs : List (List Value)} (h : RecsIn w size v xs) (hb : Below w.heap.size w w') : RecsIn w' size v xs := by
  obtain ⟨ad, cap, rfl, hr, h⟩ := h
  exact ⟨ad, cap, rfl, hr, fun k hk => by obtain ⟨b, o, e, hc⟩ := h k hk; exact ⟨b, o, e, fun j u hj => below_cell hb (hc j u hj)⟩⟩
theorem flat_at (size : Nat) : ∀ (xs : List (List Value)) (k j : Nat), (∀ x ∈ xs, x.length = size) → k < xs.length → j < size → xs.flatten[k * size + j]? = (xs.getD k [])[j]?
  | [], k, j, _, hk, _ => absurd hk (by simp)
  | x :: xs, 0, j, h, _, hj => by
    have hx := h x (by simp)
    rw [List.flatten_cons, Nat.zero_mul, Nat.zero_add, List.getElem?_append_left (by omega)]
    simp
  | x :: xs, k + 1, j, h, hk, hj => by
    have hx := h x (by simp)
    have e : (k + 1) * size + j = size + (k * size + j) := by rw [Nat.add_mul]; omega
    rw [List.flatten_cons, e, List.getElem?_append_right (by omega), hx, Nat.add_sub_cancel_left, flat_at size xs k j (fun y hy => h y (List.mem_cons_of_mem _ hy)) (by simpa using hk) hj]
    simp
theorem RecsIn.of_owns {W : World} {base : Nat} {e : TypeId} {size : Nat} {v : Value} {xs : List (List Value)} (hs : ∀ x ∈ xs, x.length = size) (h : W.ownsRow base e size v xs.length xs.flatten) : RecsIn W size v xs := by
  obtain ⟨_, h⟩ := h
  rcases h with ⟨rfl, h0⟩ | ⟨g, cap, cur, rfl, _, hb, hr, _, _, hx⟩
  · exact ⟨none, 0, by rw [h0], by omega, fun k hk => absurd hk (by omega)⟩
  · refine ⟨_, _, rfl, hr, fun k hk => ⟨g, 0, rfl, fun j u hj => ?_⟩⟩
    have hlen : (xs.getD k []).length = size := by
      rw [List.getD_eq_getElem?_getD, List.getElem?_eq_getElem hk]
      exact hs _ (List.getElem_mem hk)
    have hjs : j < size := by
      rcases Nat.lt_or_ge j size with h | h
      · exact h
      · rw [List.getElem?_eq_none (by omega)] at hj; cases hj
    have e1 : (cur.toList.take (xs.length * size))[k * size + j]? = some u := by rw [hx, flat_at size xs k j hs hk hjs]; exact hj
    have hlt : k * size + j < xs.length * size := by
      have : (k + 1) * size ≤ xs.length * size := Nat.mul_le_mul_right _ hk
      rw [Nat.add_mul, Nat.one_mul] at this
      omega
    rw [List.getElem?_take_of_lt hlt] at e1
    simp only [World.cell?, hb, Nat.zero_add]
    rw [← e1]; simp
/-- What came in as a slice of records. -/
theorem recs_in {H : Type} {enc : TypeId × Value → H} {P : Program} {W : World} {base : Nat} {t e : TypeId} {size : Nat} {v : Value} {d : DataW H} {p : List MemPlace} (good : List Value → Prop) (ht : P.underlying t = some (.slice e)) (hc : P.cellsOf e = size) (h0 : 0 < size)
    (he : ∀ n cs y, DataW.trod enc P W 0 (fun _ => true) true n e cs = some y → good cs) (hval : Value.okWide P W .any base t v) (h : DataW.Trod enc P W 0 (fun _ => true) true t v d p) :
    ∃ xs : List (List Value), RecsIn W size v xs ∧ ∀ x ∈ xs, x.length = size ∧ good x := by
  obtain ⟨a0, len, cap, rfl⟩ := okWide_slice ht hval
  obtain ⟨fuel, hf⟩ := h
  rcases open_slice ht hf with ⟨hcs, _⟩ | ⟨a, len', cap', m, n, D, Pl, hcs, _, hl, hm, hmm, _, hx⟩
  · simp [Value.cells] at hcs
    obtain ⟨rfl, rfl, rfl⟩ := hcs
    exact ⟨[], ⟨_, _, rfl, Nat.le_refl _, fun k hk => absurd hk (Nat.not_lt_zero _)⟩, fun x hx => by cases hx⟩
  · simp [Value.cells] at hcs
    obtain ⟨rfl, rfl, rfl⟩ := hcs
    simp only [if_true] at hmm
    rw [hc] at hx
    obtain ⟨q, hq⟩ := choose_lt hx
    refine ⟨(List.range len).map q, ⟨some a, cap, by simp, by simp; exact hl, fun k hk => ?_⟩, fun x hx => ?_⟩
    · rw [List.length_map, List.length_range] at hk
      obtain ⟨h1, _⟩ := hq k (by omega)
      obtain ⟨_, hlen, hcell⟩ := World.cells?_some h1
      obtain ⟨b, off, spot⟩ := a
      obtain ⟨_, hlen0, hcell0⟩ := World.cells?_some (hq 0 (by omega)).1
      have hspot : spot = none := by simpa [Addr.add] using World.cell?_spot ((hcell0 0 h0).trans (List.getElem?_eq_getElem (by omega)))
      subst hspot
      refine ⟨b, off, rfl, fun j u hj => ?_⟩
      rw [List.getD_eq_getElem?_getD, List.getElem?_map, List.getElem?_range hk] at hj
      simp only [Option.map_some, Option.getD_some] at hj
      have hjs : j < size := by
        rcases Nat.lt_or_ge j size with h | h
        · exact h
        · rw [List.getElem?_eq_none (by omega)] at hj; cases hj
      have := hcell j hjs
      rw [add_add, add_plain] at this
      rw [this]
      exact hj
    · obtain ⟨k, hk, rfl⟩ := List.mem_map.1 hx
      obtain ⟨h1, h2⟩ := hq k (by have := List.mem_range.1 hk; omega)
      exact ⟨(World.cells?_some h1).2.1, he _ _ _ h2⟩
end Go.Proofs.YtglhapkclpllfacGreatDoor
/-
  Slices of three kinds of records: what is sent (node, tick, text), entries of a history (slot, from, heard, value), pairs (from, to): from an argument's reading to lists of them, whatever program it is.
-/
namespace Go.Proofs.YtglhapkclpllfacGreatDoor
open Go.RowKit Go.ChangeShapes Go.WideShapes Go.Deep

theorem list_back {α β : Type} (f : α → β) (good : α → Prop) : ∀ xs : List β, (∀ x ∈ xs, ∃ a, x = f a ∧ good a) → ∃ ys : List α, xs = ys.map f ∧ ∀ a ∈ ys, good a
  | [], _ => ⟨[], rfl, fun a h => by cases h⟩
  | x :: xs, h => by
    obtain ⟨a, rfl, ha⟩ := h x (by simp)
    obtain ⟨ys, rfl, has⟩ := list_back f good xs (fun y hy => h y (List.mem_cons_of_mem _ hy))
    exact ⟨a :: ys, rfl, fun b hb => by
      rcases List.mem_cons.1 hb with rfl | hb
      · exact ha
      · exact has b hb⟩

/-- The first place at which it is so, or the end. -/
theorem first_idx (p : Nat → Bool) : ∀ n, ∃ m, m ≤ n ∧ (∀ i, i < m → p i = false) ∧ (m < n → p m = true)
  | 0 => ⟨0, by omega, fun i hi => absurd hi (by omega), fun h => absurd h (by omega)⟩
  | n + 1 => by
    obtain ⟨m, h1, h2, h3⟩ := first_idx p n
    by_cases hm : m < n
    · exact ⟨m, by omega, h2, fun _ => h3 hm⟩
    · have e : m = n := by omega
      subst e
      cases hp : p m with
      | true => exact ⟨m, by omega, h2, fun _ => hp⟩
      | false => exact ⟨m + 1, by omega, fun i hi => by
          rcases Nat.lt_succ_iff_lt_or_eq.1 hi with h | rfl
          · exact h2 i h
          · exact hp, fun h => absurd h (by omega)⟩
theorem any_idx {α : Type} (l : List α) (z : α) (p : α → Bool) {m : Nat} (h1 : m ≤ l.length) (h2 : ∀ i, i < m → p (l.getD i z) = false) (h3 : m < l.length → p (l.getD m z) = true) : l.any p = decide (m < l.length) := by
  by_cases hm : m < l.length
  · rw [decide_eq_true hm, List.any_eq_true]
    have h := h3 hm
    rw [List.getD_eq_getElem?_getD, List.getElem?_eq_getElem hm] at h
    exact ⟨l[m], List.getElem_mem hm, h⟩
  · rw [decide_eq_false hm, List.any_eq_false]
    intro x hx
    obtain ⟨i, hi, rfl⟩ := List.mem_iff_getElem.1 hx
    have h := h2 i (by omega)
    rw [List.getD_eq_getElem?_getD, List.getElem?_eq_getElem hi] at h
    simpa using h
/-- What is sent by a node. -/
structure Snt where
  node : Int
  tick : Int
  text : ByteArray
def Snt.cells (s : Snt) : List Value := [.int .i64 s.node, .int .i64 s.tick, .string s.text]
def Snt.zero : Snt := ⟨0, 0, ⟨#[]⟩⟩
def Snt.ok (s : Snt) : Prop := (Lit.int .i64 s.node).wf = true ∧ (Lit.int .i64 s.tick).wf = true ∧ s.text.size ≤ maxLen
def SntsIn (w : World) (v : Value) (ss : List Snt) : Prop := RecsIn w 3 v (ss.map Snt.cells)
theorem SntsIn.below {w w' : World} {v : Value} {ss : List Snt} (h : SntsIn w v ss) (hb : Below w.heap.size w w') : SntsIn w' v ss := RecsIn.below h hb
theorem SntsIn.at {w : World} {v : Value} {ss : List Snt} (h : SntsIn w v ss) : ∃ ad cap, v = .slice ad ss.length cap ∧ ∀ k, k < ss.length → ∃ b off, ad = some ⟨b, off, none⟩ ∧
    w.cell? ⟨b, off + k * 3, none⟩ = some (.int .i64 (ss.getD k Snt.zero).node) ∧ w.cell? ⟨b, off + k * 3 + 1, none⟩ = some (.int .i64 (ss.getD k Snt.zero).tick) ∧ w.cell? ⟨b, off + k * 3 + 2, none⟩ = some (.string (ss.getD k Snt.zero).text) := by
  obtain ⟨ad, cap, rfl, _, h⟩ := h
  refine ⟨ad, cap, by rw [List.length_map], fun k hk => ?_⟩
  obtain ⟨b, off, e, hc⟩ := h k (by rw [List.length_map]; exact hk)
  have hr : (ss.map Snt.cells).getD k [] = (ss.getD k Snt.zero).cells := by
    rw [List.getD_eq_getElem?_getD, List.getElem?_map, List.getD_eq_getElem?_getD, List.getElem?_eq_getElem hk]; rfl
  rw [hr] at hc
  exact ⟨b, off, e, by simpa using hc 0 _ rfl, by rw [Nat.add_assoc]; exact hc 1 _ rfl, by rw [Nat.add_assoc]; exact hc 2 _ rfl⟩
theorem snts_in {H : Type} {enc : TypeId × Value → H} {P : Program} {W : World} {base : Nat} {t e ti ts : TypeId} {f0 f1 f2 : Field} {v : Value} {d : DataW H} {p : List MemPlace} (ht : P.underlying t = some (.slice e)) (he : P.underlying e = some (.struct #[f0, f1, f2])) (hc : P.cellsOf e = 3)
    (o0 : f0.offset = 0) (o1 : f1.offset = 1) (o2 : f2.offset = 2) (t0 : f0.type = ti) (t1 : f1.type = ti) (t2 : f2.type = ts) (hi : P.underlying ti = some (.int .i64)) (hs : P.underlying ts = some .string) (ci : P.cellsOf ti = 1) (cs : P.cellsOf ts = 1)
    (hval : Value.okWide P W .any base t v) (h : DataW.Trod enc P W 0 (fun _ => true) true t v d p) : ∃ ss : List Snt, SntsIn W v ss ∧ ∀ s ∈ ss, s.ok := by
  obtain ⟨xs, hxs, hg⟩ := recs_in (size := 3) (fun cs => ∃ s : Snt, cs = s.cells ∧ s.ok) ht hc (by omega) (fun n cells y hy => by
    obtain ⟨y0, y1, y2, m, rfl, hl, h0, h1, h2⟩ := trod_struct3 he hy
    rw [hc] at hl
    match cells, hl with
    | [c0, c1, c2], _ =>
      rw [o0, t0, ci] at h0
      rw [o1, t1, ci] at h1
      rw [o2, t2, cs] at h2
      obtain ⟨a0, e0, _, w0⟩ := DataW.trod_int hi h0
      obtain ⟨a1, e1, _, w1⟩ := DataW.trod_int hi h1
      obtain ⟨a2, e2, _, w2⟩ := DataW.trod_string hs h2
      simp at e0 e1 e2
      exact ⟨⟨a0, a1, a2⟩, by rw [e0, e1, e2]; rfl, w0, w1, w2⟩) hval h
  obtain ⟨ss, rfl, hok⟩ := list_back Snt.cells Snt.ok xs (fun x hx => (hg x hx).2)
  exact ⟨ss, hxs, hok⟩

/-- An entry of a history. -/
structure Ent where
  slot : Int
  src : Int
  heard : Bool
  value : Int
def Ent.cells (s : Ent) : List Value := [.int .i64 s.slot, .int .i64 s.src, .bool s.heard, .int .i64 s.value]
def Ent.val (x : Ent) : Value := .agg #[.int .i64 x.slot, .int .i64 x.src, .bool x.heard, .int .i64 x.value]
def Ent.zero : Ent := ⟨0, 0, false, 0⟩
def Ent.ok (s : Ent) : Prop := (Lit.int .i64 s.slot).wf = true ∧ (Lit.int .i64 s.src).wf = true ∧ (Lit.int .i64 s.value).wf = true
def EntsIn (w : World) (v : Value) (ss : List Ent) : Prop := RecsIn w 4 v (ss.map Ent.cells)
theorem EntsIn.below {w w' : World} {v : Value} {ss : List Ent} (h : EntsIn w v ss) (hb : Below w.heap.size w w') : EntsIn w' v ss := RecsIn.below h hb
theorem EntsIn.at {w : World} {v : Value} {ss : List Ent} (h : EntsIn w v ss) : ∃ ad cap, v = .slice ad ss.length cap ∧ ∀ k, k < ss.length → ∃ b off, ad = some ⟨b, off, none⟩ ∧
    w.cell? ⟨b, off + k * 4, none⟩ = some (.int .i64 (ss.getD k Ent.zero).slot) ∧ w.cell? ⟨b, off + k * 4 + 1, none⟩ = some (.int .i64 (ss.getD k Ent.zero).src) ∧ w.cell? ⟨b, off + k * 4 + 2, none⟩ = some (.bool (ss.getD k Ent.zero).heard) ∧ w.cell? ⟨b, off + k * 4 + 3, none⟩ = some (.int .i64 (ss.getD k Ent.zero).value) := by
  obtain ⟨ad, cap, rfl, _, h⟩ := h
  refine ⟨ad, cap, by rw [List.length_map], fun k hk => ?_⟩
  obtain ⟨b, off, e, hc⟩ := h k (by rw [List.length_map]; exact hk)
  have hr : (ss.map Ent.cells).getD k [] = (ss.getD k Ent.zero).cells := by
    rw [List.getD_eq_getElem?_getD, List.getElem?_map, List.getD_eq_getElem?_getD, List.getElem?_eq_getElem hk]; rfl
  rw [hr] at hc
  exact ⟨b, off, e, by simpa using hc 0 _ rfl, by rw [Nat.add_assoc]; exact hc 1 _ rfl, by rw [Nat.add_assoc]; exact hc 2 _ rfl, by rw [Nat.add_assoc]; exact hc 3 _ rfl⟩
theorem EntsIn.room {w : World} {v : Value} {ss : List Ent} (h : EntsIn w v ss) {ad : Option Addr} {n cap : Nat} (e : v = .slice ad n cap) : ss.length ≤ cap := by
  obtain ⟨ad', cap', rfl, h, _⟩ := h
  cases e
  rwa [List.length_map] at h
theorem ents_in {H : Type} {enc : TypeId × Value → H} {P : Program} {W : World} {base : Nat} {t e ti tb : TypeId} {f0 f1 f2 f3 : Field} {v : Value} {d : DataW H} {p : List MemPlace} (ht : P.underlying t = some (.slice e)) (he : P.underlying e = some (.struct #[f0, f1, f2, f3])) (hc : P.cellsOf e = 4)
    (o0 : f0.offset = 0) (o1 : f1.offset = 1) (o2 : f2.offset = 2) (o3 : f3.offset = 3) (t0 : f0.type = ti) (t1 : f1.type = ti) (t2 : f2.type = tb) (t3 : f3.type = ti) (hi : P.underlying ti = some (.int .i64)) (hb : P.underlying tb = some .bool) (ci : P.cellsOf ti = 1) (cb : P.cellsOf tb = 1)
    (hval : Value.okWide P W .any base t v) (h : DataW.Trod enc P W 0 (fun _ => true) true t v d p) : ∃ ss : List Ent, EntsIn W v ss ∧ ∀ s ∈ ss, s.ok := by
  obtain ⟨xs, hxs, hg⟩ := recs_in (size := 4) (fun cs => ∃ s : Ent, cs = s.cells ∧ s.ok) ht hc (by omega) (fun n cells y hy => by
    obtain ⟨y0, y1, y2, y3, m, rfl, hl, h0, h1, h2, h3⟩ := Go.Joins.trod_struct4 he hy
    rw [hc] at hl
    match cells, hl with
    | [c0, c1, c2, c3], _ =>
      rw [o0, t0, ci] at h0
      rw [o1, t1, ci] at h1
      rw [o2, t2, cb] at h2
      rw [o3, t3, ci] at h3
      obtain ⟨a0, e0, _, w0⟩ := DataW.trod_int hi h0
      obtain ⟨a1, e1, _, w1⟩ := DataW.trod_int hi h1
      obtain ⟨a2, e2, _⟩ := DataW.trod_bool hb h2
      obtain ⟨a3, e3, _, w3⟩ := DataW.trod_int hi h3
      simp at e0 e1 e2 e3
      exact ⟨⟨a0, a1, a2, a3⟩, by rw [e0, e1, e2, e3]; rfl, w0, w1, w3⟩) hval h
  obtain ⟨ss, rfl, hok⟩ := list_back Ent.cells Ent.ok xs (fun x hx => (hg x hx).2)
  exact ⟨ss, hxs, hok⟩

/-- A pair of modes. -/
structure Pr where
  src : Int
  dst : Int
def Pr.cells (s : Pr) : List Value := [.int .i64 s.src, .int .i64 s.dst]
def Pr.zero : Pr := ⟨0, 0⟩
def Pr.ok (s : Pr) : Prop := (Lit.int .i64 s.src).wf = true ∧ (Lit.int .i64 s.dst).wf = true
def PrsIn (w : World) (v : Value) (ss : List Pr) : Prop := RecsIn w 2 v (ss.map Pr.cells)
theorem PrsIn.below {w w' : World} {v : Value} {ss : List Pr} (h : PrsIn w v ss) (hb : Below w.heap.size w w') : PrsIn w' v ss := RecsIn.below h hb
theorem PrsIn.at {w : World} {v : Value} {ss : List Pr} (h : PrsIn w v ss) : ∃ ad cap, v = .slice ad ss.length cap ∧ ∀ k, k < ss.length → ∃ b off, ad = some ⟨b, off, none⟩ ∧
    w.cell? ⟨b, off + k * 2, none⟩ = some (.int .i64 (ss.getD k Pr.zero).src) ∧ w.cell? ⟨b, off + k * 2 + 1, none⟩ = some (.int .i64 (ss.getD k Pr.zero).dst) := by
  obtain ⟨ad, cap, rfl, _, h⟩ := h
  refine ⟨ad, cap, by rw [List.length_map], fun k hk => ?_⟩
  obtain ⟨b, off, e, hc⟩ := h k (by rw [List.length_map]; exact hk)
  have hr : (ss.map Pr.cells).getD k [] = (ss.getD k Pr.zero).cells := by
    rw [List.getD_eq_getElem?_getD, List.getElem?_map, List.getD_eq_getElem?_getD, List.getElem?_eq_getElem hk]; rfl
  rw [hr] at hc
  exact ⟨b, off, e, by simpa using hc 0 _ rfl, by rw [Nat.add_assoc]; exact hc 1 _ rfl⟩
theorem PrsIn.room {w : World} {v : Value} {ss : List Pr} (h : PrsIn w v ss) {ad : Option Addr} {n cap : Nat} (e : v = .slice ad n cap) : ss.length ≤ cap := by
  obtain ⟨ad', cap', rfl, h, _⟩ := h
  cases e
  rwa [List.length_map] at h
theorem prs_in {H : Type} {enc : TypeId × Value → H} {P : Program} {W : World} {base : Nat} {t e ti : TypeId} {f0 f1 : Field} {v : Value} {d : DataW H} {p : List MemPlace} (ht : P.underlying t = some (.slice e)) (he : P.underlying e = some (.struct #[f0, f1])) (hc : P.cellsOf e = 2)
    (o0 : f0.offset = 0) (o1 : f1.offset = 1) (t0 : f0.type = ti) (t1 : f1.type = ti) (hi : P.underlying ti = some (.int .i64)) (ci : P.cellsOf ti = 1)
    (hval : Value.okWide P W .any base t v) (h : DataW.Trod enc P W 0 (fun _ => true) true t v d p) : ∃ ss : List Pr, PrsIn W v ss ∧ ∀ s ∈ ss, s.ok := by
  obtain ⟨xs, hxs, hg⟩ := recs_in (size := 2) (fun cs => ∃ s : Pr, cs = s.cells ∧ s.ok) ht hc (by omega) (fun n cells y hy => by
    obtain ⟨ys, m, _, _, hl, hlen, hf⟩ := DataW.trod_struct he hy
    rw [hc] at hl
    match cells, hl, ys, hlen with
    | [c0, c1], _, [y0, y1], _ =>
      have h0 := hf 0 f0 rfl
      have h1 := hf 1 f1 rfl
      rw [o0, t0, ci] at h0
      rw [o1, t1, ci] at h1
      obtain ⟨a0, e0, _, w0⟩ := DataW.trod_int hi h0
      obtain ⟨a1, e1, _, w1⟩ := DataW.trod_int hi h1
      simp at e0 e1
      exact ⟨⟨a0, a1⟩, by rw [e0, e1]; rfl, w0, w1⟩) hval h
  obtain ⟨ss, rfl, hok⟩ := list_back Pr.cells Pr.ok xs (fun x hx => (hg x hx).2)
  exact ⟨ss, hxs, hok⟩
end Go.Proofs.YtglhapkclpllfacGreatDoor
/-
  Plain mathematics of membership: a view, who has its slot, the view and the entry behind a slot.
-/
namespace Go.Proofs.YtglhapkclpllfacGreatDoor
open Go.RowKit

/-- A view: members, mode, slot. -/
structure Vw where
  me : Int
  mo : Int
  sl : Int
def Vw.val (v : Vw) : Value := .agg #[.int .i64 v.me, .int .i64 v.mo, .int .i64 v.sl]
def Vw.none : Vw := ⟨0, 0, 0⟩
/-- A view that is right. -/
def Vw.ok (v : Vw) : Prop := (0 ≤ v.me ∧ v.me ≤ 65535) ∧ (0 ≤ v.mo ∧ v.mo ≤ 3) ∧ 0 ≤ v.sl ∧ v.sl ≤ 1000000
/-- Who has its slot. -/
def whoV (xs : List Int) (v : Vw) : Int := xs.getD (v.sl.toNat % xs.length) 0
def atV (xs : List Int) (v : Vw) : Nat := (whoV xs v).toNat - 1
theorem who_node {xs : List Int} (h : planOk xs) (v : Vw) : Cm.isNode (whoV xs v) := by
  have h0 : 0 < xs.length := by have := h.1; omega
  have hm := Nat.mod_lt v.sl.toNat h0
  unfold whoV
  rw [List.getD_eq_getElem?_getD, List.getElem?_eq_getElem hm]
  exact h.2.2 _ (List.getElem_mem hm)
theorem who_at {xs : List Int} (h : planOk xs) (v : Vw) : whoV xs v = (atV xs v : Int) + 1 ∧ atV xs v < 16 := by
  have := who_node h v
  unfold Cm.isNode at this
  unfold atV
  omega
/-- The members with who has the slot, and without. -/
def withV (xs : List Int) (v : Vw) : Nat := withN v.me.toNat (atV xs v)
def lessV (xs : List Int) (v : Vw) : Nat := lessN v.me.toNat (atV xs v)
/-- The view and the entry behind the slot, if what was heard is good with that value, or not. -/
def nextV (xs : List Int) (v : Vw) (g : Option Int) : Vw := ⟨if g.isSome then (withV xs v : Nat) else (lessV xs v : Nat), v.mo, v.sl + 1⟩
def entV (xs : List Int) (v : Vw) (g : Option Int) : Ent := ⟨v.sl, whoV xs v, g.isSome, g.getD 0⟩
theorem with_okV {xs : List Int} (h : planOk xs) {v : Vw} (hv : v.ok) : withV xs v ≤ 65535 ∧ lessV xs v ≤ 65535 := by
  have h1 := who_at h v
  have h2 : v.me.toNat ≤ 65535 := by have := hv.1; omega
  exact ⟨with_le _ _ h2 h1.2, less_le _ _ h2⟩
theorem next_ok {xs : List Int} (h : planOk xs) {v : Vw} (hv : v.ok) (hs : v.sl < 1000000) (g : Option Int) : (nextV xs v g).ok := by
  have h1 := with_okV h hv
  obtain ⟨_, h2, h3⟩ := hv
  refine ⟨?_, h2, ?_⟩
  · unfold nextV
    cases g with
    | none => exact ⟨Int.natCast_nonneg _, Int.ofNat_le.2 h1.2⟩
    | some _ => exact ⟨Int.natCast_nonneg _, Int.ofNat_le.2 h1.1⟩
  · unfold nextV
    show 0 ≤ v.sl + 1 ∧ v.sl + 1 ≤ 1000000
    omega
/-- Another view hears it just where it has the same mode and slot, and the same members but for who has the slot. -/
theorem send_same {xs : List Int} (h : planOk xs) {v u : Vw} (hv : v.ok) (hu : u.ok) : (whoV xs v = whoV xs u ∧ ((withV xs v : Nat) : Int) = (withV xs u : Nat) ∧ v.mo = u.mo ∧ v.sl = u.sl) ↔
    (u.mo = v.mo ∧ u.sl = v.sl) ∧ ∀ i, i < 16 → i ≠ atV xs v → u.me.toNat.testBit i = v.me.toNat.testBit i := by
  obtain ⟨h1, h2⟩ := who_at h v
  have hv1 : v.me.toNat ≤ 65535 := by have := hv.1; omega
  have hu1 : u.me.toNat ≤ 65535 := by have := hu.1; omega
  have hs := with_same u.me.toNat v.me.toNat (atV xs v) hu1 hv1 h2
  constructor
  · rintro ⟨_, e2, e3, e4⟩
    have ew : whoV xs u = whoV xs v := by unfold whoV; rw [e4]
    have ea : atV xs u = atV xs v := by unfold atV; rw [ew]
    refine ⟨⟨e3.symm, e4.symm⟩, hs.1 ?_⟩
    have e5 : withV xs v = withV xs u := by omega
    unfold withV at e5
    rw [ea] at e5
    exact e5.symm
  · rintro ⟨⟨e3, e4⟩, e2⟩
    have ew : whoV xs u = whoV xs v := by unfold whoV; rw [e4]
    have ea : atV xs u = atV xs v := by unfold atV; rw [ew]
    refine ⟨ew.symm, ?_, e3.symm, e4.symm⟩
    have e5 := hs.2 e2
    unfold withV
    rw [ea, e5]
/-- Nobody but who has the slot comes or goes. -/
theorem next_bit {xs : List Int} (h : planOk xs) {v : Vw} (hv : v.ok) (g : Option Int) (i : Nat) (hi : i < 16) : (nextV xs v g).me.toNat.testBit i = if i = atV xs v then g.isSome else v.me.toNat.testBit i := by
  obtain ⟨_, h2⟩ := who_at h v
  have hv1 : v.me.toNat ≤ 65535 := by have := hv.1; omega
  unfold nextV
  cases g with
  | none =>
    show ((lessV xs v : Nat) : Int).toNat.testBit i = _
    rw [Int.toNat_natCast]
    unfold lessV
    rw [less_bit _ _ _ h2 hi]
    by_cases e : i = atV xs v
    · rw [if_pos e, ← e]; simp
    · rw [if_neg e]; simp [Ne.symm e]
  | some _ =>
    show ((withV xs v : Nat) : Int).toNat.testBit i = _
    rw [Int.toNat_natCast]
    unfold withV
    rw [with_bit]
    by_cases e : i = atV xs v
    · rw [if_pos e, ← e]; simp
    · rw [if_neg e]; simp [Ne.symm e]
end Go.Proofs.YtglhapkclpllfacGreatDoor
