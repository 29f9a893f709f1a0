/-
  Slices of records (structs of one-cell fields): where their cells lie, whatever program it is; from an argument's reading, from a row of the call's own.
-/
import Derived.Test.YtglhapkclpllfadGreatDoorBase
import Derived.Deep.Slices
import Derived.Deep.Strs
import Derived.Lib.SmallJoins
import Derived.ProofKit
import Derived.OpenShut
namespace Go.Proofs.YtglhapkclpllfadGreatDoor
open Go.RowKit Go.ChangeShapes Go.WideShapes Go.Deep

/-- The slice v holds records of so many cells each; an empty one may lie anywhere; it has room for them. -/
def RecsIn (w : World) (size : Nat) (v : Value) (xs : List (List Value)) : Prop :=
  ∃ ad cap, v = .slice ad xs.length cap ∧ xs.length ≤ cap ∧ ∀ k, k < xs.length → ∃ b off, ad = some ⟨b, off, none⟩ ∧ ∀ j u, (xs.getD k [])[j]? = some u → w.cell? ⟨b, off + (k * size + j), none⟩ = some u
theorem RecsIn.below {w w' : World} {size : Nat} {v : Value} {xs : List (List Value)} (h : RecsIn w size v xs) (hb : Below w.heap.size w w') : RecsIn w' size v xs := by
  obtain ⟨ad, cap, rfl, hr, h⟩ := h
  exact ⟨ad, cap, rfl, hr, fun k hk => by obtain ⟨b, o, e, hc⟩ := h k hk; exact ⟨b, o, e, fun j u hj => below_cell hb (hc j u hj)⟩⟩
theorem flat_at (size : Nat) : ∀ (xs : List (List Value)) (k j : Nat), (∀ x ∈ xs, x.length = size) → k < xs.length → j < size → xs.flatten[k * size + j]? = (xs.getD k [])[j]?
  | [], k, j, _, hk, _ => absurd hk (by simp)
  | x :: xs, 0, j, h, _, hj => by
    have hx := h x (by simp)
    rw [List.flatten_cons, Nat.zero_mul, Nat.zero_add, List.getElem?_append_left (by omega)]
    simp
  | x :: xs, k + 1, j, h, hk, hj => by
    have hx := h x (by simp)
    have e : (k + 1) * size + j = size + (k * size + j) := by rw [Nat.add_mul]; omega
    rw [List.flatten_cons, e, List.getElem?_append_right (by omega), hx, Nat.add_sub_cancel_left, flat_at size xs k j (fun y hy => h y (List.mem_cons_of_mem _ hy)) (by simpa using hk) hj]
    simp
theorem RecsIn.of_owns {W : World} {base : Nat} {e : TypeId} {size : Nat} {v : Value} {xs : List (List Value)} (hs : ∀ x ∈ xs, x.length = size) (h : W.ownsRow base e size v xs.length xs.flatten) : RecsIn W size v xs := by
  obtain ⟨_, h⟩ := h
  rcases h with ⟨rfl, h0⟩ | ⟨g, cap, cur, rfl, _, hb, hr, _, _, hx⟩
  · exact ⟨none, 0, by rw [h0], by omega, fun k hk => absurd hk (by omega)⟩
  · refine ⟨_, _, rfl, hr, fun k hk => ⟨g, 0, rfl, fun j u hj => ?_⟩⟩
    have hlen : (xs.getD k []).length = size := by
      rw [List.getD_eq_getElem?_getD, List.getElem?_eq_getElem hk]
      exact hs _ (List.getElem_mem hk)
    have hjs : j < size := by
      rcases Nat.lt_or_ge j size with h | h
      · exact h
      · rw [List.getElem?_eq_none (by omega)] at hj; cases hj
    have e1 : (cur.toList.take (xs.length * size))[k * size + j]? = some u := by rw [hx, flat_at size xs k j hs hk hjs]; exact hj
    have hlt : k * size + j < xs.length * size := by
      have : (k + 1) * size ≤ xs.length * size := Nat.mul_le_mul_right _ hk
      rw [Nat.add_mul, Nat.one_mul] at this
      omega
    rw [List.getElem?_take_of_lt hlt] at e1
    simp only [World.cell?, hb, Nat.zero_add]
    rw [← e1]; simp
/-- What came in as a slice of records. -/
theorem recs_in {H : Type} {enc : TypeId × Value → H} {P : Program} {W : World} {base : Nat} {t e : TypeId} {size : Nat} {v : Value} {d : DataW H} {p : List MemPlace} (good : List Value → Prop) (ht : P.underlying t = some (.slice e)) (hc : P.cellsOf e = size) (h0 : 0 < size)
    (he : ∀ n cs y, DataW.trod enc P W 0 (fun _ => true) true n e cs = some y → good cs) (hval : Value.okWide P W .any base t v) (h : DataW.Trod enc P W 0 (fun _ => true) true t v d p) :
    ∃ xs : List (List Value), RecsIn W size v xs ∧ ∀ x ∈ xs, x.length = size ∧ good x := by
  obtain ⟨a0, len, cap, rfl⟩ := okWide_slice ht hval
  obtain ⟨fuel, hf⟩ := h
  rcases open_slice ht hf with ⟨hcs, _⟩ | ⟨a, len', cap', m, n, D, Pl, hcs, _, hl, hm, hmm, _, hx⟩
  · simp [Value.cells] at hcs
    obtain ⟨rfl, rfl, rfl⟩ := hcs
    exact ⟨[], ⟨_, _, rfl, Nat.le_refl _, fun k hk => absurd hk (Nat.not_lt_zero _)⟩, fun x hx => by cases hx⟩
  · simp [Value.cells] at hcs
    obtain ⟨rfl, rfl, rfl⟩ := hcs
    simp only [if_true] at hmm
    rw [hc] at hx
    obtain ⟨q, hq⟩ := choose_lt hx
    refine ⟨(List.range len).map q, ⟨some a, cap, by simp, by simp; exact hl, fun k hk => ?_⟩, fun x hx => ?_⟩
    · rw [List.length_map, List.length_range] at hk
      obtain ⟨h1, _⟩ := hq k (by omega)
      obtain ⟨_, hlen, hcell⟩ := World.cells?_some h1
      obtain ⟨b, off, spot⟩ := a
      obtain ⟨_, hlen0, hcell0⟩ := World.cells?_some (hq 0 (by omega)).1
      have hspot : spot = none := by simpa [Addr.add] using World.cell?_spot ((hcell0 0 h0).trans (List.getElem?_eq_getElem (by omega)))
      subst hspot
      refine ⟨b, off, rfl, fun j u hj => ?_⟩
      rw [List.getD_eq_getElem?_getD, List.getElem?_map, List.getElem?_range hk] at hj
      simp only [Option.map_some, Option.getD_some] at hj
      have hjs : j < size := by
        rcases Nat.lt_or_ge j size with h | h
        · exact h
        · rw [List.getElem?_eq_none (by omega)] at hj; cases hj
      have := hcell j hjs
      rw [add_add, add_plain] at this
      rw [this]
      exact hj
    · obtain ⟨k, hk, rfl⟩ := List.mem_map.1 hx
      obtain ⟨h1, h2⟩ := hq k (by have := List.mem_range.1 hk; omega)
      exact ⟨(World.cells?_some h1).2.1, he _ _ _ h2⟩
end Go.Proofs.YtglhapkclpllfadGreatDoor
/-
  Slices of three kinds of records: what is sent (node, tick, text), entries of a history (slot, from, heard, value), pairs (from, to): from an argument's reading to lists of them, whatever program it is.
-/
namespace Go.Proofs.YtglhapkclpllfadGreatDoor
open Go.RowKit Go.ChangeShapes Go.WideShapes Go.Deep

theorem list_back {α β : Type} (f : α → β) (good : α → Prop) : ∀ xs : List β, (∀ x ∈ xs, ∃ a, x = f a ∧ good a) → ∃ ys : List α, xs = ys.map f ∧ ∀ a ∈ ys, good a
  | [], _ => ⟨[], rfl, fun a h => by cases h⟩
  | x :: xs, h => by
    obtain ⟨a, rfl, ha⟩ := h x (by simp)
    obtain ⟨ys, rfl, has⟩ := list_back f good xs (fun y hy => h y (List.mem_cons_of_mem _ hy))
    exact ⟨a :: ys, rfl, fun b hb => by
      rcases List.mem_cons.1 hb with rfl | hb
      · exact ha
      · exact has b hb⟩

/-- The first place at which it is so, or the end. -/
theorem first_idx (p : Nat → Bool) : ∀ n, ∃ m, m ≤ n ∧ (∀ i, i < m → p i = false) ∧ (m < n → p m = true)
  | 0 => ⟨0, by omega, fun i hi => absurd hi (by omega), fun h => absurd h (by omega)⟩
  | n + 1 => by
    obtain ⟨m, h1, h2, h3⟩ := first_idx p n
    by_cases hm : m < n
    · exact ⟨m, by omega, h2, fun _ => h3 hm⟩
    · have e : m = n := by omega
      subst e
      cases hp : p m with
      | true => exact ⟨m, by omega, h2, fun _ => hp⟩
      | false => exact ⟨m + 1, by omega, fun i hi => by
          rcases Nat.lt_succ_iff_lt_or_eq.1 hi with h | rfl
          · exact h2 i h
          · exact hp, fun h => absurd h (by omega)⟩
theorem any_idx {α : Type} (l : List α) (z : α) (p : α → Bool) {m : Nat} (h1 : m ≤ l.length) (h2 : ∀ i, i < m → p (l.getD i z) = false) (h3 : m < l.length → p (l.getD m z) = true) : l.any p = decide (m < l.length) := by
  by_cases hm : m < l.length
  · rw [decide_eq_true hm, List.any_eq_true]
    have h := h3 hm
    rw [List.getD_eq_getElem?_getD, List.getElem?_eq_getElem hm] at h
    exact ⟨l[m], List.getElem_mem hm, h⟩
  · rw [decide_eq_false hm, List.any_eq_false]
    intro x hx
    obtain ⟨i, hi, rfl⟩ := List.mem_iff_getElem.1 hx
    have h := h2 i (by omega)
    rw [List.getD_eq_getElem?_getD, List.getElem?_eq_getElem hi] at h
    simpa using h
/-- What is sent by a node. -/
structure Snt where
  node : Int
  tick : Int
  text : ByteArray
def Snt.cells (s : Snt) : List Value := [.int .i64 s.node, .int .i64 s.tick, .string s.text]
def Snt.zero : Snt := ⟨0, 0, ⟨#[]⟩⟩
def Snt.ok (s : Snt) : Prop := (Lit.int .i64 s.node).wf = true ∧ (Lit.int .i64 s.tick).wf = true ∧ s.text.size ≤ maxLen
def SntsIn (w : World) (v : Value) (ss : List Snt) : Prop := RecsIn w 3 v (ss.map Snt.cells)
theorem SntsIn.below {w w' : World} {v : Value} {ss : List Snt} (h : SntsIn w v ss) (hb : Below w.heap.size w w') : SntsIn w' v ss := RecsIn.below h hb
theorem SntsIn.at {w : World} {v : Value} {ss : List Snt} (h : SntsIn w v ss) : ∃ ad cap, v = .slice ad ss.length cap ∧ ∀ k, k < ss.length → ∃ b off, ad = some ⟨b, off, none⟩ ∧
    w.cell? ⟨b, off + k * 3, none⟩ = some (.int .i64 (ss.getD k Snt.zero).node) ∧ w.cell? ⟨b, off + k * 3 + 1, none⟩ = some (.int .i64 (ss.getD k Snt.zero).tick) ∧ w.cell? ⟨b, off + k * 3 + 2, none⟩ = some (.string (ss.getD k Snt.zero).text) := by
  obtain ⟨ad, cap, rfl, _, h⟩ := h
  refine ⟨ad, cap, by rw [List.length_map], fun k hk => ?_⟩
  obtain ⟨b, off, e, hc⟩ := h k (by rw [List.length_map]; exact hk)
  have hr : (ss.map Snt.cells).getD k [] = (ss.getD k Snt.zero).cells := by
    rw [List.getD_eq_getElem?_getD, List.getElem?_map, List.getD_eq_getElem?_getD, List.getElem?_eq_getElem hk]; rfl
  rw [hr] at hc
  exact ⟨b, off, e, by simpa using hc 0 _ rfl, by rw [Nat.add_assoc]; exact hc 1 _ rfl, by rw [Nat.add_assoc]; exact hc 2 _ rfl⟩
theorem snts_in {H : Type} {enc : TypeId × Value → H} {P : Program} {W : World} {base : Nat} {t e ti ts : TypeId} {f0 f1 f2 : Field} {v : Value} {d : DataW H} {p : List MemPlace} (ht : P.underlying t = some (.slice e)) (he : P.underlying e = some (.struct #[f0, f1, f2])) (hc : P.cellsOf e = 3)
    (o0 : f0.offset = 0) (o1 : f1.offset = 1) (o2 : f2.offset = 2) (t0 : f0.type = ti) (t1 : f1.type = ti) (t2 : f2.type = ts) (hi : P.underlying ti = some (.int .i64)) (hs : P.underlying ts = some .string) (ci : P.cellsOf ti = 1) (cs : P.cellsOf ts = 1)
    (hval : Value.okWide P W .any base t v) (h : DataW.Trod enc P W 0 (fun _ => true) true t v d p) : ∃ ss : List Snt, SntsIn W v ss ∧ ∀ s ∈ ss, s.ok := by
  obtain ⟨xs, hxs, hg⟩ := recs_in (size := 3) (fun cs => ∃ s : Snt, cs = s.cells ∧ s.ok) ht hc (by omega) (fun n cells y hy => by
    obtain ⟨y0, y1, y2, m, rfl, hl, h0, h1, h2⟩ := trod_struct3 he hy
    rw [hc] at hl
    match cells, hl with
    | [c0, c1, c2], _ =>
      rw [o0, t0, ci] at h0
      rw [o1, t1, ci] at h1
      rw [o2, t2, cs] at h2
      obtain ⟨a0, e0, _, w0⟩ := DataW.trod_int hi h0
      obtain ⟨a1, e1, _, w1⟩ := DataW.trod_int hi h1
      obtain ⟨a2, e2, _, w2⟩ := DataW.trod_string hs h2
      simp at e0 e1 e2
      exact ⟨⟨a0, a1, a2⟩, by rw [e0, e1, e2]; rfl, w0, w1, w2⟩) hval h
  obtain ⟨ss, rfl, hok⟩ := list_back Snt.cells Snt.ok xs (fun x hx => (hg x hx).2)
  exact ⟨ss, hxs, hok⟩

/-- An entry of a history. -/
structure Ent where
  slot : Int
  src : Int
  heard : Bool
  value : Int
def Ent.cells (s : Ent) : List Value := [.int .i64 s.slot, .int .i64 s.src, .bool s.heard, .int .i64 s.value]
def Ent.val (x : Ent) : Value := .agg #[.int .i64 x.slot, .int .i64 x.src, .bool x.heard, .int .i64 x.value]
def Ent.zero : Ent := ⟨0, 0, false, 0⟩
def Ent.ok (s : Ent) : Prop := (Lit.int .i64 s.slot).wf = true ∧ (Lit.int .i64 s.src).wf = true ∧ (Lit.int .i64 s.value).wf = true
def EntsIn (w : World) (v : Value) (ss : List Ent) : Prop := RecsIn w 4 v (ss.map Ent.cells)
theorem EntsIn.below {w w' : World} {v : Value} {ss : List Ent} (h : EntsIn w v ss) (hb : Below w.heap.size w w') : EntsIn w' v ss := RecsIn.below h hb
theorem EntsIn.at {w : World} {v : Value} {ss : List Ent} (h : EntsIn w v ss) : ∃ ad cap, v = .slice ad ss.length cap ∧ ∀ k, k < ss.length → ∃ b off, ad = some ⟨b, off, none⟩ ∧
    w.cell? ⟨b, off + k * 4, none⟩ = some (.int .i64 (ss.getD k Ent.zero).slot) ∧ w.cell? ⟨b, off + k * 4 + 1, none⟩ = some (.int .i64 (ss.getD k Ent.zero).src) ∧ w.cell? ⟨b, off + k * 4 + 2, none⟩ = some (.bool (ss.getD k Ent.zero).heard) ∧ w.cell? ⟨b, off + k * 4 + 3, none⟩ = some (.int .i64 (ss.getD k Ent.zero).value) := by
  obtain ⟨ad, cap, rfl, _, h⟩ := h
  refine ⟨ad, cap, by rw [List.length_map], fun k hk => ?_⟩
  obtain ⟨b, off, e, hc⟩ := h k (by rw [List.length_map]; exact hk)
  have hr : (ss.map Ent.cells).getD k [] = (ss.getD k Ent.zero).cells := by
    rw [List.getD_eq_getElem?_getD, List.getElem?_map, List.getD_eq_getElem?_getD, List.getElem?_eq_getElem hk]; rfl
  rw [hr] at hc
  exact ⟨b, off, e, by simpa using hc 0 _ rfl, by rw [Nat.add_assoc]; exact hc 1 _ rfl, by rw [Nat.add_assoc]; exact hc 2 _ rfl, by rw [Nat.add_assoc]; exact hc 3 _ rfl⟩
theorem EntsIn.room {w : World} {v : Value} {ss : List Ent} (h : EntsIn w v ss) {ad : Option Addr} {n cap : Nat} (e : v = .slice ad n cap) : ss.length ≤ cap := by
  obtain ⟨ad', cap', rfl, h, _⟩ := h
  cases e
  rwa [List.length_map] at h
theorem ents_in {H : Type} {enc : TypeId × Value → H} {P : Program} {W : World} {base : Nat} {t e ti tb : TypeId} {f0 f1 f2 f3 : Field} {v : Value} {d : DataW H} {p : List MemPlace} (ht : P.underlying t = some (.slice e)) (he : P.underlying e = some (.struct #[f0, f1, f2, f3])) (hc : P.cellsOf e = 4)
    (o0 : f0.offset = 0) (o1 : f1.offset = 1) (o2 : f2.offset = 2) (o3 : f3.offset = 3) (t0 : f0.type = ti) (t1 : f1.type = ti) (t2 : f2.type = tb) (t3 : f3.type = ti) (hi : P.underlying ti = some (.int .i64)) (hb : P.underlying tb = some .bool) (ci : P.cellsOf ti = 1) (cb : P.cellsOf tb = 1)
    (hval : Value.okWide P W .any base t v) (h : DataW.Trod enc P W 0 (fun _ => true) true t v d p) : ∃ ss : List Ent, EntsIn W v ss ∧ ∀ s ∈ ss, s.ok := by
  obtain ⟨xs, hxs, hg⟩ := recs_in (size := 4) (fun cs => ∃ s : Ent, cs = s.cells ∧ s.ok) ht hc (by omega) (fun n cells y hy => by
    obtain ⟨y0, y1, y2, y3, m, rfl, hl, h0, h1, h2, h3⟩ := Go.Joins.trod_struct4 he hy
    rw [hc] at hl
    match cells, hl with
    | [c0, c1, c2, c3], _ =>
      rw [o0, t0, ci] at h0
      rw [o1, t1, ci] at h1
      rw [o2, t2, cb] at h2
      rw [o3, t3, ci] at h3
      obtain ⟨a0, e0, _, w0⟩ := DataW.trod_int hi h0
      obtain ⟨a1, e1, _, w1⟩ := DataW.trod_int hi h1
      obtain ⟨a2, e2, _⟩ := DataW.trod_bool hb h2
      obtain ⟨a3, e3, _, w3⟩ := DataW.trod_int hi h3
      simp at e0 e1 e2 e3
      exact ⟨⟨a0, a1, a2, a3⟩, by rw [e0, e1, e2, e3]; rfl, w0, w1, w3⟩) hval h
  obtain ⟨ss, rfl, hok⟩ := list_back Ent.cells Ent.ok xs (fun x hx => (hg x hx).2)
  exact ⟨ss, hxs, hok⟩

/-- A pair of modes. -/
structure Pr where
  src : Int
  dst : Int
def Pr.cells (s : Pr) : List Value := [.int .i64 s.src, .int .i64 s.dst]
def Pr.zero : Pr := ⟨0, 0⟩
def Pr.ok (s : Pr) : Prop := (Lit.int .i64 s.src).wf = true ∧ (Lit.int .i64 s.dst).wf = true
def PrsIn (w : World) (v : Value) (ss : List Pr) : Prop := RecsIn w 2 v (ss.map Pr.cells)
theorem PrsIn.below {w w' : World} {v : Value} {ss : List Pr} (h : PrsIn w v ss) (hb : Below w.heap.size w w') : PrsIn w' v ss := RecsIn.below h hb
theorem PrsIn.at {w : World} {v : Value} {ss : List Pr} (h : PrsIn w v ss) : ∃ ad cap, v = .slice ad ss.length cap ∧ ∀ k, k < ss.length → ∃ b off, ad = some ⟨b, off, none⟩ ∧
    w.cell? ⟨b, off + k * 2, none⟩ = some (.int .i64 (ss.getD k Pr.zero).src) ∧ w.cell? ⟨b, off + k * 2 + 1, none⟩ = some (.int .i64 (ss.getD k Pr.zero).dst) := by
  obtain ⟨ad, cap, rfl, _, h⟩ := h
  refine ⟨ad, cap, by rw [List.length_map], fun k hk => ?_⟩
  obtain ⟨b, off, e, hc⟩ := h k (by rw [List.length_map]; exact hk)
  have hr : (ss.map Pr.cells).getD k [] = (ss.getD k Pr.zero).cells := by
    rw [List.getD_eq_getElem?_getD, List.getElem?_map, List.getD_eq_getElem?_getD, List.getElem?_eq_getElem hk]; rfl
  rw [hr] at hc
  exact ⟨b, off, e, by simpa using hc 0 _ rfl, by rw [Nat.add_assoc]; exact hc 1 _ rfl⟩
theorem PrsIn.room {w : World} {v : Value} {ss : List Pr} (h : PrsIn w v ss) {ad : Option Addr} {n cap : Nat} (e : v = .slice ad n cap) : ss.length ≤ cap := by
  obtain ⟨ad', cap', rfl, h, _⟩ := h
  cases e
  rwa [List.length_map] at h
theorem prs_in {H : Type} {enc : TypeId × Value → H} {P : Program} {W : World} {base : Nat} {t e ti : TypeId} {f0 f1 : Field} {v : Value} {d : DataW H} {p : List MemPlace} (ht : P.underlying t = some (.slice e)) (he : P.underlying e = some (.struct #[f0, f1])) (hc : P.cellsOf e = 2)
    (o0 : f0.offset = 0) (o1 : f1.offset = 1) (t0 : f0.type = ti) (t1 : f1.type = ti) (hi : P.underlying ti = some (.int .i64)) (ci : P.cellsOf ti = 1)
    (hval : Value.okWide P W .any base t v) (h : DataW.Trod enc P W 0 (fun _ => true) true t v d p) : ∃ ss : List Pr, PrsIn W v ss ∧ ∀ s ∈ ss, s.ok := by
  obtain ⟨xs, hxs, hg⟩ := recs_in (size := 2) (fun cs => ∃ s : Pr, cs = s.cells ∧ s.ok) ht hc (by omega) (fun n cells y hy => by
    obtain ⟨ys, m, _, _, hl, hlen, hf⟩ := DataW.trod_struct he hy
    rw [hc] at hl
    match cells, hl, ys, hlen with
    | [c0, c1], _, [y0, y1], _ =>
      have h0 := hf 0 f0 rfl
      have h1 := hf 1 f1 rfl
      rw [o0, t0, ci] at h0
      rw [o1, t1, ci] at h1
      obtain ⟨a0, e0, _, w0⟩ := DataW.trod_int hi h0
      obtain ⟨a1, e1, _, w1⟩ := DataW.trod_int hi h1
      simp at e0 e1
      exact ⟨⟨a0, a1⟩, by rw [e0, e1]; rfl, w0, w1⟩) hval h
  obtain ⟨ss, rfl, hok⟩ := list_back Pr.cells Pr.ok xs (fun x hx => (hg x hx).2)
  exact ⟨ss, hxs, hok⟩
end Go.Proofs.YtglhapkclpllfadGreatDoor
