/-
  Contracts of plain.Code: nil is 0; the k-th sentinel of package api is k + 1, without a place; an *api.Fault that wraps it is k + 1 with its place; another error of errors.New's make is -1.
  Conditions: the sentinels lie as laid (structure Sent).
-/
import Derived.Test.YtglhapkclpllfaaDoorBase
import Derived.Test.YtglhapkclpllfaaDoorErr
namespace Go.Proofs.YtglhapkclpllfaaDoor
open Go.RowKit Go.Extern.Stop Go.Stop Go.Extern

/-- The sentinels of package api lie at a 0 .. a 10, each apart from the others; errors' own handle of the type error. -/
structure Sent (a : Nat → Addr) (w : World) : Prop where
  c0 : w.cell? ⟨0, 0, none⟩ = some (.iface 73 (.pointer (some (a 0))))
  c1 : w.cell? ⟨1, 0, none⟩ = some (.iface 73 (.pointer (some (a 1))))
  c2 : w.cell? ⟨2, 0, none⟩ = some (.iface 73 (.pointer (some (a 2))))
  c3 : w.cell? ⟨3, 0, none⟩ = some (.iface 73 (.pointer (some (a 3))))
  c4 : w.cell? ⟨4, 0, none⟩ = some (.iface 73 (.pointer (some (a 4))))
  c5 : w.cell? ⟨5, 0, none⟩ = some (.iface 73 (.pointer (some (a 5))))
  c6 : w.cell? ⟨6, 0, none⟩ = some (.iface 73 (.pointer (some (a 6))))
  c7 : w.cell? ⟨7, 0, none⟩ = some (.iface 73 (.pointer (some (a 7))))
  c8 : w.cell? ⟨8, 0, none⟩ = some (.iface 73 (.pointer (some (a 8))))
  c9 : w.cell? ⟨9, 0, none⟩ = some (.iface 73 (.pointer (some (a 9))))
  c10 : w.cell? ⟨10, 0, none⟩ = some (.iface 73 (.pointer (some (a 10))))
  et : w.cell? ⟨11, 0, none⟩ = some (.iface 125 (.agg #[.pointer (some ⟨20, 25, none⟩)]))
  row : ∀ k, k < 11 → ∃ ca ta, w.heap[(a k).block]? = some (.cells ca ta (0, 0))
  inj : ∀ i j, i < 11 → j < 11 → a i = a j → i = j

theorem Sent.below {a : Nat → Addr} {w w' : World} (S : Sent a w) (hb : Below w.heap.size w w') : Sent a w' where
  c0 := below_cell hb S.c0
  c1 := below_cell hb S.c1
  c2 := below_cell hb S.c2
  c3 := below_cell hb S.c3
  c4 := below_cell hb S.c4
  c5 := below_cell hb S.c5
  c6 := below_cell hb S.c6
  c7 := below_cell hb S.c7
  c8 := below_cell hb S.c8
  c9 := below_cell hb S.c9
  c10 := below_cell hb S.c10
  et := below_cell hb S.et
  row := fun k hk => by obtain ⟨ca, ta, h⟩ := S.row k hk; exact ⟨ca, ta, below_row hb h⟩
  inj := S.inj

/-- What plain.Code tells of the errorString at b. -/
def CodeIs (a : Nat → Addr) (b : Addr) (c : Int) : Prop := (∃ k : Nat, k < 11 ∧ a k = b ∧ c = (k : Int) + 1) ∨ ((∀ k, k < 11 → a k ≠ b) ∧ c = -1)
theorem codeIs_at {a : Nat → Addr} {w : World} (S : Sent a w) {k : Nat} (hk : k < 11) {c : Int} (h : CodeIs a (a k) c) : c = (k : Int) + 1 := by
  rcases h with ⟨j, hj, e, rfl⟩ | ⟨h, _⟩
  · rw [S.inj j k hj hk e]
  · exact absurd rfl (h k hk)
theorem codeIs_no {a : Nat → Addr} {b : Addr} (h : ∀ k, k < 11 → a k ≠ b) {c : Int} (hc : CodeIs a b c) : c = -1 := by
  rcases hc with ⟨j, hj, e, _⟩ | ⟨_, rfl⟩
  · exact absurd e (h j hj)
  · rfl

/-- The eleven in a row, read by place. -/
theorem row11 (a : Nat → Addr) (W : World) (k : Nat) (hk : k < 11) :
    (W.alloc (.cells #[.iface 73 (.pointer (some (a 0))), .iface 73 (.pointer (some (a 1))), .iface 73 (.pointer (some (a 2))), .iface 73 (.pointer (some (a 3))), .iface 73 (.pointer (some (a 4))), .iface 73 (.pointer (some (a 5))), .iface 73 (.pointer (some (a 6))), .iface 73 (.pointer (some (a 7))), .iface 73 (.pointer (some (a 8))), .iface 73 (.pointer (some (a 9))), .iface 73 (.pointer (some (a 10)))] 25)).cell? ⟨W.heap.size, k, none⟩ = some (.iface 73 (.pointer (some (a k)))) := by
  match k, hk with
  | 0, _ => simp
  | 1, _ => simp
  | 2, _ => simp
  | 3, _ => simp
  | 4, _ => simp
  | 5, _ => simp
  | 6, _ => simp
  | 7, _ => simp
  | 8, _ => simp
  | 9, _ => simp
  | 10, _ => simp

theorem code_nil (w : World) : Calls Tryd.prog 9 #[.nilIface] w fun e w' => e = .returned (.tuple #[.int .i64 0, .int .i64 (-1)]) ∧ w' = w := by
  go_enter Tryd.func9, Tryd.ntmps9
  go_wp2
  go_ret2
  exact ⟨rfl, rfl⟩

/-! ### errors.As, the world told by what it keeps -/
theorem as_miss' (e t : Addr) (w : World) (hg : w.cell? ⟨11, 0, none⟩ = some (.iface 125 (.agg #[.pointer (some ⟨20, 25, none⟩)]))) :
    Calls Tryd.prog 38 #[.iface 73 (.pointer (some e)), .iface 71 (.pointer (some t))] w fun ev w' => ev = .returned (.bool false) ∧ Below w.heap.size w w' := by
  refine (as_miss e t w hg).mono ?_
  rintro ev w' ⟨rfl, rfl⟩
  exact ⟨rfl, (((Below.refl _ _).alloc (Nat.le_refl _) _).alloc (by simp) _).alloc (by simp; omega) _⟩
theorem as_hit' (e t : Addr) (old : Value) (w : World) (hg : w.cell? ⟨11, 0, none⟩ = some (.iface 125 (.agg #[.pointer (some ⟨20, 25, none⟩)]))) (ht0 : w.cell? t = some old) (hf0 : w.frozen? t = false) :
    Calls Tryd.prog 38 #[.iface 29 (.pointer (some e)), .iface 71 (.pointer (some t))] w fun ev w' => ev = .returned (.bool true) ∧ w'.cell? t = some (.pointer (some e)) ∧ Below t.block w w' := by
  refine (as_hit e t old w hg ht0 hf0).mono ?_
  rintro ev w' ⟨rfl, rfl⟩
  have htl := cell_lt ht0
  refine ⟨rfl, ?_, ?_⟩
  · refine World.cell?_setCell_same _ _ _ (u := old) ?_
    rw [World.cell?_alloc_lt _ _ t (by simp; omega), World.cell?_alloc_lt _ _ t (by simp; omega), World.cell?_alloc_lt _ _ t (by simp; omega), World.cell?_alloc_lt _ _ t htl, ht0]
  · exact (((((Below.refl _ _).alloc (Nat.le_of_lt htl) _).alloc (by simp; omega) _).alloc (by simp; omega) _).alloc (by simp; omega) _).setCell (Nat.le_refl _) _

set_option maxHeartbeats 1000000 in
theorem code_es (a : Nat → Addr) (b : Addr) (cb : Array Value) (tb : TypeId) (w : World) (S : Sent a w) (hb : w.heap[b.block]? = some (.cells cb tb (0, 0))) :
    Calls Tryd.prog 9 #[.iface 73 (.pointer (some b))] w fun e w' => ∃ c : Int, e = .returned (.tuple #[.int .i64 c, .int .i64 (-1)]) ∧ CodeIs a b c ∧ Below w.heap.size w w' := by
  have hA := (Below.refl w.heap.size w).alloc (Nat.le_refl _) (.cells #[.pointer none] 29)
  have SA := S.below hA
  have hetA := SA.et
  go_enter Tryd.func9, Tryd.ntmps9
  go_wp2_with fail
  refine (as_miss' _ _ _ hetA).mono ?_
  rintro e w1 ⟨rfl, h1⟩
  have hw1 : Below w.heap.size w w1 := hA.trans (h1.mono (by simp))
  have S1 := S.below hw1
  have hb1 := below_row hw1 hb
  obtain ⟨k0, k1, k2, k3, k4, k5, k6, k7, k8, k9, k10, _, hrow, hinj⟩ := S1
  clear hA SA hetA h1
  go_wp2_with fail
  go_loop [3, 29] (fun p i => ∃ k : Nat, k ≤ 11 ∧ i = .int .i64 k ∧ p = .int .i64 (-1) ∧ ∀ j, j < k → a j ≠ b) (fun _ i => 11 - (intOf i).toNat)
  case atStart => exact ⟨0, by omega, rfl, rfl, fun j hj => absurd hj (by omega)⟩
  case round =>
    obtain ⟨k, hk, rfl, rfl, hno⟩ := hrel
    have Hno := hide hno
    clear hno
    by_cases hlt : k < 11
    · have hcell := row11 a w1 k hlt
      obtain ⟨ca, ta, hca⟩ := hrow k hlt
      have Hca := hide hca
      have Hb1 := hide hb1
      clear hca hb1 hrow
      by_cases hkb : a k = b
      · subst hkb
        go_wp2_with (go_at_call 39; refine (is_same (a k) _).mono ?_; rintro e w' ⟨rfl, rfl⟩)
        go_ret2
        exact ⟨(k : Int) + 1, rfl, Or.inl ⟨k, hlt, rfl, rfl⟩, hw1.trans ((Below.refl _ _).alloc hw1.size _)⟩
      · have Hne := hide hkb
        clear hkb
        go_wp2_with (go_at_call 39; refine (is_other b (a k) _ _ _ _ _ (fun h => unhide Hne h.symm) (below_row ((Below.refl _ _).alloc (Nat.le_refl _) _) (unhide Hb1)) (below_row ((Below.refl _ _).alloc (Nat.le_refl _) _) (unhide Hca))).mono ?_; rintro e w' ⟨rfl, rfl⟩)
        go_round
        case rel => exact ⟨k + 1, by omega, by go_num, rfl, fun j hj => by
          rcases Nat.lt_or_ge j k with h | h
          · exact unhide Hno j h
          · have : j = k := by omega
            subst this
            exact unhide Hne⟩
        case measure => simp [intOf]; omega
    · have : k = 11 := by omega
      subst this
      go_wp2
      go_ret2
      exact ⟨-1, rfl, Or.inr ⟨unhide Hno, rfl⟩, hw1.trans ((Below.refl _ _).alloc hw1.size _)⟩

set_option maxHeartbeats 1000000 in
theorem code_fault (a : Nat → Addr) (b : Addr) (pb po : Nat) (n : Int) (cb : Array Value) (tb : TypeId) (w : World) (S : Sent a w) (hb : w.heap[b.block]? = some (.cells cb tb (0, 0)))
    (hp0 : w.cell? ⟨pb, po, none⟩ = some (.int .i64 n)) (hp : w.cell? ⟨pb, po + 1, none⟩ = some (.iface 73 (.pointer (some b)))) :
    Calls Tryd.prog 9 #[.iface 29 (.pointer (some ⟨pb, po, none⟩))] w fun e w' => ∃ c : Int, e = .returned (.tuple #[.int .i64 c, .int .i64 n]) ∧ CodeIs a b c ∧ Below w.heap.size w w' := by
  have hA := (Below.refl w.heap.size w).alloc (Nat.le_refl _) (.cells #[.pointer none] 29)
  have SA := S.below hA
  have hetA := SA.et
  have htA : (w.alloc (.cells #[.pointer none] 29)).cell? ⟨w.heap.size, 0, none⟩ = some (.pointer none) := by simp
  have hfA : (w.alloc (.cells #[.pointer none] 29)).frozen? ⟨w.heap.size, 0, none⟩ = false := by simp
  go_enter Tryd.func9, Tryd.ntmps9
  go_wp2_with fail
  refine (as_hit' _ _ _ _ hetA htA hfA).mono ?_
  rintro e w1 ⟨rfl, ht1, h1⟩
  have hw1 : Below w.heap.size w w1 := hA.trans h1
  have S1 := S.below hw1
  have hb1 := below_row hw1 hb
  have hp1 := below_cell hw1 hp
  have hq1 := below_cell hw1 hp0
  obtain ⟨k0, k1, k2, k3, k4, k5, k6, k7, k8, k9, k10, _, hrow, hinj⟩ := S1
  clear hA SA hetA h1 hp hp0 htA hfA
  go_wp2_with fail
  go_loop [3, 29] (fun p i => ∃ k : Nat, k ≤ 11 ∧ i = .int .i64 k ∧ p = .int .i64 (n) ∧ ∀ j, j < k → a j ≠ b) (fun _ i => 11 - (intOf i).toNat)
  case atStart => exact ⟨0, by omega, rfl, rfl, fun j hj => absurd hj (by omega)⟩
  case round =>
    obtain ⟨k, hk, rfl, rfl, hno⟩ := hrel
    have Hno := hide hno
    have Hp1 := hide hp1
    clear hp1
    clear hno
    by_cases hlt : k < 11
    · have hcell := row11 a w1 k hlt
      obtain ⟨ca, ta, hca⟩ := hrow k hlt
      have Hca := hide hca
      have Hb1 := hide hb1
      clear hca hb1 hrow
      by_cases hkb : a k = b
      · subst hkb
        go_wp2_with (go_at_call 39; refine (isf_same pb po (a k) _ (below_cell ((Below.refl _ _).alloc (Nat.le_refl _) _) (unhide Hp1))).mono ?_; rintro e w' ⟨rfl, rfl⟩)
        go_ret2
        exact ⟨(k : Int) + 1, rfl, Or.inl ⟨k, hlt, rfl, rfl⟩, hw1.trans ((Below.refl _ _).alloc hw1.size _)⟩
      · have Hne := hide hkb
        clear hkb
        go_wp2_with (go_at_call 39; refine (isf_other pb po (a k) b _ _ _ _ _ (below_cell ((Below.refl _ _).alloc (Nat.le_refl _) _) (unhide Hp1)) (fun h => unhide Hne h.symm) (below_row ((Below.refl _ _).alloc (Nat.le_refl _) _) (unhide Hb1)) (below_row ((Below.refl _ _).alloc (Nat.le_refl _) _) (unhide Hca))).mono ?_; rintro e w' ⟨rfl, rfl⟩)
        go_round
        case rel => exact ⟨k + 1, by omega, by go_num, rfl, fun j hj => by
          rcases Nat.lt_or_ge j k with h | h
          · exact unhide Hno j h
          · have : j = k := by omega
            subst this
            exact unhide Hne⟩
        case measure => simp [intOf]; omega
    · have : k = 11 := by omega
      subst this
      go_wp2
      go_ret2
      exact ⟨-1, rfl, Or.inr ⟨unhide Hno, rfl⟩, hw1.trans ((Below.refl _ _).alloc hw1.size _)⟩
end Go.Proofs.YtglhapkclpllfaaDoor
