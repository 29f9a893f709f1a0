/-
  Contracts of package crew at crews and nodes that are not right.
-/
import Derived.Test.YtglhapkclpllfaaGreatDoorCrewList
import Derived.Test.YtglhapkclpllfaaGreatDoorRef2
namespace Go.Proofs.YtglhapkclpllfaaGreatDoor
open Go.RowKit Go.Shelf

theorem checkTwo_bad (a b : Int) (h : ¬ (okC a ∧ okC b)) (te : TypeId) (pe : Value) (w : World) (hE : w.cell? ⟨0, 0, none⟩ = some (.iface te pe)) : Calls Tryz.prog 39 #[.int .i64 a, .int .i64 b] w fun e w' => e = .returned (.iface te pe) ∧ w' = w := by
  by_cases ha : okC a
  · have hb : ¬ okC b := fun hb => h ⟨ha, hb⟩
    obtain ⟨n, rfl, hn⟩ := okC_nat ha
    go_enter Tryz.func39, Tryz.ntmps39
    go_wp2_with fail
    refine (check_ok n hn _).mono ?_
    rintro e w' ⟨rfl, rfl⟩
    go_wp2_with fail
    refine (check_bad b (not_okC hb) _ _ hE).mono ?_
    rintro e w' ⟨rfl, rfl⟩
    go_wp2
    go_ret
    exact ⟨rfl, rfl⟩
  · go_enter Tryz.func39, Tryz.ntmps39
    go_wp2_with fail
    refine (check_bad a (not_okC ha) _ _ hE).mono ?_
    rintro e w' ⟨rfl, rfl⟩
    go_wp2
    go_ret
    exact ⟨rfl, rfl⟩
theorem both_bad (a b : Int) (h : ¬ (okC a ∧ okC b)) (te : TypeId) (pe : Value) (w : World) (hE : w.cell? ⟨0, 0, none⟩ = some (.iface te pe)) : Calls Tryz.prog 16 #[.int .i64 a, .int .i64 b] w fun e w' => e = .returned (.tuple #[.int .i64 0, .iface te pe]) ∧ w' = w := by
  have HC := hide (checkTwo_bad a b h te pe w hE)
  clear h
  go_enter Tryz.func16, Tryz.ntmps16
  go_wp2_with (go_at_call 39; refine (unhide HC).mono ?_; rintro e w' ⟨rfl, rfl⟩)
  go_ret2
  exact ⟨rfl, rfl⟩
theorem either_bad (a b : Int) (h : ¬ (okC a ∧ okC b)) (te : TypeId) (pe : Value) (w : World) (hE : w.cell? ⟨0, 0, none⟩ = some (.iface te pe)) : Calls Tryz.prog 18 #[.int .i64 a, .int .i64 b] w fun e w' => e = .returned (.tuple #[.int .i64 0, .iface te pe]) ∧ w' = w := by
  have HC := hide (checkTwo_bad a b h te pe w hE)
  clear h
  go_enter Tryz.func18, Tryz.ntmps18
  go_wp2_with (go_at_call 39; refine (unhide HC).mono ?_; rintro e w' ⟨rfl, rfl⟩)
  go_ret2
  exact ⟨rfl, rfl⟩
theorem less_bad (a b : Int) (h : ¬ (okC a ∧ okC b)) (te : TypeId) (pe : Value) (w : World) (hE : w.cell? ⟨0, 0, none⟩ = some (.iface te pe)) : Calls Tryz.prog 20 #[.int .i64 a, .int .i64 b] w fun e w' => e = .returned (.tuple #[.int .i64 0, .iface te pe]) ∧ w' = w := by
  have HC := hide (checkTwo_bad a b h te pe w hE)
  clear h
  go_enter Tryz.func20, Tryz.ntmps20
  go_wp2_with (go_at_call 39; refine (unhide HC).mono ?_; rintro e w' ⟨rfl, rfl⟩)
  go_ret2
  exact ⟨rfl, rfl⟩
theorem many_bad (c : Int) (h : ¬ okC c) (te : TypeId) (pe : Value) (w : World) (hE : w.cell? ⟨0, 0, none⟩ = some (.iface te pe)) : Calls Tryz.prog 12 #[.int .i64 c] w fun e w' => e = .returned (.int .i64 0) ∧ w' = w := by
  have HC := hide (check_bad c (not_okC h) _ w hE)
  clear h
  go_enter Tryz.func12, Tryz.ntmps12
  go_wp2_with (go_at_call 9; refine (unhide HC).mono ?_; rintro e w' ⟨rfl, rfl⟩)
  go_ret
  exact ⟨rfl, rfl⟩
theorem text_bad (c : Int) (h : ¬ okC c) (te : TypeId) (pe : Value) (w : World) (hE : w.cell? ⟨0, 0, none⟩ = some (.iface te pe)) : Calls Tryz.prog 14 #[.int .i64 c] w fun e w' => e = .returned (.string ⟨#[]⟩) ∧ w' = w := by
  have HC := hide (check_bad c (not_okC h) _ w hE)
  clear h
  go_enter Tryz.func14, Tryz.ntmps14
  go_wp2_with (go_at_call 9; refine (unhide HC).mono ?_; rintro e w' ⟨rfl, rfl⟩)
  go_ret
  exact ⟨rfl, rfl⟩
attribute [local go_sem] Oper.semAt_some
set_option maxRecDepth 100000 in
theorem nodes1_bad (n : Nat) (hn : 1 ≤ n) (l Bn : Nat) (c : Int) (hc : ¬ okC c) (te : TypeId) (pe : Value) (J Jx : List (Fin 16) → World → Prop)
    (W : World) (hBn : W.cell? ⟨Bn, 0, none⟩ = some (.int .i64 c)) (hE : W.cell? ⟨0, 0, none⟩ = some (.iface te pe)) (h0 : J [] W) :
    CallsIn Fence.wide n Tryz.prog 49 #[.func (.yield l) #[] #[], .pointer (some ⟨Bn, 0, none⟩)] W fun e W' => (∃ v, e = .returned v) ∧
      ((∃ ys, ys = [] ∧ J ys W') ∨ (∃ pre, pre <+: [] ∧ Jx pre W')) := by
  have HC := hide (check_bad c (not_okC hc) _ W hE)
  clear hc
  refine callsIn_of_wp Tryz.func49 rfl trivial ?_ rfl
  simp only [Tryz.ntmps49, List.size_toArray, List.length_cons, List.length_nil, Nat.reduceAdd, Nat.reduceSub, Array.replicate_succ, Array.replicate_zero, List.push_toArray, List.append_toArray, List.nil_append, List.cons_append]
  gi_wp2_with (refine ⟨trivial, ?_⟩; gi_at_call 9; refine (callsIn_wide.2 (unhide HC)).mono ?_; rintro e w' ⟨rfl, rfl⟩)
  first | go_end0 | refine bodyPost_ret (results_none rfl _ _ _) rfl ?_
  exact ⟨⟨_, rfl⟩, .inl ⟨[], rfl, h0⟩⟩
set_option maxHeartbeats 1000000 in
theorem nodes_any (n : Nat) (c : Int) (w : World) :
    CallsIn Fence.wide n Tryz.prog 33 #[.int .i64 c] w fun e w' => e = .returned (.func (.func 49) #[] #[.pointer (some ⟨w.heap.size, 0, none⟩)]) ∧ w' = w.alloc (.cells #[.int .i64 c] 3) := by
  refine callsIn_of_wp Tryz.func33 rfl trivial ?_ rfl
  simp only [Tryz.ntmps33, List.size_toArray, List.length_cons, List.length_nil, Nat.reduceAdd, Nat.reduceSub, Array.replicate_succ, Array.replicate_zero, List.push_toArray, List.append_toArray, List.nil_append, List.cons_append]
  gi_wp2
  go_ret
  exact ⟨rfl, rfl⟩
theorem nodes_stops_bad (n : Nat) (hn : 1 ≤ n) (Bn n₀ : Nat) (c : Int) (hc : ¬ okC c) (te : TypeId) (pe : Value) (w : World) (hBn : Bn < w.heap.size) (hg : 0 < w.heap.size)
    (hcell : w.cell? ⟨Bn, 0, none⟩ = some (.int .i64 c)) (hE : w.cell? ⟨0, 0, none⟩ = some (.iface te pe)) :
    SeqStopsK Fence.wide n Tryz.prog 49 #[.pointer (some ⟨Bn, 0, none⟩)] (fun x : Fin 16 => #[Value.int .i64 ((x.val : Int) + 1)]) (Below n₀) (fun ys => ys = []) (fun pre => pre <+: []) ([] : List (Fin 16)).length w := fun l J Jx W hW _ _ _ h0 =>
  nodes1_bad n hn l Bn c hc te pe J Jx W ((hW.cell (p := ⟨Bn, 0, none⟩) hBn).trans hcell) ((hW.cell (p := ⟨0, 0, none⟩) hg).trans hE) h0
set_option maxRecDepth 100000 in
set_option maxHeartbeats 2000000 in
theorem list_bad_in (n : Nat) (hn : 3 ≤ n) (c : Int) (hc : ¬ okC c) (te : TypeId) (pe : Value) (w : World) (hE : w.cell? ⟨0, 0, none⟩ = some (.iface te pe)) :
    CallsIn Fence.wide n Tryz.prog 11 #[.int .i64 c] w fun e W' => ∃ v, e = .returned v ∧ W'.ownsRow w.heap.size 3 1 v 0 [] ∧ Below w.heap.size w W' := by
  have h1 : 1 ≤ n := by omega
  have hg := cell_lt hE
  dsimp only at hg
  have HE := hide hE
  clear hE
  refine callsIn_of_wp_marks Tryz.func11 rfl trivial ?_ rfl
  simp only [Tryz.ntmps11, List.size_toArray, List.length_cons, List.length_nil, Nat.reduceAdd, Nat.reduceSub, Array.replicate_succ, Array.replicate_zero, List.push_toArray, List.append_toArray, List.nil_append, List.cons_append]
  gi_wp2_with (refine ⟨trivial, ?_⟩; gi_at_call 33; refine (nodes_any (n - 1) c _).mono ?_; rintro e w' ⟨rfl, rfl⟩)
  have bO := Boxed.new w 22 (.slice none 0 0)
  have bN := Boxed.new (w.alloc (.cells #[.slice none 0 0] 22)) 3 (.int .i64 c)
  rw [World.size_alloc] at bN
  have hB0 : Below w.heap.size w ((w.alloc (.cells #[.slice none 0 0] 22)).alloc (.cells #[.int .i64 c] 3)) := ((Below.refl _ w).alloc (Nat.le_refl _) _).alloc (by simp) _
  refine wpIn_rangeFunc_ownG rfl h1 (gf := 49) (lb := #[.pointer (some ⟨w.heap.size + 1, 0, none⟩)]) rfl trivial (enters_of Tryz.func49 (by kernel_rfl) rfl)
    (nodes_stops_bad (n - 1) (by omega) (w.heap.size + 1) w.heap.size c hc te pe _ (by simp) (Nat.lt_of_lt_of_le hg hB0.size) bN.cell ((hB0.cell (p := ⟨0, 0, none⟩) hg).trans (unhide HE))) belowK_t (belowK_b (by simp; omega)) (Below.refl _ _) (fun _ => rfl)
    (fun pre W => (∃ v, Boxed W w.heap.size 22 v ∧ W.ownsRow w.heap.size 3 1 v pre.length (pre.map fun x => Value.int .i64 (num x)) ∧ (v = .slice none 0 0 ↔ pre = [])) ∧ Below w.heap.size w W)
    (fun _ _ _ => False)
    (OwnFrom.and (Own.from (holdsRow_own w.heap.size w.heap.size 22 3 1 (fun pre => pre.length) (fun pre => pre.map fun x => Value.int .i64 (num x)) (fun pre v => v = .slice none 0 0 ↔ pre = [])) _) (ownFrom_below (Nat.le_refl _) (by simp; omega)))
    (fun _ _ _ _ _ hs _ _ => hs)
    ⟨⟨_, bO.alloc _, World.ownsRow_nil _ _ _ _, by simp⟩, hB0⟩
    (fun x => { tmps := #[.int .i64 c, undef, .slice none 0 0, .pointer (some ⟨w.heap.size, 0, none⟩), .int .i64 ((x.val : Int) + 1), .int .i64 c, .func (.func 49) #[] #[.pointer (some ⟨w.heap.size + 1, 0, none⟩)], .int .i64 ((x.val : Int) + 1), undef, undef, undef, undef, undef], defers := [] }) ?assign ?body ?done ?stop
  case assign =>
    intro l x W K hK
    gi_wp2
    exact hK
  case body =>
    rintro l pre x W _ hlt
    exact absurd hlt (Nat.not_lt_zero _)
  case done =>
    rintro D ys W hD rfl ⟨⟨v, hv, hrow, hnil⟩, hB⟩ hK
    have hc := hv.cell
    gi_wp2
    refine ⟨by simp, .inl ⟨_, _, rfl, run_takeDeferred hK, ?_⟩⟩
    exact ⟨_, results_tmp rfl _ _ _, v, rfl, ownsRow_putObj hrow _ hK rfl, hB.trans (belowK_b (w := w) (Nat.le_refl _) W D _ _ (by simp at hD; omega) hK rfl rfl)⟩
  case stop =>
    rintro D c pre W _ _ h _
    exact h.elim
theorem list_bad (c : Int) (hc : ¬ okC c) (te : TypeId) (pe : Value) (w : World) (hE : w.cell? ⟨0, 0, none⟩ = some (.iface te pe)) :
    Calls Tryz.prog 11 #[.int .i64 c] w fun e W' => ∃ v, e = .returned v ∧ IntsAt W' v [] ∧ Below w.heap.size w W' := by
  refine (callsIn_wide.1 (list_bad_in 3 (by omega) c hc te pe w hE)).mono ?_
  rintro e W' ⟨v, he, hrow, hB⟩
  exact ⟨v, he, intsAt_of_owns (base := w.heap.size) (e := 3) hrow, hB⟩
end Go.Proofs.YtglhapkclpllfaaGreatDoor
