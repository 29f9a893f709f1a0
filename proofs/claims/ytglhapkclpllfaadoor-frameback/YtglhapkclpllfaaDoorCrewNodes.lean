/-
  The contract of crew.nodes: a function value that hands over the nodes of a crew that is right, rising.
  Conditions: math/bits' table lies as laid (TabAt).
-/
import Derived.RangeFuncBox
import Derived.RangeFuncLeaves
import Derived.Shelf.Abstract
import Derived.WalkKit
import Derived.OwnWalkIn
import Derived.TacticsInMore
import Derived.LoopNIn
import Derived.LoopIn
import Derived.Maps.AppendAt
import Derived.Shelf.Spec.TrailingZeros
import Derived.Test.YtglhapkclpllfaaDoorCrewNums
namespace Go.Proofs.YtglhapkclpllfaaDoor
open Go.RowKit Go.Shelf

attribute [local go_sem] Oper.semAt_some

theorem ctz_fuel : ∀ (f x k : Nat), 0 < x → x < 2 ^ f → Lib.ctzFrom (f + k) x = Lib.ctzFrom f x
  | 0, x, _, h0, h => by simp at h; omega
  | f + 1, x, k, h0, h => by
    have hp : 2 ^ (f + 1) = 2 * 2 ^ f := by rw [Nat.pow_succ]; omega
    rw [show f + 1 + k = (f + k) + 1 by omega]
    unfold Lib.ctzFrom
    split
    · rfl
    · rw [ctz_fuel f (x / 2) k (by omega) (by omega)]
theorem nodes_step (r : Nat) (h0 : 0 < r) (h : r ≤ 65535) : Cm.nodes r = (Lib.ctz 64 r + 1) :: Cm.nodes (r &&& (r - 1)) := by
  have e : Lib.ctz 64 r = Lib.ctzFrom 16 r := by
    unfold Lib.ctz
    rw [if_neg (by omega)]
    exact ctz_fuel 16 r 48 h0 (by omega)
  unfold Cm.nodes
  rw [e, Cm.nl_step 16 0 r h0 (by omega)]
  simp
theorem ctz_lt (r : Nat) (h0 : 0 < r) (h : r ≤ 65535) : Lib.ctz 64 r < 16 := by
  have e : Lib.ctz 64 r = Lib.ctzFrom 16 r := by
    unfold Lib.ctz
    rw [if_neg (by omega)]
    exact ctz_fuel 16 r 48 h0 (by omega)
  rw [e]
  obtain ⟨_, _, h⟩ := Lib.ctzFrom_spec 16 r h0 (by omega)
  exact h

set_option maxHeartbeats 1000000 in
theorem tz64_core (x k idx : Nat) (w : World) (hx0 : ((x : Int) == 0) = false)
    (key : IntKind.u64.wrap (bits BinOp.and IntKind.u64 (x : Int) (IntKind.u64.wrap (-(x : Int))) * 285870213051353865) / 288230376151711744 = (idx : Int))
    (hi : idx < 64) (hk : k < 64) (hcell : w.cell? ⟨14, idx, none⟩ = some (.int .u8 k)) :
    Calls Tryd.prog 87 #[.int .u64 x] w fun e w' => e = .returned (.int .i64 k) ∧ w' = w := by
  go_enter Tryd.func87, Tryd.ntmps87
  go_wp2_with (simp only [key])
  go_ret
  exact ⟨rfl, rfl⟩
theorem tz_ok (x : Nat) (h0 : 0 < x) (hx : x ≤ 65535) (w : World) (hT : Go.Proofs.TabAt 14 Lib.deBruijn64tab w) : Calls Tryd.prog 68 #[.int .u64 x] w fun e w' => e = .returned (.int .i64 (Lib.ctz 64 x)) ∧ w' = w := by
  have h64 : Calls Tryd.prog 87 #[.int .u64 x] w fun e w' => e = .returned (.int .i64 (Lib.ctz 64 x)) ∧ w' = w := by
    obtain ⟨hlow, hk⟩ := Lib.lowest_bit 64 x (by omega) (by omega)
    obtain ⟨hi, htab⟩ := Lib.deBruijn64_at _ hk
    have hcell := hT _ hi
    rw [htab] at hcell
    exact tz64_core x _ _ w (by simp; omega) (tz64_key x _ (by omega) (by omega) hlow) hi hk hcell
  have H := hide h64
  clear h64 hT
  go_enter Tryd.func68, Tryd.ntmps68
  go_wp2_with (go_at_call 87; refine (unhide H).mono ?_; rintro e w' ⟨rfl, rfl⟩)
  go_ret
  exact ⟨rfl, rfl⟩
theorem low_key (r : Nat) (h0 : 0 < r) (h : r ≤ 65535) : bits .and .u64 (r : Int) ((r : Int) - 1) = ((r &&& (r - 1) : Nat) : Int) := by
  rw [show ((r : Int) - 1) = ((r - 1 : Nat) : Int) by omega]
  exact bits_and_u64_nat r (r - 1) (by omega) (by omega)

/-- The nodes as numbers. -/
def ints (l : List Nat) : List Int := l.map fun (n : Nat) => (n : Int)
/-- The nodes as what is handed over: places from 0 on. -/
def nodesF (c : Nat) : List (Fin 16) := (Cm.nodes c).map fun n => ⟨(n - 1) % 16, Nat.mod_lt _ (by omega)⟩
def num (x : Fin 16) : Int := (x.val : Int) + 1
theorem nl_mem : ∀ f p c n, n ∈ Cm.nl f p c → p + 1 ≤ n ∧ n ≤ p + f
  | 0, _, _, _, h => by simp [Cm.nl] at h
  | f + 1, p, c, n, h => by
    unfold Cm.nl at h
    split at h
    · rcases List.mem_cons.1 h with rfl | h
      · omega
      · have := nl_mem f (p + 1) (c / 2) n h; omega
    · have := nl_mem f (p + 1) (c / 2) n h; omega
theorem nodes_mem {c n : Nat} (h : n ∈ Cm.nodes c) : 1 ≤ n ∧ n ≤ 16 := by have := nl_mem 16 0 c n h; omega
theorem nodesF_num (c : Nat) : (nodesF c).map num = ints (Cm.nodes c) := by
  unfold nodesF ints
  rw [List.map_map]
  apply List.map_congr_left
  intro n hn
  have := nodes_mem hn
  simp only [Function.comp, num]
  rw [Nat.mod_eq_of_lt (by omega)]; omega
theorem nodesF_len (c : Nat) : (nodesF c).length ≤ 16 := by
  have := Cm.many_le c
  have := Cm.len_nodes c
  unfold nodesF
  rw [List.length_map]; omega
theorem nodesF_zero : nodesF 0 = [] := by decide
theorem nodesF_step (r : Nat) (h0 : 0 < r) (h : r ≤ 65535) : nodesF r = ⟨Lib.ctz 64 r, ctz_lt r h0 h⟩ :: nodesF (r &&& (r - 1)) := by
  have hlt := ctz_lt r h0 h
  unfold nodesF
  rw [nodes_step r h0 h, List.map_cons]
  congr 1
  apply Fin.ext
  show (Lib.ctz 64 r + 1 - 1) % 16 = Lib.ctz 64 r
  rw [Nat.add_sub_cancel, Nat.mod_eq_of_lt hlt]

set_option maxRecDepth 100000 in
set_option maxHeartbeats 2000000 in
theorem nodes1_in (n : Nat) (hn : 1 ≤ n) (l Bn n₀ : Nat) (c : Nat) (hc : c ≤ 65535) (J Jx : List (Fin 16) → World → Prop)
    (hY : ∀ pre x W, J pre W → pre.length < (nodesF c).length → YieldAt Fence.wide (n - 1) Tryd.prog l #[.int .i64 ((x.val : Int) + 1)] W fun e W' =>
      (e = .returned (.bool true) ∧ J (pre ++ [x]) W' ∧ Below n₀ W W') ∨ (e = .returned (.bool false) ∧ Jx (pre ++ [x]) W'))
    (W : World) (hBn : W.cell? ⟨Bn, 0, none⟩ = some (.int .i64 c)) (hg : 14 < n₀) (hT : Go.Proofs.TabAt 14 Lib.deBruijn64tab W) (h0 : J [] W) :
    CallsIn Fence.wide n Tryd.prog 67 #[.func (.yield l) #[] #[], .pointer (some ⟨Bn, 0, none⟩)] W fun e W' => (∃ v, e = .returned v) ∧
      ((∃ ys, ys = nodesF c ∧ J ys W') ∨ (∃ pre, pre <+: nodesF c ∧ Jx pre W')) := by
  have HT := hide hT
  clear hT
  refine callsIn_of_wp Tryd.func67 rfl trivial ?_ rfl
  simp only [Tryd.ntmps67, List.size_toArray, List.length_cons, List.length_nil, Nat.reduceAdd, Nat.reduceSub, Array.replicate_succ, Array.replicate_zero, List.push_toArray, List.append_toArray, List.nil_append, List.cons_append]
  gi_wp2_with (refine ⟨trivial, ?_⟩; gi_at_call 13; refine (callsIn_wide.2 (check_ok c hc _)).mono ?_; rintro e w' ⟨rfl, rfl⟩)
  gi_loopw [3] (fun p wr => ∃ (pre : List (Fin 16)) (r : Nat), p = .int .u64 r ∧ r ≤ 65535 ∧ Hid (nodesF c = pre ++ nodesF r) ∧ J pre wr ∧ Below n₀ w' wr) (fun p _ => (intOf p).toNat)
  case atStart => exact ⟨[], c, rfl, hc, rfl, h0, Below.refl _ _⟩
  case round =>
    obtain ⟨pre, r, rfl, hr, hx, hJs, hB⟩ := hrel
    have HTr : Hid (Go.Proofs.TabAt 14 Lib.deBruijn64tab wr) := fun j hj => (hB.cell (p := ⟨14, j, none⟩) hg).trans (unhide HT j hj)
    by_cases hr0 : r = 0
    · subst hr0
      gi_wp2
      go_end0
      exact ⟨⟨_, rfl⟩, .inl ⟨pre, by have := unhide hx; rw [nodesF_zero, List.append_nil] at this; exact this.symm, hJs⟩⟩
    · have hpos : 0 < r := by omega
      have hctz := ctz_lt r hpos hr
      have hstep := nodesF_step r hpos hr
      have hx2 : Hid (nodesF c = (pre ++ [⟨Lib.ctz 64 r, ctz_lt r hpos hr⟩]) ++ nodesF (r &&& (r - 1))) := by
        show _ = _
        rw [unhide hx, hstep]; simp
      have hlen : pre.length < (nodesF c).length := by rw [unhide hx2]; simp
      obtain ⟨fn, tmps, assign, body, hy, hR⟩ := hY pre ⟨Lib.ctz 64 r, ctz_lt r hpos hr⟩ wr hJs hlen
      dsimp only at hy
      have hlow := low_key r hpos hr
      have hle : r &&& (r - 1) ≤ 65535 := Cm.and_le r (r - 1) hr
      have hlt := Cm.low_lt r hpos
      have HR := hide hR
      clear hstep hx hlen hR
      have hrz : ((r : Int) == 0) = false := by simp; omega
      gi_wp2_with (refine ⟨trivial, ?_⟩; gi_at_call 68; refine (callsIn_wide.2 (tz_ok r hpos hr _ (unhide HTr))).mono ?_; rintro e w'' ⟨rfl, rfl⟩)
      refine (unhide HR).mono ?_
      rintro e W3 (⟨rfl, hJ3, hk3⟩ | ⟨rfl, hJx3⟩)
      · gi_wp2
        go_roundw
        case rel => exact ⟨pre ++ [⟨Lib.ctz 64 r, ctz_lt r hpos hr⟩], r &&& (r - 1), rfl, hle, hx2, hJ3, hB.trans hk3⟩
        case measure => simp [intOf]; exact hlt
      · gi_wp2
        refine bodyPost_ret (results_none rfl _ _ _) rfl ?_
        exact ⟨⟨_, rfl⟩, .inr ⟨pre ++ [⟨Lib.ctz 64 r, ctz_lt r hpos hr⟩], ⟨_, (unhide hx2).symm⟩, hJx3⟩⟩

set_option maxHeartbeats 1000000 in
theorem nodes_in (n : Nat) (c : Nat) (w : World) :
    CallsIn Fence.wide n Tryd.prog 42 #[.int .i64 c] w fun e w' => e = .returned (.func (.func 67) #[] #[.pointer (some ⟨w.heap.size, 0, none⟩)]) ∧ w' = w.alloc (.cells #[.int .i64 c] 3) := by
  refine callsIn_of_wp Tryd.func42 rfl trivial ?_ rfl
  simp only [Tryd.ntmps42, List.size_toArray, List.length_cons, List.length_nil, Nat.reduceAdd, Nat.reduceSub, Array.replicate_succ, Array.replicate_zero, List.push_toArray, List.append_toArray, List.nil_append, List.cons_append]
  gi_wp2
  go_ret
  exact ⟨rfl, rfl⟩
theorem nodes_stops (n : Nat) (hn : 1 ≤ n) (Bn n₀ : Nat) (c : Nat) (hc : c ≤ 65535) (w : World) (hBn : Bn < w.heap.size) (hn₀ : n₀ ≤ w.heap.size) (hg : 14 < n₀)
    (hcell : w.cell? ⟨Bn, 0, none⟩ = some (.int .i64 c)) (hT : Go.Proofs.TabAt 14 Lib.deBruijn64tab w) :
    SeqStopsK Fence.wide n Tryd.prog 67 #[.pointer (some ⟨Bn, 0, none⟩)] (fun x : Fin 16 => #[Value.int .i64 ((x.val : Int) + 1)]) (Below n₀) (fun ys => ys = nodesF c) (fun pre => pre <+: nodesF c) (nodesF c).length w := fun l J Jx W hW _ _ hY h0 =>
  nodes1_in n hn l Bn n₀ c hc J Jx hY W ((hW.cell (p := ⟨Bn, 0, none⟩) hBn).trans hcell) hg (fun j hj => (hW.cell (p := ⟨14, j, none⟩) (by show 14 < _; omega)).trans (hT j hj)) h0
end Go.Proofs.YtglhapkclpllfaaDoor
