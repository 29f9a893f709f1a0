/-
  The contract of crew.nodes: a function value that hands over the nodes of a crew that is right, rising.
  Conditions: math/bits' table lies as laid (TabAt).
-/
import Derived.RangeFuncBox
import Derived.RangeFuncLeaves
import Derived.Shelf.Abstract
import Derived.WalkKit
import Derived.OwnWalkIn
import Derived.TacticsInMore
import Derived.LoopNIn
import Derived.LoopIn
import Derived.Maps.AppendAt
import Derived.Shelf.Spec.TrailingZeros
import Derived.Test.YtglhapkclpllfadGreatDoorGa
namespace Go.Proofs.YtglhapkclpllfadGreatDoor
open Go.RowKit Go.Shelf

attribute [local go_sem] Oper.semAt_some

theorem ctz_fuel : ∀ (f x k : Nat), 0 < x → x < 2 ^ f → Lib.ctzFrom (f + k) x = Lib.ctzFrom f x
  | 0, x, _, h0, h => by simp at h; omega
  | f + 1, x, k, h0, h => by
    have hp : 2 ^ (f + 1) = 2 * 2 ^ f := by rw [Nat.pow_succ]; omega
    rw [show f + 1 + k = (f + k) + 1 by omega]
    unfold Lib.ctzFrom
    split
    · rfl
    · rw [ctz_fuel f (x / 2) k (by omega) (by omega)]
theorem nodes_step (r : Nat) (h0 : 0 < r) (h : r ≤ 65535) : Cm.nodes r = (Lib.ctz 64 r + 1) :: Cm.nodes (r &&& (r - 1)) := by
  have e : Lib.ctz 64 r = Lib.ctzFrom 16 r := by
    unfold Lib.ctz
    rw [if_neg (by omega)]
    exact ctz_fuel 16 r 48 h0 (by omega)
  unfold Cm.nodes
  rw [e, Cm.nl_step 16 0 r h0 (by omega)]
  simp
theorem ctz_lt (r : Nat) (h0 : 0 < r) (h : r ≤ 65535) : Lib.ctz 64 r < 16 := by
  have e : Lib.ctz 64 r = Lib.ctzFrom 16 r := by
    unfold Lib.ctz
    rw [if_neg (by omega)]
    exact ctz_fuel 16 r 48 h0 (by omega)
  rw [e]
  obtain ⟨_, _, h⟩ := Lib.ctzFrom_spec 16 r h0 (by omega)
  exact h

set_option maxHeartbeats 1000000 in
theorem tz64_core (x k idx : Nat) (w : World) (hx0 : ((x : Int) == 0) = false)
    (key : IntKind.u64.wrap (bits BinOp.and IntKind.u64 (x : Int) (IntKind.u64.wrap (-(x : Int))) * 285870213051353865) / 288230376151711744 = (idx : Int))
    (hi : idx < 64) (hk : k < 64) (hcell : w.cell? ⟨19, idx, none⟩ = some (.int .u8 k)) :
    Calls Tryz.prog 93 #[.int .u64 x] w fun e w' => e = .returned (.int .i64 k) ∧ w' = w := by
  go_enter Tryz.func93, Tryz.ntmps93
  go_wp2_with (simp only [key])
  go_ret
  exact ⟨rfl, rfl⟩
theorem tz_ok (x : Nat) (h0 : 0 < x) (hx : x ≤ 65535) (w : World) (hT : Go.Proofs.TabAt 19 Lib.deBruijn64tab w) : Calls Tryz.prog 81 #[.int .u64 x] w fun e w' => e = .returned (.int .i64 (Lib.ctz 64 x)) ∧ w' = w := by
  have h64 : Calls Tryz.prog 93 #[.int .u64 x] w fun e w' => e = .returned (.int .i64 (Lib.ctz 64 x)) ∧ w' = w := by
    obtain ⟨hlow, hk⟩ := Lib.lowest_bit 64 x (by omega) (by omega)
    obtain ⟨hi, htab⟩ := Lib.deBruijn64_at _ hk
    have hcell := hT _ hi
    rw [htab] at hcell
    exact tz64_core x _ _ w (by simp; omega) (tz64_key x _ (by omega) (by omega) hlow) hi hk hcell
  have H := hide h64
  clear h64 hT
  go_enter Tryz.func81, Tryz.ntmps81
  go_wp2_with (go_at_call 93; refine (unhide H).mono ?_; rintro e w' ⟨rfl, rfl⟩)
  go_ret
  exact ⟨rfl, rfl⟩
theorem low_key (r : Nat) (h0 : 0 < r) (h : r ≤ 65535) : bits .and .u64 (r : Int) ((r : Int) - 1) = ((r &&& (r - 1) : Nat) : Int) := by
  rw [show ((r : Int) - 1) = ((r - 1 : Nat) : Int) by omega]
  exact bits_and_u64_nat r (r - 1) (by omega) (by omega)

/-- The nodes as numbers. -/
def ints (l : List Nat) : List Int := l.map fun (n : Nat) => (n : Int)
/-- The nodes as what is handed over: places from 0 on. -/
def nodesF (c : Nat) : List (Fin 16) := (Cm.nodes c).map fun n => ⟨(n - 1) % 16, Nat.mod_lt _ (by omega)⟩
def num (x : Fin 16) : Int := (x.val : Int) + 1
theorem nl_mem : ∀ f p c n, n ∈ Cm.nl f p c → p + 1 ≤ n ∧ n ≤ p + f
  | 0, _, _, _, h => by simp [Cm.nl] at h
  | f + 1, p, c, n, h => by
    unfold Cm.nl at h
    split at h
    · rcases List.mem_cons.1 h with rfl | h
      · omega
      · have := nl_mem f (p + 1) (c / 2) n h; omega
    · have := nl_mem f (p + 1) (c / 2) n h; omega
theorem nodes_mem {c n : Nat} (h : n ∈ Cm.nodes c) : 1 ≤ n ∧ n ≤ 16 := by have := nl_mem 16 0 c n h; omega
theorem nodesF_num (c : Nat) : (nodesF c).map num = ints (Cm.nodes c) := by
  unfold nodesF ints
  rw [List.map_map]
  apply List.map_congr_left
  intro n hn
  have := nodes_mem hn
  simp only [Function.comp, num]
  rw [Nat.mod_eq_of_lt (by omega)]; omega
theorem nodesF_len (c : Nat) : (nodesF c).length ≤ 16 := by
  have := Cm.many_le c
  have := Cm.len_nodes c
  unfold nodesF
  rw [List.length_map]; omega
theorem nodesF_zero : nodesF 0 = [] := by decide
theorem nodesF_step (r : Nat) (h0 : 0 < r) (h : r ≤ 65535) : nodesF r = ⟨Lib.ctz 64 r, ctz_lt r h0 h⟩ :: nodesF (r &&& (r - 1)) := by
  have hlt := ctz_lt r h0 h
  unfold nodesF
  rw [nodes_step r h0 h, List.map_cons]
  congr 1
  apply Fin.ext
  show (Lib.ctz 64 r + 1 - 1) % 16 = Lib.ctz 64 r
  rw [Nat.add_sub_cancel, Nat.mod_eq_of_lt hlt]

end Go.Proofs.YtglhapkclpllfadGreatDoor
