/-
  The contract of the law text asPairs (pairs, as package mode has them).
-/
import Derived.Test.YtglhapkclpllfadDoorProg
import Derived.Test.YtglhapkclpllfadDoorRecTypes
import Derived.Deep.RegionHeld3
import Derived.Deep.AppendLies
import Derived.OwnWalk
import Derived.KernelRfl
namespace Go.Proofs.YtglhapkclpllfadDoor
open Go.RowKit

theorem Tryd.infoMP : (Tryd.prog.info? 89).map (fun i => (i.zero, i.size, i.bytes)) = some (some (.agg #[.int .i64 0, .int .i64 0]), 2, 16) := by kernel_rfl
theorem prs_snoc (ss : List Pr) (k : Nat) (h : k < ss.length) : ((ss.take (k + 1)).map Pr.cells).flatten = ((ss.take k).map Pr.cells).flatten ++ [.int .i64 (ss.getD k Pr.zero).src, .int .i64 (ss.getD k Pr.zero).dst] := by
  rw [List.take_succ_eq_append_getElem h, List.map_append, List.flatten_append, List.getD_eq_getElem?_getD, List.getElem?_eq_getElem h]
  simp [Pr.cells]
theorem prs_size (ss : List Pr) : ∀ x ∈ ss.map Pr.cells, x.length = 2 := fun x hx => by
  obtain ⟨s, _, rfl⟩ := List.mem_map.1 hx
  rfl
set_option maxRecDepth 100000 in
set_option maxHeartbeats 3200000 in
theorem asPairs_ok (v : Value) (ss : List Pr) (w : World) (hv : PrsIn w v ss) (hl : ss.length ≤ 45) :
    Calls Tryd.prog 30 #[v] w fun e w' => ∃ v', e = .returned v' ∧ PrsIn w' v' ss ∧ Below w.heap.size w w' := by
  have HV := hide hv
  obtain ⟨ad, cap, rfl, hc⟩ := PrsIn.at hv
  have HC := hide hc
  obtain ⟨i0, hi0, hz0, hz1, hz2⟩ := info_parts Tryd.infoMP
  obtain ⟨n, hn⟩ : ∃ n, ss.length = n := ⟨_, rfl⟩
  have Hl : Hid (ss.length = n) := hn
  rw [hn] at hl ⊢
  clear hn hc hv
  go_enter Tryd.func30, Tryd.ntmps30
  go_wp2
  go_loopw [3, 4] (fun o i wr => ∃ (k : Nat) (ov : Value), k ≤ n ∧ i = .int .i64 k ∧ ov = o ∧ Hid (wr.ownsRow w.heap.size 89 2 ov k ((ss.take k).map Pr.cells).flatten) ∧ Hid (Below w.heap.size w wr)) (fun _ i _ => n - (intOf i).toNat)
  case atStart => exact ⟨0, _, by omega, rfl, rfl, World.ownsRow_nil _ _ _ _, Below.refl _ _⟩
  case round =>
    obtain ⟨k, ov, hk, rfl, rfl, HO, HB⟩ := hrel
    by_cases hlt : k < n
    · obtain ⟨b, off, rfl, c0, c1⟩ := unhide HC k (by rw [unhide Hl]; exact hlt)
      have HS := hide (prs_snoc ss k (by rw [unhide Hl]; exact hlt))
      have lb := cell_lt c0
      have lw := (unhide HB).size
      have d0 := below_cell (unhide HB) c0
      have d1 := below_cell (unhide HB) c1
      have hab : ov.ownBlock ≠ some b := fun e => by have := ((unhide HO).lt b e).1; simp at lb; omega
      have h0 : (0 : Int) ≤ (k : Int) := Int.natCast_nonneg _
      have h1 : (k : Int) < (n : Int) := by omega
      clear c0 c1
      generalize (ss.getD k Pr.zero).src = x0 at *
      generalize (ss.getD k Pr.zero).dst = x1 at *
      go_wp2_with fail
      go_region_held3 (fun w' => w'.cell? ⟨b, off + k * 2, none⟩ = some (.int .i64 x0) ∧ w'.cell? ⟨b, off + k * 2 + 1, none⟩ = some (.int .i64 x1))
        (first
          | go_keep
          | (go_split_ands
             refine ⟨?_, ?_⟩
             · (rw [hgrow.cell_far _ (by simp; omega) (Ne.symm hab)]; assumption)
             · (rw [hgrow.cell_far _ (by simp; omega) (Ne.symm hab)]; assumption)))
        ((refine step_append_lies _ (by rfl) _ _ _ (by rfl) w.heap.size 89 i0 _ 2 16 Tryd.underlying63 hi0 hz0 hz1 hz2 rfl (by omega) ov k _ (by rfl) (((unhide HO).alloc _).drew)
            ⟨wr.heap.size, 0, none⟩ 1 1 [.int .i64 x0, .int .i64 x1] (by rfl) (by rfl) (World.news_of_block (cs := #[.int .i64 x0, .int .i64 x1]) (t := 89) (fr := (0, 0)) (heap_alloc_new wr _)) (by simp [Value.oneCell'])
            (by omega) (by unfold maxLen; omega) (by omega) (by simp; omega) (wr.heap.size + 1) (by simp) ?_; intro gg cap' w1 hown1 hgrow hat hlt'))
      go_wp2
      go_roundw
      case rel => exact ⟨k + 1, _, by omega, by go_num, rfl, by
        show World.ownsRow _ _ _ _ _ _ _
        rw [unhide HS]
        exact hown1, ((unhide HB).alloc (unhide HB).size _).drew.grown hgrow (by simp; omega) fun q e => ((unhide HO).lt q e).1⟩
      case measure => simp [intOf]; omega
    · have hkn : k = n := by omega
      subst hkn
      go_wp2
      go_ret
      refine ⟨ov, rfl, RecsIn.of_owns (base := w.heap.size) (e := 89) (prs_size ss) ?_, unhide HB⟩
      have h := unhide HO
      rw [List.take_of_length_le (by rw [unhide Hl]; exact Nat.le_refl _)] at h
      rw [List.length_map, unhide Hl]
      exact h
end Go.Proofs.YtglhapkclpllfadDoor
