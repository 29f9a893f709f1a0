/-
  Contracts of the law texts asSent (what is sent, as package bus has it) and longSent.
-/
import Derived.Test.YtglhapkclpllfacDoorProg
import Derived.Test.YtglhapkclpllfacDoorRecTypes
import Derived.Deep.RegionHeld3
import Derived.Deep.AppendLies
import Derived.OwnWalk
import Derived.KernelRfl
namespace Go.Proofs.YtglhapkclpllfacDoor
open Go.RowKit

theorem Tryd.infoBS : (Tryd.prog.info? 63).map (fun i => (i.zero, i.size, i.bytes)) = some (some (.agg #[.int .i64 0, .int .i64 0, .string ⟨#[]⟩]), 3, 32) := by kernel_rfl
theorem snts_snoc (ss : List Snt) (k : Nat) (h : k < ss.length) : ((ss.take (k + 1)).map Snt.cells).flatten = ((ss.take k).map Snt.cells).flatten ++ [.int .i64 (ss.getD k Snt.zero).node, .int .i64 (ss.getD k Snt.zero).tick, .string (ss.getD k Snt.zero).text] := by
  rw [List.take_succ_eq_append_getElem h, List.map_append, List.flatten_append, List.getD_eq_getElem?_getD, List.getElem?_eq_getElem h]
  simp [Snt.cells]
theorem snts_size (ss : List Snt) : ∀ x ∈ ss.map Snt.cells, x.length = 3 := fun x hx => by
  obtain ⟨s, _, rfl⟩ := List.mem_map.1 hx
  rfl
set_option maxRecDepth 100000 in
set_option maxHeartbeats 3200000 in
theorem asSent_ok (v : Value) (ss : List Snt) (w : World) (hv : SntsIn w v ss) (hl : ss.length ≤ 45) :
    Calls Tryd.prog 11 #[v] w fun e w' => ∃ v', e = .returned v' ∧ SntsIn w' v' ss ∧ Below w.heap.size w w' := by
  have HV := hide hv
  obtain ⟨ad, cap, rfl, hc⟩ := SntsIn.at hv
  have HC := hide hc
  obtain ⟨i0, hi0, hz0, hz1, hz2⟩ := info_parts Tryd.infoBS
  obtain ⟨n, hn⟩ : ∃ n, ss.length = n := ⟨_, rfl⟩
  have Hl : Hid (ss.length = n) := hn
  rw [hn] at hl ⊢
  clear hn hc hv
  go_enter Tryd.func11, Tryd.ntmps11
  go_wp2
  go_loopw [3, 4] (fun o i wr => ∃ (k : Nat) (ov : Value), k ≤ n ∧ i = .int .i64 k ∧ ov = o ∧ Hid (wr.ownsRow w.heap.size 63 3 ov k ((ss.take k).map Snt.cells).flatten) ∧ Hid (Below w.heap.size w wr)) (fun _ i _ => n - (intOf i).toNat)
  case atStart => exact ⟨0, _, by omega, rfl, rfl, World.ownsRow_nil _ _ _ _, Below.refl _ _⟩
  case round =>
    obtain ⟨k, ov, hk, rfl, rfl, HO, HB⟩ := hrel
    by_cases hlt : k < n
    · obtain ⟨b, off, rfl, c0, c1, c2⟩ := unhide HC k (by rw [unhide Hl]; exact hlt)
      have HS := hide (snts_snoc ss k (by rw [unhide Hl]; exact hlt))
      have lb := cell_lt c0
      have lw := (unhide HB).size
      have d0 := below_cell (unhide HB) c0
      have d1 := below_cell (unhide HB) c1
      have d2 := below_cell (unhide HB) c2
      have hab : ov.ownBlock ≠ some b := fun e => by have := ((unhide HO).lt b e).1; simp at lb; omega
      have h0 : (0 : Int) ≤ (k : Int) := Int.natCast_nonneg _
      have h1 : (k : Int) < (n : Int) := by omega
      clear c0 c1 c2
      generalize (ss.getD k Snt.zero).node = x0 at *
      generalize (ss.getD k Snt.zero).tick = x1 at *
      generalize (ss.getD k Snt.zero).text = x2 at *
      go_wp2_with fail
      go_region_held3 (fun w' => w'.cell? ⟨b, off + k * 3, none⟩ = some (.int .i64 x0) ∧ w'.cell? ⟨b, off + k * 3 + 1, none⟩ = some (.int .i64 x1) ∧ w'.cell? ⟨b, off + k * 3 + 2, none⟩ = some (.string x2))
        (first
          | go_keep
          | (go_split_ands
             refine ⟨?_, ?_, ?_⟩
             · (rw [hgrow.cell_far _ (by simp; omega) (Ne.symm hab)]; assumption)
             · (rw [hgrow.cell_far _ (by simp; omega) (Ne.symm hab)]; assumption)
             · (rw [hgrow.cell_far _ (by simp; omega) (Ne.symm hab)]; assumption)))
        ((refine step_append_lies _ (by rfl) _ _ _ (by rfl) w.heap.size 63 i0 _ 3 32 Tryd.underlying31 hi0 hz0 hz1 hz2 rfl (by omega) ov k _ (by rfl) (((unhide HO).alloc _).drew)
            ⟨wr.heap.size, 0, none⟩ 1 1 [.int .i64 x0, .int .i64 x1, .string x2] (by rfl) (by rfl) (World.news_of_block (cs := #[.int .i64 x0, .int .i64 x1, .string x2]) (t := 63) (fr := (0, 0)) (heap_alloc_new wr _)) (by simp [Value.oneCell'])
            (by omega) (by unfold maxLen; omega) (by omega) (by simp; omega) (wr.heap.size + 1) (by simp) ?_; intro gg cap' w1 hown1 hgrow hat hlt'))
      go_wp2
      go_roundw
      case rel => exact ⟨k + 1, _, by omega, by go_num, rfl, by
        show World.ownsRow _ _ _ _ _ _ _
        rw [unhide HS]
        exact hown1, ((unhide HB).alloc (unhide HB).size _).drew.grown hgrow (by simp; omega) fun q e => ((unhide HO).lt q e).1⟩
      case measure => simp [intOf]; omega
    · have hkn : k = n := by omega
      subst hkn
      go_wp2
      go_ret
      refine ⟨ov, rfl, RecsIn.of_owns (base := w.heap.size) (e := 63) (snts_size ss) ?_, unhide HB⟩
      have h := unhide HO
      rw [List.take_of_length_le (by rw [unhide Hl]; exact Nat.le_refl _)] at h
      rw [List.length_map, unhide Hl]
      exact h
/-- Is one of the first so many texts too long? -/
def longS (ss : List Snt) : Bool := decide (45 < ss.length) || ss.any fun s => decide (120 < s.text.size)
theorem longSent_ok (v : Value) (ss : List Snt) (w : World) (hv : SntsIn w v ss) (hs : ∀ s ∈ ss, s.ok) :
    Calls Tryd.prog 9 #[v] w fun e w' => e = .returned (.bool (longS ss)) ∧ w' = w := by
  obtain ⟨ad, cap, rfl, hc⟩ := SntsIn.at hv
  have HC := hide hc
  by_cases h45 : 45 < ss.length
  · have : longS ss = true := by unfold longS; simp [h45]
    rw [this]
    clear hv hc
    go_enter Tryd.func9, Tryd.ntmps9
    go_wp2
    go_ret
    exact ⟨rfl, rfl⟩
  · obtain ⟨m, hm1, hm2, hm3⟩ := first_idx (fun i => decide (120 < (ss.getD i Snt.zero).text.size)) ss.length
    have hA := any_idx ss Snt.zero (fun s => decide (120 < s.text.size)) hm1 hm2 hm3
    have hL : longS ss = decide (m < ss.length) := by unfold longS; rw [hA, decide_eq_false h45]; rfl
    rw [hL]
    have hsz : ∀ k, k < ss.length → (ss.getD k Snt.zero).text.size ≤ maxLen := fun k hk => by
      rw [List.getD_eq_getElem?_getD, List.getElem?_eq_getElem hk]
      exact (hs _ (List.getElem_mem hk)).2.2
    have HZ := hide hsz
    have H2 := hide hm2
    have H3 := hide hm3
    obtain ⟨n, hn⟩ : ∃ n, ss.length = n := ⟨_, rfl⟩
    rw [hn] at hm1 h45 HC H3 HZ ⊢
    have h45' : ¬ (45 : Int) < (n : Int) := by omega
    clear hv hc hm2 hm3 hA hL hsz hn hs
    go_enter Tryd.func9, Tryd.ntmps9
    go_wp2
    go_loop [3] (fun i => ∃ k : Nat, k ≤ m ∧ i = .int .i64 k) (fun i => n - (intOf i).toNat)
    case atStart => exact ⟨0, by omega, rfl⟩
    case round =>
      obtain ⟨k, hk, rfl⟩ := hrel
      by_cases hlt : k < n
      · obtain ⟨b, off, rfl, _, _, c2⟩ := unhide HC k hlt
        have hz := unhide HZ k hlt
        have H2k : Hid (k < m → decide (120 < (ss.getD k Snt.zero).text.size) = false) := fun h => unhide H2 k h
        have H3k : Hid (k = m → decide (120 < (ss.getD k Snt.zero).text.size) = true) := fun h => by subst h; exact unhide H3 hlt
        generalize (ss.getD k Snt.zero).text = x at *
        unfold maxLen at hz
        by_cases hkm : k < m
        · have h1 : ¬ (120 : Int) < (x.size : Int) := by have := of_decide_eq_false (unhide H2k hkm); omega
          go_wp2
          go_round
          case rel => exact ⟨k + 1, by omega, by go_num⟩
          case measure => simp [intOf]; omega
        · have hkm' : k = m := by omega
          have h1 : (120 : Int) < (x.size : Int) := by have := of_decide_eq_true (unhide H3k hkm'); omega
          subst hkm'
          go_wp2
          go_ret
          exact ⟨ret_bool (by simp), rfl⟩
      · have hkm : k = m := by omega
        subst hkm
        go_wp2
        go_ret
        exact ⟨ret_bool (by simp), rfl⟩
end Go.Proofs.YtglhapkclpllfacDoor
