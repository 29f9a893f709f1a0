/-
  The contract of the document's answer SetOf, over whatever MidOf answers.
-/
import Derived.Test.YtglhapkclpllfabDoorRefClock2
namespace Go.Proofs.YtglhapkclpllfabDoor
open Go.RowKit

theorem setOf_far (own : Int) (v : Value) (xs : List Int) (k : Int) (w : World) (hv : IntsIn w v xs) (h : ¬ isT own) :
    Calls Tryd.prog 14 #[.int .i64 own, v, .int .i64 k] w fun e w' => e = .returned (.tuple #[.int .i64 0, .agg #[.int .i64 2, .int .i64 (-1)]]) ∧ Below w.heap.size w w' := by
  obtain ⟨ad, cap, rfl, _⟩ := hv
  have HF := hide h
  clear h
  go_enter Tryd.func14, Tryd.ntmps14
  go_wp2_with (go_at_call 32; refine (isFar_yes own _ (unhide HF)).mono ?_; rintro e W1 ⟨rfl, rfl⟩)
  refine (bare_ok 2 _).mono ?_
  rintro e w2 ⟨rfl, hB2⟩
  obtain ⟨hc0, hc1, hf0, hf1, hB⟩ := res_cells hB2
  have HB := hide hB
  clear hB2 hB
  go_wp2
  exact bodyPost_ret (v := .tuple #[.int .i64 0, .agg #[.int .i64 2, .int .i64 (-1)]]) (by simp [results, Tryd.results14, go_sem, hc0, hc1]) rfl ⟨rfl, below_res (unhide HB) _ _⟩
theorem setOf_err (own : Int) (v : Value) (xs : List Int) (k c n : Int) (w : World) (hv : IntsIn w v xs) (h : isT own) (hc : 0 < c)
    (hM : ∀ w', IntsIn w' v xs → Calls Tryd.prog 11 #[v, .int .i64 k] w' fun e w2 => e = .returned (.tuple #[.int .i64 0, .agg #[.int .i64 c, .int .i64 n]]) ∧ Below w'.heap.size w' w2) :
    Calls Tryd.prog 14 #[.int .i64 own, v, .int .i64 k] w fun e w' => e = .returned (.tuple #[.int .i64 0, .agg #[.int .i64 c, .int .i64 n]]) ∧ Below w.heap.size w w' := by
  have HP := hide (hM _ (hv.below ((Below.refl _ _).alloc (Nat.le_refl _) (.cells #[.int .i64 0, .int .i64 0] 32))))
  obtain ⟨ad, cap, rfl, _⟩ := hv
  have HF := hide h
  clear h hM
  go_enter Tryd.func14, Tryd.ntmps14
  go_wp2_with (go_at_call 32; refine (isFar_no own _ (unhide HF)).mono ?_; rintro e W1 ⟨rfl, rfl⟩)
  refine (unhide HP).mono ?_
  rintro e w2 ⟨rfl, hB2⟩
  obtain ⟨hc0, hc1, hf0, hf1, hB⟩ := res_alloc hB2 (.cells #[.int .i64 c, .int .i64 n] 32)
  have HB := hide hB
  clear hB2 hB
  go_wp2
  go_region
  all_goals (try go_wp2)
  exact bodyPost_ret (v := .tuple #[.int .i64 0, .agg #[.int .i64 c, .int .i64 n]]) (by simp [results, Tryd.results14, go_sem, hc0, hc1]) rfl ⟨rfl, (below_res (unhide HB) _ _).drew⟩
theorem setOf_ok (own : Int) (v : Value) (xs : List Int) (k md : Int) (w : World) (hv : IntsIn w v xs) (h : isT own) (hd : isT md)
    (hM : ∀ w', IntsIn w' v xs → Calls Tryd.prog 11 #[v, .int .i64 k] w' fun e w2 => e = .returned (.tuple #[.int .i64 md, .agg #[.int .i64 0, .int .i64 (-1)]]) ∧ Below w'.heap.size w' w2) :
    Calls Tryd.prog 14 #[.int .i64 own, v, .int .i64 k] w fun e w' => e = .returned (.tuple #[.int .i64 (md - own), .agg #[.int .i64 0, .int .i64 (-1)]]) ∧ Below w.heap.size w w' := by
  have HP := hide (hM _ (hv.below ((Below.refl _ _).alloc (Nat.le_refl _) (.cells #[.int .i64 0, .int .i64 0] 32))))
  obtain ⟨ad, cap, rfl, _⟩ := hv
  have HF := hide h
  have t1 := h.1
  have t2 := h.2
  have t3 := hd.1
  have t4 := hd.2
  clear h hM hd
  go_enter Tryd.func14, Tryd.ntmps14
  go_wp2_with (go_at_call 32; refine (isFar_no own _ (unhide HF)).mono ?_; rintro e W1 ⟨rfl, rfl⟩)
  refine (unhide HP).mono ?_
  rintro e w2 ⟨rfl, hB2⟩
  obtain ⟨hc0, hc1, hf0, hf1, hB⟩ := res_alloc hB2 (.cells #[.int .i64 0, .int .i64 (-1)] 32)
  have HB := hide hB
  clear hB2 hB
  go_wp2
  go_region
  all_goals (try go_wp2)
  all_goals exact bodyPost_ret (v := .tuple #[.int .i64 (md - own), .agg #[.int .i64 0, .int .i64 (-1)]]) (by simp [results, Tryd.results14, go_sem, hc0, hc1]) rfl ⟨rfl, (below_res (unhide HB) _ _).drew⟩
end Go.Proofs.YtglhapkclpllfabDoor
