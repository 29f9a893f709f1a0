/-
  Contracts of the library's calls on histories that package delta makes: slices.Clone, slices.Grow of nil, slices.Concat of two.
-/
import Derived.Test.YtglhapkclpllfadDoorProg
import Derived.Test.YtglhapkclpllfadDoorAppendEnts
import Derived.Laws.OwnMore
import Derived.Lib.AppendZeros
import Derived.Lib.SliceRun
namespace Go.Proofs.YtglhapkclpllfadDoor
open Go.RowKit

theorem Tryd.infoENL : (Tryd.prog.info? 49).map (fun i => (i.zero, i.size, i.bytes)) = some (some entZero, 4, 32) := by kernel_rfl
theorem ents_rowL {W : World} {base : Nat} {v : Value} {ys : List Ent} (h : W.ownsRow base 49 4 v ys.length (ys.map Ent.cells).flatten) : EntsIn W v ys :=
  RecsIn.of_owns (base := base) (e := 49) (size := 4) (xs := ys.map Ent.cells) (fun y hy => by
    obtain ⟨z, _, rfl⟩ := List.mem_map.1 hy
    rfl) (by rw [List.length_map]; exact h)
theorem own_formL {W : World} {base : Nat} {e : TypeId} {s n : Nat} {v : Value} {xs : List Value} (h : W.ownsRow base e s v n xs) : ∃ ad cap, v = .slice ad n cap := by
  rcases h.2 with ⟨rfl, h0⟩ | ⟨g, cap, cur, rfl, _⟩
  · exact ⟨_, _, by rw [h0]⟩
  · exact ⟨_, _, rfl⟩
theorem ents_none {w : World} {cap n : Nat} {l : List Ent} (h : EntsIn w (.slice none n cap) l) : l = [] := by
  obtain ⟨ad, cap', e, hc⟩ := EntsIn.at h
  cases l with
  | nil => rfl
  | cons x l =>
    obtain ⟨b, off, e2, _⟩ := hc 0 (by simp)
    rw [e2] at e
    cases e
set_option maxRecDepth 100000 in
theorem clone_ents (v : Value) (l : List Ent) (w : World) (hv : EntsIn w v l) (hl : l.length ≤ 1000000) :
    Calls Tryd.prog 44 #[v] w fun r w' => ∃ o, r = .returned o ∧ EntsIn w' o l ∧ Below w.heap.size w w' := by
  have qnil : ∀ (w : World) (a : Option Addr) (n c n' c' : Nat), (binOp .eql 22 (.slice a n c) (.slice none n' c')).run Tryd.prog w = .ok (.bool a.isNone) w := fun w a n c n' c' => Lib.run_eql_slice_nil w _ _ a n c n' c' Tryd.underlying22
  obtain ⟨i0, hi0, hz0, hz1, hz2⟩ := info_parts Tryd.infoENL
  have hv0 := hv
  obtain ⟨ad, cap, rfl, _⟩ := EntsIn.at hv
  cases ad with
  | none =>
    obtain rfl := ents_none hv
    clear hv hv0
    go_enter Tryd.func44, Tryd.ntmps44
    go_wp2
    go_ret
    exact ⟨_, rfl, ⟨_, 0, rfl, by simp, fun k hk => absurd hk (by simp)⟩, Below.refl _ _⟩
  | some a =>
    have HA := hide (show Below w.heap.size w (w.alloc (.cells #[] 49)) from (Below.refl _ _).alloc (Nat.le_refl _) _)
    have HV := hide (hv.below (unhide HA))
    clear hv hv0
    go_enter Tryd.func44, Tryd.ntmps44
    go_wp2_with (at_builtin; refine wpList_append_ents rfl _ _ 22 rfl 49 i0 Tryd.underlying22 hi0 hz0 hz1 hz2 w.heap.size (by simp) (.slice (some ⟨w.heap.size, 0, none⟩) 0 0) [] rfl (World.ownsRow_made w #[] 0 (Nat.le_refl _) (Nat.zero_le _) rfl) (.slice (some a) l.length cap) l rfl (unhide HV) (by simp; omega) ?_; intro v6 w6 hown6 hB6; have HOwn6 := hide hown6; have HB6 := hide hB6; clear hown6 hB6)
    go_wp2
    go_ret
    exact ⟨_, rfl, ents_rowL (base := w.heap.size) (by simpa using unhide HOwn6), (unhide HA).trans ((unhide HB6).mono (by simp))⟩
set_option maxRecDepth 100000 in
theorem grow_ents (n : Nat) (w : World) (hn : n ≤ 1000000) :
    Calls Tryd.prog 56 #[.slice none 0 0, .int .i64 (n : Int)] w fun r w' => ∃ o, r = .returned o ∧ w'.ownsRow w.heap.size 49 4 o 0 [] ∧ Below w.heap.size w w' := by
  obtain ⟨i0, hi0, hz0, hz1, hz2⟩ := info_parts Tryd.infoENL
  have h1 : ¬ ((n : Int) < 0) := by omega
  by_cases h0 : n = 0
  · subst h0
    go_enter Tryd.func56, Tryd.ntmps56
    go_wp2
    go_ret
    exact ⟨_, rfl, World.ownsRow_nil _ _ _ _, Below.refl _ _⟩
  · have h4 : (0 : Int) < (n : Int) := by omega
    have hge := grownCap_ge w n 0 49
    have hle := grownCap_le_maxLen w n 0 49 (by unfold maxLen; omega)
    have hrz : ∀ ty, (Builtin.append_ #[22, 3] ty #[.slice none 0 0, .int .i64 (n : Int)]).run Tryd.prog w = _ := fun ty => Lib.run_append_nil_zeros w 22 3 ty 49 i0 entZero .i64 .i64 Tryd.underlying22 Tryd.underlying3 hi0 hz0 n (by omega) (by omega) (by omega) (by rw [hz2]; omega)
    have hsz : (Builtin.zeroCells entZero.cells n ++ Builtin.zeroCells entZero.cells (grownCap w n 0 49 - n)).size = grownCap w n 0 49 * 4 := by
      rw [Array.size_append, size_zeroCells, size_zeroCells]
      show n * 4 + (grownCap w n 0 49 - n) * 4 = _
      omega
    generalize Builtin.zeroCells entZero.cells n ++ Builtin.zeroCells entZero.cells (grownCap w n 0 49 - n) = cur at *
    generalize grownCap w n 0 49 = G at *
    have hG : G ≤ 9223372036854775807 := by unfold maxLen at hle; omega
    have HO := hide (show (w.drew.alloc (.cells cur 49)).ownsRow w.heap.size 49 4 (.slice (some ⟨w.heap.size, 0, none⟩) 0 G) 0 [] from World.ownsRow_made w.drew cur G (Nat.le_refl _) hle hsz)
    have HB := hide (show Below w.heap.size w (w.drew.alloc (.cells cur 49)) from (Below.refl _ _).drew.alloc (Nat.le_refl _) _)
    clear hle hsz
    go_enter Tryd.func56, Tryd.ntmps56
    go_wp2_with (at_builtin; refine Lib.wpList_append_run _ rfl _ _ _ _ rfl _ _ rfl rfl _ _ (hrz _) ?_)
    go_ret
    exact ⟨_, rfl, unhide HO, unhide HB⟩
set_option maxRecDepth 100000 in
/-- Both, one behind the other, in a row of the call's own. -/
theorem concat_ents (v vm : Value) (l m : List Ent) (g : Nat) (w : World) (c0 : w.cell? ⟨g, 0, none⟩ = some v) (c1 : w.cell? ⟨g, 0 + 1, none⟩ = some vm) (hv : EntsIn w v l) (hm : EntsIn w vm m) (hl : l.length + m.length ≤ 100000) :
    Calls Tryd.prog 45 #[.slice (some ⟨g, 0, none⟩) 2 2] w fun r w' => ∃ o, r = .returned o ∧ EntsIn w' o (l ++ m) ∧ Below w.heap.size w w' := by
  obtain ⟨i0, hi0, hz0, hz1, hz2⟩ := info_parts Tryd.infoENL
  have hg : g < w.heap.size := cell_lt c0
  have HV := hide hv
  have HM := hide hm
  obtain ⟨ad, cap, rfl, _⟩ := EntsIn.at hv
  obtain ⟨adm, capm, rfl, _⟩ := EntsIn.at hm
  obtain ⟨n, hn⟩ : ∃ n, l.length = n := ⟨_, rfl⟩
  obtain ⟨k, hk⟩ : ∃ k, m.length = k := ⟨_, rfl⟩
  rw [hn] at c0 hl HV
  rw [hk] at c1 hl HM
  have Hn := hide hn
  have Hk := hide hk
  have HC0 := hide c0
  have HC1 := hide c1
  have HG := hide (grow_ents (n + k) w (by omega))
  clear hv hm hn hk
  go_enter Tryd.func45, Tryd.ntmps45
  go_wp2_with fail
  go_loopw [3, 11] (fun s q wr => wr = w ∧ ((q = .int .i64 0 ∧ s = .int .i64 0) ∨ (q = .int .i64 1 ∧ s = .int .i64 (n : Int)) ∨ (q = .int .i64 2 ∧ s = .int .i64 ((n : Int) + (k : Int))))) (fun _ q _ => 2 - (intOf q).toNat)
  case atStart => exact ⟨rfl, Or.inl ⟨rfl, rfl⟩⟩
  case round =>
    obtain ⟨e, ⟨rfl, rfl⟩ | ⟨rfl, rfl⟩ | ⟨rfl, rfl⟩⟩ := hrel
    all_goals (replace e := e.symm; subst e)
    · have q1 : ¬ ((n : Int) < 0) := by omega
      have q2 : wrap64 (0 + (n : Int)) = (n : Int) := by unfold wrap64; omega
      go_wp2
      go_roundw
      case rel => exact ⟨trivial, Or.inr (Or.inl ⟨by go_num, rfl⟩)⟩
      case measure => simp [intOf]
    · have q1 : ¬ ((n : Int) + (k : Int) < 0) := by omega
      go_wp2
      go_roundw
      case rel => exact ⟨trivial, Or.inr (Or.inr ⟨by go_num, rfl⟩)⟩
      case measure => simp [intOf]
    · go_wp2_with fail
      refine (unhide HG).mono ?_
      rintro r w2 ⟨o, rfl, hown, hB⟩
      have HOwn := hide hown
      have HB := hide hB
      clear hown hB c0 c1
      go_wp2_with fail
      go_loopw [6, 27] (fun o q wx => Hid (Below w.heap.size w wx) ∧ ((q = .int .i64 0 ∧ Hid (wx.ownsRow w.heap.size 49 4 o 0 [])) ∨ (q = .int .i64 1 ∧ Hid (wx.ownsRow w.heap.size 49 4 o n (l.map Ent.cells).flatten)) ∨ (q = .int .i64 2 ∧ Hid (wx.ownsRow w.heap.size 49 4 o (n + k) ((l ++ m).map Ent.cells).flatten)))) (fun _ q _ => 2 - (intOf q).toNat)
      case atStart => exact ⟨unhide HB, Or.inl ⟨rfl, unhide HOwn⟩⟩
      case round =>
        obtain ⟨HB3, ⟨rfl, HO3⟩ | ⟨rfl, HO3⟩ | ⟨rfl, HO3⟩⟩ := hrel
        · have d0 := below_cell (unhide HB3) (unhide HC0)
          have HV3 := hide ((unhide HV).below (unhide HB3))
          obtain ⟨ad9, cap9, rfl⟩ := own_formL (unhide HO3)
          go_wp2_with (at_builtin; refine wpList_append_ents rfl _ _ 22 rfl 49 i0 Tryd.underlying22 hi0 hz0 hz1 hz2 w.heap.size (unhide HB3).size (.slice ad9 0 cap9) [] rfl (unhide HO3) (.slice ad n cap) l rfl (unhide HV3) (by have := unhide Hn; simp; omega) ?_; intro v6 w6 hown6 hB6; have HOwn6 : Hid (w6.ownsRow w.heap.size 49 4 v6 n (l.map Ent.cells).flatten) := (by rw [List.nil_append, unhide Hn] at hown6; exact hown6); have HB6 := hide ((unhide HB3).trans hB6); clear hown6 hB6)
          go_roundw
          case rel => exact ⟨unhide HB6, Or.inr (Or.inl ⟨by go_num, unhide HOwn6⟩)⟩
          case measure => simp [intOf]
        · have d0 := below_cell (unhide HB3) (unhide HC1)
          have HV3 := hide ((unhide HM).below (unhide HB3))
          obtain ⟨ad9, cap9, rfl⟩ := own_formL (unhide HO3)
          go_wp2_with (at_builtin; refine wpList_append_ents rfl _ _ 22 rfl 49 i0 Tryd.underlying22 hi0 hz0 hz1 hz2 w.heap.size (unhide HB3).size (.slice ad9 n cap9) l rfl (by rw [unhide Hn]; exact unhide HO3) (.slice adm k capm) m rfl (unhide HV3) (by have := unhide Hn; have := unhide Hk; omega) ?_; intro v6 w6 hown6 hB6; have HOwn6 : Hid (w6.ownsRow w.heap.size 49 4 v6 (n + k) ((l ++ m).map Ent.cells).flatten) := (by rw [List.length_append, unhide Hn, unhide Hk] at hown6; exact hown6); have HB6 := hide ((unhide HB3).trans hB6); clear hown6 hB6)
          go_roundw
          case rel => exact ⟨unhide HB6, Or.inr (Or.inr ⟨by go_num, unhide HOwn6⟩)⟩
          case measure => simp [intOf]
        · go_wp2
          go_ret
          exact ⟨_, rfl, ents_rowL (base := w.heap.size) (by rw [List.length_append, unhide Hn, unhide Hk]; exact unhide HO3), unhide HB3⟩
end Go.Proofs.YtglhapkclpllfadDoor
