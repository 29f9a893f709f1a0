/-
  The contract of the document's answer, chapter 9: ReadHistory.
-/
import Derived.Test.YtglhapkclpllfadGreatDoorRefFold2
import Derived.Test.YtglhapkclpllfadGreatDoorGf
import Derived.Test.YtglhapkclpllfadGreatDoorRefHist2
import Derived.Test.YtglhapkclpllfadGreatDoorRef5
import Derived.Test.YtglhapkclpllfadGreatDoorGo
import Derived.Test.YtglhapkclpllfadGreatDoorAppendOn
import Derived.Deep.AppendLies
namespace Go.Proofs.YtglhapkclpllfadGreatDoor
open Go.RowKit Go.Shelf Go.Deep

theorem res_two {w : World} : Own2 (w.alloc (.cells #[.int .i64 0, .int .i64 0] 25)) w.heap.size (.int .i64 0) (.int .i64 0) := Own2.new _ _ _ _
theorem readHist_long (s : ByteArray) (h : 4000 < s.size) (w : World) :
    Calls Tryz.prog 15 #[.string s] w fun e w' => e = .returned (.tuple #[.slice none 0 0, .agg #[.int .i64 2, .int .i64 (-1)]]) ∧ Below w.heap.size w w' := by
  have h' : (4000 : Int) < (s.size : Int) := by omega
  have hA : Below w.heap.size w (w.alloc (.cells #[.int .i64 0, .int .i64 0] 25)) := (Below.refl _ _).alloc (Nat.le_refl _) _
  have HA := hide hA
  have HO := hide (res_two (w := w))
  clear h hA
  go_enter Tryz.func15, Tryz.ntmps15
  go_wp2_with fail
  refine (bare_ok 2 _).mono ?_
  rintro e w2 ⟨rfl, hB⟩
  obtain ⟨c0, c1, g0, g1⟩ := (unhide HO).below hB
  have HB := hide ((unhide HA).trans (hB.mono (unhide HA).size))
  clear hB
  go_wp2
  exact bodyPost_ret (v := .tuple #[.slice none 0 0, .agg #[.int .i64 2, .int .i64 (-1)]]) (by simp [results, Tryz.results15, go_sem, *]) rfl ⟨rfl, below_res (unhide HB) _ _⟩
theorem readHist_dash (w : World) :
    Calls Tryz.prog 15 #[.string ⟨#[45]⟩] w fun e w' => e = .returned (.tuple #[.slice none 0 0, .agg #[.int .i64 0, .int .i64 (-1)]]) ∧ Below w.heap.size w w' := by
  have hA : Below w.heap.size w (w.alloc (.cells #[.int .i64 0, .int .i64 0] 25)) := (Below.refl _ _).alloc (Nat.le_refl _) _
  have HA := hide hA
  have HO := hide (res_two (w := w))
  clear hA
  go_enter Tryz.func15, Tryz.ntmps15
  go_wp2_with fail
  refine (fine_ok _).mono ?_
  rintro e w2 ⟨rfl, hB⟩
  obtain ⟨c0, c1, g0, g1⟩ := (unhide HO).below hB
  have HB := hide ((unhide HA).trans (hB.mono (unhide HA).size))
  clear hB
  go_wp2
  exact bodyPost_ret (v := .tuple #[.slice none 0 0, .agg #[.int .i64 0, .int .i64 (-1)]]) (by simp [results, Tryz.results15, go_sem, *]) rfl ⟨rfl, below_res (unhide HB) _ _⟩
end Go.Proofs.YtglhapkclpllfadGreatDoor
