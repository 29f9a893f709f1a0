/-
  The contract of the document's answer's Signed: a number as a text.
-/
import Derived.Test.YtglhapkclpllfadGreatDoorRefDec
namespace Go.Proofs.YtglhapkclpllfadGreatDoor
open Go.RowKit Go.Shelf

theorem signed_ok (n : Int) (h0 : -9223372036854775807 ≤ n) (h1 : n ≤ 9223372036854775807) (w : World) : Calls Tryz.prog 25 #[.int .i64 n] w fun e w' => ∃ s : ByteArray, e = .returned (.string s) ∧ s.data.toList = Lib.itoa n ∧ Below w.heap.size w w' := by
  by_cases hn : n < 0
  · obtain ⟨k, rfl⟩ : ∃ k : Nat, n = -(k : Int) := ⟨n.natAbs, by omega⟩
    have HD := hide (decimal_ok (k : Int) (by omega) (by omega))
    have HL := hide (itoa_len (k : Int) (by omega) (by omega))
    have HI : Hid (Lib.itoa (-(k : Int)) = 45 :: Lib.itoa (k : Int)) := by
      show _ = _
      rw [Lib.itoa_neg k (by omega), Lib.itoa_nonneg]
    go_enter Tryz.func25, Tryz.ntmps25
    go_wp2_with fail
    refine (unhide HD _).mono ?_
    rintro E w1 ⟨s, rfl, hs, hB⟩
    have hz := size_of hs (unhide HL)
    have Hs := hide hs
    have HB := hide hB
    clear hs hB
    go_wp2_with fail
    go_ret
    exact ⟨_, rfl, by rw [cat_data, unhide Hs, unhide HI]; rfl, unhide HB⟩
  · have HD := hide (decimal_ok n (by omega) (by omega))
    go_enter Tryz.func25, Tryz.ntmps25
    go_wp2_with fail
    refine (unhide HD _).mono ?_
    rintro E w1 ⟨s, rfl, hs, hB⟩
    have Hs := hide hs
    have HB := hide hB
    clear hs hB
    go_wp2_with fail
    go_ret
    exact ⟨_, rfl, unhide Hs, unhide HB⟩
end Go.Proofs.YtglhapkclpllfadGreatDoor
