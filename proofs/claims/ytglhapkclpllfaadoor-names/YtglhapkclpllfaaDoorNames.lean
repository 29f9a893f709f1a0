/-
  The walk of the law Names: the numbers of package api, and those of its errors, are those of the document: it answers true, and nothing that was in memory has turned.
  Conditions: the sentinels lie as laid (structure Sent).
-/
import Derived.Test.YtglhapkclpllfaaDoorCode
import Derived.Test.YtglhapkclpllfaaDoorSame
import Derived.Outline
namespace Go.Proofs.YtglhapkclpllfaaDoor
open Go.RowKit

theorem coded_nil (w : World) : Calls Tryd.prog 10 #[.nilIface, .int .i64 0] w fun e w' => e = .returned (.bool true) ∧ w' = w := by
  go_enter Tryd.func10, Tryd.ntmps10
  go_wp2_with (go_at_call 9; refine (code_nil _).mono ?_; rintro e w' ⟨rfl, rfl⟩)
  go_ret
  exact ⟨rfl, rfl⟩
theorem coded_es (a : Nat → Addr) (k : Nat) (hk : k < 11) (w : World) (S : Sent a w) :
    Calls Tryd.prog 10 #[.iface 73 (.pointer (some (a k))), .int .i64 ((k : Int) + 1)] w fun e w' => e = .returned (.bool true) ∧ Below w.heap.size w w' := by
  obtain ⟨cb, tb, hb⟩ := S.row k hk
  have HS := hide S
  have HB := hide hb
  clear S hb
  go_enter Tryd.func10, Tryd.ntmps10
  go_wp2_with (go_at_call 9; refine (code_es a (a k) cb tb w (unhide HS) (unhide HB)).mono ?_; rintro e w' ⟨c, rfl, hc, hB⟩; obtain rfl := codeIs_at (unhide HS) hk hc)
  go_ret
  exact ⟨rfl, hB⟩
def nums : List Int := [16, 32, 1000000, 1048576, 4, 200, 4000, 262144, 80, 16]
def numsRow : Array Value := #[.int .i64 16, .int .i64 32, .int .i64 1000000, .int .i64 1048576, .int .i64 4, .int .i64 200, .int .i64 4000, .int .i64 262144, .int .i64 80, .int .i64 16]
theorem nums_at (w : World) : IntsAt ((w.alloc (.cells numsRow 3)).alloc (.cells numsRow 3)) (.slice (some ⟨w.heap.size, 0, none⟩) 10 10) nums ∧ IntsAt ((w.alloc (.cells numsRow 3)).alloc (.cells numsRow 3)) (.slice (some ⟨w.heap.size + 1, 0, none⟩) 10 10) nums :=
  ⟨IntsAt.below (Or.inr ⟨w.heap.size, 0, 10, rfl, ints_new w nums 3 numsRow _ rfl rfl⟩) ((Below.refl _ _).alloc (Nat.le_refl _) _),
   Or.inr ⟨w.heap.size + 1, 0, 10, rfl, ints_new (w.alloc (.cells numsRow 3)) nums 3 numsRow _ rfl (by simp)⟩⟩
theorem new_es (s : ByteArray) (w : World) : Calls Tryd.prog 11 #[.string s] w fun e w' => e = .returned (.iface 73 (.pointer (some ⟨w.heap.size, 0, none⟩))) ∧ w' = w.alloc (.cells #[.string s] 75) := by
  go_enter Tryd.func11, Tryd.ntmps11
  go_wp2
  go_ret
  exact ⟨rfl, rfl⟩
theorem heap_new (w : World) (o : Obj) : (w.alloc o).heap[w.heap.size]? = some o := by
  show (w.heap.push o)[w.heap.size]? = _
  simp
set_option maxHeartbeats 1000000 in
theorem names_walk (a : Nat → Addr) (w : World) (S : Sent a w) : Calls Tryd.prog 3 #[] w fun e w' => e = .returned (.bool true) ∧ Below w.heap.size w w' := by
  have HS := hide S
  clear S
  have Hn := hide (nums_at w)
  go_enter Tryd.func3, Tryd.ntmps3
  go_wp2_with fail
  refine (same_ints _ _ nums nums _ (unhide Hn).1 (unhide Hn).2 (by decide)).mono ?_
  rintro e w1 ⟨rfl, n1, hw1⟩
  have hB1 : Below w.heap.size w w1 := by
    rw [hw1]
    exact below_draw (((Below.refl _ _).alloc (Nat.le_refl _) _).alloc (by simp) _) n1
  clear hw1 Hn
  have e1 : (nums == nums) = true := by decide
  rw [e1]
  have S1 := (unhide HS).below hB1
  have HS1 := hide S1
  obtain ⟨k0, k1, k2, k3, k4, k5, k6, k7, k8, k9, k10, _, hrow, hinj⟩ := S1
  clear e1 hrow hinj
  go_wp2_with fail
  have hc2 := row11 a w1
  have hB2 : Below w1.heap.size w1 (w1.alloc (.cells #[.iface 73 (.pointer (some (a 0))), .iface 73 (.pointer (some (a 1))), .iface 73 (.pointer (some (a 2))), .iface 73 (.pointer (some (a 3))), .iface 73 (.pointer (some (a 4))), .iface 73 (.pointer (some (a 5))), .iface 73 (.pointer (some (a 6))), .iface 73 (.pointer (some (a 7))), .iface 73 (.pointer (some (a 8))), .iface 73 (.pointer (some (a 9))), .iface 73 (.pointer (some (a 10)))] 25)) := (Below.refl _ _).alloc (Nat.le_refl _) _
  have hz2 : (w1.alloc (.cells #[.iface 73 (.pointer (some (a 0))), .iface 73 (.pointer (some (a 1))), .iface 73 (.pointer (some (a 2))), .iface 73 (.pointer (some (a 3))), .iface 73 (.pointer (some (a 4))), .iface 73 (.pointer (some (a 5))), .iface 73 (.pointer (some (a 6))), .iface 73 (.pointer (some (a 7))), .iface 73 (.pointer (some (a 8))), .iface 73 (.pointer (some (a 9))), .iface 73 (.pointer (some (a 10)))] 25)).heap.size = w1.heap.size + 1 := by simp
  generalize w1.alloc (.cells #[.iface 73 (.pointer (some (a 0))), .iface 73 (.pointer (some (a 1))), .iface 73 (.pointer (some (a 2))), .iface 73 (.pointer (some (a 3))), .iface 73 (.pointer (some (a 4))), .iface 73 (.pointer (some (a 5))), .iface 73 (.pointer (some (a 6))), .iface 73 (.pointer (some (a 7))), .iface 73 (.pointer (some (a 8))), .iface 73 (.pointer (some (a 9))), .iface 73 (.pointer (some (a 10)))] 25) = w2 at hc2 hB2 hz2 ⊢
  have HS2 := hide ((unhide HS1).below hB2)
  have hB : Below w.heap.size w w2 := hB1.trans (hB2.mono hB1.size)
  have HB := hide hB
  have HC := hide hc2
  clear k0 k1 k2 k3 k4 k5 k6 k7 k8 k9 k10 HS1 hB2 hc2 hB1 hB
  have hlt1 : w1.heap.size < w2.heap.size := by omega
  clear hz2
  go_loopw [4] (fun i wr => ∃ k : Nat, k ≤ 11 ∧ i = .int .i64 k ∧ Below w2.heap.size w2 wr) (fun i _ => 11 - (intOf i).toNat)
  case atStart => exact ⟨0, by omega, rfl, Below.refl _ _⟩
  case round =>
    obtain ⟨k, hk, rfl, hwr⟩ := hrel
    by_cases hlt : k < 11
    · have hcell := below_cell hwr (unhide HC k hlt)
      have HSr := hide ((unhide HS2).below hwr)
      obtain ⟨cb, tb, hrk⟩ := (unhide HSr).row k hlt
      have Hrk := hide hrk
      have Hwr := hide hwr
      clear hrk hwr
      go_wp2_with fail
      have hBf : Below wr.heap.size wr (wr.alloc (.cells #[.int .i64 7, .iface 73 (.pointer (some (a k)))] 31)) := (Below.refl _ _).alloc (Nat.le_refl _) _
      refine (code_fault a (a k) wr.heap.size 0 7 cb tb _ ((unhide HSr).below hBf) (below_row hBf (unhide Hrk)) (by simp) (by simp)).mono ?_
      rintro e w3 ⟨c, rfl, hc, hB3⟩
      obtain rfl := codeIs_at (unhide HSr) hlt hc
      have hB3' : Below wr.heap.size wr w3 := hBf.trans (hB3.mono hBf.size)
      have HS3 := hide ((unhide HSr).below hB3')
      have HB3 := hide hB3'
      have hcell3 := below_cell hB3' hcell
      clear hBf hB3 hB3' hc hcell
      go_wp2_with fail
      refine (coded_es a k hlt _ (unhide HS3)).mono ?_
      rintro e w4 ⟨rfl, hB4⟩
      have HB4 := hide ((unhide HB3).trans (hB4.mono (unhide HB3).size))
      clear hB4
      go_wp2
      go_roundw
      case rel => exact ⟨k + 1, by omega, by go_num, (unhide Hwr).trans ((unhide HB4).mono (unhide Hwr).size)⟩
      case measure => simp [intOf]; omega
    · have HSr := hide ((unhide HS2).below hwr)
      have Hwr := hide hwr
      clear hwr
      go_wp2_with fail
      refine (new_es _ _).mono ?_
      rintro e w3 ⟨rfl, rfl⟩
      have hBn : Below wr.heap.size wr (wr.alloc (.cells #[.string ⟨#[97, 110, 111, 116, 104, 101, 114, 32, 111, 110, 101]⟩] 75)) := (Below.refl _ _).alloc (Nat.le_refl _) _
      have hnew : ∀ k, k < 11 → a k ≠ ⟨wr.heap.size, 0, none⟩ := fun k hk e => by
        obtain ⟨ca, ta, h⟩ := (unhide HSr).row k hk
        have := blk_lt h
        rw [e] at this
        exact absurd this (Nat.lt_irrefl _)
      have HBn := hide hBn
      have Hnew := hide hnew
      clear hBn hnew
      go_wp2_with fail
      refine (code_es a ⟨wr.heap.size, 0, none⟩ _ _ _ ((unhide HSr).below (unhide HBn)) (heap_new _ _)).mono ?_
      rintro e w4 ⟨c, rfl, hc, hB4⟩
      obtain rfl := codeIs_no (unhide Hnew) hc
      have HB4 := hide ((unhide HBn).trans (hB4.mono (unhide HBn).size))
      clear hB4 hc
      go_wp2_with (go_at_call 10; refine (coded_nil _).mono ?_; rintro e w' ⟨rfl, rfl⟩)
      go_ret
      exact ⟨rfl, (unhide HB).trans (((unhide Hwr).trans ((unhide HB4).mono (unhide Hwr).size)).mono (unhide HB).size)⟩
#print axioms names_walk
end Go.Proofs.YtglhapkclpllfaaDoor
