/-
  The closed fact about buses that the laws of chapter 6 begin with: it answers true.
  Conditions: package api's errors lie as laid (structure GSent).
-/
import Derived.Test.YtglhapkclpllfacDoorBus1
namespace Go.Proofs.YtglhapkclpllfacDoor
open Go.RowKit

theorem two_okB : planOk [2, 1] := ⟨by decide, by decide, fun x hx => by
  simp at hx
  rcases hx with rfl | rfl
  · exact ⟨by omega, by omega⟩
  · exact ⟨by omega, by omega⟩⟩
theorem two_inB (w : World) : IntsIn (w.alloc (.cells #[.int .i64 2, .int .i64 1] 3)) (.slice (some ⟨w.heap.size, 0, none⟩) 2 2) [2, 1] :=
  IntsAt.in' (Or.inr ⟨w.heap.size, 0, 2, rfl, ints_new w [2, 1] 3 _ _ rfl rfl⟩)
def noS : ByteArray := ⟨#[110, 111]⟩
def hiS : ByteArray := ⟨#[104, 105]⟩
def twoS : List Snt := [⟨1, 3, noS⟩, ⟨2, 4, hiS⟩]
theorem snts_two (w : World) : SntsIn (w.alloc (.cells #[.int .i64 1, .int .i64 3, .string ⟨#[110, 111]⟩, .int .i64 2, .int .i64 4, .string ⟨#[104, 105]⟩] 63)) (.slice (some ⟨w.heap.size, 0, none⟩) 2 2) twoS :=
  RecsIn.of_owns (base := w.heap.size) (e := 63) (size := 3) (xs := twoS.map Snt.cells) (fun x hx => by
    obtain ⟨s, _, rfl⟩ := List.mem_map.1 hx
    rfl) (World.ownsRow_lit (base := w.heap.size) (e := 63) (size := 3) w _ 2 (Nat.le_refl _) (by decide) rfl)
theorem one_in (w : World) : IntsIn (w.alloc (.cells #[.int .i64 3] 3)) (.slice (some ⟨w.heap.size, 0, none⟩) 1 1) [3] :=
  IntsAt.in' (Or.inr ⟨w.heap.size, 0, 1, rfl, ints_new w [3] 3 _ _ rfl rfl⟩)
theorem hear_two (e : Nat → TypeId × Value) (w : World) (S : GSent e w) :
    Calls Tryd.prog 10 #[.slice (some ⟨w.heap.size, 0, none⟩) 2 2, .int .i64 10, .int .i64 0, .slice (some ⟨w.heap.size + 1, 0, none⟩) 2 2, .slice (some ⟨w.heap.size + 1 + 1, 0, none⟩) 1 1]
      (((w.alloc (.cells #[.int .i64 2, .int .i64 1] 3)).alloc (.cells #[.int .i64 1, .int .i64 3, .string ⟨#[110, 111]⟩, .int .i64 2, .int .i64 4, .string ⟨#[104, 105]⟩] 63)).alloc (.cells #[.int .i64 3] 3))
      fun r w' => ∃ b off c, r = .returned (.tuple #[.slice (some ⟨b, off, none⟩) 16 c, .nilIface]) ∧ w'.cell? ⟨b, off, none⟩ = some (.string ⟨#[104, 105]⟩) ∧ w'.cell? ⟨b, off + 2, none⟩ = some (.string ⟨#[]⟩) ∧ Below w.heap.size w w' := by
  obtain ⟨w1, h1⟩ : ∃ w1, w1 = w.alloc (.cells #[.int .i64 2, .int .i64 1] 3) := ⟨_, rfl⟩
  obtain ⟨w2, h2⟩ : ∃ w2, w2 = w1.alloc (.cells #[.int .i64 1, .int .i64 3, .string ⟨#[110, 111]⟩, .int .i64 2, .int .i64 4, .string ⟨#[104, 105]⟩] 63) := ⟨_, rfl⟩
  obtain ⟨w3, h3⟩ : ∃ w3, w3 = w2.alloc (.cells #[.int .i64 3] 3) := ⟨_, rfl⟩
  have s1 : w1.heap.size = w.heap.size + 1 := by rw [h1]; simp
  have s2 : w2.heap.size = w.heap.size + 1 + 1 := by rw [h2]; simp; omega
  have hB1 : Below w.heap.size w w1 := by rw [h1]; exact (Below.refl _ _).alloc (Nat.le_refl _) _
  have hB2 : Below w1.heap.size w1 w2 := by rw [h2]; exact (Below.refl _ _).alloc (Nat.le_refl _) _
  have hB3 : Below w2.heap.size w2 w3 := by rw [h3]; exact (Below.refl _ _).alloc (Nat.le_refl _) _
  have hB : Below w.heap.size w w3 := (hB1.trans (hB2.mono (by omega))).trans (hB3.mono (by omega))
  have i1 : IntsIn w3 (.slice (some ⟨w.heap.size, 0, none⟩) 2 2) [2, 1] := by
    have := two_inB w
    rw [← h1] at this
    exact (this.below hB2).below hB3
  have i2 : SntsIn w3 (.slice (some ⟨w.heap.size + 1, 0, none⟩) 2 2) twoS := by
    have := snts_two w1
    rw [← h2, s1] at this
    exact this.below hB3
  have i3 : IntsIn w3 (.slice (some ⟨w.heap.size + 1 + 1, 0, none⟩) 1 1) [3] := by
    have := one_in w2
    rw [← h3, s2] at this
    exact this
  rw [← h1, ← h2, ← h3]
  have h := hear_ok e _ _ _ [2, 1] [3] twoS 10 0 w3 i1 i2 i3 ⟨⟨by omega, by omega⟩, ⟨by omega, by omega⟩, by decide⟩ two_okB (by decide) (by decide) (S.below hB)
  refine h.mono ?_
  rintro r w' ⟨x, rfl, ⟨ad, cap, rfl, hc⟩, hB4⟩
  obtain ⟨b, off, rfl, c0⟩ := hc 0 (by decide)
  obtain ⟨b', off', e, c2⟩ := hc 2 (by decide)
  cases e
  exact ⟨b, off, cap, rfl, c0, c2, hB.trans (hB4.mono hB.size)⟩
theorem heard_ok (e : Nat → TypeId × Value) (w : World) (S : GSent e w) : Calls Tryd.prog 8 #[] w fun r w' => r = .returned (.bool true) ∧ Below w.heap.size w w' := by
  have H1 := hide (hear_two e w S)
  clear S
  go_enter Tryd.func8, Tryd.ntmps8
  go_wp2_with fail
  refine (unhide H1).mono ?_
  rintro E w1 ⟨b, off, c, rfl, c0, c2, hB1⟩
  have HB1 := hide hB1
  clear hB1
  go_wp2
  go_ret
  exact ⟨rfl, unhide HB1⟩
end Go.Proofs.YtglhapkclpllfacDoor
