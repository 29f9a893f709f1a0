/-
  The contract of bargelockref1.SameEntries, where both histories are the same: nothing in memory turns (it draws).
-/
import Derived.Test.YtglhapkclpllfadGreatDoorProg
import Derived.Test.YtglhapkclpllfadGreatDoorGr
import Derived.BigQuiet
namespace Go.Proofs.YtglhapkclpllfadGreatDoor
open Go.RowKit

/-- The cells of a history, behind whatever is below. -/
theorem EntsIn.far {w : World} {v : Value} {l : List Ent} (h : EntsIn w v l) : ∃ ad cap, v = .slice ad l.length cap ∧ ∀ wr, Below w.heap.size w wr → ∀ k, k < l.length → ∃ b off, ad = some ⟨b, off, none⟩ ∧
    wr.cell? ⟨b, off + k * 4, none⟩ = some (.int .i64 (l.getD k Ent.zero).slot) ∧ wr.cell? ⟨b, off + k * 4 + 1, none⟩ = some (.int .i64 (l.getD k Ent.zero).src) ∧ wr.cell? ⟨b, off + k * 4 + 2, none⟩ = some (.bool (l.getD k Ent.zero).heard) ∧ wr.cell? ⟨b, off + k * 4 + 3, none⟩ = some (.int .i64 (l.getD k Ent.zero).value) := by
  obtain ⟨ad, cap, rfl, hc⟩ := EntsIn.at h
  exact ⟨ad, cap, rfl, fun wr hB k hk => by
    obtain ⟨b, o, e, f0, f1, f2, f3⟩ := hc k hk
    exact ⟨b, o, e, below_cell hB f0, below_cell hB f1, below_cell hB f2, below_cell hB f3⟩⟩
set_option maxHeartbeats 1000000 in
theorem same_ents (v1 v2 : Value) (l : List Ent) (w : World) (h1 : EntsIn w v1 l) (h2 : EntsIn w v2 l) (hl : l.length ≤ 100000) :
    Calls Tryz.prog 16 #[v1, v2] w fun e w' => e = .returned (.bool true) ∧ ∃ n, w' = w.drewN n := by
  obtain ⟨a1, c1, rfl, k1⟩ := EntsIn.at h1
  obtain ⟨a2, c2, rfl, k2⟩ := EntsIn.at h2
  have H1 := hide k1
  have H2 := hide k2
  clear h1 h2 k1 k2
  obtain ⟨n, hn⟩ : ∃ n, l.length = n := ⟨_, rfl⟩
  rw [hn] at H1 H2 hl ⊢
  clear hn
  go_enter Tryz.func16, Tryz.ntmps16
  go_wp2
  go_loopw [5] (fun i wr => ∃ k : Nat, k ≤ n ∧ i = .int .i64 k ∧ ∃ m, wr = w.drewN m) (fun i _ => n - (intOf i).toNat)
  case atStart => exact ⟨0, by omega, rfl, 0, rfl⟩
  case round =>
    obtain ⟨k, hk, rfl, m, rfl⟩ := hrel
    by_cases hlt : k < n
    · obtain ⟨b1, o1, rfl, f1, f2, f3, f4⟩ := unhide H1 k hlt
      obtain ⟨b2, o2, rfl, g1, g2, g3, g4⟩ := unhide H2 k hlt
      generalize l.getD k Ent.zero = x at *
      go_wp2
      go_quiet (fail)
      go_wp2
      go_roundw
      case rel => exact ⟨k + 1, by omega, by go_num, _, rfl⟩
      case measure => simp [intOf]; omega
    · have : k = n := by omega
      subst this
      go_wp2
      go_ret
      exact ⟨rfl, _, rfl⟩
end Go.Proofs.YtglhapkclpllfadGreatDoor
