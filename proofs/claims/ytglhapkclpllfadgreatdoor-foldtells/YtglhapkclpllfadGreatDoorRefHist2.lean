/-
  The document's answer, chapter 8: HistoryFault of a history that is right, and of one that is not; the error that goes with it.
-/
import Derived.Test.YtglhapkclpllfadGreatDoorRefHist
import Derived.Test.YtglhapkclpllfadGreatDoorGh
namespace Go.Proofs.YtglhapkclpllfadGreatDoor
open Go.RowKit

theorem histFault_ok (v : Value) (l : List Ent) (w : World) (hv : EntsIn w v l) (h : histOk l) :
    Calls Tryz.prog 5 #[v] w fun e w' => e = .returned (.agg #[.int .i64 0, .int .i64 (-1)]) ∧ Below w.heap.size w w' := by
  have := histFault_walk v l l.length 0 w hv h.1 (Nat.le_refl _) h.2 (fun h => absurd h (Nat.lt_irrefl _))
  rw [if_neg (Nat.lt_irrefl _)] at this
  exact this
theorem entErr_le (i : Nat) (x : Ent) : entErr i x ≤ 10 := by
  unfold entErr
  split
  · omega
  · split
    · omega
    · split
      · omega
      · split <;> omega
/-- A history that is not right: what the document answers, and how the program's error fits. -/
theorem histFault_no (l : List Ent) (h : ¬ histOk l) : ∃ c n : Int, 0 < c ∧
    (∀ v w, EntsIn w v l → Calls Tryz.prog 5 #[v] w fun e w' => e = .returned (.agg #[.int .i64 c, .int .i64 n]) ∧ Below w.heap.size w w') ∧
    ∀ e w t p, HistErr e w l t p → (t = (e 6).1 ∧ p = (e 6).2 ∧ c = 7 ∧ n = -1) ∨
      ∃ pb k : Nat, k < 11 ∧ t = 68 ∧ p = .pointer (some ⟨pb, 0, none⟩) ∧ c = (k : Int) + 1 ∧ w.cell? ⟨pb, 0, none⟩ = some (.int .i64 n) ∧ w.cell? ⟨pb, 0 + 1, none⟩ = some (.iface (e k).1 (e k).2) := by
  by_cases h0 : 200 < l.length
  · refine ⟨7, -1, by omega, fun v w hv => histFault_full v l w hv h0, fun e w t p hp => ?_⟩
    rcases hp with ⟨_, rfl, rfl⟩ | ⟨m, c, pb, h1, _⟩
    · exact Or.inl ⟨rfl, rfl, rfl, rfl⟩
    · omega
  obtain ⟨m, a1, a2, a3⟩ := first_ent l l.length (Nat.le_refl _)
  by_cases hm : m < l.length
  · have ha := a3 hm
    obtain ⟨c, hc⟩ : ∃ c, entErr m (l.getD m Ent.zero) = c + 1 := ⟨entErr m (l.getD m Ent.zero) - 1, by omega⟩
    refine ⟨(c + 1 : Nat), m, by omega, fun v w hv => ?_, fun e w t p hp => ?_⟩
    · have := histFault_walk v l m (c + 1) w hv (by omega) (by omega) a2 (fun _ => ⟨hc, by omega⟩)
      rw [if_pos hm] at this
      exact this
    · rcases hp with ⟨h1, _⟩ | ⟨m', c', pb, h1, h2, b2, b3, rfl, rfl, c0, c1⟩
      · omega
      · have : m' = m := by
          rcases Nat.lt_trichotomy m' m with hh | hh | hh
          · rw [a2 m' hh] at b3; cases b3
          · exact hh
          · exact absurd (b2 m hh) ha
        subst this
        rw [hc] at b3
        have hcc : c = c' := by omega
        subst hcc
        have := entErr_le m' (l.getD m' Ent.zero)
        exact Or.inr ⟨pb, c, by omega, rfl, rfl, by simp, c0, c1⟩
  · exact absurd ⟨by omega, fun i hi => a2 i (by omega)⟩ h
end Go.Proofs.YtglhapkclpllfadGreatDoor
