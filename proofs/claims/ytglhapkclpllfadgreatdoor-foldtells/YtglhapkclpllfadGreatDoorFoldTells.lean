/-
  The walk of the law FoldTells: what package fold (structure FoldP) and the document's answer tell, side by side, makes it answer true, and nothing that was in memory has turned.
  Conditions: package api's errors lie as laid (structure Sent); those of the package's contracts (M).
-/
import Derived.Test.YtglhapkclpllfadGreatDoorFoldFact
import Derived.Test.YtglhapkclpllfadGreatDoorRefFold4
import Derived.Test.YtglhapkclpllfadGreatDoorFaultVar
import Derived.Test.YtglhapkclpllfadGreatDoorSame
namespace Go.Proofs.YtglhapkclpllfadGreatDoor
open Go.RowKit Go.Shelf

def eF (a : Nat → Addr) : Nat → TypeId × Value := fun k => (168, .pointer (some (a k)))
theorem fits_nilF (a : Nat → Addr) (w : World) : ErrFits a w .nilIface 0 (-1) := Or.inl ⟨rfl, rfl, rfl⟩
theorem fits_esF (a : Nat → Addr) (w : World) (k : Nat) (hk : k < 11) (c : Int) (hc : c = (k : Int) + 1) : ErrFits a w (.iface (eF a k).1 (eF a k).2) c (-1) := Or.inr (Or.inr ⟨k, hk, rfl, hc, rfl⟩)
theorem fits_hist {a : Nat → Addr} {w : World} {l : List Ent} {c n : Int} {ty : TypeId} {p : Value} (h : HFits l c n) (hp : HistErr (eF a) w l ty p) : ErrFits a w (.iface ty p) c n := by
  rcases h (eF a) w ty p hp with ⟨rfl, rfl, rfl, rfl⟩ | ⟨pb, k, hk, rfl, rfl, rfl, c0, c1⟩
  · exact fits_esF a w 6 (by omega) 7 rfl
  · exact Or.inr (Or.inl ⟨pb, k, hk, rfl, rfl, c0, c1⟩)
theorem HistErr.below {e : Nat → TypeId × Value} {w w' : World} {l : List Ent} {ty : TypeId} {p : Value} (h : HistErr e w l ty p) (hB : Below w.heap.size w w') : HistErr e w' l ty p := by
  rcases h with h | ⟨m, c, pb, h1, h2, h3, h4, h5, h6, h7, h8⟩
  · exact Or.inl h
  · exact Or.inr ⟨m, c, pb, h1, h2, h3, h4, h5, h6, below_cell hB h7, below_cell hB h8⟩
/-- Two answers of reading that go together: G is what the program's error is. -/
structure RTold (a : Nat → Addr) (M : World → Prop) (s : ByteArray) (ys : List Ent) (G : World → Value → Prop) : Prop where
  few : ys.length ≤ 100000
  keep : ∀ w w' ev, G w ev → Below w.heap.size w w' → G w' ev
  re : ∀ w, M w → Calls Tryz.prog 14 #[.string s] w fun r w' => ∃ v ev, r = .returned (.tuple #[v, ev]) ∧ EntsIn w' v ys ∧ G w' ev ∧ Below w.heap.size w w'
  rh : ∀ w, Calls Tryz.prog 15 #[.string s] w fun r w' => ∃ (v : Value) (c n : Int), r = .returned (.tuple #[v, .agg #[.int .i64 c, .int .i64 n]]) ∧ EntsIn w' v ys ∧ (∀ w ev, G w ev → ErrFits a w ev c n) ∧ Below w.heap.size w w'
theorem ents_none (w : World) (ad : Option Addr) (cap : Nat) : EntsIn w (.slice ad 0 cap) [] := ⟨_, _, rfl, Nat.zero_le _, fun k hk => absurd hk (by simp)⟩
theorem rtold_any (a : Nat → Addr) (M : World → Prop) (P : FoldP M (eF a)) (s : ByteArray) (hs : s.size ≤ maxLen) : ∃ ys G, RTold a M s ys G := by
  by_cases h4 : 4000 < s.size
  · refine ⟨[], fun _ ev => ev = .iface (eF a 1).1 (eF a 1).2, ⟨by simp, fun _ _ _ h _ => h, fun w m => ?_, fun w => ?_⟩⟩
    · refine (P.reB w s m h4 hs).mono ?_
      rintro r w' ⟨ad, cap, rfl, hB⟩
      exact ⟨_, _, rfl, ents_none _ _ _, rfl, hB⟩
    · refine (readHist_long s h4 w).mono ?_
      rintro r w' ⟨rfl, hB⟩
      exact ⟨_, _, _, rfl, ents_none _ _ _, fun w ev h => by rw [h]; exact fits_esF a w 1 (by omega) 2 rfl, hB⟩
  have h4' : s.size ≤ 4000 := by omega
  cases hr : readH s.data.toList with
  | none =>
    refine ⟨[], fun _ ev => ev = .iface (eF a 0).1 (eF a 0).2, ⟨by simp, fun _ _ _ h _ => h, fun w m => ?_, fun w => ?_⟩⟩
    · refine (P.reT w s m h4' hr).mono ?_
      rintro r w' ⟨ad, cap, rfl, hB⟩
      exact ⟨_, _, rfl, ents_none _ _ _, rfl, hB⟩
    · refine (readHist_ok s h4' w).mono ?_
      rintro r w' ⟨h | ⟨ys, h, _⟩, hB⟩
      · obtain ⟨_, rfl⟩ := h
        exact ⟨_, _, _, rfl, ents_none _ _ _, fun w ev h => by rw [h]; exact fits_esF a w 0 (by omega) 1 rfl, hB⟩
      · rw [hr] at h
        cases h
  | some l =>
    by_cases h : histOk l
    · refine ⟨l, fun _ ev => ev = .nilIface, ⟨by have := h.1; omega, fun _ _ _ h _ => h, fun w m => ?_, fun w => ?_⟩⟩
      · refine (P.reO w s l m h4' hr h).mono ?_
        rintro r w' ⟨v, rfl, hv, hB⟩
        exact ⟨_, _, rfl, hv, rfl, hB⟩
      · refine (readHist_ok s h4' w).mono ?_
        rintro r w' ⟨hh | ⟨ys, hy, hh | hh⟩, hB⟩
        · rw [hr] at hh
          cases hh.1
        · rw [hr] at hy
          cases hy
          obtain ⟨_, v, rfl, hv⟩ := hh
          exact ⟨_, _, _, rfl, hv, fun w ev h => by rw [h]; exact fits_nilF a w, hB⟩
        · rw [hr] at hy
          cases hy
          exact absurd h hh.1
    · refine ⟨[], fun w ev => ∃ ty p, ev = .iface ty p ∧ HistErr (eF a) w l ty p, ⟨by simp, fun w w' ev hg hB => ?_, fun w m => ?_, fun w => ?_⟩⟩
      · obtain ⟨ty, p, rfl, hp⟩ := hg
        exact ⟨ty, p, rfl, hp.below hB⟩
      · refine (P.reN w s l m h4' hr h).mono ?_
        rintro r w' ⟨ad, cap, ty, p, rfl, hp, hB⟩
        exact ⟨_, _, rfl, ents_none _ _ _, ⟨ty, p, rfl, hp⟩, hB⟩
      · refine (readHist_ok s h4' w).mono ?_
        rintro r w' ⟨hh | ⟨ys, hy, hh | hh⟩, hB⟩
        · rw [hr] at hh
          cases hh.1
        · rw [hr] at hy
          cases hy
          exact absurd hh.1 h
        · rw [hr] at hy
          cases hy
          obtain ⟨_, c, n, _, rfl, hfit⟩ := hh
          exact ⟨_, c, n, rfl, ents_none _ _ _, fun w ev hg => by
            obtain ⟨ty, p, rfl, hp⟩ := hg
            exact fits_hist hfit hp, hB⟩
end Go.Proofs.YtglhapkclpllfadGreatDoor
