/-
  What package delta (structure DelP) and the document's answer tell, side by side, case by case.
  Conditions: package api's errors lie as laid (structure Sent); those of the package's contracts (M).
-/
import Derived.Test.YtglhapkclpllfadDoorDeltaFact
import Derived.Test.YtglhapkclpllfadDoorRefDelta
import Derived.Test.YtglhapkclpllfadDoorFaultRow
namespace Go.Proofs.YtglhapkclpllfadDoor
open Go.RowKit

def eD (a : Nat → Addr) : Nat → TypeId × Value := fun k => (198, .pointer (some (a k)))
theorem fits_nilD (a : Nat → Addr) (w : World) : ErrFits a w .nilIface 0 (-1) := Or.inl ⟨rfl, rfl, rfl⟩
theorem fits_esD (a : Nat → Addr) (w : World) (k : Nat) (hk : k < 11) (c : Int) (hc : c = (k : Int) + 1) : ErrFits a w (.iface (eD a k).1 (eD a k).2) c (-1) := Or.inr (Or.inr ⟨k, hk, rfl, hc, rfl⟩)
theorem HistErr.belowD {e : Nat → TypeId × Value} {w w' : World} {l : List Ent} {ty : TypeId} {p : Value} (h : HistErr e w l ty p) (hB : Below w.heap.size w w') : HistErr e w' l ty p := by
  rcases h with h | ⟨m, c, pb, h1, h2, h3, h4, h5, h6, h7, h8⟩
  · exact Or.inl h
  · exact Or.inr ⟨m, c, pb, h1, h2, h3, h4, h5, h6, below_cell hB h7, below_cell hB h8⟩
theorem ents_noneD (w : World) (ad : Option Addr) (cap : Nat) : EntsIn w (.slice ad 0 cap) [] := ⟨_, _, rfl, Nat.zero_le _, fun k hk => absurd hk (by simp)⟩
/-- Two answers that go together: G is what the program's error is. -/
structure PTold (a : Nat → Addr) (M : World → Prop) (X : World → Prop) (fp fd : Nat) (args : Array Value) (ys : List Ent) (G : World → Value → Prop) : Prop where
  few : ys.length ≤ 100000
  keep : ∀ w w' ev, G w ev → Below w.heap.size w w' → G w' ev
  pr : ∀ w, M w → X w → Calls Tryd.prog fp args w fun r w' => ∃ v ev, r = .returned (.tuple #[v, ev]) ∧ EntsIn w' v ys ∧ G w' ev ∧ Below w.heap.size w w'
  dc : ∀ w, X w → Calls Tryd.prog fd args w fun r w' => ∃ (v : Value) (c n : Int), r = .returned (.tuple #[v, .agg #[.int .i64 c, .int .i64 n]]) ∧ EntsIn w' v ys ∧ (∀ w ev, G w ev → ErrFits a w ev c n) ∧ Below w.heap.size w w'
theorem bad_told {a : Nat → Addr} {M X : World → Prop} {fp fd : Nat} {args : Array Value} (l : List Ent) (c n : Int)
    (hE : ∀ e w t p, HistErr e w l t p → (t = (e 6).1 ∧ p = (e 6).2 ∧ c = 7 ∧ n = -1) ∨
      ∃ pb k : Nat, k < 11 ∧ t = 73 ∧ p = .pointer (some ⟨pb, 0, none⟩) ∧ c = (k : Int) + 1 ∧ w.cell? ⟨pb, 0, none⟩ = some (.int .i64 n) ∧ w.cell? ⟨pb, 0 + 1, none⟩ = some (.iface (e k).1 (e k).2))
    (hp : ∀ w, M w → X w → Calls Tryd.prog fp args w fun r w' => ∃ ad cap ty p, r = .returned (.tuple #[.slice ad 0 cap, .iface ty p]) ∧ HistErr (eD a) w' l ty p ∧ Below w.heap.size w w')
    (hd : ∀ w, X w → Calls Tryd.prog fd args w fun r w' => r = .returned (.tuple #[.slice none 0 0, .agg #[.int .i64 c, .int .i64 n]]) ∧ Below w.heap.size w w') : ∃ ys G, PTold a M X fp fd args ys G := by
  refine ⟨[], fun w ev => ∃ ty p, ev = .iface ty p ∧ HistErr (eD a) w l ty p, ⟨by simp, fun w w' ev hg hB => ?_, fun w m x => ?_, fun w x => ?_⟩⟩
  · obtain ⟨ty, p, rfl, hp⟩ := hg
    exact ⟨ty, p, rfl, hp.belowD hB⟩
  · refine (hp w m x).mono ?_
    rintro r w' ⟨ad, cap, ty, p, rfl, hh, hB⟩
    exact ⟨_, _, rfl, ents_noneD _ _ _, ⟨ty, p, rfl, hh⟩, hB⟩
  · refine (hd w x).mono ?_
    rintro r w' ⟨rfl, hB⟩
    exact ⟨_, c, n, rfl, ents_noneD _ _ _, fun w ev hg => by
      obtain ⟨ty, p, rfl, hh⟩ := hg
      rcases hE (eD a) w ty p hh with ⟨rfl, rfl, rfl, rfl⟩ | ⟨pb, k, hk, rfl, rfl, rfl, c0, c1⟩
      · exact fits_esD a w 6 (by omega) 7 rfl
      · exact Or.inr (Or.inl ⟨pb, k, hk, rfl, rfl, c0, c1⟩), hB⟩
theorem bare_told {a : Nat → Addr} {M X : World → Prop} {fp fd : Nat} {args : Array Value} (k : Nat) (hk : k < 11) (c : Int) (hc : c = (k : Int) + 1)
    (hp : ∀ w, M w → X w → Calls Tryd.prog fp args w fun r w' => ∃ ad cap, r = .returned (.tuple #[.slice ad 0 cap, .iface (eD a k).1 (eD a k).2]) ∧ Below w.heap.size w w')
    (hd : ∀ w, X w → Calls Tryd.prog fd args w fun r w' => r = .returned (.tuple #[.slice none 0 0, .agg #[.int .i64 c, .int .i64 (-1)]]) ∧ Below w.heap.size w w') : ∃ ys G, PTold a M X fp fd args ys G := by
  refine ⟨[], fun _ ev => ev = .iface (eD a k).1 (eD a k).2, ⟨by simp, fun _ _ _ h _ => h, fun w m x => ?_, fun w x => ?_⟩⟩
  · refine (hp w m x).mono ?_
    rintro r w' ⟨ad, cap, rfl, hB⟩
    exact ⟨_, _, rfl, ents_noneD _ _ _, rfl, hB⟩
  · refine (hd w x).mono ?_
    rintro r w' ⟨rfl, hB⟩
    exact ⟨_, _, _, rfl, ents_noneD _ _ _, fun w ev h => by rw [h]; exact fits_esD a w k hk c hc, hB⟩
theorem good_told {a : Nat → Addr} {M X : World → Prop} {fp fd : Nat} {args : Array Value} (ys : List Ent) (hl : ys.length ≤ 100000)
    (hp : ∀ w, M w → X w → Calls Tryd.prog fp args w fun r w' => ∃ o, r = .returned (.tuple #[o, .nilIface]) ∧ EntsIn w' o ys ∧ Below w.heap.size w w')
    (hd : ∀ w, X w → Calls Tryd.prog fd args w fun r w' => ∃ o, r = .returned (.tuple #[o, .agg #[.int .i64 0, .int .i64 (-1)]]) ∧ EntsIn w' o ys ∧ Below w.heap.size w w') : ∃ ys G, PTold a M X fp fd args ys G := by
  refine ⟨ys, fun _ ev => ev = .nilIface, ⟨hl, fun _ _ _ h _ => h, fun w m x => ?_, fun w x => ?_⟩⟩
  · refine (hp w m x).mono ?_
    rintro r w' ⟨o, rfl, ho, hB⟩
    exact ⟨_, _, rfl, ho, rfl, hB⟩
  · refine (hd w x).mono ?_
    rintro r w' ⟨o, rfl, ho, hB⟩
    exact ⟨_, _, _, rfl, ho, fun w ev h => by rw [h]; exact fits_nilD a w, hB⟩
theorem since_told (a : Nat → Addr) (M : World → Prop) (P : DelP M (eD a)) (v : Value) (l : List Ent) (h most : Int) : ∃ ys G, PTold a M (fun w => EntsIn w v l) 24 26 #[v, .int .i64 h, .int .i64 most] ys G := by
  by_cases hok : histOk l
  · by_cases h1 : h < 0 ∨ most < 1
    · exact bare_told 1 (by omega) 2 rfl (fun w m x => P.siB w v l h most m x hok h1) (fun w x => sinceOf_bound v l h most w x hok h1)
    · by_cases h2 : (l.length : Int) < h
      · exact bare_told 9 (by omega) 10 rfl (fun w m x => P.siG w v l h most m x hok (by omega) (by omega) h2) (fun w x => sinceOf_gap v l h most w x hok (by omega) (by omega) h2)
      · obtain ⟨q, rfl⟩ : ∃ q : Nat, h = (q : Int) := ⟨h.toNat, by omega⟩
        exact good_told (sinceL l q most.toNat) (by rw [since_len]; have := hok.1; omega) (fun w m x => P.siO w v l q most m x hok (by omega) (by omega)) (fun w x => sinceOf_ok v l q most w x hok (by omega) (by omega))
  · obtain ⟨c, n, hc, hF, hE⟩ := histFault_no l hok
    exact bad_told l c n hE (fun w m x => P.siN w v l h most m x hok) (fun w x => sinceOf_keep v l h most c n w x (fun w' x' => hF v w' x') hc)
theorem join_told (a : Nat → Addr) (M : World → Prop) (P : DelP M (eD a)) (v vm : Value) (l m : List Ent) (hm : m.length ≤ 1000) : ∃ ys G, PTold a M (fun w => EntsIn w v l ∧ EntsIn w vm m) 25 27 #[v, vm] ys G := by
  by_cases hok : histOk l
  · by_cases h2 : histOk (l ++ m)
    · exact good_told (l ++ m) (by have := h2.1; omega) (fun w m' x => P.joO w v vm l m m' x.1 x.2 hm hok h2) (fun w x => joinOf_ok v vm l m w x.1 x.2 hok hm h2)
    · obtain ⟨c, n, hc, hF, hE⟩ := histFault_no (l ++ m) h2
      exact bad_told (l ++ m) c n hE (fun w m' x => P.joB w v vm l m m' x.1 x.2 hm hok h2) (fun w x => joinOf_bad v vm l m w x.1 x.2 hok hm c n hc hF)
  · obtain ⟨c, n, hc, hF, hE⟩ := histFault_no l hok
    exact bad_told l c n hE (fun w m' x => P.joN w v vm l m m' x.1 x.2 hm hok) (fun w x => joinOf_keep v vm l m c n w x.1 x.2 (fun w' x' => hF v w' x') hc)
end Go.Proofs.YtglhapkclpllfadDoor
