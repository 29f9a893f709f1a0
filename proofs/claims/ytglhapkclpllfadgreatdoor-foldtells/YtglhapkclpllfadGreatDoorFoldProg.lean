/-
  What package fold answers, whatever it is asked (structure FoldP), and what follows: the closed fact that the laws of chapter 9 begin with.
  Conditions: those of the package's contracts (M).
-/
import Derived.Test.YtglhapkclpllfadGreatDoorProg
import Derived.Test.YtglhapkclpllfadGreatDoorGf
import Derived.Test.YtglhapkclpllfadGreatDoorGh
namespace Go.Proofs.YtglhapkclpllfadGreatDoor
open Go.RowKit Go.Shelf

/-- A row of numbers at an address, none of its cells frozen. -/
def OwnRow (w : World) (g off : Nat) (xs : List Int) : Prop := ∀ k, k < xs.length → w.cell? ⟨g, off + k, none⟩ = some (.int .i64 (xs.getD k 0)) ∧ w.frozen? ⟨g, off + k, none⟩ = false
theorem OwnRow.below {w w' : World} {g off : Nat} {xs : List Int} (h : OwnRow w g off xs) (hB : Below w.heap.size w w') : OwnRow w' g off xs := fun k hk => ⟨below_cell hB (h k hk).1, (hB.frozen (cell_lt (h k hk).1)).trans (h k hk).2⟩
theorem OwnRow.in {w : World} {g off cap : Nat} {xs : List Int} (h : OwnRow w g off xs) : IntsIn w (.slice (some ⟨g, off, none⟩) xs.length cap) xs := ⟨_, _, rfl, fun k hk => ⟨g, off, rfl, (h k hk).1⟩⟩
theorem OwnRow.put {w : World} {g off : Nat} {xs : List Int} (h : OwnRow w g off xs) (q : Nat) (hq : q < xs.length) (v : Int) : OwnRow (w.setCell ⟨g, off + q, none⟩ (.int .i64 v)) g off (xs.set q v) := fun k hk => by
  rw [List.length_set] at hk
  have h1 := h k hk
  by_cases e : k = q
  · subst e
    refine ⟨?_, by simpa using h1.2⟩
    rw [List.getD_eq_getElem?_getD, List.getElem?_set_self hk, World.cell?_setCell_same _ _ _ h1.1]
    rfl
  · refine ⟨?_, by simpa using h1.2⟩
    rw [World.cell?_setCell_other _ _ _ _ (fun e' => e (by injection e' with _ e2; omega)), List.getD_eq_getElem?_getD, List.getElem?_set_ne (fun e' => e e'.symm), ← List.getD_eq_getElem?_getD]
    exact h1.1
/-- Package fold's answers, and clique.Check's: e 0 is ErrText, e 1 ErrBound. -/
structure FoldP (M : World → Prop) (e : Nat → TypeId × Value) : Prop where
  keep : ∀ w w', M w → Below w.heap.size w w' → M w'
  ckY : ∀ w v l, M w → EntsIn w v l → histOk l → Calls Tryz.prog 21 #[v] w fun r w' => r = .returned .nilIface ∧ Below w.heap.size w w'
  ckN : ∀ w v l, M w → EntsIn w v l → ¬ histOk l → Calls Tryz.prog 21 #[v] w fun r w' => ∃ ty p, r = .returned (.iface ty p) ∧ HistErr e w' l ty p ∧ Below w.heap.size w w'
  laN : ∀ w v l, M w → EntsIn w v l → ¬ histOk l → Calls Tryz.prog 6 #[v] w fun r w' => ∃ ad cap ty p, r = .returned (.tuple #[.slice ad 0 cap, .iface ty p]) ∧ HistErr e w' l ty p ∧ Below w.heap.size w w'
  laO : ∀ w v l, M w → EntsIn w v l → histOk l → Calls Tryz.prog 6 #[v] w fun r w' => ∃ g off cap, r = .returned (.tuple #[.slice (some ⟨g, off, none⟩) 16 cap, .nilIface]) ∧ w.heap.size ≤ g ∧ OwnRow w' g off (lastL 16 l) ∧ Below w.heap.size w w'
  toN : ∀ w v l, M w → EntsIn w v l → ¬ histOk l → Calls Tryz.prog 7 #[v] w fun r w' => ∃ ty p, r = .returned (.tuple #[.int .i64 0, .iface ty p]) ∧ HistErr e w' l ty p ∧ Below w.heap.size w w'
  toO : ∀ w v l, M w → EntsIn w v l → histOk l → Calls Tryz.prog 7 #[v] w fun r w' => r = .returned (.tuple #[.int .i64 (totL l), .nilIface]) ∧ Below w.heap.size w w'
  teN : ∀ w v l, M w → EntsIn w v l → ¬ histOk l → Calls Tryz.prog 8 #[v] w fun r w' => ∃ ty p, r = .returned (.tuple #[.string ⟨#[]⟩, .iface ty p]) ∧ HistErr e w' l ty p ∧ Below w.heap.size w w'
  teO : ∀ w v l, M w → EntsIn w v l → histOk l → Calls Tryz.prog 8 #[v] w fun r w' => r = .returned (.tuple #[.string ⟨(histL l).toArray⟩, .nilIface]) ∧ Below w.heap.size w w'
  reB : ∀ w (s : ByteArray), M w → 4000 < s.size → s.size ≤ maxLen → Calls Tryz.prog 14 #[.string s] w fun r w' => ∃ ad cap, r = .returned (.tuple #[.slice ad 0 cap, .iface (e 1).1 (e 1).2]) ∧ Below w.heap.size w w'
  reT : ∀ w (s : ByteArray), M w → s.size ≤ 4000 → readH s.data.toList = none → Calls Tryz.prog 14 #[.string s] w fun r w' => ∃ ad cap, r = .returned (.tuple #[.slice ad 0 cap, .iface (e 0).1 (e 0).2]) ∧ Below w.heap.size w w'
  reN : ∀ w (s : ByteArray) l, M w → s.size ≤ 4000 → readH s.data.toList = some l → ¬ histOk l → Calls Tryz.prog 14 #[.string s] w fun r w' => ∃ ad cap ty p, r = .returned (.tuple #[.slice ad 0 cap, .iface ty p]) ∧ HistErr e w' l ty p ∧ Below w.heap.size w w'
  reO : ∀ w (s : ByteArray) l, M w → s.size ≤ 4000 → readH s.data.toList = some l → histOk l → Calls Tryz.prog 14 #[.string s] w fun r w' => ∃ v, r = .returned (.tuple #[v, .nilIface]) ∧ EntsIn w' v l ∧ Below w.heap.size w w'
theorem lastL_next (l : List Ent) (k q : Nat) (h : k < l.length) (hh : (l.getD k Ent.zero).heard = true) (hq : (l.getD k Ent.zero).src = (q : Int) + 1) : lastL 16 (l.take (k + 1)) = (lastL 16 (l.take k)).set q (l.getD k Ent.zero).value := by
  refine List.ext_getElem (by rw [List.length_set, lastL_len, lastL_len]) fun i h1 h2 => ?_
  have hi : i < 16 := by rw [lastL_len] at h1; exact h1
  have e1 := lastL_at 16 i (l.take (k + 1)) hi
  have e2 := lastL_at 16 i (l.take k) hi
  rw [List.getD_eq_getElem?_getD, List.getElem?_eq_getElem h1, Option.getD_some] at e1
  rw [e1, (lastL_step l k h).2 hh, hq]
  rw [List.getElem_set]
  by_cases e : q = i
  · subst e
    rw [if_pos rfl, if_pos rfl]
  · rw [if_neg (by omega), if_neg e]
    rw [List.getD_eq_getElem?_getD, List.getElem?_eq_getElem (by rw [lastL_len]; exact hi), Option.getD_some] at e2
    exact e2.symm
theorem lastL_stay (l : List Ent) (k : Nat) (h : k < l.length) (hh : (l.getD k Ent.zero).heard = false) : lastL 16 (l.take (k + 1)) = lastL 16 (l.take k) := by
  unfold lastL
  exact List.map_congr_left fun i _ => (lastL_step l k h).1 hh _
end Go.Proofs.YtglhapkclpllfadGreatDoor
