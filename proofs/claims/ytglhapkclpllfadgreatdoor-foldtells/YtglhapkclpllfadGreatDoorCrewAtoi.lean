/-
  The contract of crew.readNode: the number of a node that is written without needless zeros; 0 of any other text.
  Conditions: the library's variables lie as laid (structure LibOk).
-/
import Derived.Test.YtglhapkclpllfadGreatDoorCrewText
import Derived.WalkSmall
import Derived.Test.YtglhapkclpllfadGreatDoorGa
import Derived.Lib.AppendIntMem
import Derived.Lib.AtoiErrMem
namespace Go.Proofs.YtglhapkclpllfadGreatDoor
open Go.RowKit Go.Shelf

/-- What the library's variables hold. -/
structure LibOk (w : World) : Prop where
  size : 19 < w.heap.size
  tab : Go.Proofs.TabAt 19 Lib.deBruijn64tab w
  pow : Lib.TabIs Tryz.prog w "internal/strconv.uint64pow10" .u64 Lib.pow10Tab
  syn : ∃ tp p, w.var? Tryz.prog "strconv.ErrSyntax" = some #[.iface tp p]
  rng : ∃ tp p, w.var? Tryz.prog "strconv.ErrRange" = some #[.iface tp p]
theorem Tryz.nPow : Tryz.prog.globalNamed "internal/strconv.uint64pow10" = some 13 := by kernel_rfl
theorem Tryz.nSyn : Tryz.prog.globalNamed "strconv.ErrSyntax" = some 16 := by kernel_rfl
theorem Tryz.nRng : Tryz.prog.globalNamed "strconv.ErrRange" = some 17 := by kernel_rfl
theorem var_lt {w : World} {P : Program} {n : String} {g : Nat} {cs : Array Value} (hg : P.globalNamed n = some g) (h : w.var? P n = some cs) : g < w.heap.size := by
  unfold World.var? at h
  rw [hg] at h
  rcases Nat.lt_or_ge g w.heap.size with h' | h'
  · exact h'
  · simp [Array.getElem?_eq_none h'] at h
theorem LibOk.below {w w' : World} (L : LibOk w) (hb : Below w.heap.size w w') : LibOk w' where
  size := Nat.lt_of_lt_of_le L.size hb.size
  tab := fun j hj => (hb.cell (p := ⟨19, j, none⟩) L.size).trans (L.tab j hj)
  pow := var?_below hb Tryz.nPow (var_lt Tryz.nPow L.pow) L.pow
  syn := by obtain ⟨tp, p, h⟩ := L.syn; exact ⟨tp, p, var?_below hb Tryz.nSyn (var_lt Tryz.nSyn h) h⟩
  rng := by obtain ⟨tp, p, h⟩ := L.rng; exact ⟨tp, p, var?_below hb Tryz.nRng (var_lt Tryz.nRng h) h⟩

theorem atoi_range {l : List UInt8} {v : Int} (h : Lib.atoiAll l = .ok v) : -9223372036854775808 ≤ v ∧ v ≤ 9223372036854775807 := by
  unfold Lib.atoiAll at h
  split at h
  · cases h
  · simp only at h
    split at h
    · cases h
    · cases h
    · split at h
      · cases h
      · split at h
        · cases h
        · simp only [Lib.NumEnd.ok.injEq] at h
          subst h
          split <;> omega
theorem atoi_any (s : ByteArray) (hs : s.size ≤ 281474976710656) (w : World) (L : LibOk w) :
    Calls Tryz.prog 63 #[.string s] w fun e w' => ((∃ v, Lib.atoiAll s.data.toList = .ok v ∧ e = .returned (.tuple #[.int .i64 v, .nilIface])) ∨ ((∀ v, Lib.atoiAll s.data.toList ≠ .ok v) ∧ ∃ n N, e = .returned (.tuple #[.int .i64 n, .iface 148 (.pointer (some ⟨N, 0, none⟩))]))) ∧ Below w.heap.size w w' := by
  cases h : Lib.atoiAll s.data.toList with
  | ok v =>
    refine (Tryz.strconv_Atoi_ok s (by omega) v h w).mono ?_
    rintro e w' ⟨rfl, hw⟩
    refine ⟨Or.inl ⟨v, rfl, rfl⟩, ?_⟩
    rcases hw with rfl | ⟨t, rfl⟩
    · exact Below.refl _ _
    · exact Lib.bytesWorld_below _ _ _
  | range =>
    obtain ⟨tp, p, hv⟩ := L.rng
    refine (Any.strconv_Atoi_range_var Tryz.laysC172 s hs h tp p w hv).mono ?_
    rintro e w' ⟨N, rfl, _, _, hB⟩
    exact ⟨Or.inr ⟨fun _ h => (by cases h), _, N, rfl⟩, hB⟩
  | _ =>
    obtain ⟨tp, p, hv⟩ := L.syn
    refine (Any.strconv_Atoi_syntax_var Tryz.laysC172 s hs h tp p w hv).mono ?_
    rintro e w' ⟨N, rfl, _, _, hB⟩
    exact ⟨Or.inr ⟨fun _ h => (by cases h), _, N, rfl⟩, hB⟩

/-- The node of a text; 0 if it is none. -/
def nodeOf (l : List UInt8) : Nat := ((List.finRange 16).find? (fun x => dg x == l)).elim 0 fun x => x.val + 1
theorem atoi_dg : ∀ x : Fin 16, Lib.atoiAll (dg x) = .ok ((x.val : Int) + 1) := by decide
theorem dg_inj : ∀ x y : Fin 16, dg x = dg y → x = y := by decide
theorem nodeOf_dg (x : Fin 16) : nodeOf (dg x) = x.val + 1 := by
  have : ∀ x : Fin 16, nodeOf (dg x) = x.val + 1 := by decide
  exact this x
theorem nodeOf_no {l : List UInt8} (h : ∀ x, dg x ≠ l) : nodeOf l = 0 := by
  unfold nodeOf
  rw [List.find?_eq_none.2 (fun x _ => by simp [h x])]; rfl
theorem itoa_dg (x : Fin 16) : Lib.itoa ((x.val : Int) + 1) = dg x := by
  unfold Lib.itoa
  rw [if_neg (by omega), show ((x.val : Int) + 1).toNat = x.val + 1 by omega, ← digs_eq]; simp [digs]

theorem toList_data (s : ByteArray) : s.toList = s.data.toList := ByteArray.toList_eq s
end Go.Proofs.YtglhapkclpllfadGreatDoor
