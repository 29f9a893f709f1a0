/-
  The contract of crew.readNode: the number of a node that is written without needless zeros; 0 of any other text.
  Conditions: the library's variables lie as laid (structure LibOk).
-/
import Derived.Test.YtglhapkclpllfaaDoorCrewText
import Derived.WalkSmall
import Derived.Test.YtglhapkclpllfaaDoorCrewOfM
import Derived.Lib.AppendIntMem
import Derived.Lib.AtoiErrMem
namespace Go.Proofs.YtglhapkclpllfaaDoor
open Go.RowKit Go.Shelf

/-- What the library's variables hold. -/
structure LibOk (w : World) : Prop where
  size : 14 < w.heap.size
  tab : Go.Proofs.TabAt 14 Lib.deBruijn64tab w
  pow : Lib.TabIs Tryd.prog w "internal/strconv.uint64pow10" .u64 Lib.pow10Tab
  syn : ∃ tp p, w.var? Tryd.prog "strconv.ErrSyntax" = some #[.iface tp p]
  rng : ∃ tp p, w.var? Tryd.prog "strconv.ErrRange" = some #[.iface tp p]
theorem Tryd.nPow : Tryd.prog.globalNamed "internal/strconv.uint64pow10" = some 17 := by kernel_rfl
theorem Tryd.nSyn : Tryd.prog.globalNamed "strconv.ErrSyntax" = some 15 := by kernel_rfl
theorem Tryd.nRng : Tryd.prog.globalNamed "strconv.ErrRange" = some 16 := by kernel_rfl
theorem var_lt {w : World} {P : Program} {n : String} {g : Nat} {cs : Array Value} (hg : P.globalNamed n = some g) (h : w.var? P n = some cs) : g < w.heap.size := by
  unfold World.var? at h
  rw [hg] at h
  rcases Nat.lt_or_ge g w.heap.size with h' | h'
  · exact h'
  · simp [Array.getElem?_eq_none h'] at h
theorem LibOk.below {w w' : World} (L : LibOk w) (hb : Below w.heap.size w w') : LibOk w' where
  size := Nat.lt_of_lt_of_le L.size hb.size
  tab := fun j hj => (hb.cell (p := ⟨14, j, none⟩) L.size).trans (L.tab j hj)
  pow := var?_below hb Tryd.nPow (var_lt Tryd.nPow L.pow) L.pow
  syn := by obtain ⟨tp, p, h⟩ := L.syn; exact ⟨tp, p, var?_below hb Tryd.nSyn (var_lt Tryd.nSyn h) h⟩
  rng := by obtain ⟨tp, p, h⟩ := L.rng; exact ⟨tp, p, var?_below hb Tryd.nRng (var_lt Tryd.nRng h) h⟩

theorem atoi_range {l : List UInt8} {v : Int} (h : Lib.atoiAll l = .ok v) : -9223372036854775808 ≤ v ∧ v ≤ 9223372036854775807 := by
  unfold Lib.atoiAll at h
  split at h
  · cases h
  · simp only at h
    split at h
    · cases h
    · cases h
    · split at h
      · cases h
      · split at h
        · cases h
        · simp only [Lib.NumEnd.ok.injEq] at h
          subst h
          split <;> omega
theorem atoi_any (s : ByteArray) (hs : s.size ≤ 281474976710656) (w : World) (L : LibOk w) :
    Calls Tryd.prog 70 #[.string s] w fun e w' => ((∃ v, Lib.atoiAll s.data.toList = .ok v ∧ e = .returned (.tuple #[.int .i64 v, .nilIface])) ∨ ((∀ v, Lib.atoiAll s.data.toList ≠ .ok v) ∧ ∃ n N, e = .returned (.tuple #[.int .i64 n, .iface 150 (.pointer (some ⟨N, 0, none⟩))]))) ∧ Below w.heap.size w w' := by
  cases h : Lib.atoiAll s.data.toList with
  | ok v =>
    refine (Tryd.strconv_Atoi_ok s (by omega) v h w).mono ?_
    rintro e w' ⟨rfl, hw⟩
    refine ⟨Or.inl ⟨v, rfl, rfl⟩, ?_⟩
    rcases hw with rfl | ⟨t, rfl⟩
    · exact Below.refl _ _
    · exact Lib.bytesWorld_below _ _ _
  | range =>
    obtain ⟨tp, p, hv⟩ := L.rng
    refine (Any.strconv_Atoi_range_var Tryd.laysC172 s hs h tp p w hv).mono ?_
    rintro e w' ⟨N, rfl, _, _, hB⟩
    exact ⟨Or.inr ⟨fun _ h => (by cases h), _, N, rfl⟩, hB⟩
  | _ =>
    obtain ⟨tp, p, hv⟩ := L.syn
    refine (Any.strconv_Atoi_syntax_var Tryd.laysC172 s hs h tp p w hv).mono ?_
    rintro e w' ⟨N, rfl, _, _, hB⟩
    exact ⟨Or.inr ⟨fun _ h => (by cases h), _, N, rfl⟩, hB⟩

/-- The node of a text; 0 if it is none. -/
def nodeOf (l : List UInt8) : Nat := ((List.finRange 16).find? (fun x => dg x == l)).elim 0 fun x => x.val + 1
theorem atoi_dg : ∀ x : Fin 16, Lib.atoiAll (dg x) = .ok ((x.val : Int) + 1) := by decide
theorem dg_inj : ∀ x y : Fin 16, dg x = dg y → x = y := by decide
theorem nodeOf_dg (x : Fin 16) : nodeOf (dg x) = x.val + 1 := by
  have : ∀ x : Fin 16, nodeOf (dg x) = x.val + 1 := by decide
  exact this x
theorem nodeOf_no {l : List UInt8} (h : ∀ x, dg x ≠ l) : nodeOf l = 0 := by
  unfold nodeOf
  rw [List.find?_eq_none.2 (fun x _ => by simp [h x])]; rfl
theorem itoa_dg (x : Fin 16) : Lib.itoa ((x.val : Int) + 1) = dg x := by
  unfold Lib.itoa
  rw [if_neg (by omega), show ((x.val : Int) + 1).toNat = x.val + 1 by omega, ← digs_eq]; simp [digs]

theorem toList_data (s : ByteArray) : s.toList = s.data.toList := ByteArray.toList_eq s
set_option maxHeartbeats 1000000 in
theorem readNode_ok (s : ByteArray) (hs : s.size ≤ 281474976710656) (w : World) (L : LibOk w) :
    Calls Tryd.prog 44 #[.string s] w fun e w' => e = .returned (.int .i64 (nodeOf s.data.toList : Nat)) ∧ Below w.heap.size w w' := by
  have HL := hide L
  clear L
  go_enter Tryd.func44, Tryd.ntmps44
  go_wp2_with fail
  refine (atoi_any s hs w (unhide HL)).mono ?_
  rintro e w1 ⟨⟨v, hv, rfl⟩ | ⟨hno, n, N, rfl⟩, hB1⟩
  · have HL1 := hide ((unhide HL).below hB1)
    have hr := atoi_range hv
    have HB1 := hide hB1
    have Hv := hide hv
    clear hB1 hv
    go_wp2_with fail
    refine (Tryd.strconv_Itoa v hr.1 hr.2 _ (unhide HL1).pow).mono ?_
    rintro e w2 ⟨rfl, k, os, hw2⟩
    have hB2 : Below w1.heap.size w1 w2 := by rw [hw2]; exact Lib.below_grow _ _ (Nat.le_refl _) _ _
    have HB2 := hide ((unhide HB1).trans (hB2.mono (unhide HB1).size))
    clear hw2 hB2
    by_cases heq : Lib.itoa v = s.toList
    · by_cases hn : 1 ≤ v ∧ v ≤ 16
      · obtain ⟨n, rfl⟩ : ∃ n : Nat, v = (n : Int) := ⟨v.toNat, by omega⟩
        have h1 : 1 ≤ n := by omega
        have h2 : n ≤ 16 := by omega
        have Hs : Hid (nodeOf s.data.toList = n) := by
          show _ = _
          rw [← toList_data, ← heq, show (n : Int) = ((⟨n - 1, by omega⟩ : Fin 16).val : Int) + 1 by show (n : Int) = ((n - 1 : Nat) : Int) + 1; omega, itoa_dg, nodeOf_dg]
          show n - 1 + 1 = n
          omega
        have hp := pow_ne (n - 1)
        go_wp2_with (go_at_call 41; refine (bit_ok n h1 h2 _).mono ?_; rintro e w' ⟨rfl, rfl⟩)
        go_ret
        exact ⟨ret_int (by rw [unhide Hs]), unhide HB2⟩
      · have Hs : Hid (nodeOf s.data.toList = 0) := nodeOf_no fun x hx => hn (by
          have := unhide Hv
          rw [← hx, atoi_dg] at this
          cases this
          have := x.isLt
          omega)
        have hb : v < 1 ∨ 16 < v := by omega
        go_wp2_with (go_at_call 41; refine (bit_bad v hb _).mono ?_; rintro e w' ⟨rfl, rfl⟩)
        go_ret
        exact ⟨ret_int (by rw [unhide Hs]; rfl), unhide HB2⟩
    · have Hs : Hid (nodeOf s.data.toList = 0) := nodeOf_no fun x hx => heq (by
          have := unhide Hv
          rw [← hx, atoi_dg] at this
          cases this
          rw [itoa_dg, hx, toList_data])
      go_wp2_with fail
      go_ret
      exact ⟨ret_int (by rw [unhide Hs]; rfl), unhide HB2⟩
  · have Hs : Hid (nodeOf s.data.toList = 0) := nodeOf_no fun x hx => hno ((x.val : Int) + 1) (by rw [← hx, atoi_dg])
    have HB1 := hide hB1
    clear hB1 hno
    go_wp2_with fail
    go_ret
    exact ⟨ret_int (by rw [unhide Hs]; rfl), unhide HB1⟩
end Go.Proofs.YtglhapkclpllfaaDoor
