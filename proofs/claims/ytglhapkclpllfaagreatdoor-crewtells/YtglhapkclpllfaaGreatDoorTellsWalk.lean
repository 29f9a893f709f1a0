/-
  The walk of the law CrewTells.
-/
import Derived.Test.YtglhapkclpllfaaGreatDoorTells
namespace Go.Proofs.YtglhapkclpllfaaGreatDoor
open Go.RowKit Go.Shelf

set_option maxHeartbeats 4000000 in
set_option maxRecDepth 100000 in
theorem tells_far (a : Nat → Addr) (x y node : Int) (lv : Value) (xs : List Int) (s : ByteArray) (w : World) (T : TellOk a w) (hl : IntsIn w lv xs) (h : 40 < xs.length ∨ 100 < s.size) :
    Calls Tryz.prog 3 #[.int .i64 x, .int .i64 y, .int .i64 node, lv, .string s] w fun e w' => e = .returned (.bool true) ∧ Below w.heap.size w w' := by
  obtain ⟨ad, cap, rfl, _⟩ := hl
  have HT := hide T
  clear T
  by_cases h1 : 40 < xs.length
  · go_enter Tryz.func3, Tryz.ntmps3
    go_wp2_with (go_at_call 4; refine (crewed_ok w (unhide HT).crew).mono ?_; rintro e w1 ⟨rfl, hB1⟩)
    go_ret
    exact ⟨rfl, hB1⟩
  · have h2 : 100 < s.size := by omega
    go_enter Tryz.func3, Tryz.ntmps3
    go_wp2_with (go_at_call 4; refine (crewed_ok w (unhide HT).crew).mono ?_; rintro e w1 ⟨rfl, hB1⟩)
    go_ret
    exact ⟨rfl, hB1⟩
set_option maxHeartbeats 8000000 in
set_option maxRecDepth 100000 in
theorem tells_near (a : Nat → Addr) (x y node : Int) (lv : Value) (xs : List Int) (s : ByteArray) (w : World) (T : TellOk a w) (hl : IntsIn w lv xs) (h1 : xs.length ≤ 40) (h2 : s.size ≤ 100) (hwf : ∀ x ∈ xs, (Lit.int .i64 x).wf = true) :
    Calls Tryz.prog 3 #[.int .i64 x, .int .i64 y, .int .i64 node, lv, .string s] w fun e w' => e = .returned (.bool true) ∧ Below w.heap.size w w' := by
  have HL0 := hide hl
  obtain ⟨ad, cap, rfl, hcl0⟩ := hl
  have HT := hide T
  have HL := HL0
  have HC0 := hide hcl0
  clear HL0 hcl0
  have HWF := hide hwf
  clear T hwf
  obtain ⟨ev0, c0, ys, tx, hyl, htl, K1, K2, K3, K4, K5, K6, K7, K8⟩ := one_tells a x
  have K1 := hide K1
  have K2 := hide K2
  have K3 := hide K3
  have K4 := hide K4
  have K5 := hide K5
  have K6 := hide K6
  have K7 := hide K7
  have K8 := hide K8
  obtain ⟨hb, M1, M2⟩ := has_tells a x node
  have M1 := hide M1
  have M2 := hide M2
  obtain ⟨nO, cO, aO, O1, O2⟩ := of_pair a xs (by unfold maxLen; omega)
  have O1 := hide O1
  have O2 := hide O2
  obtain ⟨i0, hi, hz0, hz1, hz2⟩ := info_parts Tryz.infoInt'
  obtain ⟨nB, eB, cB, B1, B2, B3⟩ := both_pair a x y
  have B1 := hide B1
  have B2 := hide B2
  have B3 := hide B3
  obtain ⟨nE, eE, cE, E1, E2, E3⟩ := either_pair a x y
  have E1 := hide E1
  have E2 := hide E2
  have E3 := hide E3
  obtain ⟨nL, eL, cL, L1, L2, L3⟩ := less_pair a x y
  have L1 := hide L1
  have L2 := hide L2
  have L3 := hide L3
  obtain ⟨nR, eR, cR, R1, R2, R3⟩ := read_pair a s h2
  have R1 := hide R1
  have R2 := hide R2
  have R3 := hide R3
  go_enter Tryz.func3, Tryz.ntmps3
  go_wp2_with fail
  refine (crewed_ok w (unhide HT).crew).mono ?_
  rintro e w1 ⟨rfl, hB1⟩
  have HB1 := hide hB1
  clear hB1
  go_wp2_with fail
  refine (unhide K2 _).mono ?_
  rintro e w2 ⟨rfl, rfl⟩
  go_wp2_with fail
  refine (unhide K5 _).mono ?_
  rintro e w3 ⟨v3, rfl, hv3, hB3⟩
  have HB3 := hide ((unhide HB1).trans (hB3.mono (unhide HB1).size))
  obtain ⟨ad3, cap3, rfl⟩ : ∃ a c, v3 = .slice a ys.length c := by
    rcases hv3 with ⟨rfl, rfl⟩ | ⟨b, o, c, rfl, _⟩
    · exact ⟨_, _, rfl⟩
    · exact ⟨_, _, rfl⟩
  have HV3 := hide hv3
  clear hB3 hv3
  go_wp2_with fail
  refine (unhide M2 _).mono ?_
  rintro e w4 ⟨rfl, rfl⟩
  go_wp2_with fail
  refine (unhide K1 _ ((unhide HT).below (unhide HB3))).mono ?_
  rintro e w5 ⟨rfl, rfl⟩
  go_wp2_with fail
  refine (unhide K3 _ ((unhide HT).below (unhide HB3))).mono ?_
  rintro e w6 ⟨rfl, hB6⟩
  have HB6 := hide ((unhide HB3).trans (hB6.mono (unhide HB3).size))
  have HV6 := hide ((unhide HV3).below hB6)
  clear hB6 HV3
  go_wp2_with fail
  refine (unhide K4 _ ((unhide HT).below (unhide HB6))).mono ?_
  rintro e w7 ⟨v7, rfl, hv7, hB7⟩
  have HB7 := hide ((unhide HB6).trans (hB7.mono (unhide HB6).size))
  have HV7 := hide ((unhide HV6).below hB7)
  have HW7 := hide hv7
  clear hB7 HV6 hv7
  go_wp2_with fail
  refine (same_ints _ _ ys ys _ (unhide HW7) (unhide HV7) (by unfold maxLen; omega)).mono ?_
  rintro e w8 ⟨rfl, dn, rfl⟩
  have HB8 := hide (below_draw (unhide HB7) dn)
  have hsame : (ys == ys) = true := by simp
  rw [hsame]
  go_wp2_with fail
  refine (unhide K6 _ ((unhide HT).below (unhide HB8))).mono ?_
  rintro e w9 ⟨rfl, rfl⟩
  go_wp2_with fail
  refine (unhide M1 _ ((unhide HT).below (unhide HB8))).mono ?_
  rintro e w10 ⟨rfl, rfl⟩
  have hbb : (hb != hb) = false := by simp
  go_wp2_with fail
  refine (unhide K7 _ ((unhide HT).below (unhide HB8))).mono ?_
  rintro e w11 ⟨rfl, hB11⟩
  have HB11 := hide ((unhide HB8).trans (hB11.mono (unhide HB8).size))
  clear hB11
  go_wp2_with fail
  refine (unhide K8 _).mono ?_
  rintro e w12 ⟨rfl, hB12⟩
  have HB12 := hide ((unhide HB11).trans (hB12.mono (unhide HB11).size))
  clear hB12
  go_wp2_with fail
  refine (unhide B1 _ ((unhide HT).below (unhide HB12))).mono ?_
  rintro e w13 ⟨rfl, hB13⟩
  have HB13 := hide ((unhide HB12).trans (hB13.mono (unhide HB12).size))
  clear hB13
  go_wp2_with fail
  refine (unhide B2 _ ((unhide HT).below (unhide HB13))).mono ?_
  rintro e w14 ⟨rfl, hB14⟩
  have HB14 := hide ((unhide HB13).trans (hB14.mono (unhide HB13).size))
  clear hB14
  go_wp2_with fail
  refine (unhide B3 _ ((unhide HT).below (unhide HB14))).mono ?_
  rintro e w15 ⟨rfl, hB15⟩
  have HB15 := hide ((unhide HB14).trans (hB15.mono (unhide HB14).size))
  clear hB15
  go_wp2_with fail
  refine (unhide E1 _ ((unhide HT).below (unhide HB15))).mono ?_
  rintro e w16 ⟨rfl, hB16⟩
  have HB16 := hide ((unhide HB15).trans (hB16.mono (unhide HB15).size))
  clear hB16
  go_wp2_with fail
  refine (unhide E2 _ ((unhide HT).below (unhide HB16))).mono ?_
  rintro e w17 ⟨rfl, hB17⟩
  have HB17 := hide ((unhide HB16).trans (hB17.mono (unhide HB16).size))
  clear hB17
  go_wp2_with fail
  refine (unhide E3 _ ((unhide HT).below (unhide HB17))).mono ?_
  rintro e w18 ⟨rfl, hB18⟩
  have HB18 := hide ((unhide HB17).trans (hB18.mono (unhide HB17).size))
  clear hB18
  go_wp2_with fail
  refine (unhide L1 _ ((unhide HT).below (unhide HB18))).mono ?_
  rintro e w19 ⟨rfl, hB19⟩
  have HB19 := hide ((unhide HB18).trans (hB19.mono (unhide HB18).size))
  clear hB19
  go_wp2_with fail
  refine (unhide L2 _ ((unhide HT).below (unhide HB19))).mono ?_
  rintro e w20 ⟨rfl, hB20⟩
  have HB20 := hide ((unhide HB19).trans (hB20.mono (unhide HB19).size))
  clear hB20
  go_wp2_with fail
  refine (unhide L3 _ ((unhide HT).below (unhide HB20))).mono ?_
  rintro e w21 ⟨rfl, hB21⟩
  have HB21 := hide ((unhide HB20).trans (hB21.mono (unhide HB20).size))
  clear hB21
  go_wp2_with fail
  refine (unhide R1 _ ((unhide HT).below (unhide HB21))).mono ?_
  rintro e w22 ⟨rfl, hB22⟩
  have HB22 := hide ((unhide HB21).trans (hB22.mono (unhide HB21).size))
  clear hB22
  go_wp2_with fail
  refine (unhide R2 _ ((unhide HT).below (unhide HB22))).mono ?_
  rintro e w23 ⟨rfl, hB23⟩
  have HB23 := hide ((unhide HB22).trans (hB23.mono (unhide HB22).size))
  clear hB23
  go_wp2_with fail
  refine (unhide R3 _ ((unhide HT).below (unhide HB23))).mono ?_
  rintro e w24 ⟨rfl, hB24⟩
  have HB24 := hide ((unhide HB23).trans (hB24.mono (unhide HB23).size))
  clear hB24
  have HB24' := hide ((unhide HL).below (unhide HB24))
  cases ad with
  | none =>
    have hx0 : xs = [] := by
      cases xs with
      | nil => rfl
      | cons x xs => obtain ⟨b, o, e, _⟩ := unhide HC0 0 (by simp); cases e
    subst hx0
    have HV25 : Hid (IntsAt w24 (.slice none 0 0) []) := Or.inl ⟨rfl, rfl⟩
    have HB25 := HB24
    go_wp2_with fail
    refine (unhide O1 _ _ ((unhide HT).below (unhide HB25)) (unhide HV25)).mono ?_
    rintro e w26 ⟨ev26, rfl, hf26, hB26⟩
    have HB26 := hide ((unhide HB25).trans (hB26.mono (unhide HB25).size))
    have HF26 := hide hf26
    clear hB26 hf26
    go_wp2_with fail
    refine (unhide O2 _ _ ((unhide HT).below (unhide HB26)) ((unhide HL).below (unhide HB26))).mono ?_
    rintro e w27 ⟨rfl, hB27⟩
    have HB27 := hide ((unhide HB26).trans (hB27.mono (unhide HB26).size))
    have HF27 := hide ((unhide HF26).below hB27)
    clear hB27 HF26
    go_wp2_with fail
    have hB28 : Below w27.heap.size w27 (w27.alloc (.cells #[.int .i64 cO, .int .i64 aO] 42)) := (Below.refl _ _).alloc (Nat.le_refl _) _
    have HB28 := hide ((unhide HB27).trans (hB28.mono (unhide HB27).size))
    have HF28 := hide ((unhide HF27).below hB28)
    clear hB28 HF27
    refine (faulted_ok a _ ((unhide HT).below (unhide HB28)).sent (unhide HF28)).mono ?_
    rintro e w29 ⟨rfl, hB29⟩
    have HB29 := hide ((unhide HB28).trans (hB29.mono (unhide HB28).size))
    clear hB29
    go_wp2_with fail
    refine (most_ok _ [] _ ((unhide HL).below (unhide HB29)) (by simp) (unhide HWF)).mono ?_
    rintro e w30 ⟨rfl, hB30⟩
    have HB30 := hide ((unhide HB29).trans (hB30.mono (unhide HB29).size))
    clear hB30
    go_wp2_with fail
    refine (mostOf_ok _ [] _ ((unhide HL).below (unhide HB30)) (by simp)).mono ?_
    rintro e w31 ⟨rfl, dm, rfl⟩
    go_wp2
    go_ret
    exact ⟨rfl, below_draw (unhide HB30) _⟩
  | some ad1 =>
    have HC24 : Hid (∀ j u, (xs.map (Value.int .i64))[j]? = some u → w24.cell? (ad1.add j) = some u) := row_cells fun i hi => by
      obtain ⟨b, o, e, hc⟩ := unhide HC0 i hi
      exact ⟨b, o, Option.some.inj e, below_cell (unhide HB24) hc⟩
    go_wp2_with (at_builtin; refine wpList_append_own _ rfl _ _ 22 rfl w24.heap.size 3 i0 (.int .i64 0) 1 8 Tryz.underlying22 hi hz0 hz1 hz2 rfl (by decide) _ 0 [] rfl (World.ownsRow_nil _ _ _ _) ad1 xs.length _ (xs.map (Value.int .i64)) rfl (by simp) (unhide HC24) (by simp [Value.oneCell']) (by unfold maxLen; omega) (by omega) (Nat.le_refl _) ?_; intro v25 w25 hown25 hgrow25 _; have HV25 := hide (intsAt_of_owns (by simpa using hown25)); have HB25 := hide ((unhide HB24).trans (((Below.refl _ w24).grown hgrow25 (Nat.le_refl _) (fun k e => by cases e)).mono (unhide HB24).size)); clear hown25 hgrow25)
    refine (unhide O1 _ _ ((unhide HT).below (unhide HB25)) (unhide HV25)).mono ?_
    rintro e w26 ⟨ev26, rfl, hf26, hB26⟩
    have HB26 := hide ((unhide HB25).trans (hB26.mono (unhide HB25).size))
    have HF26 := hide hf26
    clear hB26 hf26
    go_wp2_with fail
    refine (unhide O2 _ _ ((unhide HT).below (unhide HB26)) ((unhide HL).below (unhide HB26))).mono ?_
    rintro e w27 ⟨rfl, hB27⟩
    have HB27 := hide ((unhide HB26).trans (hB27.mono (unhide HB26).size))
    have HF27 := hide ((unhide HF26).below hB27)
    clear hB27 HF26
    go_wp2_with fail
    have hB28 : Below w27.heap.size w27 (w27.alloc (.cells #[.int .i64 cO, .int .i64 aO] 42)) := (Below.refl _ _).alloc (Nat.le_refl _) _
    have HB28 := hide ((unhide HB27).trans (hB28.mono (unhide HB27).size))
    have HF28 := hide ((unhide HF27).below hB28)
    clear hB28 HF27
    refine (faulted_ok a _ ((unhide HT).below (unhide HB28)).sent (unhide HF28)).mono ?_
    rintro e w29 ⟨rfl, hB29⟩
    have HB29 := hide ((unhide HB28).trans (hB29.mono (unhide HB28).size))
    clear hB29
    go_wp2_with fail
    refine (most_ok _ xs _ ((unhide HL).below (unhide HB29)) (by omega) (unhide HWF)).mono ?_
    rintro e w30 ⟨rfl, hB30⟩
    have HB30 := hide ((unhide HB29).trans (hB30.mono (unhide HB29).size))
    clear hB30
    go_wp2_with fail
    refine (mostOf_ok _ xs _ ((unhide HL).below (unhide HB30)) (by omega)).mono ?_
    rintro e w31 ⟨rfl, dm, rfl⟩
    go_wp2
    go_ret
    exact ⟨rfl, below_draw (unhide HB30) _⟩
theorem tells_walk (a : Nat → Addr) (x y node : Int) (lv : Value) (xs : List Int) (s : ByteArray) (w : World) (T : TellOk a w) (hl : IntsIn w lv xs) (hwf : ∀ x ∈ xs, (Lit.int .i64 x).wf = true) :
    Calls Tryz.prog 3 #[.int .i64 x, .int .i64 y, .int .i64 node, lv, .string s] w fun e w' => e = .returned (.bool true) ∧ Below w.heap.size w w' := by
  by_cases h : 40 < xs.length ∨ 100 < s.size
  · exact tells_far a x y node lv xs s w T hl h
  · exact tells_near a x y node lv xs s w T hl (by omega) (by omega) hwf
end Go.Proofs.YtglhapkclpllfaaGreatDoor
