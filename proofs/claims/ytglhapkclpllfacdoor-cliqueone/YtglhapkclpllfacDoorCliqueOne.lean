/-
  The walk of the law CliqueOne, over what package clique answers: it answers true, and nothing that was in memory has turned.
  Conditions: those of the package's contracts (M).
-/
import Derived.Test.YtglhapkclpllfacDoorCliqueMath
import Derived.Test.YtglhapkclpllfacDoorRef0
import Derived.Deep.AppendLies
import Derived.OwnWalk
import Derived.KernelRfl
namespace Go.Proofs.YtglhapkclpllfacDoor
open Go.RowKit

theorem Tryd.infoEN : (Tryd.prog.info? 52).map (fun i => (i.zero, i.size, i.bytes)) = some (some (.agg #[.int .i64 0, .int .i64 0, .bool false, .int .i64 0]), 4, 32) := by kernel_rfl
/-- What one heard of the history, and what the other one did. -/
def oneE (l : List Ent) (which : List Int) (i : Nat) : Ent := if which.contains (i : Int) then l.getD i Ent.zero else ⟨i, (l.getD i Ent.zero).src, false, 0⟩
def otherE (l : List Ent) (which : List Int) (i : Nat) : Ent := if which.contains (i : Int) then ⟨i, (l.getD i Ent.zero).src, false, 0⟩ else l.getD i Ent.zero
def rowE (f : Nat → Ent) (k : Nat) : List Value := (((List.range k).map f).map Ent.cells).flatten
theorem rowE_snoc (f : Nat → Ent) (k : Nat) : rowE f (k + 1) = rowE f k ++ [.int .i64 (f k).slot, .int .i64 (f k).src, .bool (f k).heard, .int .i64 (f k).value] := by
  unfold rowE
  rw [List.range_succ, List.map_append, List.map_append, List.flatten_append]
  simp [Ent.cells]
theorem ents_of_row {W : World} {base : Nat} {v : Value} {f : Nat → Ent} {n : Nat} (h : W.ownsRow base 52 4 v n (rowE f n)) : EntsIn W v ((List.range n).map f) := by
  refine RecsIn.of_owns (base := base) (e := 52) (size := 4) (fun x hx => ?_) ?_
  · obtain ⟨s, _, rfl⟩ := List.mem_map.1 hx
    rfl
  · rw [List.length_map, List.length_map, List.length_range]
    exact h
/-- Two rows of the call's own, apart. -/
def apartV (a b : Value) : Prop := ∀ g, a.ownBlock = some g → b.ownBlock ≠ some g
theorem hist_one {l : List Ent} (h : histOk l) (which : List Int) : histOk ((List.range l.length).map (oneE l which)) ∧ histOk ((List.range l.length).map (otherE l which)) := by
  have key : ∀ f : Nat → Ent, (∀ i, f i = l.getD i Ent.zero ∨ f i = ⟨i, (l.getD i Ent.zero).src, false, 0⟩) → histOk ((List.range l.length).map f) := fun f hf => by
    refine ⟨by rw [List.length_map, List.length_range]; exact h.1, fun i hi => ?_⟩
    rw [List.length_map, List.length_range] at hi
    rw [List.getD_eq_getElem?_getD, List.getElem?_map, List.getElem?_range hi]
    simp only [Option.map_some, Option.getD_some]
    rcases hf i with e | e
    · rw [e]; exact h.2 i hi
    · rw [e]
      obtain ⟨_, h2, _, _⟩ := ent_right (h.2 i hi)
      exact ent_ok rfl h2 ⟨by simp, by simp⟩ (fun _ => rfl)
  constructor
  · refine key _ fun i => ?_
    unfold oneE
    split
    · exact Or.inl rfl
    · exact Or.inr rfl
  · refine key _ fun i => ?_
    unfold otherE
    split
    · exact Or.inr rfl
    · exact Or.inl rfl
theorem one_other (l : List Ent) (which : List Int) (r : Nat) : (staysB ((List.range l.length).map (oneE l which)) r && staysB ((List.range l.length).map (otherE l which)) r) = false := by
  refine stays_one _ _ r (by simp) fun i hi => ?_
  rw [List.length_map, List.length_range] at hi
  have e : ∀ f : Nat → Ent, ((List.range l.length).map f).getD i Ent.zero = f i := fun f => by
    rw [List.getD_eq_getElem?_getD, List.getElem?_map, List.getElem?_range hi]; rfl
  rw [e, e]
  unfold oneE otherE
  cases which.contains (i : Int) <;> simp
theorem apart_ne {a b : Value} (h : apartV a b) : b.ownBlock = none ∨ b.ownBlock ≠ a.ownBlock := by
  cases hb : b.ownBlock with
  | none => exact Or.inl rfl
  | some g => exact Or.inr fun e => h g e.symm hb
theorem cells4 {W : World} {B : Nat} {x0 x1 x2 x3 : Value} {t : TypeId} (h : W.heap[B]? = some (.cells #[x0, x1, x2, x3] t (0, 0))) : W.cell? ⟨B, 0, none⟩ = some x0 ∧ W.cell? ⟨B, 1, none⟩ = some x1 ∧ W.cell? ⟨B, 2, none⟩ = some x2 ∧ W.cell? ⟨B, 3, none⟩ = some x3 := by
  refine ⟨?_, ?_, ?_, ?_⟩ <;> simp [World.cell?, h]
/-- What stands behind two appends, one to each row. -/
theorem two_rows {V2 w7 w8 : World} {B h0 k g1 c1 g2 c2 : Nat} {av bv : Value} {oA oB : Obj} {A1 : List Value} (hs : h0 ≤ V2.heap.size) (hB : B ≤ h0) (ltA : ∀ k, av.ownBlock = some k → B ≤ k ∧ k < h0) (ltB : ∀ k, bv.ownBlock = some k → B ≤ k ∧ k < h0) (hap : apartV av bv)
    (own1 : w7.ownsRow B 52 4 (.slice (some ⟨g1, 0, none⟩) (k + 1) c1) (k + 1) A1) (grow1 : (V2.alloc oA).grownBy w7 av.ownBlock) (at1 : av.ownBlock = some g1 ∨ g1 = V2.heap.size + 1) (lt1 : g1 < w7.heap.size)
    (grow2 : (w7.alloc oB).grownBy w8 bv.ownBlock) (at2 : bv.ownBlock = some g2 ∨ g2 = w7.heap.size + 1) (hBV : Below B V2 V2) :
    w8.ownsRow B 52 4 (.slice (some ⟨g1, 0, none⟩) (k + 1) c1) (k + 1) A1 ∧ apartV (.slice (some ⟨g1, 0, none⟩) (k + 1) c1) (.slice (some ⟨g2, 0, none⟩) (k + 1) c2) ∧ Below B V2 w8 := by
  have hne : bv.ownBlock ≠ some g1 := fun e => by
    rcases at1 with h | h
    · exact hap g1 h e
    · have := (ltB g1 e).2; omega
  have b1 : Below B V2 w7 := (hBV.alloc (by omega) oA).grown grow1 (by simp; omega) fun q e => (ltA q e).1
  have hs7 := b1.size
  refine ⟨(own1.alloc oB).kept grow2 (Or.inr fun e => hne (by rw [← e]; rfl)), fun g e1 e2 => ?_, (b1.alloc (by omega) oB).grown grow2 (by simp; omega) fun q e => (ltB q e).1⟩
  have h1 : g1 = g := by simpa [Value.ownBlock] using e1
  have h2 : g2 = g := by simpa [Value.ownBlock] using e2
  rw [← h1] at h2
  rcases at2 with h | h
  · exact hne (by rw [h, h2])
  · omega
/-- The closed fact, as the walk wants it. -/
def CliquedO (M : World → Prop) : Prop := ∀ w, M w → Calls Tryd.prog 23 #[] w fun r w' => r = .returned (.bool true) ∧ Below w.heap.size w w'
set_option maxRecDepth 100000 in
theorem qone_far (M : World → Prop) (CQ : CliquedO M) (vl vw : Value) (l : List Ent) (which : List Int) (round : Int) (w : World) (m : M w) (hv : EntsIn w vl l) (hw : IntsIn w vw which) (hM : ∀ w w', M w → Below w.heap.size w w' → M w')
    (h : 60 < l.length ∨ ∀ w, M w → EntsIn w vl l → Calls Tryd.prog 24 #[vl] w fun r w' => ∃ ty p, r = .returned (.iface ty p) ∧ Below w.heap.size w w') :
    Calls Tryd.prog 7 #[vl, vw, .int .i64 round] w fun r w' => r = .returned (.bool true) ∧ Below w.heap.size w w' := by
  have HK := hide (CQ w m)
  have HM := hide (fun w' (hB : Below w.heap.size w w') => hM w w' m hB)
  have HV := hide hv
  obtain ⟨aw, cw, rfl, _⟩ := hw
  by_cases h1 : 60 < l.length
  · obtain ⟨ad, cap, rfl, _⟩ := EntsIn.at hv
    have h1' : (60 : Int) < (l.length : Int) := by omega
    clear m hv h hM
    go_enter Tryd.func7, Tryd.ntmps7
    go_wp2_with (go_at_call 23; refine (unhide HK).mono ?_; rintro E w1 ⟨rfl, hB1⟩; have HB := hide hB1; clear hB1)
    go_ret
    exact ⟨rfl, unhide HB⟩
  · have h2 : ∀ w, M w → EntsIn w vl l → Calls Tryd.prog 24 #[vl] w fun r w' => ∃ ty p, r = .returned (.iface ty p) ∧ Below w.heap.size w w' := by
      rcases h with h | h
      · exact absurd h h1
      · exact h
    have HC := hide h2
    obtain ⟨ad, cap, rfl, _⟩ := EntsIn.at hv
    have h1' : ¬ (60 : Int) < (l.length : Int) := by omega
    clear m hv h hM h2
    go_enter Tryd.func7, Tryd.ntmps7
    go_wp2_with (first
      | (go_at_call 23; refine (unhide HK).mono ?_; rintro E w1 ⟨rfl, hB1⟩; have HB := hide hB1; clear hB1)
      | (go_at_call 24; refine (unhide HC _ (unhide HM _ (unhide HB)) ((unhide HV).below (unhide HB))).mono ?_; rintro E w2 ⟨ty, p, rfl, hB2⟩; have HB2 := hide ((unhide HB).trans (hB2.mono (unhide HB).size)); clear hB2))
    go_ret
    exact ⟨rfl, unhide HB2⟩
set_option maxRecDepth 100000 in
set_option maxHeartbeats 1000000 in
theorem qone_ok (M : World → Prop) (CQ : CliquedO M) (hM : ∀ w w', M w → Below w.heap.size w w' → M w') (vl vw : Value) (l : List Ent) (which : List Int) (round : Int) (p q : Bool) (e1 e2 : Value) (w : World) (m : M w) (hv : EntsIn w vl l) (hw : IntsIn w vw which) (hwl : which.length ≤ maxLen) (h60 : l.length ≤ 60)
    (C : ∀ w, M w → EntsIn w vl l → Calls Tryd.prog 24 #[vl] w fun r w' => r = .returned .nilIface ∧ Below w.heap.size w w')
    (S1 : ∀ w v, M w → EntsIn w v ((List.range l.length).map (oneE l which)) → Calls Tryd.prog 25 #[v, .int .i64 round] w fun r w' => r = .returned (.tuple #[.bool p, e1]) ∧ Below w.heap.size w w')
    (S2 : ∀ w v, M w → EntsIn w v ((List.range l.length).map (otherE l which)) → Calls Tryd.prog 25 #[v, .int .i64 round] w fun r w' => r = .returned (.tuple #[.bool q, e2]) ∧ Below w.heap.size w w')
    (hres : (e1 = .nilIface ∧ e2 = .nilIface ∧ (p && q) = false) ∨ ((∃ ty x, e1 = .iface ty x) ∧ p = false ∧ q = false ∧ (round < 1 ∨ 32 < round))) :
    Calls Tryd.prog 7 #[vl, vw, .int .i64 round] w fun r w' => r = .returned (.bool true) ∧ Below w.heap.size w w' := by
  have HK := hide (CQ w m)
  have HM := hide (fun w' (hB : Below w.heap.size w w') => hM w w' m hB)
  have HV := hide hv
  have HW := hide hw
  have HC := hide C
  have HS1 := hide S1
  have HS2 := hide S2
  have HR := hide hres
  have HWl := hide hwl
  obtain ⟨i0, hi0, hz0, hz1, hz2⟩ := info_parts Tryd.infoEN
  obtain ⟨ad, cap, rfl, hcell⟩ := EntsIn.at hv
  have HCell := hide hcell
  obtain ⟨aw, cw, rfl, _⟩ := hw
  have HE1 : Hid (∀ i, oneE l which i = if which.contains (i : Int) then l.getD i Ent.zero else ⟨i, (l.getD i Ent.zero).src, false, 0⟩) := fun _ => rfl
  have HE2 : Hid (∀ i, otherE l which i = if which.contains (i : Int) then ⟨i, (l.getD i Ent.zero).src, false, 0⟩ else l.getD i Ent.zero) := fun _ => rfl
  obtain ⟨f1, hf1⟩ : ∃ f, oneE l which = f := ⟨_, rfl⟩
  obtain ⟨f2, hf2⟩ : ∃ f, otherE l which = f := ⟨_, rfl⟩
  rw [hf1] at HE1 HS1
  rw [hf2] at HE2 HS2
  obtain ⟨n, hn⟩ : ∃ n, l.length = n := ⟨_, rfl⟩
  rw [hn] at HCell HV HC HS1 HS2 h60 ⊢
  have h60' : ¬ (60 : Int) < (n : Int) := by omega
  clear hv hcell m hM C S1 S2 hres hwl hf1 hf2 hn
  go_enter Tryd.func7, Tryd.ntmps7
  go_wp2_with (first
    | (go_at_call 23; refine (unhide HK).mono ?_; rintro E w1 ⟨rfl, hB1⟩; have HB1 := hide hB1; clear hB1)
    | (go_at_call 24; refine (unhide HC _ (unhide HM _ (unhide HB1)) ((unhide HV).below (unhide HB1))).mono ?_; rintro E w2 ⟨rfl, hB2⟩; have HB2 := hide ((unhide HB1).trans (hB2.mono (unhide HB1).size)); clear hB2))
  go_loopw [8, 9, 10] (fun av bv q wr => ∃ (k : Nat) (a b : Value), k ≤ n ∧ q = .int .i64 (k : Int) ∧ a = av ∧ b = bv ∧ Hid (wr.ownsRow w2.heap.size 52 4 a k (rowE f1 k)) ∧ Hid (wr.ownsRow w2.heap.size 52 4 b k (rowE f2 k)) ∧ Hid (apartV a b) ∧ Hid (Below w2.heap.size w2 wr)) (fun _ _ q _ => n - (intOf q).toNat)
  case atStart => exact ⟨0, _, _, by omega, rfl, rfl, rfl, World.ownsRow_nil _ _ _ _, World.ownsRow_nil _ _ _ _, fun g h => by simp [Value.ownBlock] at h, Below.refl _ _⟩
  case round =>
    obtain ⟨k, av, bv, hk, rfl, rfl, rfl, HOA, HOB, HAp, HB3⟩ := hrel
    by_cases hlt : k < n
    · obtain ⟨b, off, rfl, c0, c1, c2, c3⟩ := unhide HCell k hlt
      have HB4 := hide ((unhide HB2).trans ((unhide HB3).mono (unhide HB2).size))
      have d0 := below_cell (unhide HB4) c0
      have d1 := below_cell (unhide HB4) c1
      have d2 := below_cell (unhide HB4) c2
      have d3 := below_cell (unhide HB4) c3
      have k0 : (0 : Int) ≤ (k : Int) := Int.natCast_nonneg _
      have k1 : (k : Int) < (n : Int) := by omega
      have HP1 := hide (rowE_snoc f1 k)
      have HP2 := hide (rowE_snoc f2 k)
      rw [unhide HE1 k] at HP1
      rw [unhide HE2 k] at HP2
      have hsz := (unhide HB3).size
      clear c0 c1 c2 c3
      obtain ⟨⟨x0, x1, x2, x3⟩, hx⟩ : ∃ x, l.getD k Ent.zero = x := ⟨_, rfl⟩
      rw [hx] at d0 d1 d2 d3 HP1 HP2
      simp only at d0 d1 d2 d3 HP1 HP2
      clear hx
      obtain ⟨V1, hV1⟩ : ∃ V, V = wr.alloc (.cells #[.int .i64 x0, .int .i64 x1, .bool x2, .int .i64 x3] 52) := ⟨_, rfl⟩
      obtain ⟨V2, hV2⟩ : ∃ V, V = V1.alloc (.cells #[.int .i64 (k : Int), .int .i64 x1, .bool false, .int .i64 0] 52) := ⟨_, rfl⟩
      have t1 : V1.heap.size = wr.heap.size + 1 := by rw [hV1]; simp
      have t2 : V2.heap.size = wr.heap.size + 1 + 1 := by rw [hV2]; simp; omega
      have bX : V2.heap[wr.heap.size]? = some (.cells #[.int .i64 x0, .int .i64 x1, .bool x2, .int .i64 x3] 52 (0, 0)) := by
        have h1 : V1.heap[wr.heap.size]? = some (.cells #[.int .i64 x0, .int .i64 x1, .bool x2, .int .i64 x3] 52 (0, 0)) := by rw [hV1]; exact heap_alloc_new wr _
        rw [hV2]
        exact below_row ((Below.refl _ V1).alloc (Nat.le_refl _) _) h1
      have bN : V2.heap[wr.heap.size + 1]? = some (.cells #[.int .i64 (k : Int), .int .i64 x1, .bool false, .int .i64 0] 52 (0, 0)) := by rw [hV2, ← t1]; exact heap_alloc_new V1 _
      have hBV : Below wr.heap.size wr V2 := by
        rw [hV2, hV1]
        exact ((Below.refl _ _).alloc (Nat.le_refl _) _).alloc (by simp) _
      have oA : V2.ownsRow w2.heap.size 52 4 av k (rowE f1 k) := by rw [hV2, hV1]; exact ((unhide HOA).alloc _).alloc _
      have oB : V2.ownsRow w2.heap.size 52 4 bv k (rowE f2 k) := by rw [hV2, hV1]; exact ((unhide HOB).alloc _).alloc _
      have ltA := (unhide HOA).lt
      have ltB := (unhide HOB).lt
      rw [hV1] at hV2
      have HBX := hide bX
      have HBN := hide bN
      have HoA := hide oA
      have HoB := hide oB
      have HltA := hide ltA
      have HltB := hide ltB
      have HBV := hide ((unhide HB3).trans (hBV.mono hsz))
      have Ht2 := hide t2
      have HI := hide (inInts_ok (k : Int) _ which V2 ((unhide HW).below ((unhide HB2).trans ((unhide HBV).mono (unhide HB2).size))) (unhide HWl))
      clear bX bN hBV oA oB ltA ltB hV1 t1 t2
      go_wp2_with fail
      rw [← hV2]
      clear hV2 d0 d1 d2 d3
      have h2s : wr.heap.size + 1 + 1 ≤ V2.heap.size := by rw [unhide Ht2]; omega
      refine (unhide HI).mono ?_
      rintro E w6 ⟨rfl, rfl⟩
      cases hct : which.contains (k : Int) with
      | true =>
        rw [hct] at HP1 HP2
        simp only [if_true] at HP1 HP2
        clear hct HI
        obtain ⟨q0, q1, q2, q3⟩ := cells4 (unhide HBX)
        go_wp2_with (first
          | (at_builtin; refine wpList_append_lies _ rfl _ _ 58 rfl w2.heap.size 52 i0 _ 4 32 Tryd.underlying58 hi0 hz0 hz1 hz2 rfl (by omega) av k _ rfl ((unhide HoA).alloc _) ⟨_, 0, none⟩ 1 1 [.int .i64 x0, .int .i64 x1, .bool x2, .int .i64 x3] rfl rfl (World.news_of_block (heap_alloc_new _ _)) (by simp [Value.oneCell']) (by omega) (by unfold maxLen; omega) (by omega) (by simp; omega) _ rfl ?_; intro g1 cap1 w7 hown1 hgrow1 hat1 hlt1; have HG1 := hide hgrow1; have HA1 := hide hat1; have HL1 := hide hlt1; have HO1 := hide hown1; have bN7 := (hgrow1.block (wr.heap.size + 1) (by simp; omega) (fun e => by have := (unhide HltA _ e.symm).2; omega)).trans (below_row ((Below.refl _ w6).alloc (Nat.le_refl _) _) (unhide HBN)); have oB7 := ((unhide HoB).alloc _).kept hgrow1 (apart_ne (unhide HAp)); have HoB7 := hide oB7; clear oB7 q0 q1 q2 q3; obtain ⟨q0, q1, q2, q3⟩ := cells4 bN7; have hs7 : w2.heap.size ≤ w7.heap.size := Nat.le_trans (by omega) (Nat.le_trans (by rw [World.size_alloc]; omega) hgrow1.size); clear bN7 hown1 hgrow1 hat1 hlt1)
          | (at_builtin; refine wpList_append_lies _ rfl _ _ 58 rfl w2.heap.size 52 i0 _ 4 32 Tryd.underlying58 hi0 hz0 hz1 hz2 rfl (by omega) bv k _ rfl ((unhide HoB7).alloc _) ⟨_, 0, none⟩ 1 1 [.int .i64 (k : Int), .int .i64 x1, .bool false, .int .i64 0] rfl rfl (World.news_of_block (heap_alloc_new _ _)) (by simp [Value.oneCell']) (by omega) (by unfold maxLen; omega) (by omega) (by simp; omega) _ rfl ?_; intro g2 cap2 w8 hown2 hgrow2 hat2 hlt2; have HG2 := hide hgrow2; have HA2 := hide hat2; have HO2 := hide hown2; clear hown2 hgrow2 hat2 hlt2))
        go_roundw
        case rel =>
          obtain ⟨r1, r2, r3⟩ := two_rows (h0 := wr.heap.size) (by omega) hsz (unhide HltA) (unhide HltB) (unhide HAp) (unhide HO1) (unhide HG1) (by simpa using unhide HA1) (unhide HL1) (unhide HG2) (by simpa using unhide HA2) (Below.refl _ _)
          exact ⟨k + 1, _, _, by omega, by go_num, rfl, rfl, by
            show World.ownsRow _ _ _ _ _ _ _
            rw [unhide HP1]
            exact r1, by
            show World.ownsRow _ _ _ _ _ _ _
            rw [unhide HP2]
            exact unhide HO2, r2, (unhide HBV).trans r3⟩
        case measure => simp [intOf]; omega
      | false =>
        rw [hct] at HP1 HP2
        simp only [Bool.false_eq_true, if_false] at HP1 HP2
        clear hct HI
        obtain ⟨q0, q1, q2, q3⟩ := cells4 (unhide HBN)
        go_wp2_with (first
          | (at_builtin; refine wpList_append_lies _ rfl _ _ 58 rfl w2.heap.size 52 i0 _ 4 32 Tryd.underlying58 hi0 hz0 hz1 hz2 rfl (by omega) av k _ rfl ((unhide HoA).alloc _) ⟨_, 0, none⟩ 1 1 [.int .i64 (k : Int), .int .i64 x1, .bool false, .int .i64 0] rfl rfl (World.news_of_block (heap_alloc_new _ _)) (by simp [Value.oneCell']) (by omega) (by unfold maxLen; omega) (by omega) (by simp; omega) _ rfl ?_; intro g1 cap1 w7 hown1 hgrow1 hat1 hlt1; have HG1 := hide hgrow1; have HA1 := hide hat1; have HL1 := hide hlt1; have HO1 := hide hown1; have bN7 := (hgrow1.block (wr.heap.size) (by simp; omega) (fun e => by have := (unhide HltA _ e.symm).2; omega)).trans (below_row ((Below.refl _ w6).alloc (Nat.le_refl _) _) (unhide HBX)); have oB7 := ((unhide HoB).alloc _).kept hgrow1 (apart_ne (unhide HAp)); have HoB7 := hide oB7; clear oB7 q0 q1 q2 q3; obtain ⟨q0, q1, q2, q3⟩ := cells4 bN7; have hs7 : w2.heap.size ≤ w7.heap.size := Nat.le_trans (by omega) (Nat.le_trans (by rw [World.size_alloc]; omega) hgrow1.size); clear bN7 hown1 hgrow1 hat1 hlt1)
          | (at_builtin; refine wpList_append_lies _ rfl _ _ 58 rfl w2.heap.size 52 i0 _ 4 32 Tryd.underlying58 hi0 hz0 hz1 hz2 rfl (by omega) bv k _ rfl ((unhide HoB7).alloc _) ⟨_, 0, none⟩ 1 1 [.int .i64 x0, .int .i64 x1, .bool x2, .int .i64 x3] rfl rfl (World.news_of_block (heap_alloc_new _ _)) (by simp [Value.oneCell']) (by omega) (by unfold maxLen; omega) (by omega) (by simp; omega) _ rfl ?_; intro g2 cap2 w8 hown2 hgrow2 hat2 hlt2; have HG2 := hide hgrow2; have HA2 := hide hat2; have HO2 := hide hown2; clear hown2 hgrow2 hat2 hlt2))
        go_roundw
        case rel =>
          obtain ⟨r1, r2, r3⟩ := two_rows (h0 := wr.heap.size) (by omega) hsz (unhide HltA) (unhide HltB) (unhide HAp) (unhide HO1) (unhide HG1) (by simpa using unhide HA1) (unhide HL1) (unhide HG2) (by simpa using unhide HA2) (Below.refl _ _)
          exact ⟨k + 1, _, _, by omega, by go_num, rfl, rfl, by
            show World.ownsRow _ _ _ _ _ _ _
            rw [unhide HP1]
            exact r1, by
            show World.ownsRow _ _ _ _ _ _ _
            rw [unhide HP2]
            exact unhide HO2, r2, (unhide HBV).trans r3⟩
        case measure => simp [intOf]; omega
    · have hkn : k = n := by omega
      subst hkn
      have HX1 := hide (ents_of_row (unhide HOA))
      have HX2 := hide (ents_of_row (unhide HOB))
      have HB4 := hide ((unhide HB2).trans ((unhide HB3).mono (unhide HB2).size))
      rcases unhide HR with ⟨rfl, rfl, hpq⟩ | ⟨⟨ty, x, rfl⟩, rfl, rfl, hr⟩
      · clear HR
        cases p with
        | false =>
          clear hpq
          go_wp2_with (first
            | (go_at_call 25; refine (unhide HS1 _ _ (unhide HM _ (unhide HB4)) (unhide HX1)).mono ?_; rintro E w5 ⟨rfl, hB5⟩; have HB5 := hide ((unhide HB4).trans (hB5.mono (unhide HB4).size)); have HX3 := hide ((unhide HX2).below hB5); clear hB5 HS1)
            | (go_at_call 25; refine (unhide HS2 _ _ (unhide HM _ (unhide HB5)) (unhide HX3)).mono ?_; rintro E w6 ⟨rfl, hB6⟩; have HB6 := hide ((unhide HB5).trans (hB6.mono (unhide HB5).size)); clear hB6 HS2))
          go_ret
          exact ⟨rfl, unhide HB6⟩
        | true =>
          obtain rfl : q = false := by simpa using hpq
          clear hpq
          go_wp2_with (first
            | (go_at_call 25; refine (unhide HS1 _ _ (unhide HM _ (unhide HB4)) (unhide HX1)).mono ?_; rintro E w5 ⟨rfl, hB5⟩; have HB5 := hide ((unhide HB4).trans (hB5.mono (unhide HB4).size)); have HX3 := hide ((unhide HX2).below hB5); clear hB5 HS1)
            | (go_at_call 25; refine (unhide HS2 _ _ (unhide HM _ (unhide HB5)) (unhide HX3)).mono ?_; rintro E w6 ⟨rfl, hB6⟩; have HB6 := hide ((unhide HB5).trans (hB6.mono (unhide HB5).size)); clear hB6 HS2))
          go_ret
          exact ⟨rfl, unhide HB6⟩
      · clear HR
        rcases hr with hr | hr
        all_goals
          go_wp2_with (first
            | (go_at_call 25; refine (unhide HS1 _ _ (unhide HM _ (unhide HB4)) (unhide HX1)).mono ?_; rintro E w5 ⟨rfl, hB5⟩; have HB5 := hide ((unhide HB4).trans (hB5.mono (unhide HB4).size)); have HX3 := hide ((unhide HX2).below hB5); clear hB5 HS1)
            | (go_at_call 25; refine (unhide HS2 _ _ (unhide HM _ (unhide HB5)) (unhide HX3)).mono ?_; rintro E w6 ⟨rfl, hB6⟩; have HB6 := hide ((unhide HB5).trans (hB6.mono (unhide HB5).size)); clear hB6 HS2))
          go_ret
          exact ⟨rfl, unhide HB6⟩
end Go.Proofs.YtglhapkclpllfacDoor
