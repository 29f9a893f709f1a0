/-
  Contracts of package bus: checkSlot, counts, onlyText, spread, Hear, whatever the plan, the slot, what is sent and who is lost are.
  Conditions: package api's errors lie as laid (structure GSent).
-/
import Derived.Test.YtglhapkclpllfacDoorGuard1
import Derived.Test.YtglhapkclpllfacDoorBusMath
import Derived.Test.YtglhapkclpllfacDoorTexts
import Derived.OwnWalk
import Derived.Laws.OwnMore
import Derived.KernelRfl
namespace Go.Proofs.YtglhapkclpllfacDoor
open Go.RowKit

theorem checkSlot_ok (long slot : Nat) (w : World) (h : slotOk long slot) :
    Calls Tryd.prog 26 #[.int .i64 long, .int .i64 slot] w fun r w' => r = .returned .nilIface ∧ Below w.heap.size w w' := by
  have HO := hide (slotG_yes long 1000000 w ⟨h.1, by omega, by omega⟩)
  have h1 := slotOk_div h
  clear h
  generalize 1000000 / long = q at *
  have h2 : ¬ (slot : Int) < 0 := by omega
  have h3 : ¬ (q : Int) < (slot : Int) := by omega
  go_enter Tryd.func26, Tryd.ntmps26
  go_wp2_with fail
  refine (unhide HO).mono ?_
  rintro E w1 ⟨rfl, hB1⟩
  have HB1 := hide hB1
  clear hB1
  go_wp2
  go_ret
  exact ⟨rfl, unhide HB1⟩
theorem checkSlot_no (e : Nat → TypeId × Value) (long slot : Int) (w : World) (h : ¬ slotOk long slot) (S : PSent e w) :
    Calls Tryd.prog 26 #[.int .i64 long, .int .i64 slot] w fun r w' => r = .returned (.iface (e 1).1 (e 1).2) ∧ Below w.heap.size w w' := by
  by_cases hl : 1 ≤ long ∧ long ≤ 1000000
  · obtain ⟨n, rfl⟩ : ∃ n : Nat, long = (n : Int) := ⟨long.toNat, by omega⟩
    have HO := hide (slotG_yes n 1000000 w ⟨hl, by omega, by omega⟩)
    have HS := hide S.c1
    have hd : slot < 0 ∨ ((1000000 / n : Nat) : Int) < slot := by
      by_cases h0 : slot < 0
      · exact Or.inl h0
      · refine Or.inr (Int.not_le.1 fun h4 => h (div_slotOk (by omega) (by omega) (by omega) h4))
    clear h S
    generalize 1000000 / n = q at *
    by_cases h0 : slot < 0
    · clear hd
      go_enter Tryd.func26, Tryd.ntmps26
      go_wp2_with fail
      refine (unhide HO).mono ?_
      rintro E w1 ⟨rfl, hB1⟩
      have HB1 := hide hB1
      have hE := below_cell hB1 (unhide HS)
      clear hB1
      go_wp2
      go_ret
      exact ⟨rfl, unhide HB1⟩
    · have h1 : (q : Int) < slot := by omega
      clear hd
      go_enter Tryd.func26, Tryd.ntmps26
      go_wp2_with fail
      refine (unhide HO).mono ?_
      rintro E w1 ⟨rfl, hB1⟩
      have HB1 := hide hB1
      have hE := below_cell hB1 (unhide HS)
      clear hB1
      go_wp2
      go_ret
      exact ⟨rfl, unhide HB1⟩
  · have HO := hide (slotG_no e long 1000000 w (fun h => hl h.1) S)
    clear h S hl
    go_enter Tryd.func26, Tryd.ntmps26
    go_wp2_with fail
    refine (unhide HO).mono ?_
    rintro E w1 ⟨rfl, hB1⟩
    have HB1 := hide hB1
    clear hB1
    go_wp2
    go_ret
    exact ⟨rfl, unhide HB1⟩
/-- What is sent counts. -/
theorem counts_ok (e : Nat → TypeId × Value) (v : Value) (xs : List Int) (long slot : Nat) (s : Snt) (w : World) (hv : IntsIn w v xs) (hp : planOk xs) (hl : 1 ≤ long ∧ long ≤ 1000000) (S : GSent e w) :
    Calls Tryd.prog 48 #[v, .int .i64 long, .int .i64 slot, .agg #[.int .i64 s.node, .int .i64 s.tick, .string s.text]] w fun r w' => r = .returned (.bool (cnts xs long slot s)) ∧ Below w.heap.size w w' := by
  obtain ⟨W, hW⟩ : ∃ W, W = w.alloc (.cells #[.int .i64 s.node, .int .i64 s.tick, .string s.text] 63) := ⟨_, rfl⟩
  have hBW : Below w.heap.size w W := by rw [hW]; exact (Below.refl _ _).alloc (Nat.le_refl _) _
  have c0 : W.cell? ⟨w.heap.size, 0, none⟩ = some (.int .i64 s.node) := by rw [hW]; simp
  have c1 : W.cell? ⟨w.heap.size, 1, none⟩ = some (.int .i64 s.tick) := by rw [hW]; simp
  have hc : cnts xs long slot s = decide (0 ≤ s.tick ∧ s.tick ≤ 1000000 ∧ ownerAt xs long s.tick.toNat = s.node ∧ s.tick.toNat / long = slot) := rfl
  rw [hc]
  clear hc
  have HBW := hide hBW
  have HV := hide (hv.below hBW)
  have HS := hide (S.below hBW)
  obtain ⟨ad, cap, rfl, _⟩ := hv
  generalize s.node = x0 at *
  generalize s.tick = x1 at *
  generalize s.text = x2 at *
  clear hBW S
  by_cases ht : tickOk long x1
  · obtain ⟨t, rfl⟩ : ∃ t : Nat, x1 = (t : Int) := ⟨x1.toNat, by have := ht.2.1; omega⟩
    rw [Int.toNat_natCast]
    have HO := hide (slotG_yes long t W ht)
    have HP : Hid (∀ w', Below W.heap.size W w' → Calls Tryd.prog 63 #[.slice ad xs.length cap, .int .i64 long, .int .i64 x0, .int .i64 t] w' fun r w2 => r = .returned (if ownerAt xs long t = x0 then .nilIface else .iface (e 8).1 (e 8).2) ∧ Below w'.heap.size w' w2) := fun w' hB => passG_ok e _ xs long t x0 w' ((unhide HV).below hB) ht hp ((unhide HS).below hB)
    have hd : decide (0 ≤ (t : Int) ∧ (t : Int) ≤ 1000000 ∧ ownerAt xs long t = x0 ∧ t / long = slot) = decide (ownerAt xs long t = x0 ∧ t / long = slot) := by
      have := ht.2
      by_cases hq : ownerAt xs long t = x0 ∧ t / long = slot
      · rw [decide_eq_true hq, decide_eq_true ⟨this.1, this.2, hq⟩]
      · rw [decide_eq_false hq, decide_eq_false fun h => hq h.2.2]
    rw [hd]
    clear hd ht hp hl
    generalize ownerAt xs long t = x at *
    generalize t / long = q at *
    by_cases h1 : q = slot
    · subst h1
      by_cases h2 : x = x0
      · subst h2
        rw [if_pos rfl] at HP
        go_enter Tryd.func48, Tryd.ntmps48
        go_wp2_with fail
        rw [← hW]
        go_wp2_with (first
          | (go_at_call 47; refine (unhide HO).mono ?_; rintro E w1 ⟨rfl, hB1⟩; have HB1 := hide hB1; have d0 := below_cell hB1 c0; have d1 := below_cell hB1 c1; clear hB1)
          | (go_at_call 63; refine (unhide HP _ (unhide HB1)).mono ?_; rintro E w2 ⟨rfl, hB2⟩; have HB2 := hide ((unhide HB1).trans (hB2.mono (unhide HB1).size)); clear hB2))
        go_ret
        exact ⟨ret_bool (by simp), (unhide HBW).trans ((unhide HB2).mono (unhide HBW).size)⟩
      · rw [if_neg h2] at HP
        go_enter Tryd.func48, Tryd.ntmps48
        go_wp2_with fail
        rw [← hW]
        go_wp2_with (first
          | (go_at_call 47; refine (unhide HO).mono ?_; rintro E w1 ⟨rfl, hB1⟩; have HB1 := hide hB1; have d0 := below_cell hB1 c0; have d1 := below_cell hB1 c1; clear hB1)
          | (go_at_call 63; refine (unhide HP _ (unhide HB1)).mono ?_; rintro E w2 ⟨rfl, hB2⟩; have HB2 := hide ((unhide HB1).trans (hB2.mono (unhide HB1).size)); clear hB2))
        go_ret
        exact ⟨ret_bool (by simp [h2]), (unhide HBW).trans ((unhide HB2).mono (unhide HBW).size)⟩
    · have h1' : ¬ (q : Int) = (slot : Int) := by omega
      go_enter Tryd.func48, Tryd.ntmps48
      go_wp2_with fail
      rw [← hW]
      go_wp2_with (first
        | (go_at_call 47; refine (unhide HO).mono ?_; rintro E w1 ⟨rfl, hB1⟩; have HB1 := hide hB1; clear hB1))
      go_ret
      exact ⟨ret_bool (by simp [h1]), (unhide HBW).trans ((unhide HB1).mono (unhide HBW).size)⟩
  · have HO := hide (slotG_no e long x1 W ht (unhide HS).p)
    rw [decide_eq_false fun h => ht ⟨⟨by omega, by omega⟩, h.1, h.2.1⟩]
    clear ht hp hl
    go_enter Tryd.func48, Tryd.ntmps48
    go_wp2_with fail
    rw [← hW]
    go_wp2_with (first
      | (go_at_call 47; refine (unhide HO).mono ?_; rintro E w1 ⟨rfl, hB1⟩; have HB1 := hide hB1; clear hB1))
    go_ret
    exact ⟨rfl, (unhide HBW).trans ((unhide HB1).mono (unhide HBW).size)⟩
/-- The only text that counts; empty, if none counts or several do. -/
def onlyT (ss : List Snt) (p : Snt → Bool) : ByteArray := if (ss.filter p).length = 1 then lastOf p ss else ⟨#[]⟩
set_option maxRecDepth 100000 in
set_option maxHeartbeats 1000000 in
theorem onlyText_ok (e : Nat → TypeId × Value) (v vs : Value) (xs : List Int) (ss : List Snt) (long slot : Nat) (w : World) (hv : IntsIn w v xs) (hs : SntsIn w vs ss) (hp : planOk xs) (hl : 1 ≤ long ∧ long ≤ 1000000) (h40 : ss.length ≤ 40) (S : GSent e w) :
    Calls Tryd.prog 28 #[v, .int .i64 long, .int .i64 slot, vs] w fun r w' => r = .returned (.string (onlyT ss (cnts xs long slot))) ∧ Below w.heap.size w w' := by
  have HC : Hid (∀ s w', Below w.heap.size w w' → Calls Tryd.prog 48 #[v, .int .i64 long, .int .i64 slot, .agg #[.int .i64 s.node, .int .i64 s.tick, .string s.text]] w' fun r w2 => r = .returned (.bool (cnts xs long slot s)) ∧ Below w'.heap.size w' w2) := fun s w' hB => counts_ok e v xs long slot s w' (hv.below hB) hp hl (S.below hB)
  obtain ⟨ad, cap, rfl, _⟩ := hv
  obtain ⟨ads, caps, rfl, hsc⟩ := SntsIn.at hs
  have HSC := hide hsc
  obtain ⟨p, hpp⟩ : ∃ p, cnts xs long slot = p := ⟨_, rfl⟩
  rw [hpp] at HC ⊢
  obtain ⟨n, hn⟩ : ∃ n, ss.length = n := ⟨_, rfl⟩
  have Hn : Hid (ss.length = n) := hn
  rw [hn] at h40 HSC ⊢
  have h40' : (n : Int) ≤ 40 := by omega
  clear hs hp hl S hsc hpp hn
  go_enter Tryd.func28, Tryd.ntmps28
  go_wp2_with fail
  go_loopw [9, 10, 15] (fun t q i wr => ∃ (k r : Nat) (x : ByteArray), k ≤ n ∧ i = .int .i64 k ∧ q = .int .i64 r ∧ t = .string x ∧ r ≤ k ∧ Hid (r = ((ss.take k).filter p).length) ∧ Hid (x = lastOf p (ss.take k)) ∧ Hid (Below w.heap.size w wr)) (fun _ _ i _ => n - (intOf i).toNat)
  case atStart => exact ⟨0, 0, _, by omega, rfl, rfl, rfl, by omega, by show 0 = _; simp, by show _ = _; simp [lastOf], Below.refl _ _⟩
  case round =>
    obtain ⟨k, r, x, hk, rfl, rfl, rfl, hr, Hr, Hx, HB⟩ := hrel
    by_cases hlt : k < n
    · obtain ⟨b, off, rfl, c0, c1, c2⟩ := unhide HSC k hlt
      have HC1 := hide (cnt_snoc p ss k (by rw [unhide Hn]; exact hlt))
      have HC2 := hide (lastOf_snoc p ss k (by rw [unhide Hn]; exact hlt))
      rw [← unhide Hr] at HC1
      rw [← unhide Hx] at HC2
      have d0 := below_cell (unhide HB) c0
      have d1 := below_cell (unhide HB) c1
      have d2 := below_cell (unhide HB) c2
      have lb := Nat.lt_of_lt_of_le (cell_lt c0) (unhide HB).size
      have HCk := hide (unhide HC (ss.getD k Snt.zero))
      have k0 : (0 : Int) ≤ (k : Int) := Int.natCast_nonneg _
      have k1 : (k : Int) < (n : Int) := by omega
      clear c0 c1 c2
      generalize p (ss.getD k Snt.zero) = pb at *
      generalize (ss.getD k Snt.zero).node = x0 at *
      generalize (ss.getD k Snt.zero).tick = x1 at *
      generalize (ss.getD k Snt.zero).text = x2 at *
      have HA : Hid (Below w.heap.size w (wr.alloc (.cells #[.int .i64 x0, .int .i64 x1, .string x2] 63))) := (unhide HB).alloc (unhide HB).size _
      have q2 : (wr.alloc (.cells #[.int .i64 x0, .int .i64 x1, .string x2] 63)).cell? ⟨wr.heap.size, 2, none⟩ = some (.string x2) := by simp
      have HQ2 := hide q2
      clear q2
      cases pb with
      | true =>
        simp only [if_true] at HC1 HC2
        go_wp2_with (go_at_call 48; refine (unhide HCk _ (unhide HA)).mono ?_; rintro E w2 ⟨rfl, hB2⟩; have HB2 := hide ((unhide HA).trans (hB2.mono (unhide HA).size)); have q2 := below_cell hB2 (unhide HQ2); clear hB2)
        go_roundw
        case rel => exact ⟨k + 1, r + 1, x2, by omega, by go_num, by go_num, rfl, by omega, (unhide HC1).symm, (unhide HC2).symm, unhide HB2⟩
        case measure => simp [intOf]; omega
      | false =>
        simp only [Bool.false_eq_true, if_false] at HC1 HC2
        go_wp2_with (go_at_call 48; refine (unhide HCk _ (unhide HA)).mono ?_; rintro E w2 ⟨rfl, hB2⟩; have HB2 := hide ((unhide HA).trans (hB2.mono (unhide HA).size)); clear hB2)
        go_roundw
        case rel => exact ⟨k + 1, r, x, by omega, by go_num, rfl, rfl, by omega, (unhide HC1).symm, (unhide HC2).symm, unhide HB2⟩
        case measure => simp [intOf]; omega
    · have hkn : k = n := by omega
      subst hkn
      have Hr1 : Hid (r = (ss.filter p).length) := by
        have h := unhide Hr
        rw [List.take_of_length_le (by rw [unhide Hn]; exact Nat.le_refl _)] at h
        exact h
      have Hx1 : Hid (x = lastOf p ss) := by
        have h := unhide Hx
        rw [List.take_of_length_le (by rw [unhide Hn]; exact Nat.le_refl _)] at h
        exact h
      clear Hr Hx
      by_cases h1 : r = 1
      · subst h1
        go_wp2
        go_ret
        exact ⟨by unfold onlyT; rw [if_pos (unhide Hr1).symm, ← unhide Hx1]; rfl, unhide HB⟩
      · have h1' : ¬ (r : Int) = 1 := by omega
        have H1 := hide h1
        clear h1
        go_wp2
        go_ret
        exact ⟨by unfold onlyT; rw [if_neg (fun h => unhide H1 ((unhide Hr1).trans h))]; rfl, unhide HB⟩
/-- Sixteen texts in a row of the call's own. -/
def Row16 (w : World) (base g : Nat) (f : Nat → ByteArray) : Prop := w.ownsRow base 9 1 (.slice (some ⟨g, 0, none⟩) 16 16) 16 (((List.range 16).map f).map Value.string)
theorem Row16.cell {w : World} {base g : Nat} {f : Nat → ByteArray} (h : Row16 w base g f) (k : Nat) (hk : k < 16) : w.cell? ⟨g, k, none⟩ = some (.string (f k)) := by
  rw [World.ownsRow.cellAt h k (by omega), List.getElem?_map, List.getElem?_map, List.getElem?_range hk]
  rfl
theorem Row16.set {w : World} {base g : Nat} {f : Nat → ByteArray} (h : Row16 w base g f) (k : Nat) (x : ByteArray) : Row16 (w.setCell ⟨g, k, none⟩ (.string x)) base g (fun i => if i = k then x else f i) := by
  have h1 := (World.ownsRow.stored h k (.string x)).1
  have e : (((List.range 16).map f).map Value.string).set k (.string x) = ((List.range 16).map fun i => if i = k then x else f i).map Value.string := by
    apply List.ext_getElem?
    intro j
    rw [List.getElem?_set, List.length_map, List.length_map, List.length_range, List.getElem?_map, List.getElem?_map, List.getElem?_map, List.getElem?_map]
    by_cases hj : j < 16
    · rw [List.getElem?_range hj]
      by_cases hk : k = j
      · subst hk
        simp [hj]
      · rw [if_neg hk]
        simp [Ne.symm hk]
    · rw [List.getElem?_eq_none (by simp; omega)]
      by_cases hk : k = j
      · subst hk
        simp [hj]
      · simp [hk]
  rw [e] at h1
  exact h1
theorem Row16.made (w : World) : Row16 (w.alloc (.cells (madeCells #[.string ⟨#[]⟩] 16) 9)) w.heap.size w.heap.size (fun _ => ⟨#[]⟩) := by
  have h := World.ownsRow_lit (base := w.heap.size) (e := 9) (size := 1) w (madeCells #[.string ⟨#[]⟩] 16) 16 (Nat.le_refl _) (by decide) (by rw [size_madeCells])
  rw [toList_madeCells_one] at h
  exact h
set_option maxRecDepth 100000 in
set_option maxHeartbeats 1000000 in
theorem spread_ok (x : ByteArray) (vl : Value) (lost : List Int) (w : World) (hl : IntsIn w vl lost) (h40 : lost.length ≤ 40) :
    Calls Tryd.prog 27 #[.string x, vl] w fun r w' => ∃ v, r = .returned v ∧ TxtsIn w' v ((List.range 16).map fun i : Nat => if ((i : Int) + 1) ∈ lost then ⟨#[]⟩ else x) ∧ Below w.heap.size w w' := by
  have hmk : ∀ w : World, (Instr.makeSlice 26 (.int .i64 16) (.int .i64 16)).run Tryd.prog w = .ok (.slice (some ⟨w.heap.size, 0, none⟩) 16 16) (w.alloc (.cells (madeCells #[.string ⟨#[]⟩] 16) 9)) := fun _ => by kernel_rfl
  obtain ⟨al, capl, rfl, hc⟩ := hl
  have HC := hide hc
  obtain ⟨n, hn⟩ : ∃ n, lost.length = n := ⟨_, rfl⟩
  have Hn : Hid (lost.length = n) := hn
  rw [hn] at h40 HC ⊢
  have h40' : (n : Int) ≤ 40 := by omega
  have HR := hide (Row16.made w)
  have HA : Hid (Below w.heap.size w (w.alloc (.cells (madeCells #[.string ⟨#[]⟩] 16) 9))) := (Below.refl _ _).alloc (Nat.le_refl _) _
  clear hc hn
  go_enter Tryd.func27, Tryd.ntmps27
  go_wp2_with fail
  generalize w.alloc (.cells (madeCells #[.string ⟨#[]⟩] 16) 9) = W at *
  go_loopw [12] (fun i wr => ∃ (k : Nat) (f : Nat → ByteArray), k ≤ 16 ∧ i = .int .i64 k ∧ Hid (∀ i : Nat, i < 16 → f i = if i < k then x else ⟨#[]⟩) ∧ Hid (Row16 wr w.heap.size w.heap.size f) ∧ Hid (Below w.heap.size w wr)) (fun i _ => 16 - (intOf i).toNat)
  case atStart => exact ⟨0, _, by omega, rfl, fun i hi => by simp, unhide HR, unhide HA⟩
  case round =>
    obtain ⟨k, f, hk, rfl, Hf, HRw, HB⟩ := hrel
    by_cases hlt : k < 16
    · have k0 : (0 : Int) ≤ (k : Int) := Int.natCast_nonneg _
      have k1 : (k : Int) < 16 := by omega
      have c0 := (unhide HRw).cell k hlt
      have f0 : wr.frozen? ⟨w.heap.size, k, none⟩ = false := World.ownsRow.frozenAt (unhide HRw) k
      go_wp2
      go_roundw
      case rel => exact ⟨k + 1, _, by omega, by go_num, fun i hi => by
        show (if i = k then x else f i) = _
        by_cases h : i = k
        · rw [if_pos h, if_pos (by omega)]
        · rw [if_neg h, unhide Hf i hi]
          by_cases h2 : i < k
          · rw [if_pos h2, if_pos (by omega)]
          · rw [if_neg h2, if_neg (by omega)], (unhide HRw).set k x, (unhide HB).setCell (Nat.le_refl _) _⟩
      case measure => simp [intOf]; omega
    · have hk16 : k = 16 := by omega
      subst hk16
      have Hf0 : Hid (∀ i : Nat, i < 16 → f i = x) := fun i hi => by rw [unhide Hf i hi, if_pos hi]
      clear Hf
      go_wp2_with fail
      go_loopw [22] (fun i w' => ∃ (k : Nat) (f : Nat → ByteArray), k ≤ n ∧ i = .int .i64 k ∧ Hid (∀ i : Nat, i < 16 → f i = if ((i : Int) + 1) ∈ lost.take k then ⟨#[]⟩ else x) ∧ Hid (Row16 w' w.heap.size w.heap.size f) ∧ Hid (Below w.heap.size w w')) (fun i _ => n - (intOf i).toNat)
      case atStart => exact ⟨0, f, by omega, rfl, fun i hi => by rw [unhide Hf0 i hi]; simp, unhide HRw, unhide HB⟩
      case round =>
        obtain ⟨j, f2, hj, rfl, Hf2, HR2, HB2⟩ := hrel
        by_cases hlt2 : j < n
        · obtain ⟨b, off, rfl, c0⟩ := unhide HC j hlt2
          have d0 := below_cell (unhide HB2) c0
          have j0 : (0 : Int) ≤ (j : Int) := Int.natCast_nonneg _
          have j1 : (j : Int) < (n : Int) := by omega
          have HM : Hid (∀ z : Int, z ∈ lost.take (j + 1) ↔ z ∈ lost.take j ∨ z = lost.getD j 0) := fun z => by
            have hjl : j < lost.length := by rw [unhide Hn]; exact hlt2
            rw [List.take_succ_eq_append_getElem hjl, List.mem_append, List.getD_eq_getElem?_getD, List.getElem?_eq_getElem hjl]
            simp
          clear c0
          generalize lost.getD j 0 = y at *
          by_cases hy : 1 ≤ y ∧ y ≤ 16
          · obtain ⟨m, rfl⟩ : ∃ m : Nat, y = (m : Int) + 1 := ⟨(y - 1).toNat, by omega⟩
            obtain ⟨y1, y2⟩ := hy
            have hm : m < 16 := by omega
            have e0 := (unhide HR2).cell m hm
            have f0 := World.ownsRow.frozenAt (unhide HR2) m
            have em : (m : Int) + 1 - 1 = (m : Int) := by omega
            go_wp2
            go_roundw
            case rel => exact ⟨j + 1, _, by omega, by go_num, fun i hi => by
              show (if i = m then _ else f2 i) = _
              by_cases h : i = m
              · rw [if_pos h, if_pos ((unhide HM _).2 (Or.inr (by omega)))]
              · rw [if_neg h, unhide Hf2 i hi]
                by_cases h2 : ((i : Int) + 1) ∈ lost.take j
                · rw [if_pos h2, if_pos ((unhide HM _).2 (Or.inl h2))]
                · rw [if_neg h2, if_neg (fun h3 => by rcases (unhide HM _).1 h3 with h4 | h4; exact h2 h4; omega)], (unhide HR2).set m _, (unhide HB2).setCell (Nat.le_refl _) _⟩
            case measure => simp [intOf]; omega
          · have HF3 : Hid (∀ i : Nat, i < 16 → f2 i = if ((i : Int) + 1) ∈ lost.take (j + 1) then ⟨#[]⟩ else x) := fun i hi => by
              rw [unhide Hf2 i hi]
              by_cases h2 : ((i : Int) + 1) ∈ lost.take j
              · rw [if_pos h2, if_pos ((unhide HM _).2 (Or.inl h2))]
              · rw [if_neg h2, if_neg (fun h3 => by rcases (unhide HM _).1 h3 with h4 | h4; exact h2 h4; omega)]
            by_cases y1 : 1 ≤ y
            · have y2 : ¬ y ≤ 16 := fun h => hy ⟨y1, h⟩
              clear hy
              go_wp2
              go_roundw
              case rel => exact ⟨j + 1, f2, by omega, by go_num, unhide HF3, unhide HR2, unhide HB2⟩
              case measure => simp [intOf]; omega
            · clear hy
              go_wp2
              go_roundw
              case rel => exact ⟨j + 1, f2, by omega, by go_num, unhide HF3, unhide HR2, unhide HB2⟩
              case measure => simp [intOf]; omega
        · have hjn : j = n := by omega
          subst hjn
          have HF3 : Hid ((List.range 16).map f2 = (List.range 16).map fun i : Nat => if ((i : Int) + 1) ∈ lost then ⟨#[]⟩ else x) := by
            show _ = _
            apply List.map_congr_left
            intro i hi
            have h := unhide Hf2 i (List.mem_range.1 hi)
            rw [List.take_of_length_le (by rw [unhide Hn]; exact Nat.le_refl _)] at h
            exact h
          go_wp2
          go_ret
          refine ⟨_, rfl, ?_, unhide HB2⟩
          rw [← unhide HF3]
          exact TxtsIn.of_owns (base := w.heap.size) (e := 9) (by have h := unhide HR2; unfold Row16 at h; simpa using h)
theorem hear_bound (e : Nat → TypeId × Value) (v vs vl : Value) (xs lost : List Int) (ss : List Snt) (long slot : Int) (w : World) (hv : IntsIn w v xs) (hs : SntsIn w vs ss) (hl : IntsIn w vl lost) (h : ¬ slotOk long slot) (S : GSent e w) :
    Calls Tryd.prog 10 #[v, .int .i64 long, .int .i64 slot, vs, vl] w fun r w' => r = .returned (.tuple #[.slice none 0 0, .iface (e 1).1 (e 1).2]) ∧ Below w.heap.size w w' := by
  have HO := hide (checkSlot_no e long slot w h S.p)
  obtain ⟨ad, cap, rfl, _⟩ := hv
  obtain ⟨ads, caps, rfl, _⟩ := SntsIn.at hs
  obtain ⟨al, capl, rfl, _⟩ := hl
  clear hs h S
  go_enter Tryd.func10, Tryd.ntmps10
  go_wp2_with fail
  refine (unhide HO).mono ?_
  rintro E w1 ⟨rfl, hB1⟩
  have HB1 := hide hB1
  clear hB1
  go_wp2
  go_ret2
  exact ⟨rfl, unhide HB1⟩
theorem hear_plan (e : Nat → TypeId × Value) (v vs vl : Value) (xs lost : List Int) (ss : List Snt) (long slot : Nat) (w : World) (hv : IntsIn w v xs) (hs : SntsIn w vs ss) (hl : IntsIn w vl lost) (h : slotOk long slot) (hp : ¬ planOk xs) (S : GSent e w) :
    Calls Tryd.prog 10 #[v, .int .i64 long, .int .i64 slot, vs, vl] w fun r w' => ∃ ty p, r = .returned (.tuple #[.slice none 0 0, .iface ty p]) ∧ PlanErr e w' xs ty p ∧ Below w.heap.size w w' := by
  have HO := hide (checkSlot_ok long slot w h)
  have HP : Hid (∀ w', Below w.heap.size w w' → Calls Tryd.prog 18 #[v] w' fun r w2 => ∃ ty p, r = .returned (.iface ty p) ∧ PlanErr e w2 xs ty p ∧ Below w'.heap.size w' w2) := fun w' hB => checkP_no e v xs w' (hv.below hB) hp (S.p.below hB)
  obtain ⟨ad, cap, rfl, _⟩ := hv
  obtain ⟨ads, caps, rfl, _⟩ := SntsIn.at hs
  obtain ⟨al, capl, rfl, _⟩ := hl
  clear hs h S hp
  go_enter Tryd.func10, Tryd.ntmps10
  go_wp2_with fail
  refine (unhide HO).mono ?_
  rintro E w1 ⟨rfl, hB1⟩
  have HB1 := hide hB1
  clear hB1
  go_wp2_with fail
  refine (unhide HP _ (unhide HB1)).mono ?_
  rintro E w2 ⟨ty, p, rfl, hE, hB2⟩
  have HB2 := hide ((unhide HB1).trans (hB2.mono (unhide HB1).size))
  have HE := hide hE
  clear hB2 hE
  go_wp2
  go_ret2
  exact ⟨_, _, rfl, unhide HE, unhide HB2⟩
theorem hear_full (e : Nat → TypeId × Value) (v vs vl : Value) (xs lost : List Int) (ss : List Snt) (long slot : Nat) (w : World) (hv : IntsIn w v xs) (hs : SntsIn w vs ss) (hl : IntsIn w vl lost) (h : slotOk long slot) (hp : planOk xs) (h40 : 40 < ss.length) (S : GSent e w) :
    Calls Tryd.prog 10 #[v, .int .i64 long, .int .i64 slot, vs, vl] w fun r w' => r = .returned (.tuple #[.slice none 0 0, .iface (e 6).1 (e 6).2]) ∧ Below w.heap.size w w' := by
  have HO := hide (checkSlot_ok long slot w h)
  have HP : Hid (∀ w', Below w.heap.size w w' → Calls Tryd.prog 18 #[v] w' fun r w2 => r = .returned .nilIface ∧ w2 = w') := fun w' hB => checkP_yes e v xs w' (hv.below hB) hp (S.p.below hB)
  have HE := hide S.p.c6
  obtain ⟨ad, cap, rfl, _⟩ := hv
  obtain ⟨ads, caps, rfl, _⟩ := SntsIn.at hs
  obtain ⟨al, capl, rfl, _⟩ := hl
  have h40' : (40 : Int) < (ss.length : Int) := by omega
  clear hs h S hp
  go_enter Tryd.func10, Tryd.ntmps10
  go_wp2_with fail
  refine (unhide HO).mono ?_
  rintro E w1 ⟨rfl, hB1⟩
  have HB1 := hide hB1
  have hE := below_cell hB1 (unhide HE)
  clear hB1
  go_wp2_with fail
  refine (unhide HP _ (unhide HB1)).mono ?_
  rintro E w2 ⟨rfl, rfl⟩
  go_wp2
  go_quiet (fail)
  go_wp2
  go_ret2
  exact ⟨rfl, below_draw (unhide HB1) _⟩
theorem hears_only (ss : List Snt) (p : Snt → Bool) (lost : List Int) : ((List.range 16).map fun i : Nat => if ((i : Int) + 1) ∈ lost then (⟨#[]⟩ : ByteArray) else onlyT ss p) = (List.range 16).map (hears ss p lost) := by
  apply List.map_congr_left
  intro i _
  unfold hears onlyT
  by_cases h1 : (ss.filter p).length = 1
  · by_cases h2 : ((i : Int) + 1) ∈ lost
    · simp [h1, h2]
    · simp [h1, h2]
  · simp [h1]
theorem hear_ok (e : Nat → TypeId × Value) (v vs vl : Value) (xs lost : List Int) (ss : List Snt) (long slot : Nat) (w : World) (hv : IntsIn w v xs) (hs : SntsIn w vs ss) (hl : IntsIn w vl lost) (h : slotOk long slot) (hp : planOk xs) (h40 : ss.length ≤ 40) (hlo : lost.length ≤ 40) (S : GSent e w) :
    Calls Tryd.prog 10 #[v, .int .i64 long, .int .i64 slot, vs, vl] w fun r w' => ∃ x, r = .returned (.tuple #[x, .nilIface]) ∧ TxtsIn w' x ((List.range 16).map (hears ss (cnts xs long slot) lost)) ∧ Below w.heap.size w w' := by
  have HO := hide (checkSlot_ok long slot w h)
  have HP : Hid (∀ w', Below w.heap.size w w' → Calls Tryd.prog 18 #[v] w' fun r w2 => r = .returned .nilIface ∧ w2 = w') := fun w' hB => checkP_yes e v xs w' (hv.below hB) hp (S.p.below hB)
  have HT : Hid (∀ w', Below w.heap.size w w' → Calls Tryd.prog 28 #[v, .int .i64 long, .int .i64 slot, vs] w' fun r w2 => r = .returned (.string (onlyT ss (cnts xs long slot))) ∧ Below w'.heap.size w' w2) := fun w' hB => onlyText_ok e v vs xs ss long slot w' (hv.below hB) (hs.below hB) hp ⟨by have := h.1.1; omega, by have := h.1.2; omega⟩ h40 (S.below hB)
  have HS : Hid (∀ w', Below w.heap.size w w' → Calls Tryd.prog 27 #[.string (onlyT ss (cnts xs long slot)), vl] w' fun r w2 => ∃ v, r = .returned v ∧ TxtsIn w2 v ((List.range 16).map (hears ss (cnts xs long slot) lost)) ∧ Below w'.heap.size w' w2) := fun w' hB => by
    have := spread_ok (onlyT ss (cnts xs long slot)) vl lost w' (hl.below hB) hlo
    rw [hears_only] at this
    exact this
  obtain ⟨ad, cap, rfl, _⟩ := hv
  obtain ⟨ads, caps, rfl, _⟩ := SntsIn.at hs
  obtain ⟨al, capl, rfl, _⟩ := hl
  have h40' : ¬ (40 : Int) < (ss.length : Int) := by omega
  clear hs h S hp
  generalize onlyT ss (cnts xs long slot) = t at *
  generalize (List.range 16).map (hears ss (cnts xs long slot) lost) = ys at *
  go_enter Tryd.func10, Tryd.ntmps10
  go_wp2_with fail
  refine (unhide HO).mono ?_
  rintro E w1 ⟨rfl, hB1⟩
  have HB1 := hide hB1
  clear hB1
  go_wp2_with fail
  refine (unhide HP _ (unhide HB1)).mono ?_
  rintro E w2 ⟨rfl, rfl⟩
  go_wp2_with fail
  refine (unhide HT _ (unhide HB1)).mono ?_
  rintro E w3 ⟨rfl, hB3⟩
  have HB3 := hide ((unhide HB1).trans (hB3.mono (unhide HB1).size))
  clear hB3
  go_wp2_with fail
  refine (unhide HS _ (unhide HB3)).mono ?_
  rintro E w4 ⟨x4, rfl, hx, hB4⟩
  have HB4 := hide ((unhide HB3).trans (hB4.mono (unhide HB3).size))
  have HX := hide hx
  clear hx hB4
  go_wp2
  go_ret2
  exact ⟨_, rfl, unhide HX, unhide HB4⟩
end Go.Proofs.YtglhapkclpllfacDoor
