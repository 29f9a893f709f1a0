/-
  The contract of the document's answer, chapter 6: HearOf.
-/
import Derived.Test.YtglhapkclpllfacDoorRefGuard
import Derived.Test.YtglhapkclpllfacDoorBusMath
import Derived.Test.YtglhapkclpllfacDoorTexts
import Derived.Deep.RegionHeld3
import Derived.OwnWalk
import Derived.KernelRfl
namespace Go.Proofs.YtglhapkclpllfacDoor
open Go.RowKit

theorem hearOf_bound (v vs vl : Value) (xs lost : List Int) (ss : List Snt) (long slot : Int) (w : World) (hv : IntsIn w v xs) (hs : SntsIn w vs ss) (hl : IntsIn w vl lost) (h : ¬ slotOk long slot) (hw1 : -9223372036854775808 ≤ long ∧ long ≤ 9223372036854775807) (hw2 : -9223372036854775808 ≤ slot ∧ slot ≤ 9223372036854775807) :
    Calls Tryd.prog 14 #[v, .int .i64 long, .int .i64 slot, vs, vl] w fun e w' => e = .returned (.tuple #[.slice none 0 0, .agg #[.int .i64 2, .int .i64 (-1)]]) ∧ Below w.heap.size w w' := by
  obtain ⟨ad, cap, rfl, _⟩ := hv
  obtain ⟨ads, caps, rfl, _⟩ := SntsIn.at hs
  obtain ⟨al, capl, rfl, _⟩ := hl
  clear hs
  by_cases h1 : long < 1
  · clear h
    go_enter Tryd.func14, Tryd.ntmps14
    go_wp2_with fail
    refine (bare_ok 2 _).mono ?_
    rintro e w2 ⟨rfl, hB2⟩
    obtain ⟨hc0, hc1, hf0, hf1, hB⟩ := res_cells hB2
    have HB := hide hB
    clear hB2 hB
    go_wp2
    exact bodyPost_ret (v := .tuple #[.slice none 0 0, .agg #[.int .i64 2, .int .i64 (-1)]]) (by simp [results, Tryd.results14, go_sem, hc0, hc1]) rfl ⟨rfl, below_res (unhide HB) _ _⟩
  by_cases h2 : 1000000 < long
  · clear h
    go_enter Tryd.func14, Tryd.ntmps14
    go_wp2_with fail
    refine (bare_ok 2 _).mono ?_
    rintro e w2 ⟨rfl, hB2⟩
    obtain ⟨hc0, hc1, hf0, hf1, hB⟩ := res_cells hB2
    have HB := hide hB
    clear hB2 hB
    go_wp2
    exact bodyPost_ret (v := .tuple #[.slice none 0 0, .agg #[.int .i64 2, .int .i64 (-1)]]) (by simp [results, Tryd.results14, go_sem, hc0, hc1]) rfl ⟨rfl, below_res (unhide HB) _ _⟩
  by_cases h3 : slot < 0
  · clear h
    go_enter Tryd.func14, Tryd.ntmps14
    go_wp2_with fail
    refine (bare_ok 2 _).mono ?_
    rintro e w2 ⟨rfl, hB2⟩
    obtain ⟨hc0, hc1, hf0, hf1, hB⟩ := res_cells hB2
    have HB := hide hB
    clear hB2 hB
    go_wp2
    exact bodyPost_ret (v := .tuple #[.slice none 0 0, .agg #[.int .i64 2, .int .i64 (-1)]]) (by simp [results, Tryd.results14, go_sem, hc0, hc1]) rfl ⟨rfl, below_res (unhide HB) _ _⟩
  by_cases h4 : 1000000 < slot
  · clear h
    go_enter Tryd.func14, Tryd.ntmps14
    go_wp2_with fail
    refine (bare_ok 2 _).mono ?_
    rintro e w2 ⟨rfl, hB2⟩
    obtain ⟨hc0, hc1, hf0, hf1, hB⟩ := res_cells hB2
    have HB := hide hB
    clear hB2 hB
    go_wp2
    exact bodyPost_ret (v := .tuple #[.slice none 0 0, .agg #[.int .i64 2, .int .i64 (-1)]]) (by simp [results, Tryd.results14, go_sem, hc0, hc1]) rfl ⟨rfl, below_res (unhide HB) _ _⟩
  have h5 : 1000000 < slot * long := Int.not_le.1 fun h5 => h ⟨⟨by omega, by omega⟩, ⟨by omega, by omega⟩, h5⟩
  have h6 : slot * long ≤ 1000000 * 1000000 := Int.le_trans (Int.mul_le_mul_of_nonneg_right (show slot ≤ 1000000 by omega) (by omega)) (Int.mul_le_mul_of_nonneg_left (show long ≤ 1000000 by omega) (by omega))
  clear h
  generalize hm : slot * long = m at *
  go_enter Tryd.func14, Tryd.ntmps14
  go_wp2_with fail
  refine (bare_ok 2 _).mono ?_
  rintro e w2 ⟨rfl, hB2⟩
  obtain ⟨hc0, hc1, hf0, hf1, hB⟩ := res_cells hB2
  have HB := hide hB
  clear hB2 hB
  go_wp2
  exact bodyPost_ret (v := .tuple #[.slice none 0 0, .agg #[.int .i64 2, .int .i64 (-1)]]) (by simp [results, Tryd.results14, go_sem, hc0, hc1]) rfl ⟨rfl, below_res (unhide HB) _ _⟩
/-- A slot that is right, but the plan is not. -/
theorem hearOf_keep (v vs vl : Value) (xs lost : List Int) (ss : List Snt) (long slot c n : Int) (w : World) (hv : IntsIn w v xs) (hs : SntsIn w vs ss) (hl : IntsIn w vl lost) (h : slotOk long slot)
    (hp : ∀ w', IntsIn w' v xs → Calls Tryd.prog 31 #[v] w' fun e w2 => e = .returned (.agg #[.int .i64 c, .int .i64 n]) ∧ Below w'.heap.size w' w2) (hc : 0 < c) :
    Calls Tryd.prog 14 #[v, .int .i64 long, .int .i64 slot, vs, vl] w fun e w' => e = .returned (.tuple #[.slice none 0 0, .agg #[.int .i64 c, .int .i64 n]]) ∧ Below w.heap.size w w' := by
  have HP := hide (hp _ (hv.below ((Below.refl _ _).alloc (Nat.le_refl _) (.cells #[.int .i64 0, .int .i64 0] 40))))
  obtain ⟨ad, cap, rfl, _⟩ := hv
  obtain ⟨ads, caps, rfl, _⟩ := SntsIn.at hs
  obtain ⟨al, capl, rfl, _⟩ := hl
  obtain ⟨⟨h1, h2⟩, ⟨h3, h4⟩, h5⟩ := h
  have h6 : 0 ≤ slot * long := Int.mul_nonneg h3 (by omega)
  have q1 : (c == 0) = false := by simp; omega
  have q2 : ¬ c = 0 := by omega
  clear hs hp
  generalize hm : slot * long = m at *
  go_enter Tryd.func14, Tryd.ntmps14
  go_wp2_with fail
  refine (unhide HP).mono ?_
  rintro e w2 ⟨rfl, hB2⟩
  obtain ⟨hc0, hc1, hf0, hf1, hB⟩ := res_alloc hB2 (.cells #[.int .i64 c, .int .i64 n] 40)
  have HB := hide hB
  clear hB2 hB
  go_wp2
  go_region
  all_goals (try go_wp2)
  exact bodyPost_ret (v := .tuple #[.slice none 0 0, .agg #[.int .i64 c, .int .i64 n]]) (by simp [results, Tryd.results14, go_sem, hc0, hc1]) rfl ⟨rfl, (below_res (unhide HB) _ _).drew⟩
theorem hearOf_full (v vs vl : Value) (xs lost : List Int) (ss : List Snt) (long slot : Int) (w : World) (hv : IntsIn w v xs) (hs : SntsIn w vs ss) (hl : IntsIn w vl lost) (h : slotOk long slot) (hp : planOk xs) (h40 : 40 < ss.length) :
    Calls Tryd.prog 14 #[v, .int .i64 long, .int .i64 slot, vs, vl] w fun e w' => e = .returned (.tuple #[.slice none 0 0, .agg #[.int .i64 7, .int .i64 (-1)]]) ∧ Below w.heap.size w w' := by
  have HP := hide (planFault_ok v xs _ (hv.below ((Below.refl _ _).alloc (Nat.le_refl _) (.cells #[.int .i64 0, .int .i64 0] 40))) hp)
  obtain ⟨ad, cap, rfl, _⟩ := hv
  obtain ⟨ads, caps, rfl, _⟩ := SntsIn.at hs
  obtain ⟨al, capl, rfl, _⟩ := hl
  obtain ⟨⟨h1, h2⟩, ⟨h3, h4⟩, h5⟩ := h
  have h6 : 0 ≤ slot * long := Int.mul_nonneg h3 (by omega)
  have h40' : (40 : Int) < (ss.length : Int) := by omega
  clear hs hp
  generalize hm : slot * long = m at *
  go_enter Tryd.func14, Tryd.ntmps14
  go_wp2_with fail
  refine (unhide HP).mono ?_
  rintro e w2 ⟨rfl, hB2⟩
  have HB2 := hide hB2
  clear hB2
  go_wp2_with fail
  refine (bare_ok 7 _).mono ?_
  rintro e w3 ⟨rfl, hB3⟩
  have hq0 := below_cell hB3 (show (w2.alloc (.cells #[.int .i64 0, .int .i64 (-1)] 40)).cell? ⟨w2.heap.size, 0, none⟩ = some (.int .i64 0) by simp)
  have hq1 := below_cell hB3 (show (w2.alloc (.cells #[.int .i64 0, .int .i64 (-1)] 40)).cell? ⟨w2.heap.size, 0 + 1, none⟩ = some (.int .i64 (-1)) by simp)
  have hg0 : w3.frozen? ⟨w2.heap.size, 0, none⟩ = false := (hB3.frozen (p := ⟨w2.heap.size, 0, none⟩) (by simp)).trans (by simp)
  have hg1 : w3.frozen? ⟨w2.heap.size, 0 + 1, none⟩ = false := (hB3.frozen (p := ⟨w2.heap.size, 0 + 1, none⟩) (by simp)).trans (by simp)
  obtain ⟨hc0, hc1, hf0, hf1, hB⟩ := res_cells (((unhide HB2).alloc (unhide HB2).size (.cells #[.int .i64 0, .int .i64 (-1)] 40)).trans (hB3.mono (by have := (unhide HB2).size; simp at this ⊢; omega)))
  have hlt : w.heap.size < w2.heap.size := by have := (unhide HB2).size; simp at this; omega
  have hne : ¬ w.heap.size = w2.heap.size := by omega
  have hne' : ¬ w2.heap.size = w.heap.size := by omega
  have HB := hide hB
  clear hB3 hB
  go_wp2
  go_region
  all_goals (try go_wp2)
  exact bodyPost_ret (v := .tuple #[.slice none 0 0, .agg #[.int .i64 7, .int .i64 (-1)]]) (by simp [results, Tryd.results14, go_sem, hc0, hc1]) rfl ⟨rfl, (below_res2 (unhide HB) (Nat.le_of_lt hlt) _ _ _ _).drew⟩
/-- What PassFault answers with a right plan: no error just where the node may send. -/
theorem passFault_any (xs : List Int) (long : Nat) (node t : Int) (hp : planOk xs) (hl : 1 ≤ long ∧ long ≤ 1000000) : ∃ c n : Int, 0 ≤ c ∧ (c = 0 ↔ (0 ≤ t ∧ t ≤ 1000000 ∧ ownerAt xs long t.toNat = node)) ∧
    ∀ w v, IntsIn w v xs → Calls Tryd.prog 32 #[v, .int .i64 long, .int .i64 node, .int .i64 t] w fun e w' => e = .returned (.agg #[.int .i64 c, .int .i64 n]) ∧ Below w.heap.size w w' := by
  by_cases h : tickOk long t
  · obtain ⟨u, rfl⟩ : ∃ u : Nat, t = (u : Int) := ⟨t.toNat, by have := h.2.1; omega⟩
    have hu := h.2.2
    by_cases ho : ownerAt xs long u = node
    · exact ⟨0, -1, by omega, ⟨fun _ => ⟨by omega, hu, by simpa using ho⟩, fun _ => rfl⟩, fun w v hv => passFault_mine v xs long u node w hv h hp ho⟩
    · exact ⟨9, -1, by omega, ⟨fun h => by omega, fun h => absurd (by simpa using h.2.2) ho⟩, fun w v hv => passFault_late v xs long u node w hv h hp ho⟩
  · exact ⟨2, -1, by omega, ⟨fun h => by omega, fun h' => absurd ⟨⟨by omega, by omega⟩, h'.1, h'.2.1⟩ h⟩, fun w v hv => passFault_tick v xs long node t w hv h⟩
theorem Tryd.infoSTR : (Tryd.prog.info? 9).map (fun i => (i.zero, i.size, i.bytes)) = some (some (.string ⟨#[]⟩), 1, 16) := by kernel_rfl
theorem range_snoc (f : Nat → ByteArray) (k : Nat) : ((List.range (k + 1)).map f).map Value.string = ((List.range k).map f).map Value.string ++ [.string (f k)] := by
  rw [List.range_succ, List.map_append, List.map_append]
  rfl
theorem txts_kept {W wr w : World} {e : TypeId} {ov : Value} {f : Nat → ByteArray} (h : wr.ownsRow W.heap.size e 1 ov 16 (((List.range 16).map f).map Value.string)) (hlt : w.heap.size < W.heap.size) (x y : Value) : TxtsIn ((wr.setCell ⟨w.heap.size, 0, none⟩ x).setCell ⟨w.heap.size, 1, none⟩ y).drew ov ((List.range 16).map f) := by
  have hb : ∀ g, ov.ownBlock = some g → g ≠ w.heap.size := fun g hg e => by have := (h.lt g hg).1; omega
  obtain ⟨ad, cap, rfl, hc⟩ := TxtsIn.of_owns (base := W.heap.size) (e := e) (ss := (List.range 16).map f) (by simpa using h)
  refine ⟨ad, cap, rfl, fun k hk => ?_⟩
  obtain ⟨b, off, rfl, hcell⟩ := hc k hk
  have hne := hb b rfl
  refine ⟨b, off, rfl, ?_⟩
  show ((wr.setCell ⟨w.heap.size, 0, none⟩ x).setCell ⟨w.heap.size, 1, none⟩ y).cell? _ = _
  rw [World.cell?_setCell_other _ _ _ _ (fun e => hne (by injection e with e1; exact e1.symm)), World.cell?_setCell_other _ _ _ _ (fun e => hne (by injection e with e1; exact e1.symm))]
  exact hcell
set_option maxRecDepth 100000 in
set_option maxHeartbeats 4000000 in
theorem hearOf_ok (v vs vl : Value) (xs lost : List Int) (ss : List Snt) (long slot : Nat) (w : World) (hv : IntsIn w v xs) (hs : SntsIn w vs ss) (hl : IntsIn w vl lost) (h : slotOk long slot) (hp : planOk xs) (h40 : ss.length ≤ 40) (hlo : lost.length ≤ 40) :
    Calls Tryd.prog 14 #[v, .int .i64 long, .int .i64 slot, vs, vl] w fun e w' => ∃ vo, e = .returned (.tuple #[vo, .agg #[.int .i64 0, .int .i64 (-1)]]) ∧ TxtsIn w' vo ((List.range 16).map (hears ss (cnts xs long slot) lost)) ∧ Below w.heap.size w w' := by
  have HP := hide (planFault_ok v xs _ (hv.below ((Below.refl _ _).alloc (Nat.le_refl _) (.cells #[.int .i64 0, .int .i64 0] 40))) hp)
  have HV := hide hv
  have HS := hide hs
  have HL := hide hl
  have HPl := hide hp
  obtain ⟨ad, cap, rfl, _⟩ := hv
  obtain ⟨ads, caps, rfl, hsc⟩ := SntsIn.at hs
  have HSC := hide hsc
  obtain ⟨al, capl, rfl, _⟩ := hl
  obtain ⟨⟨h1, h2⟩, ⟨h3, h4⟩, h5⟩ := h
  have h6 : (0 : Int) ≤ (slot : Int) * (long : Int) := Int.mul_nonneg h3 (by omega)
  have h40' : ¬ (40 : Int) < (ss.length : Int) := by omega
  have hl0 : ¬ (long : Int) = 0 := by omega
  have HPass : Hid (∀ (node t : Int), ∃ c n : Int, 0 ≤ c ∧ (c = 0 ↔ (0 ≤ t ∧ t ≤ 1000000 ∧ ownerAt xs long t.toNat = node)) ∧ ∀ w v, IntsIn w v xs → Calls Tryd.prog 32 #[v, .int .i64 long, .int .i64 node, .int .i64 t] w fun e w' => e = .returned (.agg #[.int .i64 c, .int .i64 n]) ∧ Below w.heap.size w w') :=
    fun node t => passFault_any xs long node t hp ⟨by omega, by omega⟩
  obtain ⟨i0, hi0, hz0, hz1, hz2⟩ := info_parts Tryd.infoSTR
  clear hs hp hsc
  obtain ⟨m, hm⟩ : ∃ m : Int, (slot : Int) * (long : Int) = m := ⟨_, rfl⟩
  rw [hm] at h5 h6
  obtain ⟨n, hn⟩ : ∃ n, ss.length = n := ⟨_, rfl⟩
  have Hn : Hid (ss.length = n) := hn
  rw [hn] at h40' h40 HSC ⊢
  clear hn
  go_enter Tryd.func14, Tryd.ntmps14
  go_wp2_with fail
  refine (unhide HP).mono ?_
  rintro e w2 ⟨rfl, hB2⟩
  obtain ⟨W, hW⟩ : ∃ W, W = w2.alloc (.cells #[.int .i64 0, .int .i64 (-1)] 40) := ⟨_, rfl⟩
  have q0 : W.cell? ⟨w2.heap.size, 0, none⟩ = some (.int .i64 0) := by rw [hW]; simp
  have q1 : W.cell? ⟨w2.heap.size, 0 + 1, none⟩ = some (.int .i64 (-1)) := by rw [hW]; simp
  obtain ⟨hc0, hc1, hf0, hf1, hB⟩ := res_alloc hB2 (.cells #[.int .i64 0, .int .i64 (-1)] 40)
  rw [← hW] at hc0 hc1 hf0 hf1 hB
  have HBW := hide hB
  have hlt2 : w.heap.size < w2.heap.size := by have := hB2.size; simp at this; omega
  clear hB2 hB
  have HWe := hide hW
  clear hW
  have HSnd : Hid (∀ k, k < n → ∃ b off, ads = some ⟨b, off, none⟩ ∧ ∀ w', Below W.heap.size W w' → w'.cell? ⟨b, off + k * 3, none⟩ = some (.int .i64 (ss.getD k Snt.zero).node) ∧ w'.cell? ⟨b, off + k * 3 + 1, none⟩ = some (.int .i64 (ss.getD k Snt.zero).tick) ∧ w'.cell? ⟨b, off + k * 3 + 2, none⟩ = some (.string (ss.getD k Snt.zero).text)) := fun k hk => by
    obtain ⟨b, off, e, c0, c1, c2⟩ := unhide HSC k hk
    exact ⟨b, off, e, fun w' hB => ⟨below_cell hB (below_cell (unhide HBW) c0), below_cell hB (below_cell (unhide HBW) c1), below_cell hB (below_cell (unhide HBW) c2)⟩⟩
  go_wp2_with fail
  go_loopw [13, 14, 15] (fun q t i wr => ∃ (k r : Nat) (x : ByteArray), k ≤ n ∧ i = .int .i64 k ∧ q = .int .i64 r ∧ t = .string x ∧ r ≤ k ∧ Hid (r = ((ss.take k).filter (cnts xs long slot)).length) ∧ Hid (x = lastOf (cnts xs long slot) (ss.take k)) ∧ Hid (Below W.heap.size W wr)) (fun _ _ i _ => n - (intOf i).toNat)
  case atStart => exact ⟨0, 0, _, by omega, rfl, rfl, rfl, by omega, by show 0 = _; simp, by show _ = _; simp [lastOf], by show Below _ _ _; rw [unhide HWe]; exact Below.refl _ _⟩
  case round =>
    obtain ⟨k, r, x, hk, rfl, rfl, rfl, hr, Hr, Hx, HB⟩ := hrel
    by_cases hlt : k < n
    · obtain ⟨b, off, rfl, hcells⟩ := unhide HSnd k hlt
      have HCells := hide hcells
      have HC1 := hide (cnt_snoc (cnts xs long slot) ss k (by rw [unhide Hn]; exact hlt))
      have HC2 := hide (lastOf_snoc (cnts xs long slot) ss k (by rw [unhide Hn]; exact hlt))
      rw [← unhide Hr] at HC1
      rw [← unhide Hx] at HC2
      obtain ⟨c, nn, hc0', hc, hcall⟩ := unhide HPass (ss.getD k Snt.zero).node (ss.getD k Snt.zero).tick
      have HCall := hide hcall
      have Hc := hide hc
      have Hp : Hid (cnts xs long slot (ss.getD k Snt.zero) = decide (0 ≤ (ss.getD k Snt.zero).tick ∧ (ss.getD k Snt.zero).tick ≤ 1000000 ∧ ownerAt xs long (ss.getD k Snt.zero).tick.toNat = (ss.getD k Snt.zero).node ∧ (ss.getD k Snt.zero).tick.toNat / long = slot)) := rfl
      clear hcells hcall hc
      generalize cnts xs long slot (ss.getD k Snt.zero) = pb at *
      generalize (ss.getD k Snt.zero).node = x0 at *
      generalize (ss.getD k Snt.zero).tick = x1 at *
      generalize (ss.getD k Snt.zero).text = x2 at *
      have d0 := (unhide HCells wr (unhide HB)).1
      have d1 := (unhide HCells wr (unhide HB)).2.1
      have hfd : ∀ w : World, (Instr.field 40 (.agg #[.int .i64 c, .int .i64 nn]) 0).run Tryd.prog w = .ok (.int .i64 c) w := fun _ => by kernel_rfl
      have k0 : (0 : Int) ≤ (k : Int) := Int.natCast_nonneg _
      have k1 : (k : Int) < (n : Int) := by omega
      by_cases hcc : c = 0
      · obtain ⟨u0, u1, uo⟩ := (unhide Hc).1 hcc
        subst hcc
        obtain ⟨u, rfl⟩ : ∃ u : Nat, x1 = (u : Int) := ⟨x1.toNat, by omega⟩
        rw [Int.toNat_natCast] at uo Hp
        have hq : (u : Int).tdiv (long : Int) = ((u / long : Nat) : Int) := by simp
        have hqb : u / long ≤ 1000000 := Nat.le_trans (Nat.div_le_self _ _) (by omega)
        have hW2 := hide (quo_wrap u long (by omega))
        by_cases hs : u / long = slot
        · have hpb : pb = true := by
            rw [unhide Hp]
            exact decide_eq_true ⟨u0, u1, uo, hs⟩
          subst hpb
          simp only [if_true] at HC1 HC2
          rw [hs] at hq
          clear hc0' uo hqb
          go_wp2_with fail
          go_region_held3 (fun w' => w'.cell? ⟨b, off + k * 3, none⟩ = some (.int .i64 x0) ∧ w'.cell? ⟨b, off + k * 3 + 1, none⟩ = some (.int .i64 (u : Int)))
            (first | go_keep | exact ⟨(unhide HCells _ (unhide HB5)).1, (unhide HCells _ (unhide HB5)).2.1⟩)
            (first | (go_at_call 32; refine (unhide HCall _ _ ((unhide HV).below ((unhide HBW).trans ((unhide HB).drew.mono (unhide HBW).size)))).mono ?_; rintro E w5 ⟨rfl, hB5⟩; have HB5 := hide ((unhide HB).drew.trans (hB5.mono (unhide HB).drew.size)); clear hB5))
          have e1 := (unhide HCells _ (unhide HB5)).2.1
          have e2 := (unhide HCells _ (unhide HB5)).2.2
          go_wp2
          go_roundw
          case rel => exact ⟨k + 1, r + 1, x2, by omega, by go_num, by go_num, rfl, by omega, (unhide HC1).symm, (unhide HC2).symm, unhide HB5⟩
          case measure => simp [intOf]; omega
        · have hpb : pb = false := by
            rw [unhide Hp]
            exact decide_eq_false fun h => hs h.2.2.2
          subst hpb
          simp only [Bool.false_eq_true, if_false] at HC1 HC2
          have hs' : ¬ ((u / long : Nat) : Int) = (slot : Int) := by omega
          generalize u / long = qq at *
          clear hc0' uo hs
          go_wp2_with fail
          go_region_held3 (fun w' => w'.cell? ⟨b, off + k * 3, none⟩ = some (.int .i64 x0) ∧ w'.cell? ⟨b, off + k * 3 + 1, none⟩ = some (.int .i64 (u : Int)))
            (first | go_keep | exact ⟨(unhide HCells _ (unhide HB5)).1, (unhide HCells _ (unhide HB5)).2.1⟩)
            (first | (go_at_call 32; refine (unhide HCall _ _ ((unhide HV).below ((unhide HBW).trans ((unhide HB).drew.mono (unhide HBW).size)))).mono ?_; rintro E w5 ⟨rfl, hB5⟩; have HB5 := hide ((unhide HB).drew.trans (hB5.mono (unhide HB).drew.size)); clear hB5))
          have e1 := (unhide HCells _ (unhide HB5)).2.1
          go_wp2
          go_roundw
          case rel => exact ⟨k + 1, r, x, by omega, by go_num, rfl, rfl, by omega, (unhide HC1).symm, (unhide HC2).symm, unhide HB5⟩
          case measure => simp [intOf]; omega
      · have hcp : 0 < c := by omega
        have hpb : pb = false := by
          rw [unhide Hp]
          exact decide_eq_false fun h => hcc ((unhide Hc).2 ⟨h.1, h.2.1, h.2.2.1⟩)
        subst hpb
        simp only [Bool.false_eq_true, if_false] at HC1 HC2
        clear hcc hc0'
        go_wp2_with fail
        go_region_held3 (fun w' => w'.cell? ⟨b, off + k * 3, none⟩ = some (.int .i64 x0) ∧ w'.cell? ⟨b, off + k * 3 + 1, none⟩ = some (.int .i64 x1))
          (first | go_keep | exact ⟨(unhide HCells _ (unhide HB5)).1, (unhide HCells _ (unhide HB5)).2.1⟩)
          (first | (go_at_call 32; refine (unhide HCall _ _ ((unhide HV).below ((unhide HBW).trans ((unhide HB).drew.mono (unhide HBW).size)))).mono ?_; rintro E w5 ⟨rfl, hB5⟩; have HB5 := hide ((unhide HB).drew.trans (hB5.mono (unhide HB).drew.size)); clear hB5))
        go_wp2
        go_roundw
        case rel => exact ⟨k + 1, r, x, by omega, by go_num, rfl, rfl, by omega, (unhide HC1).symm, (unhide HC2).symm, unhide HB5⟩
        case measure => simp [intOf]; omega
    · have hkn : k = n := by omega
      subst hkn
      have hr1 : r = (ss.filter (cnts xs long slot)).length := by
        have h := unhide Hr
        rw [List.take_of_length_le (by rw [unhide Hn]; exact Nat.le_refl _)] at h
        exact h
      have hx1 : x = lastOf (cnts xs long slot) ss := by
        have h := unhide Hx
        rw [List.take_of_length_le (by rw [unhide Hn]; exact Nat.le_refl _)] at h
        exact h
      have HF0 : ∀ i, hears ss (cnts xs long slot) lost i = if r = 1 ∧ ¬ ((i : Int) + 1) ∈ lost then x else ⟨#[]⟩ := fun i => by
        unfold hears
        rw [← hr1, ← hx1]
      obtain ⟨f, hf⟩ : ∃ f, hears ss (cnts xs long slot) lost = f := ⟨_, rfl⟩
      rw [hf] at HF0
      have HF := hide HF0
      have HFe := hide hf
      clear hr1 hx1 Hr Hx HF0 hf
      by_cases hr1 : r = 1
      · subst hr1
        go_wp2_with fail
        go_loopw [16, 17] (fun o i w' => ∃ (j : Nat) (ov : Value), j ≤ 16 ∧ i = .int .i64 ((j : Int) + 1) ∧ ov = o ∧ Hid (w'.ownsRow W.heap.size 9 1 ov j (((List.range j).map f).map Value.string)) ∧ Hid (Below W.heap.size W w')) (fun _ i _ => 17 - (intOf i).toNat)
        case atStart => exact ⟨0, _, by omega, by simp, rfl, World.ownsRow_nil _ _ _ _, unhide HB⟩
        case round =>
          obtain ⟨j, ov, hj, rfl, rfl, HO, HB2⟩ := hrel
          by_cases hlt3 : j < 16
          · have hle : ((j : Int) + 1) ≤ 16 := by omega
            have HI := hide (inInts_ok ((j : Int) + 1) _ lost _ ((unhide HL).below ((unhide HBW).trans ((unhide HB2).mono (unhide HBW).size))) (by unfold maxLen; omega))
            by_cases hin : ((j : Int) + 1) ∈ lost
            · rw [show lost.contains ((j : Int) + 1) = true from List.contains_iff_mem.2 hin] at HI
              have hFj : f j = ⟨#[]⟩ := by rw [unhide HF j]; rw [if_neg (fun h => h.2 hin)]
              clear hin
              go_wp2_with (first
                | (go_at_call 13; refine (unhide HI).mono ?_; rintro E w6 ⟨rfl, rfl⟩)
                | (at_builtin; refine wpList_append_own _ rfl _ _ 26 rfl W.heap.size 9 i0 (.string ⟨#[]⟩) 1 16 Tryd.underlying26 hi0 hz0 hz1 hz2 rfl (by decide) _ _ _ rfl ((unhide HO).alloc _) ⟨_, 0, none⟩ 1 1 [.string ⟨#[]⟩] rfl rfl (cell_one_new _ _ _) (by simp [Value.oneCell']) (by unfold maxLen; omega) (by omega) (by have := (unhide HB2).size; simp; omega) ?_; intro v' w1 hown' hgrow _))
              go_roundw
              case rel => exact ⟨j + 1, _, by omega, by go_num, rfl, by
                show World.ownsRow _ _ _ _ _ _ _
                rw [range_snoc, hFj]
                exact hown', below_append (unhide HB2) (unhide HO) hgrow (unhide HB2).size⟩
              case measure => simp [intOf]; omega
            · have hcon : lost.contains ((j : Int) + 1) = false := by
                cases hx : lost.contains ((j : Int) + 1) with
                | false => rfl
                | true => exact absurd (List.contains_iff_mem.1 hx) hin
              rw [hcon] at HI
              have hFj : f j = x := by rw [unhide HF j]; rw [if_pos ⟨by trivial, hin⟩]
              clear hin hcon
              go_wp2_with (first
                | (go_at_call 13; refine (unhide HI).mono ?_; rintro E w6 ⟨rfl, rfl⟩)
                | (at_builtin; refine wpList_append_own _ rfl _ _ 26 rfl W.heap.size 9 i0 (.string ⟨#[]⟩) 1 16 Tryd.underlying26 hi0 hz0 hz1 hz2 rfl (by decide) _ _ _ rfl ((unhide HO).alloc _) ⟨_, 0, none⟩ 1 1 [.string x] rfl rfl (cell_one_new _ _ _) (by simp [Value.oneCell']) (by unfold maxLen; omega) (by omega) (by have := (unhide HB2).size; simp; omega) ?_; intro v' w1 hown' hgrow _))
              go_roundw
              case rel => exact ⟨j + 1, _, by omega, by go_num, rfl, by
                show World.ownsRow _ _ _ _ _ _ _
                rw [range_snoc, hFj]
                exact hown', below_append (unhide HB2) (unhide HO) hgrow (unhide HB2).size⟩
              case measure => simp [intOf]; omega
          · have hj16 : j = 16 := by omega
            subst hj16
            have HBf := hide ((unhide HBW).trans ((unhide HB2).mono (unhide HBW).size))
            have r0 := below_cell (unhide HB2) q0
            have r1 := below_cell (unhide HB2) q1
            have s0 := below_cell (unhide HB2) hc0
            have s1 := below_cell (unhide HB2) hc1
            have g0 := ((unhide HB2).frozen (p := ⟨w.heap.size, 0, none⟩) (cell_lt hc0)).trans hf0
            have g1 := ((unhide HB2).frozen (p := ⟨w.heap.size, 0 + 1, none⟩) (cell_lt hc1)).trans hf1
            have hne : ¬ w.heap.size = w2.heap.size := by omega
            have hne' : ¬ w2.heap.size = w.heap.size := by omega
            have hWw : w.heap.size < W.heap.size := cell_lt hc0
            go_wp2
            go_region
            all_goals (try go_wp2)
            exact bodyPost_ret (v := .tuple #[ov, .agg #[.int .i64 0, .int .i64 (-1)]]) (by simp [results, Tryd.results14, go_sem, s0, s1]) rfl ⟨ov, rfl, by rw [unhide HFe]; exact txts_kept (unhide HO) hWw _ _, (below_res (unhide HBf) _ _).drew⟩
      · have hr1' : ¬ (r : Int) = 1 := by omega
        go_wp2_with fail
        go_loopw [16, 17] (fun o i w' => ∃ (j : Nat) (ov : Value), j ≤ 16 ∧ i = .int .i64 ((j : Int) + 1) ∧ ov = o ∧ Hid (w'.ownsRow W.heap.size 9 1 ov j (((List.range j).map f).map Value.string)) ∧ Hid (Below W.heap.size W w')) (fun _ i _ => 17 - (intOf i).toNat)
        case atStart => exact ⟨0, _, by omega, by simp, rfl, World.ownsRow_nil _ _ _ _, unhide HB⟩
        case round =>
          obtain ⟨j, ov, hj, rfl, rfl, HO, HB2⟩ := hrel
          by_cases hlt3 : j < 16
          · have hle : ((j : Int) + 1) ≤ 16 := by omega
            have HI := hide (inInts_ok ((j : Int) + 1) _ lost _ ((unhide HL).below ((unhide HBW).trans ((unhide HB2).mono (unhide HBW).size))) (by unfold maxLen; omega))
            by_cases hin : ((j : Int) + 1) ∈ lost
            · rw [show lost.contains ((j : Int) + 1) = true from List.contains_iff_mem.2 hin] at HI
              have hFj : f j = ⟨#[]⟩ := by rw [unhide HF j]; rw [if_neg (fun h => hr1 h.1)]
              clear hin
              go_wp2_with (first
                | (go_at_call 13; refine (unhide HI).mono ?_; rintro E w6 ⟨rfl, rfl⟩)
                | (at_builtin; refine wpList_append_own _ rfl _ _ 26 rfl W.heap.size 9 i0 (.string ⟨#[]⟩) 1 16 Tryd.underlying26 hi0 hz0 hz1 hz2 rfl (by decide) _ _ _ rfl ((unhide HO).alloc _) ⟨_, 0, none⟩ 1 1 [.string ⟨#[]⟩] rfl rfl (cell_one_new _ _ _) (by simp [Value.oneCell']) (by unfold maxLen; omega) (by omega) (by have := (unhide HB2).size; simp; omega) ?_; intro v' w1 hown' hgrow _))
              go_roundw
              case rel => exact ⟨j + 1, _, by omega, by go_num, rfl, by
                show World.ownsRow _ _ _ _ _ _ _
                rw [range_snoc, hFj]
                exact hown', below_append (unhide HB2) (unhide HO) hgrow (unhide HB2).size⟩
              case measure => simp [intOf]; omega
            · have hcon : lost.contains ((j : Int) + 1) = false := by
                cases hx : lost.contains ((j : Int) + 1) with
                | false => rfl
                | true => exact absurd (List.contains_iff_mem.1 hx) hin
              rw [hcon] at HI
              have hFj : f j = ⟨#[]⟩ := by rw [unhide HF j]; rw [if_neg (fun h => hr1 h.1)]
              clear hin hcon
              go_wp2_with (first
                | (go_at_call 13; refine (unhide HI).mono ?_; rintro E w6 ⟨rfl, rfl⟩)
                | (at_builtin; refine wpList_append_own _ rfl _ _ 26 rfl W.heap.size 9 i0 (.string ⟨#[]⟩) 1 16 Tryd.underlying26 hi0 hz0 hz1 hz2 rfl (by decide) _ _ _ rfl ((unhide HO).alloc _) ⟨_, 0, none⟩ 1 1 [.string ⟨#[]⟩] rfl rfl (cell_one_new _ _ _) (by simp [Value.oneCell']) (by unfold maxLen; omega) (by omega) (by have := (unhide HB2).size; simp; omega) ?_; intro v' w1 hown' hgrow _))
              go_roundw
              case rel => exact ⟨j + 1, _, by omega, by go_num, rfl, by
                show World.ownsRow _ _ _ _ _ _ _
                rw [range_snoc, hFj]
                exact hown', below_append (unhide HB2) (unhide HO) hgrow (unhide HB2).size⟩
              case measure => simp [intOf]; omega
          · have hj16 : j = 16 := by omega
            subst hj16
            have HBf := hide ((unhide HBW).trans ((unhide HB2).mono (unhide HBW).size))
            have r0 := below_cell (unhide HB2) q0
            have r1 := below_cell (unhide HB2) q1
            have s0 := below_cell (unhide HB2) hc0
            have s1 := below_cell (unhide HB2) hc1
            have g0 := ((unhide HB2).frozen (p := ⟨w.heap.size, 0, none⟩) (cell_lt hc0)).trans hf0
            have g1 := ((unhide HB2).frozen (p := ⟨w.heap.size, 0 + 1, none⟩) (cell_lt hc1)).trans hf1
            have hne : ¬ w.heap.size = w2.heap.size := by omega
            have hne' : ¬ w2.heap.size = w.heap.size := by omega
            have hWw : w.heap.size < W.heap.size := cell_lt hc0
            go_wp2
            go_region
            all_goals (try go_wp2)
            exact bodyPost_ret (v := .tuple #[ov, .agg #[.int .i64 0, .int .i64 (-1)]]) (by simp [results, Tryd.results14, go_sem, s0, s1]) rfl ⟨ov, rfl, by rw [unhide HFe]; exact txts_kept (unhide HO) hWw _ _, (below_res (unhide HBf) _ _).drew⟩
end Go.Proofs.YtglhapkclpllfacDoor
