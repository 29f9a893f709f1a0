/-
  Contracts of package plan: Crew, Check, Round, Who, Share, whatever the plan and the slot are.
  Conditions: package api's errors lie as laid (structure PSent).
-/
import Derived.Test.YtglhapkclpllfaaDoorPlanMath
namespace Go.Proofs.YtglhapkclpllfaaDoor
open Go.RowKit

/-- Four errors of package api, each something: e 1 is ErrBound, e 3 ErrNode, e 4 ErrNone, e 6 ErrFull. -/
structure PSent (e : Nat → TypeId × Value) (w : World) : Prop where
  c1 : w.cell? ⟨1, 0, none⟩ = some (.iface (e 1).1 (e 1).2)
  c3 : w.cell? ⟨3, 0, none⟩ = some (.iface (e 3).1 (e 3).2)
  c4 : w.cell? ⟨4, 0, none⟩ = some (.iface (e 4).1 (e 4).2)
  c6 : w.cell? ⟨6, 0, none⟩ = some (.iface (e 6).1 (e 6).2)
theorem PSent.below {e : Nat → TypeId × Value} {w w' : World} (S : PSent e w) (hb : Below w.heap.size w w') : PSent e w' := ⟨below_cell hb S.c1, below_cell hb S.c3, below_cell hb S.c4, below_cell hb S.c6⟩
/-- The error of a plan that is not right. -/
def PlanErr (e : Nat → TypeId × Value) (w : World) (xs : List Int) (t : TypeId) (p : Value) : Prop :=
  (xs.length = 0 ∧ t = (e 4).1 ∧ p = (e 4).2) ∨ (32 < xs.length ∧ t = (e 6).1 ∧ p = (e 6).2) ∨
    ∃ m pb, 0 < xs.length ∧ xs.length ≤ 32 ∧ m < xs.length ∧ (∀ i, i < m → Cm.isNode (xs.getD i 0)) ∧ ¬ Cm.isNode (xs.getD m 0) ∧ t = 29 ∧ p = .pointer (some ⟨pb, 0, none⟩) ∧
      w.cell? ⟨pb, 0, none⟩ = some (.int .i64 m) ∧ w.cell? ⟨pb, 0 + 1, none⟩ = some (.iface (e 3).1 (e 3).2)
theorem crewP_yes (e : Nat → TypeId × Value) (v : Value) (xs : List Int) (w : World) (hv : IntsIn w v xs) (h : planOk xs) (S : PSent e w) :
    Calls Tryd.prog 24 #[v] w fun r w' => r = .returned (.tuple #[.int .i64 (Cm.ofN xs : Nat), .nilIface]) ∧ w' = w := by
  have HO := hide (of_walk v xs xs.length _ _ w hv (by have := h.2.1; unfold maxLen; omega) (Nat.le_refl _) (fun i hi => h.2.2 _ (getD_mem xs i hi)) (fun h => absurd h (Nat.lt_irrefl _)) S.c3)
  obtain ⟨ad, cap, rfl, _⟩ := hv
  have h0 : ¬ ((xs.length : Int) = 0) := by have := h.1; omega
  have h1 : ¬ ((32 : Int) < (xs.length : Int)) := by have := h.2.1; omega
  clear h S
  go_enter Tryd.func24, Tryd.ntmps24
  go_wp2_with fail
  refine (unhide HO).mono ?_
  rintro E w' (⟨_, rfl, rfl⟩ | ⟨h, _⟩)
  · go_wp2
    go_ret2
    exact ⟨rfl, rfl⟩
  · exact absurd h (Nat.lt_irrefl _)
theorem not_planOk {xs : List Int} (h : ¬ planOk xs) (h0 : xs.length ≠ 0) (h1 : xs.length ≤ 32) : ∃ m, m < xs.length ∧ (∀ i, i < m → Cm.isNode (xs.getD i 0)) ∧ ¬ Cm.isNode (xs.getD m 0) := by
  obtain ⟨m, a1, a2, a3⟩ := first_bad xs
  rcases Nat.lt_or_ge m xs.length with hm | hm
  · exact ⟨m, hm, a2, a3 hm⟩
  · refine absurd ⟨h0, h1, fun x hx => ?_⟩ h
    obtain ⟨i, hi, rfl⟩ := List.mem_iff_getElem.1 hx
    have := a2 i (by omega)
    rwa [List.getD_eq_getElem?_getD, List.getElem?_eq_getElem hi] at this
theorem crewP_no (e : Nat → TypeId × Value) (v : Value) (xs : List Int) (w : World) (hv : IntsIn w v xs) (h : ¬ planOk xs) (S : PSent e w) :
    Calls Tryd.prog 24 #[v] w fun r w' => ∃ t p, r = .returned (.tuple #[.int .i64 0, .iface t p]) ∧ PlanErr e w' xs t p ∧ Below w.heap.size w w' := by
  by_cases h0 : xs.length = 0
  · obtain ⟨ad, cap, rfl, _⟩ := hv
    have H0 := hide h0
    have h0' : (xs.length : Int) = 0 := by omega
    have hE := S.c4
    clear h S h0
    go_enter Tryd.func24, Tryd.ntmps24
    go_wp2
    go_quiet (fail)
    go_wp2
    go_ret2
    exact ⟨_, _, rfl, Or.inl ⟨unhide H0, rfl, rfl⟩, below_draw (Below.refl _ _) _⟩
  · by_cases h1 : 32 < xs.length
    · obtain ⟨ad, cap, rfl, _⟩ := hv
      have H1 := hide h1
      have h0' : ¬ (xs.length : Int) = 0 := by omega
      have h1' : (32 : Int) < (xs.length : Int) := by omega
      have hE := S.c6
      clear h S h0 h1
      go_enter Tryd.func24, Tryd.ntmps24
      go_wp2
      go_quiet (fail)
      go_wp2
      go_ret2
      exact ⟨_, _, rfl, Or.inr (Or.inl ⟨unhide H1, rfl, rfl⟩), below_draw (Below.refl _ _) _⟩
    · obtain ⟨m, hm, a2, a3⟩ := not_planOk h h0 (by omega)
      have HO := hide (of_walk v xs m _ _ w hv (by unfold maxLen; omega) (by omega) a2 (fun _ => a3) S.c3)
      obtain ⟨ad, cap, rfl, _⟩ := hv
      have h0' : ¬ (xs.length : Int) = 0 := by omega
      have h1' : ¬ (32 : Int) < (xs.length : Int) := by omega
      have HF : Hid (∀ w' : World, w'.cell? ⟨w.heap.size, 0, none⟩ = some (.int .i64 m) → w'.cell? ⟨w.heap.size, 0 + 1, none⟩ = some (.iface (e 3).1 (e 3).2) → PlanErr e w' xs 29 (.pointer (some ⟨w.heap.size, 0, none⟩))) :=
        fun w' c0 c1 => Or.inr (Or.inr ⟨m, w.heap.size, by omega, by omega, hm, a2, a3, rfl, rfl, c0, c1⟩)
      have Hm := hide hm
      clear h S h0 h1 a2 a3 hm
      go_enter Tryd.func24, Tryd.ntmps24
      go_wp2_with fail
      refine (unhide HO).mono ?_
      rintro E w' (⟨h, _⟩ | ⟨_, rfl, c0, c1, hB⟩)
      · exact absurd (unhide Hm) (by omega)
      · have HF2 := hide (unhide HF w' c0 c1)
        have HB := hide hB
        clear hB c0 c1
        go_wp2
        go_ret2
        exact ⟨_, _, rfl, unhide HF2, unhide HB⟩
theorem checkP_yes (e : Nat → TypeId × Value) (v : Value) (xs : List Int) (w : World) (hv : IntsIn w v xs) (h : planOk xs) (S : PSent e w) :
    Calls Tryd.prog 23 #[v] w fun r w' => r = .returned .nilIface ∧ w' = w := by
  have HO := hide (crewP_yes e v xs w hv h S)
  obtain ⟨ad, cap, rfl, _⟩ := hv
  clear h S
  go_enter Tryd.func23, Tryd.ntmps23
  go_wp2_with fail
  refine (unhide HO).mono ?_
  rintro E w' ⟨rfl, rfl⟩
  go_wp2
  go_ret
  exact ⟨rfl, rfl⟩
theorem checkP_no (e : Nat → TypeId × Value) (v : Value) (xs : List Int) (w : World) (hv : IntsIn w v xs) (h : ¬ planOk xs) (S : PSent e w) :
    Calls Tryd.prog 23 #[v] w fun r w' => ∃ t p, r = .returned (.iface t p) ∧ PlanErr e w' xs t p ∧ Below w.heap.size w w' := by
  have HO := hide (crewP_no e v xs w hv h S)
  obtain ⟨ad, cap, rfl, _⟩ := hv
  clear h S
  go_enter Tryd.func23, Tryd.ntmps23
  go_wp2_with fail
  refine (unhide HO).mono ?_
  rintro E w' ⟨t, p, rfl, hp, hB⟩
  have HP := hide hp
  have HB := hide hB
  clear hp hB
  go_wp2
  go_ret
  exact ⟨_, _, rfl, unhide HP, unhide HB⟩
theorem quo_wrap (s n : Nat) (hs : s ≤ 1000000) : wrap64 ((s : Int) / (n : Int)) = (s : Int) / (n : Int) := by
  have h1 : (s : Int) / (n : Int) = ((s / n : Nat) : Int) := by simp
  have h2 : s / n ≤ s := Nat.div_le_self _ _
  rw [h1]
  generalize s / n = q at *
  unfold wrap64
  omega
theorem roundP_yes (e : Nat → TypeId × Value) (v : Value) (xs : List Int) (s : Nat) (w : World) (hv : IntsIn w v xs) (h : planOk xs) (hs : s ≤ 1000000) (S : PSent e w) :
    Calls Tryd.prog 33 #[v, .int .i64 s] w fun r w' => r = .returned (.tuple #[.int .i64 ((s / xs.length : Nat) : Int), .int .i64 ((s % xs.length : Nat) : Int), .nilIface]) ∧ Below w.heap.size w w' := by
  have HO := hide (checkP_yes e v xs w hv h S)
  obtain ⟨ad, cap, rfl, _⟩ := hv
  have h0 : ¬ (xs.length : Int) = 0 := by have := h.1; omega
  have h1 : ¬ (s : Int) < 0 := by omega
  have h2 : ¬ (1000000 : Int) < (s : Int) := by omega
  have HW := hide (quo_wrap s xs.length hs)
  clear h S hs
  go_enter Tryd.func33, Tryd.ntmps33
  go_wp2_with fail
  refine (unhide HO).mono ?_
  rintro E w' ⟨rfl, rfl⟩
  go_wp2
  go_quiet (fail)
  go_wp2
  refine bodyPost_ret (v := .tuple #[.int .i64 ((s / xs.length : Nat) : Int), .int .i64 ((s % xs.length : Nat) : Int), .nilIface]) (by simp [results, Tryd.results33, go_sem]; exact unhide HW) rfl ⟨rfl, below_draw (Below.refl _ _) _⟩
theorem roundP_far (e : Nat → TypeId × Value) (v : Value) (xs : List Int) (s : Int) (w : World) (hv : IntsIn w v xs) (h : planOk xs) (hs : ¬ (0 ≤ s ∧ s ≤ 1000000)) (S : PSent e w) :
    Calls Tryd.prog 33 #[v, .int .i64 s] w fun r w' => r = .returned (.tuple #[.int .i64 0, .int .i64 0, .iface (e 1).1 (e 1).2]) ∧ Below w.heap.size w w' := by
  have HO := hide (checkP_yes e v xs w hv h S)
  obtain ⟨ad, cap, rfl, _⟩ := hv
  have hE := S.c1
  clear h S
  by_cases h1 : s < 0
  · clear hs
    go_enter Tryd.func33, Tryd.ntmps33
    go_wp2_with fail
    refine (unhide HO).mono ?_
    rintro E w' ⟨rfl, rfl⟩
    go_wp2
    go_quiet (fail)
    go_wp2
    refine bodyPost_ret (v := .tuple #[.int .i64 0, .int .i64 0, .iface (e 1).1 (e 1).2]) (by simp [results, Tryd.results33, go_sem]) rfl ⟨rfl, below_draw (Below.refl _ _) _⟩
  · have h2 : 1000000 < s := by omega
    clear hs
    go_enter Tryd.func33, Tryd.ntmps33
    go_wp2_with fail
    refine (unhide HO).mono ?_
    rintro E w' ⟨rfl, rfl⟩
    go_wp2
    go_quiet (fail)
    go_wp2
    refine bodyPost_ret (v := .tuple #[.int .i64 0, .int .i64 0, .iface (e 1).1 (e 1).2]) (by simp [results, Tryd.results33, go_sem]) rfl ⟨rfl, below_draw (Below.refl _ _) _⟩
theorem roundP_no (e : Nat → TypeId × Value) (v : Value) (xs : List Int) (s : Int) (w : World) (hv : IntsIn w v xs) (h : ¬ planOk xs) (S : PSent e w) :
    Calls Tryd.prog 33 #[v, .int .i64 s] w fun r w' => ∃ t p, r = .returned (.tuple #[.int .i64 0, .int .i64 0, .iface t p]) ∧ PlanErr e w' xs t p ∧ Below w.heap.size w w' := by
  have HO := hide (checkP_no e v xs w hv h S)
  obtain ⟨ad, cap, rfl, _⟩ := hv
  clear h S
  go_enter Tryd.func33, Tryd.ntmps33
  go_wp2_with fail
  refine (unhide HO).mono ?_
  rintro E w' ⟨t, p, rfl, hp, hB⟩
  have HP := hide hp
  have HB := hide hB
  clear hp hB
  go_wp2
  refine bodyPost_ret (v := .tuple #[.int .i64 0, .int .i64 0, .iface t p]) (by simp [results, Tryd.results33, go_sem]) rfl ⟨_, _, rfl, unhide HP, unhide HB⟩
theorem whoP_yes (e : Nat → TypeId × Value) (v : Value) (xs : List Int) (s : Nat) (w : World) (hv : IntsIn w v xs) (h : planOk xs) (hs : s ≤ 1000000) (S : PSent e w) :
    Calls Tryd.prog 27 #[v, .int .i64 s] w fun r w' => r = .returned (.tuple #[.int .i64 (xs.getD (s % xs.length) 0), .nilIface]) ∧ Below w.heap.size w w' := by
  have HO := hide (roundP_yes e v xs s w hv h hs S)
  obtain ⟨ad, cap, rfl, hcells⟩ := hv
  have hlt : s % xs.length < xs.length := Nat.mod_lt _ (by have := h.1; omega)
  obtain ⟨b, off, rfl, hc⟩ := hcells _ hlt
  have HC := hide hc
  clear h S hs hcells hc
  generalize xs.getD (s % xs.length) 0 = x at *
  generalize s % xs.length = r at *
  generalize s / xs.length = q at *
  generalize xs.length = n at *
  go_enter Tryd.func27, Tryd.ntmps27
  go_wp2_with fail
  refine (unhide HO).mono ?_
  rintro E w' ⟨rfl, hB⟩
  have hc := below_cell hB (unhide HC)
  have HB := hide hB
  clear hB
  go_wp2
  go_ret2
  exact ⟨rfl, unhide HB⟩
theorem whoP_far (e : Nat → TypeId × Value) (v : Value) (xs : List Int) (s : Int) (w : World) (hv : IntsIn w v xs) (h : planOk xs) (hs : ¬ (0 ≤ s ∧ s ≤ 1000000)) (S : PSent e w) :
    Calls Tryd.prog 27 #[v, .int .i64 s] w fun r w' => r = .returned (.tuple #[.int .i64 0, .iface (e 1).1 (e 1).2]) ∧ Below w.heap.size w w' := by
  have HO := hide (roundP_far e v xs s w hv h hs S)
  obtain ⟨ad, cap, rfl, _⟩ := hv
  clear h S hs
  go_enter Tryd.func27, Tryd.ntmps27
  go_wp2_with fail
  refine (unhide HO).mono ?_
  rintro E w' ⟨rfl, hB⟩
  have HB := hide hB
  clear hB
  go_wp2
  go_ret2
  exact ⟨rfl, unhide HB⟩
theorem whoP_no (e : Nat → TypeId × Value) (v : Value) (xs : List Int) (s : Int) (w : World) (hv : IntsIn w v xs) (h : ¬ planOk xs) (S : PSent e w) :
    Calls Tryd.prog 27 #[v, .int .i64 s] w fun r w' => ∃ t p, r = .returned (.tuple #[.int .i64 0, .iface t p]) ∧ PlanErr e w' xs t p ∧ Below w.heap.size w w' := by
  have HO := hide (roundP_no e v xs s w hv h S)
  obtain ⟨ad, cap, rfl, _⟩ := hv
  clear h S
  go_enter Tryd.func27, Tryd.ntmps27
  go_wp2_with fail
  refine (unhide HO).mono ?_
  rintro E w' ⟨t, p, rfl, hp, hB⟩
  have HP := hide hp
  have HB := hide hB
  clear hp hB
  go_wp2
  go_ret2
  exact ⟨_, _, rfl, unhide HP, unhide HB⟩
theorem shareP_no (e : Nat → TypeId × Value) (v : Value) (xs : List Int) (node : Int) (w : World) (hv : IntsIn w v xs) (h : ¬ planOk xs) (S : PSent e w) :
    Calls Tryd.prog 28 #[v, .int .i64 node] w fun r w' => r = .returned (.int .i64 0) ∧ Below w.heap.size w w' := by
  have HO := hide (checkP_no e v xs w hv h S)
  obtain ⟨ad, cap, rfl, _⟩ := hv
  clear h S
  go_enter Tryd.func28, Tryd.ntmps28
  go_wp2_with fail
  refine (unhide HO).mono ?_
  rintro E w' ⟨t, p, rfl, hp, hB⟩
  have HB := hide hB
  clear hp hB
  go_wp2
  go_ret
  exact ⟨rfl, unhide HB⟩
theorem shareP_yes (e : Nat → TypeId × Value) (v : Value) (xs : List Int) (node : Int) (w : World) (hv : IntsIn w v xs) (h : planOk xs) (S : PSent e w) :
    Calls Tryd.prog 28 #[v, .int .i64 node] w fun r w' => r = .returned (.int .i64 (xs.count node : Nat)) ∧ w' = w := by
  have HO := hide (checkP_yes e v xs w hv h S)
  obtain ⟨ad, cap, rfl, hcells⟩ := hv
  have HV := hide hcells
  have hl := h.2.1
  obtain ⟨n, hn⟩ : ∃ n, xs.length = n := ⟨_, rfl⟩
  have Hl : Hid (xs.length = n) := hn
  rw [hn] at hl HO ⊢
  clear hn hcells h S
  go_enter Tryd.func28, Tryd.ntmps28
  go_wp2_with fail
  refine (unhide HO).mono ?_
  rintro E w' ⟨rfl, rfl⟩
  go_wp2
  go_loop [5, 13] (fun c i => ∃ k q : Nat, k ≤ n ∧ i = .int .i64 k ∧ c = .int .i64 q ∧ q ≤ k ∧ Hid (q = (xs.take k).count node)) (fun _ i => n - (intOf i).toNat)
  case atStart => exact ⟨0, 0, by omega, rfl, rfl, by omega, by show 0 = _; simp⟩
  case round =>
    obtain ⟨k, q, hk, rfl, rfl, hq, Hq⟩ := hrel
    by_cases hlt : k < n
    · obtain ⟨b, off, rfl, hc⟩ := unhide HV k (by rw [unhide Hl]; exact hlt)
      have HS := hide (count_snoc xs k node (by rw [unhide Hl]; exact hlt))
      rw [← unhide Hq] at HS
      generalize xs.getD k 0 = x at *
      by_cases hx : x = node
      · subst hx
        go_wp2
        go_round
        case rel => exact ⟨k + 1, q + 1, by omega, by go_num, by go_num, by omega, by have := unhide HS; rw [if_pos rfl] at this; exact this.symm⟩
        case measure => simp [intOf]; omega
      · go_wp2
        go_round
        case rel => exact ⟨k + 1, q, by omega, by go_num, rfl, by omega, by have := unhide HS; rw [if_neg hx] at this; exact this.symm⟩
        case measure => simp [intOf]; omega
    · have hkn : k = n := by omega
      subst hkn
      go_wp2
      go_ret
      exact ⟨ret_int (by rw [unhide Hq, List.take_of_length_le (by rw [unhide Hl]; exact Nat.le_refl _)]), rfl⟩
end Go.Proofs.YtglhapkclpllfaaDoor
