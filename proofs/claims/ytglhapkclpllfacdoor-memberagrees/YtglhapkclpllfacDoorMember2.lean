/-
  Contracts of package member: isGood.
-/
import Derived.Test.YtglhapkclpllfacDoorMember1
namespace Go.Proofs.YtglhapkclpllfacDoor
open Go.RowKit

theorem goodM_far (f : Frm) (v : Vw) (n : Int) (hn : f.fr ≠ n) (w : World) :
    Calls Tryd.prog 41 #[frmV f, v.val, .int .i64 n] w fun r w' => r = .returned (.bool false) ∧ Below w.heap.size w w' := by
  have hb : Below w.heap.size w ((w.alloc (.cells #[.int .i64 f.fr, .int .i64 f.me, .int .i64 f.mo, .int .i64 f.sl, .int .i64 f.va] 80)).alloc (.cells #[.int .i64 v.me, .int .i64 v.mo, .int .i64 v.sl] 46)) := ((Below.refl _ _).alloc (Nat.le_refl _) _).alloc (by simp) _
  have HB := hide hb
  clear hb
  unfold frmV Vw.val
  go_enter Tryd.func41, Tryd.ntmps41
  go_wp2_with fail
  go_quiet (fail)
  go_wp2
  go_ret
  exact ⟨rfl, below_draw (unhide HB) _⟩
theorem goodM_m (f : Frm) (c : Nat) (mo sl : Int) (hc : c ≤ 65535) (k : Nat) (hk : k < 16) (hn : f.fr = (k : Int) + 1) (w : World)
    (hcase : f.me ≠ (withN c k : Nat)) :
    Calls Tryd.prog 41 #[frmV f, .agg #[.int .i64 c, .int .i64 mo, .int .i64 sl], .int .i64 ((k : Int) + 1)] w fun r w' => r = .returned (.bool false) ∧ Below w.heap.size w w' := by
  have HW := hide (withM_ok c mo sl hc k hk)
  generalize withN c k = x at *
  obtain ⟨fr, me, fo, fl, va⟩ := f
  simp only at hn hcase
  subst hn
  generalize hK : (k : Int) + 1 = K at *
  obtain ⟨W, hW⟩ : ∃ W, W = (w.alloc (.cells #[.int .i64 K, .int .i64 me, .int .i64 fo, .int .i64 fl, .int .i64 va] 80)).alloc (.cells #[.int .i64 c, .int .i64 mo, .int .i64 sl] 46) := ⟨_, rfl⟩
  have hb : Below w.heap.size w W := by rw [hW]; exact ((Below.refl _ _).alloc (Nat.le_refl _) _).alloc (by simp) _
  have HB := hide hb
  have HV : Hid (VwAt W (w.heap.size + 1) ⟨c, mo, sl⟩) := by rw [hW]; have h := VwAt.new (w.alloc (.cells #[.int .i64 K, .int .i64 me, .int .i64 fo, .int .i64 fl, .int .i64 va] 80)) ⟨c, mo, sl⟩; rw [World.size_alloc] at h; exact h
  have HF : Hid (FrmAt W w.heap.size K me fo fl va) := by rw [hW]; exact (FrmAt.new w K me fo fl va).below ((Below.refl _ _).alloc (Nat.le_refl _) _)
  clear hb hc hk
  unfold frmV
  go_enter Tryd.func41, Tryd.ntmps41
  go_wp2_with fail
  rw [← hW]
  have HW' := hide hW
  clear hW
  have HF2 := hide ((unhide HF).below (Below.refl _ W).drew)
  have HV2 := hide ((unhide HV).below (Below.refl _ W).drew)
  go_region_held3 (fun w' => w'.cell? ⟨w.heap.size, 0, none⟩ = some (.int .i64 K) ∧ w'.cell? ⟨w.heap.size, 1, none⟩ = some (.int .i64 me) ∧ w'.cell? ⟨w.heap.size, 2, none⟩ = some (.int .i64 fo) ∧ w'.cell? ⟨w.heap.size, 3, none⟩ = some (.int .i64 fl) ∧ w'.cell? ⟨w.heap.size + 1, 0, none⟩ = some (.int .i64 c) ∧ w'.cell? ⟨w.heap.size + 1, 1, none⟩ = some (.int .i64 mo) ∧ w'.cell? ⟨w.heap.size + 1, 2, none⟩ = some (.int .i64 sl)) (first | exact ⟨(unhide HF3).c0, (unhide HF3).c1, (unhide HF3).c2, (unhide HF3).c3, (unhide HV3).c0, (unhide HV3).c1, (unhide HV3).c2⟩ | exact ⟨(unhide HF2).c0, (unhide HF2).c1, (unhide HF2).c2, (unhide HF2).c3, (unhide HV2).c0, (unhide HV2).c1, (unhide HV2).c2⟩)
    (first
      | (go_at_call 38; refine (unhide HW _).mono ?_; rintro E w3 ⟨rfl, hB⟩; have HB3 := hide ((unhide HB).drew.trans (hB.mono (unhide HB).drew.size)); have HF3 := hide ((unhide HF2).below hB); have HV3 := hide ((unhide HV2).below hB); clear hB))
  all_goals (try go_wp2)
  all_goals go_ret
  all_goals exact ⟨by simp [*], unhide HB3⟩
theorem goodM_o (f : Frm) (c : Nat) (mo sl : Int) (hc : c ≤ 65535) (k : Nat) (hk : k < 16) (hn : f.fr = (k : Int) + 1) (w : World)
    (hcase : f.me = (withN c k : Nat) ∧ f.mo ≠ mo) :
    Calls Tryd.prog 41 #[frmV f, .agg #[.int .i64 c, .int .i64 mo, .int .i64 sl], .int .i64 ((k : Int) + 1)] w fun r w' => r = .returned (.bool false) ∧ Below w.heap.size w w' := by
  have HW := hide (withM_ok c mo sl hc k hk)
  generalize withN c k = x at *
  obtain ⟨fr, me, fo, fl, va⟩ := f
  simp only at hn hcase
  obtain ⟨rfl, hcase⟩ := hcase
  subst hn
  generalize hK : (k : Int) + 1 = K at *
  obtain ⟨W, hW⟩ : ∃ W, W = (w.alloc (.cells #[.int .i64 K, .int .i64 (x : Int), .int .i64 fo, .int .i64 fl, .int .i64 va] 80)).alloc (.cells #[.int .i64 c, .int .i64 mo, .int .i64 sl] 46) := ⟨_, rfl⟩
  have hb : Below w.heap.size w W := by rw [hW]; exact ((Below.refl _ _).alloc (Nat.le_refl _) _).alloc (by simp) _
  have HB := hide hb
  have HV : Hid (VwAt W (w.heap.size + 1) ⟨c, mo, sl⟩) := by rw [hW]; have h := VwAt.new (w.alloc (.cells #[.int .i64 K, .int .i64 (x : Int), .int .i64 fo, .int .i64 fl, .int .i64 va] 80)) ⟨c, mo, sl⟩; rw [World.size_alloc] at h; exact h
  have HF : Hid (FrmAt W w.heap.size K (x : Int) fo fl va) := by rw [hW]; exact (FrmAt.new w K (x : Int) fo fl va).below ((Below.refl _ _).alloc (Nat.le_refl _) _)
  clear hb hc hk
  unfold frmV
  go_enter Tryd.func41, Tryd.ntmps41
  go_wp2_with fail
  rw [← hW]
  have HW' := hide hW
  clear hW
  have HF2 := hide ((unhide HF).below (Below.refl _ W).drew)
  have HV2 := hide ((unhide HV).below (Below.refl _ W).drew)
  go_region_held3 (fun w' => w'.cell? ⟨w.heap.size, 0, none⟩ = some (.int .i64 K) ∧ w'.cell? ⟨w.heap.size, 1, none⟩ = some (.int .i64 (x : Int)) ∧ w'.cell? ⟨w.heap.size, 2, none⟩ = some (.int .i64 fo) ∧ w'.cell? ⟨w.heap.size, 3, none⟩ = some (.int .i64 fl) ∧ w'.cell? ⟨w.heap.size + 1, 0, none⟩ = some (.int .i64 c) ∧ w'.cell? ⟨w.heap.size + 1, 1, none⟩ = some (.int .i64 mo) ∧ w'.cell? ⟨w.heap.size + 1, 2, none⟩ = some (.int .i64 sl)) (first | exact ⟨(unhide HF3).c0, (unhide HF3).c1, (unhide HF3).c2, (unhide HF3).c3, (unhide HV3).c0, (unhide HV3).c1, (unhide HV3).c2⟩ | exact ⟨(unhide HF2).c0, (unhide HF2).c1, (unhide HF2).c2, (unhide HF2).c3, (unhide HV2).c0, (unhide HV2).c1, (unhide HV2).c2⟩)
    (first
      | (go_at_call 38; refine (unhide HW _).mono ?_; rintro E w3 ⟨rfl, hB⟩; have HB3 := hide ((unhide HB).drew.trans (hB.mono (unhide HB).drew.size)); have HF3 := hide ((unhide HF2).below hB); have HV3 := hide ((unhide HV2).below hB); clear hB))
  all_goals (try go_wp2)
  all_goals go_ret
  all_goals exact ⟨by simp [*], unhide HB3⟩
theorem goodM_s (f : Frm) (c : Nat) (mo sl : Int) (hc : c ≤ 65535) (k : Nat) (hk : k < 16) (hn : f.fr = (k : Int) + 1) (w : World)
    (hcase : f.me = (withN c k : Nat) ∧ f.mo = mo ∧ f.sl ≠ sl) :
    Calls Tryd.prog 41 #[frmV f, .agg #[.int .i64 c, .int .i64 mo, .int .i64 sl], .int .i64 ((k : Int) + 1)] w fun r w' => r = .returned (.bool false) ∧ Below w.heap.size w w' := by
  have HW := hide (withM_ok c mo sl hc k hk)
  generalize withN c k = x at *
  obtain ⟨fr, me, fo, fl, va⟩ := f
  simp only at hn hcase
  obtain ⟨rfl, rfl, hcase⟩ := hcase
  subst hn
  generalize hK : (k : Int) + 1 = K at *
  obtain ⟨W, hW⟩ : ∃ W, W = (w.alloc (.cells #[.int .i64 K, .int .i64 (x : Int), .int .i64 fo, .int .i64 fl, .int .i64 va] 80)).alloc (.cells #[.int .i64 c, .int .i64 fo, .int .i64 sl] 46) := ⟨_, rfl⟩
  have hb : Below w.heap.size w W := by rw [hW]; exact ((Below.refl _ _).alloc (Nat.le_refl _) _).alloc (by simp) _
  have HB := hide hb
  have HV : Hid (VwAt W (w.heap.size + 1) ⟨c, fo, sl⟩) := by rw [hW]; have h := VwAt.new (w.alloc (.cells #[.int .i64 K, .int .i64 (x : Int), .int .i64 fo, .int .i64 fl, .int .i64 va] 80)) ⟨c, fo, sl⟩; rw [World.size_alloc] at h; exact h
  have HF : Hid (FrmAt W w.heap.size K (x : Int) fo fl va) := by rw [hW]; exact (FrmAt.new w K (x : Int) fo fl va).below ((Below.refl _ _).alloc (Nat.le_refl _) _)
  clear hb hc hk
  unfold frmV
  go_enter Tryd.func41, Tryd.ntmps41
  go_wp2_with fail
  rw [← hW]
  have HW' := hide hW
  clear hW
  have HF2 := hide ((unhide HF).below (Below.refl _ W).drew)
  have HV2 := hide ((unhide HV).below (Below.refl _ W).drew)
  go_region_held3 (fun w' => w'.cell? ⟨w.heap.size, 0, none⟩ = some (.int .i64 K) ∧ w'.cell? ⟨w.heap.size, 1, none⟩ = some (.int .i64 (x : Int)) ∧ w'.cell? ⟨w.heap.size, 2, none⟩ = some (.int .i64 fo) ∧ w'.cell? ⟨w.heap.size, 3, none⟩ = some (.int .i64 fl) ∧ w'.cell? ⟨w.heap.size + 1, 0, none⟩ = some (.int .i64 c) ∧ w'.cell? ⟨w.heap.size + 1, 1, none⟩ = some (.int .i64 fo) ∧ w'.cell? ⟨w.heap.size + 1, 2, none⟩ = some (.int .i64 sl)) (first | exact ⟨(unhide HF3).c0, (unhide HF3).c1, (unhide HF3).c2, (unhide HF3).c3, (unhide HV3).c0, (unhide HV3).c1, (unhide HV3).c2⟩ | exact ⟨(unhide HF2).c0, (unhide HF2).c1, (unhide HF2).c2, (unhide HF2).c3, (unhide HV2).c0, (unhide HV2).c1, (unhide HV2).c2⟩)
    (first
      | (go_at_call 38; refine (unhide HW _).mono ?_; rintro E w3 ⟨rfl, hB⟩; have HB3 := hide ((unhide HB).drew.trans (hB.mono (unhide HB).drew.size)); have HF3 := hide ((unhide HF2).below hB); have HV3 := hide ((unhide HV2).below hB); clear hB))
  all_goals (try go_wp2)
  all_goals go_ret
  all_goals exact ⟨by simp [*], unhide HB3⟩
theorem goodM_y (f : Frm) (c : Nat) (mo sl : Int) (hc : c ≤ 65535) (k : Nat) (hk : k < 16) (hn : f.fr = (k : Int) + 1) (w : World)
    (hcase : f.me = (withN c k : Nat) ∧ f.mo = mo ∧ f.sl = sl) :
    Calls Tryd.prog 41 #[frmV f, .agg #[.int .i64 c, .int .i64 mo, .int .i64 sl], .int .i64 ((k : Int) + 1)] w fun r w' => r = .returned (.bool true) ∧ Below w.heap.size w w' := by
  have HW := hide (withM_ok c mo sl hc k hk)
  generalize withN c k = x at *
  obtain ⟨fr, me, fo, fl, va⟩ := f
  simp only at hn hcase
  obtain ⟨rfl, rfl, rfl⟩ := hcase
  subst hn
  generalize hK : (k : Int) + 1 = K at *
  obtain ⟨W, hW⟩ : ∃ W, W = (w.alloc (.cells #[.int .i64 K, .int .i64 (x : Int), .int .i64 fo, .int .i64 fl, .int .i64 va] 80)).alloc (.cells #[.int .i64 c, .int .i64 fo, .int .i64 fl] 46) := ⟨_, rfl⟩
  have hb : Below w.heap.size w W := by rw [hW]; exact ((Below.refl _ _).alloc (Nat.le_refl _) _).alloc (by simp) _
  have HB := hide hb
  have HV : Hid (VwAt W (w.heap.size + 1) ⟨c, fo, fl⟩) := by rw [hW]; have h := VwAt.new (w.alloc (.cells #[.int .i64 K, .int .i64 (x : Int), .int .i64 fo, .int .i64 fl, .int .i64 va] 80)) ⟨c, fo, fl⟩; rw [World.size_alloc] at h; exact h
  have HF : Hid (FrmAt W w.heap.size K (x : Int) fo fl va) := by rw [hW]; exact (FrmAt.new w K (x : Int) fo fl va).below ((Below.refl _ _).alloc (Nat.le_refl _) _)
  clear hb hc hk
  unfold frmV
  go_enter Tryd.func41, Tryd.ntmps41
  go_wp2_with fail
  rw [← hW]
  have HW' := hide hW
  clear hW
  have HF2 := hide ((unhide HF).below (Below.refl _ W).drew)
  have HV2 := hide ((unhide HV).below (Below.refl _ W).drew)
  go_region_held3 (fun w' => w'.cell? ⟨w.heap.size, 0, none⟩ = some (.int .i64 K) ∧ w'.cell? ⟨w.heap.size, 1, none⟩ = some (.int .i64 (x : Int)) ∧ w'.cell? ⟨w.heap.size, 2, none⟩ = some (.int .i64 fo) ∧ w'.cell? ⟨w.heap.size, 3, none⟩ = some (.int .i64 fl) ∧ w'.cell? ⟨w.heap.size + 1, 0, none⟩ = some (.int .i64 c) ∧ w'.cell? ⟨w.heap.size + 1, 1, none⟩ = some (.int .i64 fo) ∧ w'.cell? ⟨w.heap.size + 1, 2, none⟩ = some (.int .i64 fl)) (first | exact ⟨(unhide HF3).c0, (unhide HF3).c1, (unhide HF3).c2, (unhide HF3).c3, (unhide HV3).c0, (unhide HV3).c1, (unhide HV3).c2⟩ | exact ⟨(unhide HF2).c0, (unhide HF2).c1, (unhide HF2).c2, (unhide HF2).c3, (unhide HV2).c0, (unhide HV2).c1, (unhide HV2).c2⟩)
    (first
      | (go_at_call 38; refine (unhide HW _).mono ?_; rintro E w3 ⟨rfl, hB⟩; have HB3 := hide ((unhide HB).drew.trans (hB.mono (unhide HB).drew.size)); have HF3 := hide ((unhide HF2).below hB); have HV3 := hide ((unhide HV2).below hB); clear hB))
  all_goals (try go_wp2)
  all_goals go_ret
  all_goals exact ⟨by simp [*], unhide HB3⟩
end Go.Proofs.YtglhapkclpllfacDoor
