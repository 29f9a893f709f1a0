/-
  Plain mathematics of membership: a view, who has its slot, the view and the entry behind a slot.
-/
import Derived.Test.YtglhapkclpllfacDoorMemberMath
import Derived.Test.YtglhapkclpllfacDoorPlanMath
import Derived.Test.YtglhapkclpllfacDoorRecTypes
namespace Go.Proofs.YtglhapkclpllfacDoor
open Go.RowKit

/-- A view: members, mode, slot. -/
structure Vw where
  me : Int
  mo : Int
  sl : Int
def Vw.val (v : Vw) : Value := .agg #[.int .i64 v.me, .int .i64 v.mo, .int .i64 v.sl]
def Vw.none : Vw := ⟨0, 0, 0⟩
/-- A view that is right. -/
def Vw.ok (v : Vw) : Prop := (0 ≤ v.me ∧ v.me ≤ 65535) ∧ (0 ≤ v.mo ∧ v.mo ≤ 3) ∧ 0 ≤ v.sl ∧ v.sl ≤ 1000000
/-- Who has its slot. -/
def whoV (xs : List Int) (v : Vw) : Int := xs.getD (v.sl.toNat % xs.length) 0
def atV (xs : List Int) (v : Vw) : Nat := (whoV xs v).toNat - 1
theorem who_node {xs : List Int} (h : planOk xs) (v : Vw) : Cm.isNode (whoV xs v) := by
  have h0 : 0 < xs.length := by have := h.1; omega
  have hm := Nat.mod_lt v.sl.toNat h0
  unfold whoV
  rw [List.getD_eq_getElem?_getD, List.getElem?_eq_getElem hm]
  exact h.2.2 _ (List.getElem_mem hm)
theorem who_at {xs : List Int} (h : planOk xs) (v : Vw) : whoV xs v = (atV xs v : Int) + 1 ∧ atV xs v < 16 := by
  have := who_node h v
  unfold Cm.isNode at this
  unfold atV
  omega
/-- The members with who has the slot, and without. -/
def withV (xs : List Int) (v : Vw) : Nat := withN v.me.toNat (atV xs v)
def lessV (xs : List Int) (v : Vw) : Nat := lessN v.me.toNat (atV xs v)
/-- The view and the entry behind the slot, if what was heard is good with that value, or not. -/
def nextV (xs : List Int) (v : Vw) (g : Option Int) : Vw := ⟨if g.isSome then (withV xs v : Nat) else (lessV xs v : Nat), v.mo, v.sl + 1⟩
def entV (xs : List Int) (v : Vw) (g : Option Int) : Ent := ⟨v.sl, whoV xs v, g.isSome, g.getD 0⟩
theorem with_okV {xs : List Int} (h : planOk xs) {v : Vw} (hv : v.ok) : withV xs v ≤ 65535 ∧ lessV xs v ≤ 65535 := by
  have h1 := who_at h v
  have h2 : v.me.toNat ≤ 65535 := by have := hv.1; omega
  exact ⟨with_le _ _ h2 h1.2, less_le _ _ h2⟩
theorem next_ok {xs : List Int} (h : planOk xs) {v : Vw} (hv : v.ok) (hs : v.sl < 1000000) (g : Option Int) : (nextV xs v g).ok := by
  have h1 := with_okV h hv
  obtain ⟨_, h2, h3⟩ := hv
  refine ⟨?_, h2, ?_⟩
  · unfold nextV
    cases g with
    | none => exact ⟨Int.natCast_nonneg _, Int.ofNat_le.2 h1.2⟩
    | some _ => exact ⟨Int.natCast_nonneg _, Int.ofNat_le.2 h1.1⟩
  · unfold nextV
    show 0 ≤ v.sl + 1 ∧ v.sl + 1 ≤ 1000000
    omega
/-- Another view hears it just where it has the same mode and slot, and the same members but for who has the slot. -/
theorem send_same {xs : List Int} (h : planOk xs) {v u : Vw} (hv : v.ok) (hu : u.ok) : (whoV xs v = whoV xs u ∧ ((withV xs v : Nat) : Int) = (withV xs u : Nat) ∧ v.mo = u.mo ∧ v.sl = u.sl) ↔
    (u.mo = v.mo ∧ u.sl = v.sl) ∧ ∀ i, i < 16 → i ≠ atV xs v → u.me.toNat.testBit i = v.me.toNat.testBit i := by
  obtain ⟨h1, h2⟩ := who_at h v
  have hv1 : v.me.toNat ≤ 65535 := by have := hv.1; omega
  have hu1 : u.me.toNat ≤ 65535 := by have := hu.1; omega
  have hs := with_same u.me.toNat v.me.toNat (atV xs v) hu1 hv1 h2
  constructor
  · rintro ⟨_, e2, e3, e4⟩
    have ew : whoV xs u = whoV xs v := by unfold whoV; rw [e4]
    have ea : atV xs u = atV xs v := by unfold atV; rw [ew]
    refine ⟨⟨e3.symm, e4.symm⟩, hs.1 ?_⟩
    have e5 : withV xs v = withV xs u := by omega
    unfold withV at e5
    rw [ea] at e5
    exact e5.symm
  · rintro ⟨⟨e3, e4⟩, e2⟩
    have ew : whoV xs u = whoV xs v := by unfold whoV; rw [e4]
    have ea : atV xs u = atV xs v := by unfold atV; rw [ew]
    refine ⟨ew.symm, ?_, e3.symm, e4.symm⟩
    have e5 := hs.2 e2
    unfold withV
    rw [ea, e5]
/-- Nobody but who has the slot comes or goes. -/
theorem next_bit {xs : List Int} (h : planOk xs) {v : Vw} (hv : v.ok) (g : Option Int) (i : Nat) (hi : i < 16) : (nextV xs v g).me.toNat.testBit i = if i = atV xs v then g.isSome else v.me.toNat.testBit i := by
  obtain ⟨_, h2⟩ := who_at h v
  have hv1 : v.me.toNat ≤ 65535 := by have := hv.1; omega
  unfold nextV
  cases g with
  | none =>
    show ((lessV xs v : Nat) : Int).toNat.testBit i = _
    rw [Int.toNat_natCast]
    unfold lessV
    rw [less_bit _ _ _ h2 hi]
    by_cases e : i = atV xs v
    · rw [if_pos e, ← e]; simp
    · rw [if_neg e]; simp [Ne.symm e]
  | some _ =>
    show ((withV xs v : Nat) : Int).toNat.testBit i = _
    rw [Int.toNat_natCast]
    unfold withV
    rw [with_bit]
    by_cases e : i = atV xs v
    · rw [if_pos e, ← e]; simp
    · rw [if_neg e]; simp [Ne.symm e]
end Go.Proofs.YtglhapkclpllfacDoor
