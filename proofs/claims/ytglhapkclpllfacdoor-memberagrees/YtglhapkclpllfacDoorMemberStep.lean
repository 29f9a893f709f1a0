/-
  Plain mathematics of membership: what is good of what is heard; the frame that is sent.
-/
import Derived.Test.YtglhapkclpllfacDoorMemberView
import Derived.Test.YtglhapkclpllfacDoorFrameMath
namespace Go.Proofs.YtglhapkclpllfacDoor
open Go.RowKit

/-- It is good: its value. -/
def goodV (xs : List Int) (v : Vw) (r : Except Nat Frm) : Option Int := match r with
  | .ok f => if f.fr = whoV xs v ∧ f.me = (withV xs v : Nat) ∧ f.mo = v.mo ∧ f.sl = v.sl then some f.va else none
  | .error _ => none
/-- The frame that a node sends. -/
def sendF (xs : List Int) (v : Vw) (node value : Int) : Frm := ⟨node, (withV xs v : Nat), v.mo, v.sl, value⟩
/-- The frame that who has the slot sends is right, if its value is. -/
theorem send_err {xs : List Int} (h : planOk xs) {v : Vw} (hv : v.ok) (value : Int) : fErr (sendF xs v (whoV xs v) value) = if -1048576 ≤ value ∧ value ≤ 1048576 then 0 else 2 := by
  obtain ⟨h1, h2⟩ := who_at h v
  have h3 := (with_okV h hv).1
  have hb : (withV xs v).testBit (atV xs v) = true := by
    unfold withV
    rw [with_bit]
    simp
  unfold fErr sendF
  simp only [Int.toNat_natCast]
  rw [if_neg (by omega), if_neg (by omega)]
  have e : (whoV xs v).toNat - 1 = atV xs v := rfl
  rw [e, hb]
  obtain ⟨_, ⟨m1, m2⟩, s1, s2⟩ := hv
  by_cases hval : -1048576 ≤ value ∧ value ≤ 1048576
  · rw [if_neg (by simp), if_neg (fun hh => hh ⟨m1, m2, s1, s2, hval.1, hval.2⟩), if_pos hval]
  · rw [if_neg (by simp), if_pos (fun hh => hval ⟨hh.2.2.2.2.1, hh.2.2.2.2.2⟩), if_neg hval]
/-- What it sends is good for who has its view. -/
theorem send_good {xs : List Int} (v u : Vw) (value : Int) : goodV xs u (.ok (sendF xs v (whoV xs v) value)) = if whoV xs v = whoV xs u ∧ ((withV xs v : Nat) : Int) = (withV xs u : Nat) ∧ v.mo = u.mo ∧ v.sl = u.sl then some value else none := rfl
end Go.Proofs.YtglhapkclpllfacDoor
