/-
  The laws MemberSlot and MemberAgrees, whole, over what package member answers (structure MProg).
  Conditions: those of the package's contracts (M).
-/
import Derived.Test.YtglhapkclpllfacDoorMemberAgrees
import Derived.Test.YtglhapkclpllfacDoorMemberProg
import Derived.Test.YtglhapkclpllfacDoorRef1
namespace Go.Proofs.YtglhapkclpllfacDoor
open Go.RowKit

theorem haves_ok : Haves := fun c i w hc hi => hasN_ok c i hc hi w
theorem mslot_all (M : World → Prop) (e : Nat → TypeId × Value) (P : MProg M e) (vl : Value) (xs : List Int) (v : Vw) (s : ByteArray) (hs : s.size ≤ maxLen) (w : World) (m : M w) (hv : IntsIn w vl xs) :
    Calls Tryd.prog 6 #[vl, v.val, .string s] w fun r w' => r = .returned (.bool true) ∧ Below w.heap.size w w' := by
  have SP : Stepped M := fun w m => stepped_ok M e P w m
  by_cases hf : 40 < xs.length ∨ 150 < s.size
  · exact mslot_far M P.keep SP vl xs v s hs w m hv hf
  · have h1 : xs.length ≤ 40 := Nat.not_lt.1 fun hh => hf (Or.inl hh)
    have h2 : s.size ≤ 150 := Nat.not_lt.1 fun hh => hf (Or.inr hh)
    by_cases hp : planOk xs
    · by_cases hok : v.ok
      · by_cases hsl : v.sl < 1000000
        · exact mslot_ok M P.keep SP haves_ok e P.plan vl xs v s (goodV xs v (readF s.data.toList)) w m hv h1 h2 hp hok hsl (fun w m hv => P.stO w vl xs v s m hv hp hok hsl) (fun w x m hx => P.yes w x m hx)
        · have hsl' : v.sl = 1000000 := by have := hok.2.2.2; omega
          exact mslot_err M P.keep SP vl xs v s w m hv h1 h2 fun w m hv => (P.stF w vl xs v s m hv hp hok hsl').mono fun _ _ h => ⟨_, _, h.1, h.2⟩
      · exact mslot_err M P.keep SP vl xs v s w m hv h1 h2 fun w m hv => (P.stV w vl xs v s m hv hp hok).mono fun _ _ h => ⟨_, _, h.1, h.2⟩
    · exact mslot_err M P.keep SP vl xs v s w m hv h1 h2 fun w m hv => (P.stP w vl xs v s m hv hp).mono fun _ _ ⟨ty, p, h, _, hB⟩ => ⟨ty, p, h, hB⟩
theorem mpack (M : World → Prop) (e : Nat → TypeId × Value) (P : MProg M e) : MPack M e := ⟨P.keep, P.plan, fun w m => stepped_ok M e P w m, P.yes, fun w x m h => (P.no w x m h).mono fun _ _ h => ⟨_, _, h.1, h.2⟩⟩
theorem pre_all (i a b : Nat) : preS i a b 16 = true ↔ ∀ j, j < 16 → j ≠ i → a.testBit j = b.testBit j := by
  unfold preS
  rw [List.all_eq_true]
  constructor
  · intro h j hj hji
    have := h j (List.mem_range.2 hj)
    rw [decide_eq_false hji, Bool.false_or] at this
    exact eq_of_beq this
  · intro h j hj
    by_cases e : j = i
    · rw [decide_eq_true e]; rfl
    · rw [decide_eq_false e, Bool.false_or, h j (List.mem_range.1 hj) e]
      exact beq_self_eq_true _
theorem magree_all (M : World → Prop) (e : Nat → TypeId × Value) (P : MProg M e) (vl : Value) (xs : List Int) (v u : Vw) (value : Int) (w : World) (m : M w) (hv : IntsIn w vl xs) :
    Calls Tryd.prog 5 #[vl, v.val, u.val, .int .i64 value] w fun r w' => r = .returned (.bool true) ∧ Below w.heap.size w w' := by
  have PK := mpack M e P
  by_cases hf : 40 < xs.length ∨ ¬ planOk xs ∨ ¬ v.ok ∨ ¬ u.ok ∨ v.sl = 1000000 ∨ u.sl = 1000000
  · exact magree_far M e PK vl xs v u value w m hv hf
  · have h1 : xs.length ≤ 40 := Nat.not_lt.1 fun hh => hf (Or.inl hh)
    have hp : planOk xs := Classical.byContradiction fun hh => hf (Or.inr (Or.inl hh))
    have hvo : v.ok := Classical.byContradiction fun hh => hf (Or.inr (Or.inr (Or.inl hh)))
    have huo : u.ok := Classical.byContradiction fun hh => hf (Or.inr (Or.inr (Or.inr (Or.inl hh))))
    have hvs : v.sl < 1000000 := by
      have h2 : v.sl ≠ 1000000 := fun hh => hf (Or.inr (Or.inr (Or.inr (Or.inr (Or.inl hh)))))
      have := hvo.2.2.2
      omega
    have hus : u.sl < 1000000 := by
      have h2 : u.sl ≠ 1000000 := fun hh => hf (Or.inr (Or.inr (Or.inr (Or.inr (Or.inr hh)))))
      have := huo.2.2.2
      omega
    by_cases hval : -1048576 ≤ value ∧ value ≤ 1048576
    · have hr := sent_read hp hvo hval
      have hg1 : goodV xs v (.ok (sendF xs v (whoV xs v) value)) = some value := by rw [send_good, if_pos ⟨rfl, rfl, rfl, rfl⟩]
      have hsame := send_same hp hvo huo
      by_cases hq : whoV xs v = whoV xs u ∧ ((withV xs v : Nat) : Int) = (withV xs u : Nat) ∧ v.mo = u.mo ∧ v.sl = u.sl
      · have hg2 : goodV xs u (.ok (sendF xs v (whoV xs v) value)) = some value := by rw [send_good, if_pos hq]
        have hsm : true = (decide (u.mo = v.mo ∧ u.sl = v.sl) && preS (atV xs v) u.me.toNat v.me.toNat 16) := by
          obtain ⟨q1, q2⟩ := hsame.1 hq
          rw [decide_eq_true q1, (pre_all _ _ _).2 q2]
          rfl
        have hxy : nextV xs u (some value) = nextV xs v (some value) := by
          unfold nextV
          rw [hq.2.2.1, hq.2.2.2]
          simp only [Option.isSome_some, if_true]
          rw [hq.2.1]
        refine magree_ok M e PK haves_ok vl xs v u (nextV xs v (some value)) (nextV xs u (some value)) v.sl (whoV xs v) u.sl (whoV xs u) value value true ⟨(frameL (sendF xs v (whoV xs v) value)).toArray⟩ w m hv h1 hp hvo huo hvs hus hsm (fun _ => hxy)
          (fun w m hv => P.seO w vl xs v value m hv hp hvo hval) (fun w m hv => ?_) (fun w m hv => ?_)
        · have h := P.stO w vl xs v ⟨(frameL (sendF xs v (whoV xs v) value)).toArray⟩ m hv hp hvo hvs
          rw [hr, hg1] at h
          exact h
        · have h := P.stO w vl xs u ⟨(frameL (sendF xs v (whoV xs v) value)).toArray⟩ m hv hp huo hus
          rw [hr, hg2] at h
          exact h
      · have hg2 : goodV xs u (.ok (sendF xs v (whoV xs v) value)) = none := by rw [send_good, if_neg hq]
        have hsm : false = (decide (u.mo = v.mo ∧ u.sl = v.sl) && preS (atV xs v) u.me.toNat v.me.toNat 16) := by
          cases hb : decide (u.mo = v.mo ∧ u.sl = v.sl) && preS (atV xs v) u.me.toNat v.me.toNat 16 with
          | false => rfl
          | true =>
            rw [Bool.and_eq_true] at hb
            exact absurd (hsame.2 ⟨of_decide_eq_true hb.1, (pre_all _ _ _).1 hb.2⟩) hq
        refine magree_ok M e PK haves_ok vl xs v u (nextV xs v (some value)) (nextV xs u none) v.sl (whoV xs v) u.sl (whoV xs u) 0 value false ⟨(frameL (sendF xs v (whoV xs v) value)).toArray⟩ w m hv h1 hp hvo huo hvs hus hsm (fun h => by cases h)
          (fun w m hv => P.seO w vl xs v value m hv hp hvo hval) (fun w m hv => ?_) (fun w m hv => ?_)
        · have h := P.stO w vl xs v ⟨(frameL (sendF xs v (whoV xs v) value)).toArray⟩ m hv hp hvo hvs
          rw [hr, hg1] at h
          exact h
        · have h := P.stO w vl xs u ⟨(frameL (sendF xs v (whoV xs v) value)).toArray⟩ m hv hp huo hus
          rw [hr, hg2] at h
          exact h
    · refine magree_send M e PK vl xs v u value w m hv h1 hp hvo huo hvs hus (by omega) fun w m hv => ?_
      exact (P.seB w vl xs v value m hv hp hvo hval).mono fun _ _ h => ⟨_, _, h.1, h.2⟩
end Go.Proofs.YtglhapkclpllfacDoor
