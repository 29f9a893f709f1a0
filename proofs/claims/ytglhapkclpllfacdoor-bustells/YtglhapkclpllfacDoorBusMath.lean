/-
  Plain mathematics of a bus: what counts of what is sent in a slot, what is heard then, and that it was sent by the node whose slot it is.
-/
import Derived.Test.YtglhapkclpllfacDoorGuardMath
import Derived.Test.YtglhapkclpllfacDoorRecTypes
namespace Go.Proofs.YtglhapkclpllfacDoor
open Go.RowKit

/-- A tick of the slot, at which the node may send. -/
def cnts (xs : List Int) (long slot : Nat) (s : Snt) : Bool := decide (0 ≤ s.tick ∧ s.tick ≤ 1000000 ∧ ownerAt xs long s.tick.toNat = s.node ∧ s.tick.toNat / long = slot)
/-- The text that counted last. -/
def lastOf (p : Snt → Bool) (ss : List Snt) : ByteArray := match (ss.filter p).getLast? with
  | some s => s.text
  | none => ⟨#[]⟩
theorem filter_snoc (p : Snt → Bool) (ss : List Snt) (k : Nat) (h : k < ss.length) : (ss.take (k + 1)).filter p = (ss.take k).filter p ++ (if p (ss.getD k Snt.zero) then [ss.getD k Snt.zero] else []) := by
  rw [List.take_succ_eq_append_getElem h, List.filter_append, List.getD_eq_getElem?_getD, List.getElem?_eq_getElem h, Option.getD_some]
  congr 1
  by_cases hp : p ss[k] = true
  · rw [if_pos hp, List.filter_cons_of_pos hp, List.filter_nil]
  · rw [if_neg hp, List.filter_cons_of_neg hp, List.filter_nil]
theorem lastOf_snoc (p : Snt → Bool) (ss : List Snt) (k : Nat) (h : k < ss.length) : lastOf p (ss.take (k + 1)) = if p (ss.getD k Snt.zero) then (ss.getD k Snt.zero).text else lastOf p (ss.take k) := by
  unfold lastOf
  rw [filter_snoc p ss k h]
  by_cases hp : p (ss.getD k Snt.zero) = true
  · rw [if_pos hp, if_pos hp, List.getLast?_concat]
  · rw [if_neg hp, if_neg hp, List.append_nil]
theorem cnt_snoc (p : Snt → Bool) (ss : List Snt) (k : Nat) (h : k < ss.length) : ((ss.take (k + 1)).filter p).length = ((ss.take k).filter p).length + if p (ss.getD k Snt.zero) then 1 else 0 := by
  rw [filter_snoc p ss k h, List.length_append]
  by_cases hp : p (ss.getD k Snt.zero) = true
  · rw [if_pos hp, if_pos hp]; rfl
  · rw [if_neg hp, if_neg hp]; rfl
theorem cnt_le (p : Snt → Bool) (ss : List Snt) (k : Nat) : ((ss.take k).filter p).length ≤ k := Nat.le_trans (List.length_filter_le _ _) (by rw [List.length_take]; omega)
/-- If just one counts, then of those that count one has its text. -/
theorem one_text (p : Snt → Bool) (ss : List Snt) (h : (ss.filter p).length = 1) : ((ss.filter fun s => p s && decide (s.text = lastOf p ss)).length) = 1 := by
  have e : (ss.filter fun s => p s && decide (s.text = lastOf p ss)) = (ss.filter p).filter fun s => decide (s.text = lastOf p ss) := by
    rw [List.filter_filter]
    congr 1
    funext s
    exact Bool.and_comm _ _
  rw [e]
  unfold lastOf
  match hl : ss.filter p, h with
  | [s], _ => simp
/-- A tick of a slot is its owner's. -/
theorem owner_slot (xs : List Int) (long slot t : Nat) (h : t / long = slot) : ownerAt xs long t = xs.getD (slot % xs.length) 0 := by
  unfold ownerAt
  rw [h]
/-- What the law counts is what counts. -/
theorem cnts_who (xs : List Int) (long slot : Nat) (s : Snt) : cnts xs long slot s = decide (0 ≤ s.tick ∧ s.tick ≤ 1000000 ∧ s.node = xs.getD (slot % xs.length) 0 ∧ s.tick.toNat / long = slot) := by
  unfold cnts
  congr 1
  apply propext
  constructor
  · rintro ⟨h1, h2, h3, h4⟩
    exact ⟨h1, h2, by rw [← h3]; exact owner_slot xs long slot _ h4, h4⟩
  · rintro ⟨h1, h2, h3, h4⟩
    exact ⟨h1, h2, by rw [h3]; exact owner_slot xs long slot _ h4, h4⟩
/-- A slot's length and a slot that are right. -/
def slotOk (long slot : Int) : Prop := (1 ≤ long ∧ long ≤ 1000000) ∧ (0 ≤ slot ∧ slot ≤ 1000000) ∧ slot * long ≤ 1000000
theorem slotOk_div {long slot : Nat} (h : slotOk long slot) : slot ≤ 1000000 / long := by
  obtain ⟨⟨h1, _⟩, _, h3⟩ := h
  refine (Nat.le_div_iff_mul_le (by omega)).2 ?_
  have h4 : ((slot * long : Nat) : Int) ≤ 1000000 := by rw [Int.natCast_mul]; exact h3
  omega
theorem div_slotOk {long : Nat} {slot : Int} (h1 : 1 ≤ long) (h2 : long ≤ 1000000) (h3 : 0 ≤ slot) (h4 : slot ≤ ((1000000 / long : Nat) : Int)) : slotOk long slot := by
  obtain ⟨s, rfl⟩ : ∃ s : Nat, slot = (s : Int) := ⟨slot.toNat, by omega⟩
  have h5 : s ≤ 1000000 / long := Int.ofNat_le.1 h4
  have h6 := (Nat.le_div_iff_mul_le (by omega)).1 h5
  have h7 := Nat.div_le_self 1000000 long
  refine ⟨⟨by omega, by omega⟩, ⟨by omega, by omega⟩, ?_⟩
  rw [← Int.natCast_mul]
  omega
/-- What node i + 1 hears. -/
def hears (ss : List Snt) (p : Snt → Bool) (lost : List Int) (i : Nat) : ByteArray := if (ss.filter p).length = 1 ∧ ¬ ((i : Int) + 1) ∈ lost then lastOf p ss else ⟨#[]⟩
theorem hears_one {ss : List Snt} {p : Snt → Bool} {lost : List Int} {i : Nat} (h : hears ss p lost i ≠ ⟨#[]⟩) : (ss.filter p).length = 1 ∧ ¬ ((i : Int) + 1) ∈ lost ∧ hears ss p lost i = lastOf p ss := by
  unfold hears at h ⊢
  by_cases hc : (ss.filter p).length = 1 ∧ ¬ ((i : Int) + 1) ∈ lost
  · exact ⟨hc.1, hc.2, by rw [if_pos hc]⟩
  · rw [if_neg hc] at h; exact absurd rfl h
end Go.Proofs.YtglhapkclpllfacDoor
