/-
  The plain mathematics of crews, as numbers below 65536: how many bits, which ones, and, or, less.
-/
import Derived.WalkKit
import Derived.Lib.TrailingZeros
import Derived.Test.YtglhapkclpllfacGreatDoorProg
import Derived.Test.YtglhapkclpllfacGreatDoorBase
import Derived.Laws.Bits64b
import Derived.Laws.BitsLemmas
import Derived.Outline
namespace Go.Proofs.YtglhapkclpllfacGreatDoor
namespace Cm

/-- How many of the lowest f bits of c are set. -/
def pc : Nat → Nat → Nat
  | 0, _ => 0
  | f + 1, c => c % 2 + pc f (c / 2)
/-- The places (from p + 1 on) of the set bits among the lowest f, rising. -/
def nl : Nat → Nat → Nat → List Nat
  | 0, _, _ => []
  | f + 1, p, c => if c % 2 = 1 then (p + 1) :: nl f (p + 1) (c / 2) else nl f (p + 1) (c / 2)
def nodes (c : Nat) : List Nat := nl 16 0 c
def many (c : Nat) : Nat := pc 16 c

theorem and_mod2 (a b : Nat) : (a &&& b) % 2 = (a % 2) * (b % 2) := by
  have h := Nat.and_mod_two_pow (a := a) (b := b) (n := 1)
  simp only [Nat.pow_one] at h
  rw [h]
  rcases Nat.mod_two_eq_zero_or_one a with ha | ha <;> rcases Nat.mod_two_eq_zero_or_one b with hb | hb <;> simp [ha, hb]
theorem pc_le : ∀ f c, pc f c ≤ f
  | 0, _ => Nat.le_refl _
  | f + 1, c => by have := pc_le f (c / 2); have := Nat.mod_lt c (show 0 < 2 by omega); simp only [pc]; omega
theorem many_le (c : Nat) : many c ≤ 16 := pc_le 16 c
theorem len_nl : ∀ f p c, (nl f p c).length = pc f c
  | 0, _, _ => rfl
  | f + 1, p, c => by
    have ih := len_nl f (p + 1) (c / 2)
    rcases Nat.mod_two_eq_zero_or_one c with h | h <;> simp [nl, pc, h, ih] <;> omega
theorem len_nodes (c : Nat) : (nodes c).length = many c := len_nl 16 0 c

/-- a without b, and what both have, make a. -/
theorem pc_split : ∀ f a b, b < 2 ^ f → pc f (a &&& (2 ^ f - 1 - b)) + pc f (a &&& b) = pc f a
  | 0, _, _, _ => rfl
  | f + 1, a, b, hb => by
    have hp : 2 ^ (f + 1) = 2 * 2 ^ f := by rw [Nat.pow_succ]; omega
    have ih := pc_split f (a / 2) (b / 2) (by omega)
    have e1 : (2 ^ (f + 1) - 1 - b) / 2 = 2 ^ f - 1 - b / 2 := by omega
    have e2 : (2 ^ (f + 1) - 1 - b) % 2 = 1 - b % 2 := by omega
    simp only [pc, Nat.and_div_two, and_mod2, e1, e2]
    rcases Nat.mod_two_eq_zero_or_one b with h | h <;> simp only [h] <;> omega
theorem many_split (a b : Nat) (hb : b ≤ 65535) : many (a &&& (65535 - b)) + many (a &&& b) = many a := pc_split 16 a b (by omega)
/-- Two that have nothing together have no more of a third one than it has. -/
theorem pc_apart : ∀ f a b c, a &&& b = 0 → pc f (a &&& c) + pc f (b &&& c) ≤ pc f c
  | 0, _, _, _, _ => Nat.le_refl _
  | f + 1, a, b, c, h => by
    have h2 : a / 2 &&& b / 2 = 0 := by rw [← Nat.and_div_two, h]
    have h0 : (a % 2) * (b % 2) = 0 := by rw [← and_mod2, h]
    have ih := pc_apart f (a / 2) (b / 2) (c / 2) h2
    simp only [pc, Nat.and_div_two, and_mod2]
    have : (a % 2) * (c % 2) + (b % 2) * (c % 2) ≤ c % 2 := by
      rcases Nat.mod_two_eq_zero_or_one a with ha | ha <;> rcases Nat.mod_two_eq_zero_or_one b with hb | hb <;> rcases Nat.mod_two_eq_zero_or_one c with hc | hc <;> simp [ha, hb, hc] at h0 ⊢
    omega
theorem many_apart (a b c : Nat) : 2 * many (a &&& c) ≤ many c ∨ 2 * many (b &&& c) ≤ many c ∨ a &&& b ≠ 0 := by
  by_cases h : a &&& b = 0
  · have : many (a &&& c) + many (b &&& c) ≤ many c := pc_apart 16 a b c h
    omega
  · exact Or.inr (Or.inr h)
theorem whole (a b : Nat) (ha : a ≤ 65535) (hb : b ≤ 65535) : (a &&& (65535 - b)) ||| (a &&& b) = a := by
  apply Nat.eq_of_testBit_eq
  intro i
  have e : 65535 - b = 2 ^ 16 - (b + 1) := by omega
  rw [Nat.testBit_or, Nat.testBit_and, Nat.testBit_and, e, Nat.testBit_two_pow_sub_succ (by omega)]
  by_cases hi : i < 16
  · cases a.testBit i <;> cases b.testBit i <;> simp [hi]
  · have : a.testBit i = false := Nat.testBit_lt_two_pow (Nat.lt_of_lt_of_le (show a < 2 ^ 16 by omega) (Nat.pow_le_pow_right (by omega) (by omega)))
    simp [this]
theorem and_le (a b : Nat) (ha : a ≤ 65535) : a &&& b ≤ 65535 := Nat.le_trans Nat.and_le_left ha
theorem or_le (a b : Nat) (ha : a ≤ 65535) (hb : b ≤ 65535) : a ||| b ≤ 65535 := by
  have := Nat.or_lt_two_pow (n := 16) (x := a) (y := b) (by omega) (by omega)
  omega

/-! ### the lowest bit goes -/
theorem low_odd (c : Nat) (h : c % 2 = 1) : c &&& (c - 1) = c - 1 := by
  have e1 : (c &&& (c - 1)) / 2 = (c - 1) / 2 := by
    rw [Nat.and_div_two, show (c - 1) / 2 = c / 2 by omega, Nat.and_self]
  have e2 : (c &&& (c - 1)) % 2 = (c - 1) % 2 := by rw [and_mod2, h]; omega
  omega
theorem low_even (c : Nat) (h : c % 2 = 0) (h0 : 0 < c) : (c &&& (c - 1)) % 2 = 0 ∧ (c &&& (c - 1)) / 2 = (c / 2) &&& (c / 2 - 1) := by
  refine ⟨by rw [and_mod2, h]; simp, ?_⟩
  rw [Nat.and_div_two, show (c - 1) / 2 = c / 2 - 1 by omega]
theorem nl_step : ∀ f p c, 0 < c → c < 2 ^ f → nl f p c = (p + Lib.ctzFrom f c + 1) :: nl f p (c &&& (c - 1))
  | 0, _, c, h0, h => by simp at h; omega
  | f + 1, p, c, h0, h => by
    have hp : 2 ^ (f + 1) = 2 * 2 ^ f := by rw [Nat.pow_succ]; omega
    rcases Nat.mod_two_eq_zero_or_one c with hc | hc
    · obtain ⟨l1, l2⟩ := low_even c hc h0
      have ih := nl_step f (p + 1) (c / 2) (by omega) (by omega)
      simp only [nl, hc, l1, l2, Lib.ctzFrom]
      simp only [Nat.zero_ne_one, if_false, ih]
      congr 1
      omega
    · have e := low_odd c hc
      rw [e]
      have e1 : (c - 1) % 2 = 0 := by omega
      have e2 : (c - 1) / 2 = c / 2 := by omega
      simp [nl, hc, e1, e2, Lib.ctzFrom]
theorem low_lt (c : Nat) (h : 0 < c) : c &&& (c - 1) < c := Nat.lt_of_le_of_lt Nat.and_le_right (by omega)
end Cm
end Go.Proofs.YtglhapkclpllfacGreatDoor
/-
  Contracts of package crew: Check, bit, Has, whatever the numbers are.
-/
namespace Go.Proofs.YtglhapkclpllfacGreatDoor
open Go.RowKit

def Cm.isNode (x : Int) : Prop := 1 ≤ x ∧ x ≤ 16
theorem i64_and (a b : Nat) (ha : a ≤ 65535) (hb : b ≤ 65535) : bits .and .i64 (a : Int) (b : Int) = ((a &&& b : Nat) : Int) :=
  (bits_nat .i64 16 (by decide) (fun n h0 h1 => by rw [IntKind.wrap_i64]; omega) a b (by omega) (by omega)).1
theorem i64_or (a b : Nat) (ha : a ≤ 65535) (hb : b ≤ 65535) : bits .or .i64 (a : Int) (b : Int) = ((a ||| b : Nat) : Int) :=
  (bits_nat .i64 16 (by decide) (fun n h0 h1 => by rw [IntKind.wrap_i64]; omega) a b (by omega) (by omega)).2
theorem pow_wrap (n : Nat) (h : n ≤ 16) : wrap64 (2 ^ (n - 1)) = ((2 ^ (n - 1) : Nat) : Int) := by
  have h1 : 2 ^ (n - 1) ≤ 2 ^ 15 := Nat.pow_le_pow_right (by omega) (by omega)
  have h2 : ((2 ^ (n - 1) : Nat) : Int) = (2 : Int) ^ (n - 1) := by simp
  rw [← h2]
  generalize 2 ^ (n - 1) = k at h1
  unfold wrap64
  omega
theorem check_ok (c : Nat) (hc : c ≤ 65535) (w : World) : Calls Tryz.prog 14 #[.int .i64 c] w fun e w' => e = .returned .nilIface ∧ w' = w := by
  have h1 : ¬ ((c : Int) < 0) := by omega
  have h2 : ¬ ((65535 : Int) < c) := by omega
  go_enter Tryz.func14, Tryz.ntmps14
  go_wp2
  go_ret
  exact ⟨rfl, rfl⟩
theorem check_bad (c : Int) (hc : c < 0 ∨ 65535 < c) (ev : Value) (w : World) (h : w.cell? ⟨0, 0, none⟩ = some ev) : Calls Tryz.prog 14 #[.int .i64 c] w fun e w' => e = .returned ev ∧ w' = w := by
  by_cases h1 : c < 0
  · go_enter Tryz.func14, Tryz.ntmps14
    go_wp2
    go_ret
    exact ⟨rfl, rfl⟩
  · have h2 : 65535 < c := by omega
    go_enter Tryz.func14, Tryz.ntmps14
    go_wp2
    go_ret
    exact ⟨rfl, rfl⟩
theorem bit_ok (n : Nat) (h1 : 1 ≤ n) (h2 : n ≤ 16) (w : World) : Calls Tryz.prog 80 #[.int .i64 n] w fun e w' => e = .returned (.int .i64 ((2 ^ (n - 1) : Nat) : Int)) ∧ w' = w := by
  have h3 : ¬ ((n : Int) < 1) := by omega
  have h4 : ¬ ((16 : Int) < n) := by omega
  have h5 : ¬ ((n : Int) - 1 < 0) := by omega
  go_enter Tryz.func80, Tryz.ntmps80
  go_wp2
  go_ret
  exact ⟨ret_int (pow_wrap n h2), rfl⟩
theorem bit_bad (n : Int) (h : n < 1 ∨ 16 < n) (w : World) : Calls Tryz.prog 80 #[.int .i64 n] w fun e w' => e = .returned (.int .i64 0) ∧ w' = w := by
  by_cases h1 : n < 1
  · go_enter Tryz.func80, Tryz.ntmps80
    go_wp2
    go_ret
    exact ⟨rfl, rfl⟩
  · have h2 : 16 < n := by omega
    go_enter Tryz.func80, Tryz.ntmps80
    go_wp2
    go_ret
    exact ⟨rfl, rfl⟩
theorem bit_key (c k : Nat) (hk : bits .and .i64 (c : Int) ((2 ^ k : Nat) : Int) = ((c &&& 2 ^ k : Nat) : Int)) : (bits .and .i64 (c : Int) (2 ^ k) != 0) = c.testBit k := by
  have e : ((2 ^ k : Nat) : Int) = (2 : Int) ^ k := by simp
  rw [← e, hk]
  cases hb : c.testBit k with
  | false =>
    have : c &&& 2 ^ k = 0 := by
      apply Nat.eq_of_testBit_eq
      intro i
      rw [Nat.testBit_and, Nat.testBit_two_pow, Nat.zero_testBit]
      by_cases h : k = i
      · subst h; simp [hb]
      · simp [h]
    rw [this]; rfl
  | true =>
    have : c &&& 2 ^ k ≠ 0 := fun h0 => by
      have h1 : (c &&& 2 ^ k).testBit k = true := by rw [Nat.testBit_and, Nat.testBit_two_pow, hb]; simp
      rw [h0] at h1
      simp at h1
    simp; omega
theorem has_ok (c n : Nat) (hc : c ≤ 65535) (h1 : 1 ≤ n) (h2 : n ≤ 16) (w : World) : Calls Tryz.prog 66 #[.int .i64 c, .int .i64 n] w fun e w' => e = .returned (.bool (c.testBit (n - 1))) ∧ w' = w := by
  have hp : 2 ^ (n - 1) ≤ 65535 := Nat.le_trans (Nat.pow_le_pow_right (by omega) (show n - 1 ≤ 15 by omega)) (by decide)
  have hk := i64_and c (2 ^ (n - 1)) hc hp
  go_enter Tryz.func66, Tryz.ntmps66
  go_wp2_with (first | (go_at_call 14; refine (check_ok c hc _).mono ?_; rintro e w' ⟨rfl, rfl⟩) | (go_at_call 80; refine (bit_ok n h1 h2 _).mono ?_; rintro e w' ⟨rfl, rfl⟩))
  go_ret
  exact ⟨ret_bool (bit_key c (n - 1) hk), rfl⟩
def okC (c : Int) : Prop := 0 ≤ c ∧ c ≤ 65535
theorem not_okC {c : Int} (h : ¬ okC c) : c < 0 ∨ 65535 < c := by unfold okC at h; omega
theorem okC_nat {c : Int} (h : okC c) : ∃ n : Nat, c = n ∧ n ≤ 65535 := ⟨c.toNat, by unfold okC at h; omega, by unfold okC at h; omega⟩
theorem has_bad (c n : Int) (h : ¬ ((0 ≤ c ∧ c ≤ 65535) ∧ Cm.isNode n)) (te : TypeId) (pe : Value) (w : World) (hE : w.cell? ⟨0, 0, none⟩ = some (.iface te pe)) : Calls Tryz.prog 66 #[.int .i64 c, .int .i64 n] w fun e w' => e = .returned (.bool false) ∧ w' = w := by
  by_cases hc : okC c
  · obtain ⟨m, rfl, hm⟩ := okC_nat hc
    have hn : ¬ Cm.isNode n := fun hn => h ⟨hc, hn⟩
    have HC := hide (check_ok m hm)
    have HB := hide (bit_bad n (by unfold Cm.isNode at hn; omega))
    have hk := i64_and m 0 hm (by omega)
    rw [Nat.and_zero] at hk
    clear h hc hn
    go_enter Tryz.func66, Tryz.ntmps66
    go_wp2_with (first | (go_at_call 14; refine (unhide HC _).mono ?_; rintro e w' ⟨rfl, rfl⟩) | (go_at_call 80; refine (unhide HB _).mono ?_; rintro e w' ⟨rfl, rfl⟩))
    go_ret
    exact ⟨ret_bool (by simpa using hk), rfl⟩
  · have HC := hide (check_bad c (not_okC hc) _ w hE)
    clear h hc
    go_enter Tryz.func66, Tryz.ntmps66
    go_wp2_with (go_at_call 14; refine (unhide HC).mono ?_; rintro e w' ⟨rfl, rfl⟩)
    go_ret
    exact ⟨rfl, rfl⟩
end Go.Proofs.YtglhapkclpllfacGreatDoor
/-
  Numbers of 64 bits without a sign, as plain ones.
-/
namespace Go.Proofs.YtglhapkclpllfacGreatDoor
open Go.RowKit

theorem u64_and (a b : Nat) (ha : a < 18446744073709551616) (hb : b < 18446744073709551616) : bits .and .u64 (a : Int) (b : Int) = ((a &&& b : Nat) : Int) := bits_and_u64_nat a b ha hb
theorem u64_wrap (a : Nat) (ha : a < 18446744073709551616) : IntKind.u64.wrap (a : Int) = (a : Int) := by rw [IntKind.wrap_u64]; omega
end Go.Proofs.YtglhapkclpllfacGreatDoor
/-
  Plain mathematics of the crew of nodes.
-/
namespace Go.Proofs.YtglhapkclpllfacGreatDoor
open Go.RowKit
namespace Cm
/-- The crew of nodes. -/
def ofN (xs : List Int) : Nat := xs.foldl (fun c x => c ||| 2 ^ (x.toNat - 1)) 0
theorem ofN_snoc (xs : List Int) (x : Int) : ofN (xs ++ [x]) = ofN xs ||| 2 ^ (x.toNat - 1) := by simp [ofN]
theorem pow_le (x : Int) (h : isNode x) : 2 ^ (x.toNat - 1) ≤ 65535 := Nat.le_trans (Nat.pow_le_pow_right (by omega) (show x.toNat - 1 ≤ 15 by have := h.2; omega)) (by decide)
theorem fold_le : ∀ (xs : List Int) (c : Nat), c ≤ 65535 → (∀ x ∈ xs, isNode x) → xs.foldl (fun c x => c ||| 2 ^ (x.toNat - 1)) c ≤ 65535
  | [], _, hc, _ => hc
  | x :: r, _, hc, h => fold_le r _ (or_le _ _ hc (pow_le x (h x List.mem_cons_self))) fun y hy => h y (List.mem_cons_of_mem _ hy)
theorem ofN_le (xs : List Int) (h : ∀ x ∈ xs, isNode x) : ofN xs ≤ 65535 := fold_le xs 0 (by omega) h
end Cm
theorem take_snoc_getD (xs : List Int) (k : Nat) (h : k < xs.length) : xs.take (k + 1) = xs.take k ++ [xs.getD k 0] := by
  rw [List.take_succ_eq_append_getElem h, List.getD_eq_getElem?_getD, List.getElem?_eq_getElem h]; rfl
theorem getD_mem (xs : List Int) (k : Nat) (h : k < xs.length) : xs.getD k 0 ∈ xs := by
  rw [List.getD_eq_getElem?_getD, List.getElem?_eq_getElem h]; exact List.getElem_mem h

theorem i64_or_pow (a k : Nat) (ha : a ≤ 65535) (hb : 2 ^ k ≤ 65535) : bits .or .i64 (a : Int) (2 ^ k) = ((a ||| 2 ^ k : Nat) : Int) := by
  rw [← i64_or a (2 ^ k) ha hb]; simp
theorem pow_ne (k : Nat) : (((2 : Int) ^ k) == 0) = false := by
  have : (2 : Int) ^ k = ((2 ^ k : Nat) : Int) := by simp
  rw [this]
  have h := Nat.two_pow_pos k
  generalize 2 ^ k = n at h
  simp; omega
theorem ret_pair {a b : Int} {v : Value} (h : a = b) : Ending.returned (.tuple #[.int .i64 a, v]) = .returned (.tuple #[.int .i64 b, v]) := by rw [h]
/-- The first number that is no node, or the end. -/
theorem first_bad : ∀ xs : List Int, ∃ m, m ≤ xs.length ∧ (∀ i, i < m → Cm.isNode (xs.getD i 0)) ∧ (m < xs.length → ¬ Cm.isNode (xs.getD m 0))
  | [] => ⟨0, by simp, fun i hi => absurd hi (by omega), by simp⟩
  | x :: xs => by
    by_cases hx : Cm.isNode x
    · obtain ⟨m, h1, h2, h3⟩ := first_bad xs
      refine ⟨m + 1, by simp; omega, fun i hi => ?_, fun h => ?_⟩
      · cases i with
        | zero => simpa using hx
        | succ i => simpa using h2 i (by omega)
      · simpa using h3 (by simpa using h)
    · exact ⟨0, by simp, fun i hi => absurd hi (by omega), fun _ => by simpa using hx⟩
end Go.Proofs.YtglhapkclpllfacGreatDoor
/-
  The contract of crew.Of: any numbers: the crew of those that are nodes, or an *api.Fault at the first that is none.
-/
namespace Go.Proofs.YtglhapkclpllfacGreatDoor
open Go.RowKit
/-- What the loop of Of has gathered behind the first m numbers, all nodes; then the end, or one that is none. -/
theorem of_walk (v : Value) (xs : List Int) (m : Nat) (te : TypeId) (pe : Value) (w : World) (hv : IntsIn w v xs) (hl : xs.length ≤ maxLen) (hm : m ≤ xs.length) (hn : ∀ i, i < m → Cm.isNode (xs.getD i 0)) (hbad : m < xs.length → ¬ Cm.isNode (xs.getD m 0))
    (hE : w.cell? ⟨5, 0, none⟩ = some (.iface te pe)) :
    Calls Tryz.prog 77 #[v] w fun e w' => (m = xs.length ∧ e = .returned (.tuple #[.int .i64 (Cm.ofN xs : Nat), .nilIface]) ∧ w' = w) ∨
      (m < xs.length ∧ e = .returned (.tuple #[.int .i64 0, .iface 66 (.pointer (some ⟨w.heap.size, 0, none⟩))]) ∧ w'.cell? ⟨w.heap.size, 0, none⟩ = some (.int .i64 m) ∧ w'.cell? ⟨w.heap.size, 0 + 1, none⟩ = some (.iface te pe) ∧ Below w.heap.size w w') := by
  unfold maxLen at hl
  obtain ⟨ad, cap, rfl, hcells⟩ := hv
  have HV := hide hcells
  have Hn := hide hn
  have Hbad := hide hbad
  obtain ⟨n, hn'⟩ : ∃ n, xs.length = n := ⟨_, rfl⟩
  have Hl : Hid (xs.length = n) := hn'
  rw [hn'] at hm hl ⊢
  clear hn' hcells hn hbad
  go_enter Tryz.func77, Tryz.ntmps77
  go_wp2
  go_loop [4, 10] (fun c i => ∃ k : Nat, k ≤ m ∧ i = .int .i64 k ∧ c = .int .i64 (Cm.ofN (xs.take k) : Nat)) (fun _ i => n - (intOf i).toNat)
  case atStart => exact ⟨0, by omega, rfl, rfl⟩
  case round =>
    obtain ⟨k, hk, rfl, rfl⟩ := hrel
    by_cases hlt : k < n
    · obtain ⟨b, off, rfl, hc⟩ := unhide HV k (by rw [unhide Hl]; exact hlt)
      obtain ⟨x, hx⟩ : ∃ x, xs.getD k 0 = x := ⟨_, rfl⟩
      rw [hx] at hc
      have HX := hide hx
      clear hx
      by_cases hkm : k < m
      · have hnode : Cm.isNode x := by rw [← unhide HX]; exact unhide Hn k hkm
        obtain ⟨y, rfl⟩ : ∃ y : Nat, x = (y : Int) := ⟨x.toNat, by have := hnode.1; omega⟩
        have hcle : Cm.ofN (xs.take k) ≤ 65535 := Cm.ofN_le _ fun z hz => by
          obtain ⟨i, hi, e⟩ := List.mem_iff_getElem.1 hz
          have hi' : i < k := by have := List.length_take_le k xs; omega
          have hi2 : i < xs.length := by rw [unhide Hl]; omega
          have : z = xs.getD i 0 := by rw [List.getD_eq_getElem?_getD, List.getElem?_eq_getElem hi2, ← e]; simp
          rw [this]; exact unhide Hn i (by omega)
        have hy1 := hnode.1
        have hy2 := hnode.2
        have hp := Cm.pow_le _ hnode
        have hor := i64_or_pow (Cm.ofN (xs.take k)) (y - 1) hcle (by simpa using hp)
        have hne := pow_ne (y - 1)
        have HN : Hid (Cm.ofN (xs.take (k + 1)) = Cm.ofN (xs.take k) ||| 2 ^ (y - 1)) := by
          show _ = _
          rw [take_snoc_getD xs k (by rw [unhide Hl]; exact hlt), Cm.ofN_snoc, unhide HX]; simp
        clear hcle hp hnode
        go_wp2_with (go_at_call 80; refine (bit_ok y (by omega) (by omega) _).mono ?_; rintro e w' ⟨rfl, rfl⟩)
        go_round
        case rel => exact ⟨k + 1, by omega, by go_num, by rw [unhide HN]⟩
        case measure => simp [intOf]; omega
      · have hkm' : k = m := by omega
        subst hkm'
        have hnode : ¬ Cm.isNode x := by rw [← unhide HX]; exact unhide Hbad (by rw [unhide Hl]; exact hlt)
        have hx : x < 1 ∨ 16 < x := by unfold Cm.isNode at hnode; omega
        clear hnode
        go_wp2_with (go_at_call 80; refine (bit_bad x hx _).mono ?_; rintro e w' ⟨rfl, rfl⟩)
        go_region
        all_goals (try go_wp2)
        all_goals go_ret2
        all_goals exact Or.inr ⟨hlt, rfl, by simp, by simp, ((Below.refl _ _).alloc (Nat.le_refl _) _).drew⟩
    · have : k = m := by omega
      subst this
      have hnk : k = n := by omega
      subst hnk
      go_wp2
      go_ret2
      exact ⟨ret_pair (by rw [List.take_of_length_le (by rw [unhide Hl]; exact Nat.le_refl _)]), rfl⟩
theorem of_ok (v : Value) (xs : List Int) (te : TypeId) (pe : Value) (w : World) (hv : IntsAt w v xs) (hl : xs.length ≤ maxLen) (hn : ∀ x ∈ xs, Cm.isNode x) (hE : w.cell? ⟨5, 0, none⟩ = some (.iface te pe)) :
    Calls Tryz.prog 77 #[v] w fun e w' => e = .returned (.tuple #[.int .i64 (Cm.ofN xs : Nat), .nilIface]) ∧ w' = w :=
  (of_walk v xs xs.length te pe w hv.in' hl (Nat.le_refl _) (fun i hi => hn _ (getD_mem xs i hi)) (fun h => absurd h (Nat.lt_irrefl _)) hE).mono fun _ _ h => by
    rcases h with h | h
    · exact h.2
    · exact absurd h.1 (Nat.lt_irrefl _)
end Go.Proofs.YtglhapkclpllfacGreatDoor
/-
  Plain mathematics of plans: a round from one of its slots on, how often a node is there, where it is first.
-/
namespace Go.Proofs.YtglhapkclpllfacGreatDoor
open Go.RowKit

/-- A plan that is right. -/
def planOk (xs : List Int) : Prop := xs.length ≠ 0 ∧ xs.length ≤ 32 ∧ ∀ x ∈ xs, Cm.isNode x
/-- A round from its r-th slot on. -/
def rot (xs : List Int) (r : Nat) : List Int := xs.drop r ++ xs.take r
theorem rot_len (xs : List Int) (r : Nat) : (rot xs r).length = xs.length := by
  simp [rot]; omega
theorem rot_count (xs : List Int) (r : Nat) (a : Int) : (rot xs r).count a = xs.count a := by
  rw [rot, List.count_append, Nat.add_comm, ← List.count_append, List.take_append_drop]
theorem rot_mem (xs : List Int) (r : Nat) (a : Int) : a ∈ rot xs r ↔ a ∈ xs := by
  rw [← List.count_pos_iff, ← List.count_pos_iff, rot_count]
theorem rot_getD (xs : List Int) (r k : Nat) (hr : r < xs.length) (hk : k < xs.length) : (rot xs r).getD k 0 = xs.getD ((r + k) % xs.length) 0 := by
  rw [rot, List.getD_eq_getElem?_getD, List.getD_eq_getElem?_getD]
  by_cases h : k < xs.length - r
  · rw [List.getElem?_append_left (by rw [List.length_drop]; exact h), List.getElem?_drop, Nat.mod_eq_of_lt (by omega)]
  · rw [List.getElem?_append_right (by rw [List.length_drop]; omega), List.length_drop, List.getElem?_take_of_lt (by omega)]
    have e : (r + k) % xs.length = k - (xs.length - r) := by
      rw [show r + k = (k - (xs.length - r)) + xs.length by omega, Nat.add_mod_right, Nat.mod_eq_of_lt (by omega)]
    rw [e]
theorem getD_mod (xs : List Int) (s k : Nat) (hk : k < xs.length) : xs.getD ((s + k) % xs.length) 0 = (rot xs (s % xs.length)).getD k 0 := by
  rw [rot_getD xs _ k (Nat.mod_lt _ (by omega)) hk, Nat.add_mod, Nat.mod_eq_of_lt hk, Nat.mod_add_mod, Nat.add_mod, Nat.mod_eq_of_lt hk]
theorem count_snoc (ys : List Int) (k : Nat) (a : Int) (h : k < ys.length) : (ys.take (k + 1)).count a = (ys.take k).count a + (if ys.getD k 0 = a then 1 else 0) := by
  rw [take_snoc_getD ys k h, List.count_append, List.count_singleton]
  simp
theorem count_len (ys : List Int) (k : Nat) (a : Int) : (ys.take k).count a ≤ k := Nat.le_trans List.count_le_length (by rw [List.length_take]; omega)
/-- Where a number is first, or the length. -/
theorem first_at (a : Int) : ∀ ys : List Int, ∃ m, m ≤ ys.length ∧ (∀ i, i < m → ys.getD i 0 ≠ a) ∧ (m < ys.length → ys.getD m 0 = a) ∧ (m < ys.length ↔ a ∈ ys)
  | [] => ⟨0, by simp, fun i hi => absurd hi (by omega), by simp, by simp⟩
  | x :: ys => by
    by_cases hx : x = a
    · subst hx
      exact ⟨0, by simp, fun i hi => absurd hi (by omega), fun _ => by simp, by simp⟩
    · obtain ⟨m, h1, h2, h3, h4⟩ := first_at a ys
      refine ⟨m + 1, by simp; omega, fun i hi => ?_, fun h => ?_, ?_⟩
      · cases i with
        | zero => simpa using hx
        | succ i => simpa using h2 i (by omega)
      · simpa using h3 (by simpa using h)
      · have : ¬ a = x := fun e => hx e.symm
        simp [this, h4]
/-- The crew of a plan has just its nodes. -/
theorem ofN_bit (xs : List Int) (n : Nat) (h : ∀ x ∈ xs, Cm.isNode x) (hn : 1 ≤ n) : (Cm.ofN xs).testBit (n - 1) = xs.contains (n : Int) := by
  unfold Cm.ofN
  have key : ∀ (ys : List Int) (c : Nat), (∀ x ∈ ys, Cm.isNode x) → (ys.foldl (fun c x => c ||| 2 ^ (x.toNat - 1)) c).testBit (n - 1) = (c.testBit (n - 1) || ys.contains (n : Int)) := by
    intro ys
    induction ys with
    | nil => intro c _; simp
    | cons x r ih =>
      intro c h
      have hx := h x List.mem_cons_self
      rw [List.foldl_cons, ih _ (fun y hy => h y (List.mem_cons_of_mem _ hy)), Nat.testBit_or, Nat.testBit_two_pow, List.contains_cons]
      have h1 := hx.1
      have e : decide (x.toNat - 1 = n - 1) = ((n : Int) == x) := by
        by_cases hh : (n : Int) = x
        · have : x.toNat - 1 = n - 1 := by omega
          simp [hh, this]
        · have : ¬ x.toNat - 1 = n - 1 := by omega
          simp [hh, this]
      rw [e]
      cases c.testBit (n - 1) <;> cases ((n : Int) == x) <;> simp
  rw [key xs 0 h]; simp
end Go.Proofs.YtglhapkclpllfacGreatDoor
/-
  Contracts of package plan: Crew, Check, Round, Who, Share, whatever the plan and the slot are.
  Conditions: package api's errors lie as laid (structure PSent).
-/
namespace Go.Proofs.YtglhapkclpllfacGreatDoor
open Go.RowKit

/-- Four errors of package api, each something: e 1 is ErrBound, e 3 ErrNode, e 4 ErrNone, e 6 ErrFull. -/
structure PSent (e : Nat → TypeId × Value) (w : World) : Prop where
  c1 : w.cell? ⟨0, 0, none⟩ = some (.iface (e 1).1 (e 1).2)
  c3 : w.cell? ⟨5, 0, none⟩ = some (.iface (e 3).1 (e 3).2)
  c4 : w.cell? ⟨6, 0, none⟩ = some (.iface (e 4).1 (e 4).2)
  c6 : w.cell? ⟨1, 0, none⟩ = some (.iface (e 6).1 (e 6).2)
theorem PSent.below {e : Nat → TypeId × Value} {w w' : World} (S : PSent e w) (hb : Below w.heap.size w w') : PSent e w' := ⟨below_cell hb S.c1, below_cell hb S.c3, below_cell hb S.c4, below_cell hb S.c6⟩
/-- The error of a plan that is not right. -/
def PlanErr (e : Nat → TypeId × Value) (w : World) (xs : List Int) (t : TypeId) (p : Value) : Prop :=
  (xs.length = 0 ∧ t = (e 4).1 ∧ p = (e 4).2) ∨ (32 < xs.length ∧ t = (e 6).1 ∧ p = (e 6).2) ∨
    ∃ m pb, 0 < xs.length ∧ xs.length ≤ 32 ∧ m < xs.length ∧ (∀ i, i < m → Cm.isNode (xs.getD i 0)) ∧ ¬ Cm.isNode (xs.getD m 0) ∧ t = 66 ∧ p = .pointer (some ⟨pb, 0, none⟩) ∧
      w.cell? ⟨pb, 0, none⟩ = some (.int .i64 m) ∧ w.cell? ⟨pb, 0 + 1, none⟩ = some (.iface (e 3).1 (e 3).2)
theorem crewP_yes (e : Nat → TypeId × Value) (v : Value) (xs : List Int) (w : World) (hv : IntsIn w v xs) (h : planOk xs) (S : PSent e w) :
    Calls Tryz.prog 57 #[v] w fun r w' => r = .returned (.tuple #[.int .i64 (Cm.ofN xs : Nat), .nilIface]) ∧ w' = w := by
  have HO := hide (of_walk v xs xs.length _ _ w hv (by have := h.2.1; unfold maxLen; omega) (Nat.le_refl _) (fun i hi => h.2.2 _ (getD_mem xs i hi)) (fun h => absurd h (Nat.lt_irrefl _)) S.c3)
  obtain ⟨ad, cap, rfl, _⟩ := hv
  have h0 : ¬ ((xs.length : Int) = 0) := by have := h.1; omega
  have h1 : ¬ ((32 : Int) < (xs.length : Int)) := by have := h.2.1; omega
  clear h S
  go_enter Tryz.func57, Tryz.ntmps57
  go_wp2_with fail
  refine (unhide HO).mono ?_
  rintro E w' (⟨_, rfl, rfl⟩ | ⟨h, _⟩)
  · go_wp2
    go_ret2
    exact ⟨rfl, rfl⟩
  · exact absurd h (Nat.lt_irrefl _)
theorem not_planOk {xs : List Int} (h : ¬ planOk xs) (h0 : xs.length ≠ 0) (h1 : xs.length ≤ 32) : ∃ m, m < xs.length ∧ (∀ i, i < m → Cm.isNode (xs.getD i 0)) ∧ ¬ Cm.isNode (xs.getD m 0) := by
  obtain ⟨m, a1, a2, a3⟩ := first_bad xs
  rcases Nat.lt_or_ge m xs.length with hm | hm
  · exact ⟨m, hm, a2, a3 hm⟩
  · refine absurd ⟨h0, h1, fun x hx => ?_⟩ h
    obtain ⟨i, hi, rfl⟩ := List.mem_iff_getElem.1 hx
    have := a2 i (by omega)
    rwa [List.getD_eq_getElem?_getD, List.getElem?_eq_getElem hi] at this
theorem crewP_no (e : Nat → TypeId × Value) (v : Value) (xs : List Int) (w : World) (hv : IntsIn w v xs) (h : ¬ planOk xs) (S : PSent e w) :
    Calls Tryz.prog 57 #[v] w fun r w' => ∃ t p, r = .returned (.tuple #[.int .i64 0, .iface t p]) ∧ PlanErr e w' xs t p ∧ Below w.heap.size w w' := by
  by_cases h0 : xs.length = 0
  · obtain ⟨ad, cap, rfl, _⟩ := hv
    have H0 := hide h0
    have h0' : (xs.length : Int) = 0 := by omega
    have hE := S.c4
    clear h S h0
    go_enter Tryz.func57, Tryz.ntmps57
    go_wp2
    go_quiet (fail)
    go_wp2
    go_ret2
    exact ⟨_, _, rfl, Or.inl ⟨unhide H0, rfl, rfl⟩, below_draw (Below.refl _ _) _⟩
  · by_cases h1 : 32 < xs.length
    · obtain ⟨ad, cap, rfl, _⟩ := hv
      have H1 := hide h1
      have h0' : ¬ (xs.length : Int) = 0 := by omega
      have h1' : (32 : Int) < (xs.length : Int) := by omega
      have hE := S.c6
      clear h S h0 h1
      go_enter Tryz.func57, Tryz.ntmps57
      go_wp2
      go_quiet (fail)
      go_wp2
      go_ret2
      exact ⟨_, _, rfl, Or.inr (Or.inl ⟨unhide H1, rfl, rfl⟩), below_draw (Below.refl _ _) _⟩
    · obtain ⟨m, hm, a2, a3⟩ := not_planOk h h0 (by omega)
      have HO := hide (of_walk v xs m _ _ w hv (by unfold maxLen; omega) (by omega) a2 (fun _ => a3) S.c3)
      obtain ⟨ad, cap, rfl, _⟩ := hv
      have h0' : ¬ (xs.length : Int) = 0 := by omega
      have h1' : ¬ (32 : Int) < (xs.length : Int) := by omega
      have HF : Hid (∀ w' : World, w'.cell? ⟨w.heap.size, 0, none⟩ = some (.int .i64 m) → w'.cell? ⟨w.heap.size, 0 + 1, none⟩ = some (.iface (e 3).1 (e 3).2) → PlanErr e w' xs 66 (.pointer (some ⟨w.heap.size, 0, none⟩))) :=
        fun w' c0 c1 => Or.inr (Or.inr ⟨m, w.heap.size, by omega, by omega, hm, a2, a3, rfl, rfl, c0, c1⟩)
      have Hm := hide hm
      clear h S h0 h1 a2 a3 hm
      go_enter Tryz.func57, Tryz.ntmps57
      go_wp2_with fail
      refine (unhide HO).mono ?_
      rintro E w' (⟨h, _⟩ | ⟨_, rfl, c0, c1, hB⟩)
      · exact absurd (unhide Hm) (by omega)
      · have HF2 := hide (unhide HF w' c0 c1)
        have HB := hide hB
        clear hB c0 c1
        go_wp2
        go_ret2
        exact ⟨_, _, rfl, unhide HF2, unhide HB⟩
theorem checkP_yes (e : Nat → TypeId × Value) (v : Value) (xs : List Int) (w : World) (hv : IntsIn w v xs) (h : planOk xs) (S : PSent e w) :
    Calls Tryz.prog 30 #[v] w fun r w' => r = .returned .nilIface ∧ w' = w := by
  have HO := hide (crewP_yes e v xs w hv h S)
  obtain ⟨ad, cap, rfl, _⟩ := hv
  clear h S
  go_enter Tryz.func30, Tryz.ntmps30
  go_wp2_with fail
  refine (unhide HO).mono ?_
  rintro E w' ⟨rfl, rfl⟩
  go_wp2
  go_ret
  exact ⟨rfl, rfl⟩
theorem checkP_no (e : Nat → TypeId × Value) (v : Value) (xs : List Int) (w : World) (hv : IntsIn w v xs) (h : ¬ planOk xs) (S : PSent e w) :
    Calls Tryz.prog 30 #[v] w fun r w' => ∃ t p, r = .returned (.iface t p) ∧ PlanErr e w' xs t p ∧ Below w.heap.size w w' := by
  have HO := hide (crewP_no e v xs w hv h S)
  obtain ⟨ad, cap, rfl, _⟩ := hv
  clear h S
  go_enter Tryz.func30, Tryz.ntmps30
  go_wp2_with fail
  refine (unhide HO).mono ?_
  rintro E w' ⟨t, p, rfl, hp, hB⟩
  have HP := hide hp
  have HB := hide hB
  clear hp hB
  go_wp2
  go_ret
  exact ⟨_, _, rfl, unhide HP, unhide HB⟩
theorem quo_wrap (s n : Nat) (hs : s ≤ 1000000) : wrap64 ((s : Int) / (n : Int)) = (s : Int) / (n : Int) := by
  have h1 : (s : Int) / (n : Int) = ((s / n : Nat) : Int) := by simp
  have h2 : s / n ≤ s := Nat.div_le_self _ _
  rw [h1]
  generalize s / n = q at *
  unfold wrap64
  omega
theorem roundP_yes (e : Nat → TypeId × Value) (v : Value) (xs : List Int) (s : Nat) (w : World) (hv : IntsIn w v xs) (h : planOk xs) (hs : s ≤ 1000000) (S : PSent e w) :
    Calls Tryz.prog 58 #[v, .int .i64 s] w fun r w' => r = .returned (.tuple #[.int .i64 ((s / xs.length : Nat) : Int), .int .i64 ((s % xs.length : Nat) : Int), .nilIface]) ∧ Below w.heap.size w w' := by
  have HO := hide (checkP_yes e v xs w hv h S)
  obtain ⟨ad, cap, rfl, _⟩ := hv
  have h0 : ¬ (xs.length : Int) = 0 := by have := h.1; omega
  have h1 : ¬ (s : Int) < 0 := by omega
  have h2 : ¬ (1000000 : Int) < (s : Int) := by omega
  have HW := hide (quo_wrap s xs.length hs)
  clear h S hs
  go_enter Tryz.func58, Tryz.ntmps58
  go_wp2_with fail
  refine (unhide HO).mono ?_
  rintro E w' ⟨rfl, rfl⟩
  go_wp2
  go_quiet (fail)
  go_wp2
  refine bodyPost_ret (v := .tuple #[.int .i64 ((s / xs.length : Nat) : Int), .int .i64 ((s % xs.length : Nat) : Int), .nilIface]) (by simp [results, Tryz.results58, go_sem]; exact unhide HW) rfl ⟨rfl, below_draw (Below.refl _ _) _⟩
theorem roundP_far (e : Nat → TypeId × Value) (v : Value) (xs : List Int) (s : Int) (w : World) (hv : IntsIn w v xs) (h : planOk xs) (hs : ¬ (0 ≤ s ∧ s ≤ 1000000)) (S : PSent e w) :
    Calls Tryz.prog 58 #[v, .int .i64 s] w fun r w' => r = .returned (.tuple #[.int .i64 0, .int .i64 0, .iface (e 1).1 (e 1).2]) ∧ Below w.heap.size w w' := by
  have HO := hide (checkP_yes e v xs w hv h S)
  obtain ⟨ad, cap, rfl, _⟩ := hv
  have hE := S.c1
  clear h S
  by_cases h1 : s < 0
  · clear hs
    go_enter Tryz.func58, Tryz.ntmps58
    go_wp2_with fail
    refine (unhide HO).mono ?_
    rintro E w' ⟨rfl, rfl⟩
    go_wp2
    go_quiet (fail)
    go_wp2
    refine bodyPost_ret (v := .tuple #[.int .i64 0, .int .i64 0, .iface (e 1).1 (e 1).2]) (by simp [results, Tryz.results58, go_sem]) rfl ⟨rfl, below_draw (Below.refl _ _) _⟩
  · have h2 : 1000000 < s := by omega
    clear hs
    go_enter Tryz.func58, Tryz.ntmps58
    go_wp2_with fail
    refine (unhide HO).mono ?_
    rintro E w' ⟨rfl, rfl⟩
    go_wp2
    go_quiet (fail)
    go_wp2
    refine bodyPost_ret (v := .tuple #[.int .i64 0, .int .i64 0, .iface (e 1).1 (e 1).2]) (by simp [results, Tryz.results58, go_sem]) rfl ⟨rfl, below_draw (Below.refl _ _) _⟩
theorem roundP_no (e : Nat → TypeId × Value) (v : Value) (xs : List Int) (s : Int) (w : World) (hv : IntsIn w v xs) (h : ¬ planOk xs) (S : PSent e w) :
    Calls Tryz.prog 58 #[v, .int .i64 s] w fun r w' => ∃ t p, r = .returned (.tuple #[.int .i64 0, .int .i64 0, .iface t p]) ∧ PlanErr e w' xs t p ∧ Below w.heap.size w w' := by
  have HO := hide (checkP_no e v xs w hv h S)
  obtain ⟨ad, cap, rfl, _⟩ := hv
  clear h S
  go_enter Tryz.func58, Tryz.ntmps58
  go_wp2_with fail
  refine (unhide HO).mono ?_
  rintro E w' ⟨t, p, rfl, hp, hB⟩
  have HP := hide hp
  have HB := hide hB
  clear hp hB
  go_wp2
  refine bodyPost_ret (v := .tuple #[.int .i64 0, .int .i64 0, .iface t p]) (by simp [results, Tryz.results58, go_sem]) rfl ⟨_, _, rfl, unhide HP, unhide HB⟩
theorem whoP_yes (e : Nat → TypeId × Value) (v : Value) (xs : List Int) (s : Nat) (w : World) (hv : IntsIn w v xs) (h : planOk xs) (hs : s ≤ 1000000) (S : PSent e w) :
    Calls Tryz.prog 31 #[v, .int .i64 s] w fun r w' => r = .returned (.tuple #[.int .i64 (xs.getD (s % xs.length) 0), .nilIface]) ∧ Below w.heap.size w w' := by
  have HO := hide (roundP_yes e v xs s w hv h hs S)
  obtain ⟨ad, cap, rfl, hcells⟩ := hv
  have hlt : s % xs.length < xs.length := Nat.mod_lt _ (by have := h.1; omega)
  obtain ⟨b, off, rfl, hc⟩ := hcells _ hlt
  have HC := hide hc
  clear h S hs hcells hc
  generalize xs.getD (s % xs.length) 0 = x at *
  generalize s % xs.length = r at *
  generalize s / xs.length = q at *
  generalize xs.length = n at *
  go_enter Tryz.func31, Tryz.ntmps31
  go_wp2_with fail
  refine (unhide HO).mono ?_
  rintro E w' ⟨rfl, hB⟩
  have hc := below_cell hB (unhide HC)
  have HB := hide hB
  clear hB
  go_wp2
  go_ret2
  exact ⟨rfl, unhide HB⟩
theorem whoP_far (e : Nat → TypeId × Value) (v : Value) (xs : List Int) (s : Int) (w : World) (hv : IntsIn w v xs) (h : planOk xs) (hs : ¬ (0 ≤ s ∧ s ≤ 1000000)) (S : PSent e w) :
    Calls Tryz.prog 31 #[v, .int .i64 s] w fun r w' => r = .returned (.tuple #[.int .i64 0, .iface (e 1).1 (e 1).2]) ∧ Below w.heap.size w w' := by
  have HO := hide (roundP_far e v xs s w hv h hs S)
  obtain ⟨ad, cap, rfl, _⟩ := hv
  clear h S hs
  go_enter Tryz.func31, Tryz.ntmps31
  go_wp2_with fail
  refine (unhide HO).mono ?_
  rintro E w' ⟨rfl, hB⟩
  have HB := hide hB
  clear hB
  go_wp2
  go_ret2
  exact ⟨rfl, unhide HB⟩
theorem whoP_no (e : Nat → TypeId × Value) (v : Value) (xs : List Int) (s : Int) (w : World) (hv : IntsIn w v xs) (h : ¬ planOk xs) (S : PSent e w) :
    Calls Tryz.prog 31 #[v, .int .i64 s] w fun r w' => ∃ t p, r = .returned (.tuple #[.int .i64 0, .iface t p]) ∧ PlanErr e w' xs t p ∧ Below w.heap.size w w' := by
  have HO := hide (roundP_no e v xs s w hv h S)
  obtain ⟨ad, cap, rfl, _⟩ := hv
  clear h S
  go_enter Tryz.func31, Tryz.ntmps31
  go_wp2_with fail
  refine (unhide HO).mono ?_
  rintro E w' ⟨t, p, rfl, hp, hB⟩
  have HP := hide hp
  have HB := hide hB
  clear hp hB
  go_wp2
  go_ret2
  exact ⟨_, _, rfl, unhide HP, unhide HB⟩
end Go.Proofs.YtglhapkclpllfacGreatDoor
/-
  Contracts of package plan: search and Next, whatever the plan, the node and the slot are.
-/
namespace Go.Proofs.YtglhapkclpllfacGreatDoor
open Go.RowKit

end Go.Proofs.YtglhapkclpllfacGreatDoor
/-
  Plain mathematics of a guard: in which slot a tick is, whose it is, and the first tick from one on at which a node may send.
-/
namespace Go.Proofs.YtglhapkclpllfacGreatDoor
open Go.RowKit

/-- Whose tick it is, if slots are so many ticks long. -/
def ownerAt (xs : List Int) (long t : Nat) : Int := xs.getD (t / long % xs.length) 0
/-- The first tick from t on in the slot that comes m slots behind t's own. -/
def waitAt (long t m : Nat) : Nat := max t ((t / long + m) * long)
theorem owner_rot (xs : List Int) (long t : Nat) (h : 0 < xs.length) : ownerAt xs long t = (rot xs (t / long % xs.length)).getD 0 0 := by
  unfold ownerAt
  have := getD_mod xs (t / long) 0 h
  rw [Nat.add_zero] at this
  exact this
theorem owner_node {xs : List Int} (h : planOk xs) (long t : Nat) : Cm.isNode (ownerAt xs long t) := by
  have h0 : 0 < xs.length := by have := h.1; omega
  have hm := Nat.mod_lt (t / long) h0
  unfold ownerAt
  rw [List.getD_eq_getElem?_getD, List.getElem?_eq_getElem hm]
  exact h.2.2 _ (List.getElem_mem hm)
theorem wait_zero (long t : Nat) : waitAt long t 0 = t := by
  unfold waitAt
  rw [Nat.add_zero]
  exact Nat.max_eq_left (Nat.div_mul_le_self t long)
theorem wait_succ (long t m : Nat) (hl : 0 < long) (hm : 0 < m) : waitAt long t m = (t / long + m) * long ∧ t < waitAt long t m ∧ waitAt long t m / long = t / long + m ∧ (waitAt long t m - 1) / long = t / long + m - 1 := by
  have h1 : t < (t / long + m) * long := by
    have h2 := Nat.lt_div_mul_add hl (a := t)
    have h3 : (t / long + 1) * long ≤ (t / long + m) * long := Nat.mul_le_mul_right _ (by omega)
    rw [Nat.add_mul, Nat.one_mul] at h3
    omega
  have e : waitAt long t m = (t / long + m) * long := by unfold waitAt; exact Nat.max_eq_right (by omega)
  refine ⟨e, by rw [e]; exact h1, by rw [e]; exact Nat.mul_div_cancel _ hl, ?_⟩
  rw [e]
  obtain ⟨q, hq⟩ : ∃ q, t / long + m = q + 1 := by
    generalize t / long = s at *
    exact ⟨s + m - 1, by omega⟩
  rw [hq, Nat.add_sub_cancel, Nat.add_mul, Nat.one_mul]
  have h4 : q * long + long - 1 = q * long + (long - 1) := by omega
  rw [h4, Nat.mul_comm, Nat.mul_add_div hl, Nat.div_eq_of_lt (by omega), Nat.add_zero]
/-- Whose slot it is, m slots behind. -/
theorem owner_behind (xs : List Int) (long t u m : Nat) (hm : m < xs.length) (hu : u / long = t / long + m) : ownerAt xs long u = (rot xs (t / long % xs.length)).getD m 0 := by
  unfold ownerAt
  rw [hu]
  exact getD_mod xs (t / long) m hm
/-- The first slot from t's own on that is the node's: then it may send, and nobody of it between. -/
theorem wait_first {xs : List Int} {node : Int} {long t m : Nat} (hl : 0 < long) (hm : m < xs.length) (hno : ∀ i, i < m → (rot xs (t / long % xs.length)).getD i 0 ≠ node) (hat : (rot xs (t / long % xs.length)).getD m 0 = node) :
    t ≤ waitAt long t m ∧ ownerAt xs long (waitAt long t m) = node ∧ (waitAt long t m = t ∨ (0 < waitAt long t m ∧ ownerAt xs long t ≠ node ∧ ownerAt xs long (waitAt long t m - 1) ≠ node)) := by
  rcases Nat.eq_zero_or_pos m with rfl | h
  · rw [wait_zero]
    exact ⟨Nat.le_refl _, by rw [owner_rot xs long t (by omega)]; exact hat, Or.inl rfl⟩
  · obtain ⟨_, h2, h3, h4⟩ := wait_succ long t m hl h
    refine ⟨Nat.le_of_lt h2, by rw [owner_behind xs long t _ m hm h3]; exact hat, Or.inr ⟨by omega, ?_, ?_⟩⟩
    · rw [owner_rot xs long t (by omega)]
      exact hno 0 h
    · rw [owner_behind xs long t _ (m - 1) (by omega) (by rw [h4]; generalize t / long = s at *; omega)]
      exact hno (m - 1) (by omega)
/-- If the first slot of the node's begins behind the last tick, or there is none, it isn't its tick now. -/
theorem wait_far {xs : List Int} {node : Int} {long t m : Nat} (hm : m < xs.length) (hno : ∀ i, i < m → (rot xs (t / long % xs.length)).getD i 0 ≠ node) (h : t < waitAt long t m) : ownerAt xs long t ≠ node := by
  rcases Nat.eq_zero_or_pos m with rfl | h0
  · rw [wait_zero] at h; omega
  · rw [owner_rot xs long t (by omega)]
    exact hno 0 h0
theorem wait_none {xs : List Int} {node : Int} (long t : Nat) (h0 : 0 < xs.length) (hno : node ∉ xs) : ownerAt xs long t ≠ node := fun e => hno (by
  have hm := Nat.mod_lt (t / long) h0
  unfold ownerAt at e
  rw [List.getD_eq_getElem?_getD, List.getElem?_eq_getElem hm] at e
  rw [← e]
  exact List.getElem_mem hm)
/-- How many of the numbers from -1 on are the owner: one. -/
def oneUpto (x : Int) (k : Nat) : Nat := if x < (k : Int) - 1 then 1 else 0
theorem one_step (x : Int) (k : Nat) : oneUpto x (k + 1) = oneUpto x k + if x = (k : Int) - 1 then 1 else 0 := by
  unfold oneUpto
  by_cases h1 : x < (k : Int) - 1
  · rw [if_pos (by omega), if_pos h1, if_neg (by omega)]
  · by_cases h2 : x = (k : Int) - 1
    · rw [if_pos (by omega), if_neg h1, if_pos h2]
    · rw [if_neg (by omega), if_neg h1, if_neg h2]
theorem one_all (x : Int) (h : Cm.isNode x) : oneUpto x 19 = 1 := by
  unfold oneUpto
  have := h.2
  rw [if_pos (by omega)]
end Go.Proofs.YtglhapkclpllfacGreatDoor
/-
  Contracts of package guard: Slot, Pass, Wait, whatever the plan, the slot's length, the node and the tick are.
  Conditions: package api's errors lie as laid (structure GSent).
-/
namespace Go.Proofs.YtglhapkclpllfacGreatDoor
open Go.RowKit

/-- The errors of package api that package guard answers: those of package plan; e 8 is ErrLate. -/
structure GSent (e : Nat → TypeId × Value) (w : World) : Prop where
  p : PSent e w
  c8 : w.cell? ⟨2, 0, none⟩ = some (.iface (e 8).1 (e 8).2)
theorem GSent.below {e : Nat → TypeId × Value} {w w' : World} (S : GSent e w) (hb : Below w.heap.size w w') : GSent e w' := ⟨S.p.below hb, below_cell hb S.c8⟩
/-- A slot's length and a tick that are right. -/
def tickOk (long t : Int) : Prop := (1 ≤ long ∧ long ≤ 1000000) ∧ 0 ≤ t ∧ t ≤ 1000000
end Go.Proofs.YtglhapkclpllfacGreatDoor
