/-
  Slices of texts, and the contract of bargelockref1.SameTexts: two lists of texts are the same; nothing in memory turns (it draws).
-/
import Derived.Test.YtglhapkclpllfacDoorProg
import Derived.Test.YtglhapkclpllfacDoorBase
import Derived.BigQuiet
import Derived.Lib.Strings
namespace Go.Proofs.YtglhapkclpllfacDoor
open Go.RowKit

def noText : ByteArray := ⟨#[]⟩
/-- The slice v holds these texts; an empty one may lie anywhere. -/
def TxtsIn (w : World) (v : Value) (ss : List ByteArray) : Prop :=
  ∃ ad cap, v = .slice ad ss.length cap ∧ ∀ k, k < ss.length → ∃ b off, ad = some ⟨b, off, none⟩ ∧ w.cell? ⟨b, off + k, none⟩ = some (.string (ss.getD k noText))
theorem TxtsIn.below {w w' : World} {v : Value} {ss : List ByteArray} (h : TxtsIn w v ss) (hb : Below w.heap.size w w') : TxtsIn w' v ss := by
  obtain ⟨ad, cap, rfl, h⟩ := h
  exact ⟨ad, cap, rfl, fun k hk => by obtain ⟨b, o, e, hc⟩ := h k hk; exact ⟨b, o, e, below_cell hb hc⟩⟩
theorem TxtsIn.nil (w : World) : TxtsIn w (.slice none 0 0) [] := ⟨_, _, rfl, fun k hk => absurd hk (by simp)⟩
theorem TxtsIn.of_owns {W : World} {base : Nat} {e : TypeId} {v : Value} {ss : List ByteArray} (h : W.ownsRow base e 1 v ss.length (ss.map Value.string)) : TxtsIn W v ss := by
  obtain ⟨_, h⟩ := h
  rcases h with ⟨rfl, h0⟩ | ⟨g, cap, cur, rfl, _, hb, _, _, _, hx⟩
  · exact ⟨none, 0, by rw [h0], fun k hk => absurd hk (by omega)⟩
  · refine ⟨_, _, rfl, fun i hi => ⟨g, 0, rfl, ?_⟩⟩
    have e1 : (cur.toList.take (ss.length * 1))[i]? = some (.string (ss.getD i noText)) := by
      rw [hx, List.getElem?_map, List.getElem?_eq_getElem hi, List.getD_eq_getElem?_getD, List.getElem?_eq_getElem hi]; rfl
    rw [List.getElem?_take_of_lt (by omega)] at e1
    simp only [World.cell?, hb, Nat.zero_add]
    rw [← e1]; simp
theorem text_ne {x y : ByteArray} (h : x ≠ y) : (x.toList == y.toList) = false := by
  cases e : x.toList == y.toList with
  | false => rfl
  | true =>
    have e1 := eq_of_beq e
    rw [Lib.toList_data, Lib.toList_data] at e1
    obtain ⟨⟨a⟩⟩ := x
    obtain ⟨⟨b⟩⟩ := y
    exact absurd (by simpa using e1) h
theorem txt_ne {xs ys : List ByteArray} {k : Nat} (h : xs.getD k noText ≠ ys.getD k noText) : decide (xs = ys) = false := decide_eq_false (fun e => h (by rw [e]))
theorem txt_len {xs ys : List ByteArray} (h : xs.length ≠ ys.length) : decide (xs = ys) = false := decide_eq_false (fun e => h (by rw [e]))
theorem txt_snoc (xs : List ByteArray) (k : Nat) (h : k < xs.length) : xs.take (k + 1) = xs.take k ++ [xs.getD k noText] := by
  rw [List.take_succ_eq_append_getElem h, List.getD_eq_getElem?_getD, List.getElem?_eq_getElem h]; rfl
theorem txt_same {xs ys : List ByteArray} (hl : xs.length = ys.length) {k : Nat} (hk : xs.length ≤ k) (h : xs.take k = ys.take k) : decide (xs = ys) = true := by
  rw [List.take_of_length_le hk, List.take_of_length_le (by omega)] at h
  exact decide_eq_true h
set_option maxHeartbeats 1000000 in
theorem same_texts (v1 v2 : Value) (xs ys : List ByteArray) (w : World) (h1 : TxtsIn w v1 xs) (h2 : TxtsIn w v2 ys) (l1 : xs.length ≤ maxLen) :
    Calls Tryd.prog 16 #[v1, v2] w fun e w' => e = .returned (.bool (decide (xs = ys))) ∧ ∃ n, w' = w.drewN n := by
  unfold maxLen at l1
  obtain ⟨a1, c1, rfl, h1⟩ := h1
  obtain ⟨a2, c2, rfl, h2⟩ := h2
  by_cases hl : xs.length = ys.length
  · by_cases h0 : xs.length = 0
    · have e1 : xs = [] := List.eq_nil_of_length_eq_zero h0
      have e2 : ys = [] := List.eq_nil_of_length_eq_zero (by omega)
      subst e1 e2
      clear h1 h2 hl h0
      go_enter Tryd.func16, Tryd.ntmps16
      go_wp2
      refine wp_loop_rounds 1 ?_
      rw [rounds_succ]
      go_wp2
      go_ret
      exact ⟨ret_bool (by simp), 0, rfl⟩
    · obtain ⟨b1, o1, rfl, _⟩ := h1 0 (by omega)
      obtain ⟨b2, o2, rfl, _⟩ := h2 0 (by omega)
      have g1 : ∀ i, i < xs.length → w.cell? ⟨b1, o1 + i, none⟩ = some (.string (xs.getD i noText)) := fun i hi => by
        obtain ⟨b, o, e, hc⟩ := h1 i hi
        cases e
        exact hc
      have g2 : ∀ i, i < ys.length → w.cell? ⟨b2, o2 + i, none⟩ = some (.string (ys.getD i noText)) := fun i hi => by
        obtain ⟨b, o, e, hc⟩ := h2 i hi
        cases e
        exact hc
      clear h1 h2
      have Hl : Hid (xs.length = ys.length) := hl
      obtain ⟨n, hn⟩ : ∃ n, ys.length = n := ⟨_, rfl⟩
      rw [hn] at hl g2 ⊢
      rw [hl] at g1 l1 h0 ⊢
      have Hn : Hid (ys.length = n) := hn
      have Hx : Hid (xs.length = n) := hl
      clear hn hl
      go_enter Tryd.func16, Tryd.ntmps16
      go_wp2
      go_loopw [5] (fun i wr => ∃ k : Nat, k ≤ n ∧ i = .int .i64 k ∧ Hid (xs.take k = ys.take k) ∧ ∃ m, wr = w.drewN m) (fun i _ => n - (intOf i).toNat)
      case atStart => exact ⟨0, by omega, rfl, rfl, 0, rfl⟩
      case round =>
        obtain ⟨k, hk, rfl, htk, m, rfl⟩ := hrel
        by_cases hlt : k < n
        · have f1 := g1 k hlt
          have f2 := g2 k hlt
          obtain ⟨x, hx⟩ : ∃ x, xs.getD k noText = x := ⟨_, rfl⟩
          obtain ⟨y, hy⟩ : ∃ y, ys.getD k noText = y := ⟨_, rfl⟩
          rw [hx] at f1
          rw [hy] at f2
          have HX := hide hx
          have HY := hide hy
          clear hx hy g1 g2
          by_cases he : x = y
          · subst he
            go_wp2
            go_quiet (fail)
            go_wp2
            go_roundw
            case rel => exact ⟨k + 1, by omega, by go_num, by
              show xs.take (k + 1) = ys.take (k + 1)
              rw [txt_snoc xs k (by rw [unhide Hx]; exact hlt), txt_snoc ys k (by rw [unhide Hn]; exact hlt), unhide htk, unhide HX, unhide HY], _, rfl⟩
            case measure => simp [intOf]; omega
          · have he' := text_ne he
            go_wp2
            go_quiet (fail)
            go_wp2
            go_ret
            exact ⟨ret_bool (txt_ne (by rw [unhide HX, unhide HY]; exact he)).symm, m + nq, by rw [World.drewN_drewN]⟩
        · have : k = n := by omega
          subst this
          go_wp2
          go_ret
          exact ⟨ret_bool (txt_same (unhide Hl) (by rw [unhide Hx]; omega) (unhide htk)).symm, _, rfl⟩
  · have hl' : ¬ ((xs.length : Int) = (ys.length : Int)) := by omega
    clear h1 h2
    go_enter Tryd.func16, Tryd.ntmps16
    go_wp2
    go_ret
    exact ⟨ret_bool (txt_len hl).symm, 0, rfl⟩
end Go.Proofs.YtglhapkclpllfacDoor
