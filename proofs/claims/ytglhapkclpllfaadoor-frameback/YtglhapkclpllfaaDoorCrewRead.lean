/-
  The contract of crew.Read: any text: the crew that it writes, or ErrText.
  Conditions: the library's variables and ErrText lie as laid.
-/
import Derived.Test.YtglhapkclpllfaaDoorCrewAtoi
import Derived.Lib.IndexBytes
import Derived.Outline
namespace Go.Proofs.YtglhapkclpllfaaDoor
open Go.RowKit Go.Shelf

/-- A text cut at its first comma. -/
def cutL : List UInt8 → List UInt8 × List UInt8 × Bool
  | [] => ([], [], false)
  | b :: r => if b == 44 then ([], r, true) else (b :: (cutL r).1, (cutL r).2.1, (cutL r).2.2)
theorem cut_no : ∀ l, Lib.indexByte l 44 = -1 → cutL l = (l, [], false)
  | [], _ => rfl
  | b :: r, h => by
    unfold Lib.indexByte at h
    by_cases hb : (b == 44) = true
    · rw [if_pos hb] at h; simp at h
    · rw [if_neg hb] at h
      by_cases hr : (Lib.indexByte r 44 == -1) = true
      · have ih := cut_no r (eq_of_beq hr)
        simp [cutL, hb, ih]
      · rw [if_neg hr] at h
        have := Lib.indexByte_ge r 44
        simp at hr; omega
theorem cut_yes : ∀ l (i : Nat), Lib.indexByte l 44 = (i : Int) → i < l.length ∧ cutL l = (l.take i, l.drop (i + 1), true)
  | [], i, h => by simp [Lib.indexByte] at h
  | b :: r, i, h => by
    unfold Lib.indexByte at h
    by_cases hb : (b == 44) = true
    · rw [if_pos hb] at h
      have : i = 0 := by omega
      subst this
      simp [cutL, hb]
    · rw [if_neg hb] at h
      by_cases hr : (Lib.indexByte r 44 == -1) = true
      · rw [if_pos hr] at h; omega
      · rw [if_neg hr] at h
        have h0 := Lib.indexByte_ge r 44
        have hr' : Lib.indexByte r 44 ≠ -1 := by simpa using hr
        obtain ⟨j, rfl⟩ : ∃ j, i = j + 1 := ⟨i - 1, by omega⟩
        obtain ⟨hj, ih⟩ := cut_yes r j (by omega)
        simp [cutL, hb, ih, hj]
theorem cut_len : ∀ l, (cutL l).1.length ≤ l.length ∧ (cutL l).2.1.length ≤ l.length ∧ ((cutL l).2.2 = true → (cutL l).2.1.length < l.length)
  | [] => by simp [cutL]
  | b :: r => by
    have ih := cut_len r
    by_cases hb : (b == 44) = true
    · simp [cutL, hb]
    · simp only [cutL, hb]
      refine ⟨by simp; exact ih.1, by simp; omega, fun h => ?_⟩
      have := ih.2.2 (by simpa using h)
      simp; omega

set_option maxHeartbeats 1000000 in
theorem scut_ok (s : ByteArray) (hs : s.size ≤ 281474976710656) (w : World) :
    Calls Tryd.prog 69 #[.string s, .string ⟨#[44]⟩] w fun e w' => ∃ x y : ByteArray, e = .returned (.tuple #[.string x, .string y, .bool (cutL s.data.toList).2.2]) ∧ x.data.toList = (cutL s.data.toList).1 ∧ y.data.toList = (cutL s.data.toList).2.1 ∧ ∃ n, w' = w.drewN n := by
  by_cases hi : Lib.indexByte s.data.toList 44 = -1
  · have hc := cut_no _ hi
    rw [hc]
    have HI := hide hi
    clear hc hi
    go_enter Tryd.func69, Tryd.ntmps69
    go_wp2_with (go_at_call 88; refine (Tryd.stringslite_Index_one s 44 _).mono ?_; rw [unhide HI]; rintro e w' ⟨rfl, rfl⟩)
    go_ret3
    exact ⟨s, ⟨#[]⟩, rfl, rfl, rfl, 0, rfl⟩
  · have hge := Lib.indexByte_ge s.data.toList 44
    obtain ⟨i, hii⟩ : ∃ i : Nat, Lib.indexByte s.data.toList 44 = (i : Int) := ⟨(Lib.indexByte s.data.toList 44).toNat, by omega⟩
    obtain ⟨hlt, hc⟩ := cut_yes _ i hii
    rw [hc]
    have hsz : i < s.size := by simpa using hlt
    have HI := hide hii
    clear hc hi hii hge hlt
    go_enter Tryd.func69, Tryd.ntmps69
    go_wp2_with (go_at_call 88; refine (Tryd.stringslite_Index_one s 44 _).mono ?_; rw [unhide HI]; rintro e w' ⟨rfl, rfl⟩)
    go_quiet (fail)
    go_wp2
    go_ret3
    exact ⟨s.extract 0 i, s.extract (i + 1) s.size, rfl, by rw [Lib.extract_data]; simp, by rw [Lib.extract_data, List.take_of_length_le (by simp)], _, rfl⟩
theorem cut_ok (s : ByteArray) (hs : s.size ≤ 281474976710656) (w : World) :
    Calls Tryd.prog 43 #[.string s, .string ⟨#[44]⟩] w fun e w' => ∃ x y : ByteArray, e = .returned (.tuple #[.string x, .string y, .bool (cutL s.data.toList).2.2]) ∧ x.data.toList = (cutL s.data.toList).1 ∧ y.data.toList = (cutL s.data.toList).2.1 ∧ ∃ n, w' = w.drewN n := by
  obtain ⟨b, hb⟩ : ∃ b, (cutL s.data.toList).2.2 = b := ⟨_, rfl⟩
  have HS := hide (scut_ok s hs w)
  rw [hb] at HS ⊢
  clear hb
  go_enter Tryd.func43, Tryd.ntmps43
  go_wp2_with (go_at_call 69; refine (unhide HS).mono ?_; rintro e w' ⟨x, y, rfl, hx, hy, n, rfl⟩; have HX := hide hx; have HY := hide hy; clear hx hy)
  go_ret3
  exact ⟨x, y, rfl, unhide HX, unhide HY, _, rfl⟩

/-- What Read has to answer. -/
def readGo : Nat → List UInt8 → Nat → Nat → Option Nat
  | 0, _, _, _ => none
  | f + 1, l, c, last => if nodeOf (cutL l).1 ≤ last then none else if (cutL l).2.2 then readGo f (cutL l).2.1 (c ||| 2 ^ (nodeOf (cutL l).1 - 1)) (nodeOf (cutL l).1) else some (c ||| 2 ^ (nodeOf (cutL l).1 - 1))
def readOf (l : List UInt8) : Option Nat := if l = [45] then some 0 else readGo (l.length + 1) l 0 0
theorem nodeOf_le (l : List UInt8) : nodeOf l ≤ 16 := by
  unfold nodeOf
  cases (List.finRange 16).find? (fun x => dg x == l) with
  | none => simp
  | some x => have := x.isLt; simp; omega
def msr (s more : Value) : Nat := match s, more with
  | .string b, .bool true => b.size + 1
  | _, _ => 0

set_option maxHeartbeats 2000000 in
theorem read_ok (s0 : ByteArray) (hs0 : s0.size ≤ 281474976710656) (te : TypeId) (pe : Value) (w : World) (L : LibOk w) (hE : w.cell? ⟨0, 0, none⟩ = some (.iface te pe)) :
    Calls Tryd.prog 19 #[.string s0] w fun e w' => ((∃ c : Nat, c ≤ 65535 ∧ readOf s0.data.toList = some c ∧ e = .returned (.tuple #[.int .i64 c, .nilIface])) ∨ (readOf s0.data.toList = none ∧ e = .returned (.tuple #[.int .i64 0, .iface te pe]))) ∧ Below w.heap.size w w' := by
  by_cases h45 : s0.data.toList = [45]
  · have e45 : s0 = ⟨#[45]⟩ := by
      obtain ⟨⟨l⟩⟩ := s0
      simp at h45
      rw [h45]
    subst e45
    clear L hE
    go_enter Tryd.func19, Tryd.ntmps19
    go_wp2
    go_ret2
    exact ⟨Or.inl ⟨0, by omega, rfl, rfl⟩, Below.refl _ _⟩
  · have hne : (s0.toList == [45]) = false := by rw [toList_data]; simpa using h45
    have HR : Hid (readOf s0.data.toList = readGo (s0.data.toList.length + 1) s0.data.toList 0 0) := by
      show _ = _
      unfold readOf; rw [if_neg h45]
    have HL := hide L
    have HE := hide hE
    clear L hE h45
    go_enter Tryd.func19, Tryd.ntmps19
    go_wp2
    go_loopw [0, 4, 5, 6] (fun s c last more wr => ∃ (sb : ByteArray) (cn ln : Nat) (mb : Bool), s = .string sb ∧ c = .int .i64 cn ∧ last = .int .i64 ln ∧ more = .bool mb ∧ sb.size ≤ 281474976710656 ∧ cn ≤ 65535 ∧
        Hid (if mb then ∃ f, sb.data.toList.length < f ∧ readOf s0.data.toList = readGo f sb.data.toList cn ln else readOf s0.data.toList = some cn) ∧ Below w.heap.size w wr) (fun s _ _ more _ => msr s more)
    case atStart => exact ⟨s0, 0, 0, true, rfl, rfl, rfl, rfl, hs0, by omega, ⟨_, Nat.lt_succ_self _, unhide HR⟩, Below.refl _ _⟩
    case round =>
      obtain ⟨sb, cn, ln, mb, rfl, rfl, rfl, rfl, hsb, hcn, hspec, hB⟩ := hrel
      have HB := hide hB
      clear hB
      cases mb with
      | false =>
        go_wp2
        go_ret2
        exact ⟨Or.inl ⟨cn, hcn, unhide hspec, rfl⟩, unhide HB⟩
      | true =>
        have hsp : ∃ f, sb.data.toList.length < f ∧ readOf s0.data.toList = readGo f sb.data.toList cn ln := unhide hspec
        obtain ⟨f, hf, hres⟩ := hsp
        obtain ⟨g, rfl⟩ : ∃ g, f = g + 1 := ⟨f - 1, by omega⟩
        rw [readGo] at hres
        have hcl := cut_len sb.data.toList
        have hn16 := nodeOf_le (cutL sb.data.toList).1
        obtain ⟨n, hn⟩ : ∃ n, nodeOf (cutL sb.data.toList).1 = n := ⟨_, rfl⟩
        obtain ⟨more, hmore⟩ : ∃ b, (cutL sb.data.toList).2.2 = b := ⟨_, rfl⟩
        rw [hn, hmore] at hres
        rw [hn] at hn16
        rw [hmore] at hcl
        have HC := hide (cut_ok sb hsb wr)
        rw [hmore] at HC
        have HN := hide hn
        have Hres := hide hres
        have Hf := hide hf
        have Hcl := hide hcl
        clear hspec hn hmore hres hf hcl
        go_wp2_with fail
        refine (unhide HC).mono ?_
        rintro e w2 ⟨x, y, rfl, hx, hy, m, hw2⟩
        have HB2 := hide (show Below w.heap.size w w2 by rw [hw2]; exact below_draw (unhide HB) m)
        have HX := hide hx
        have HY := hide hy
        clear hw2 hx hy HC
        have hxs : x.size ≤ 281474976710656 := by
          have h1 := (unhide Hcl).1
          rw [← unhide HX] at h1
          have h2 : x.size = x.data.toList.length := by simp
          have h3 : sb.size = sb.data.toList.length := by simp
          omega
        have HLx := hide ((unhide HL).below (unhide HB2))
        have HR2 := hide (readNode_ok x hxs w2 (unhide HLx))
        rw [unhide HX, unhide HN] at HR2
        clear hxs
        go_wp2_with fail
        refine (unhide HR2).mono ?_
        rintro e w3 ⟨rfl, hB3⟩
        have HB3 := hide ((unhide HB2).trans (hB3.mono (unhide HB2).size))
        have hE3 := below_cell (unhide HB3) (unhide HE)
        clear hB3 HR2
        by_cases hle : n ≤ ln
        · have hle' : (n : Int) ≤ (ln : Int) := by omega
          have Hno : Hid (readOf s0.data.toList = none) := by
            show _ = _
            rw [unhide Hres, if_pos hle]
          go_wp2
          go_quiet (fail)
          go_wp2
          go_ret2
          exact ⟨Or.inr ⟨unhide Hno, rfl⟩, below_draw (unhide HB3) _⟩
        · have hle' : ¬ (n : Int) ≤ (ln : Int) := by omega
          have h1 : 1 ≤ n := by omega
          have hp : 2 ^ (n - 1) ≤ 65535 := Nat.le_trans (Nat.pow_le_pow_right (by omega) (show n - 1 ≤ 15 by omega)) (by decide)
          have hor := i64_or_pow cn (n - 1) hcn hp
          have hcn' := Cm.or_le cn (2 ^ (n - 1)) hcn hp
          have Hgo : Hid (readOf s0.data.toList = if more then readGo g (cutL sb.data.toList).2.1 (cn ||| 2 ^ (n - 1)) n else some (cn ||| 2 ^ (n - 1))) := by
            show _ = _
            rw [unhide Hres, if_neg hle]
          clear hE3
          go_wp2_with (go_at_call 41; refine (bit_ok n h1 hn16 _).mono ?_; rintro e w' ⟨rfl, rfl⟩)
          go_roundw
          case rel =>
            refine ⟨y, cn ||| 2 ^ (n - 1), n, more, rfl, rfl, rfl, rfl, ?_, hcn', ?_, unhide HB3⟩
            · have h1 := (unhide Hcl).2.1
              rw [← unhide HY] at h1
              have h2 : y.size = y.data.toList.length := by simp
              have h3 : sb.size = sb.data.toList.length := by simp
              omega
            · have h0 := unhide Hgo
              cases more with
              | false => exact h0
              | true =>
                refine ⟨g, ?_, ?_⟩
                · have h1 := (unhide Hcl).2.2 rfl
                  rw [← unhide HY] at h1
                  have h2 := unhide Hf
                  omega
                · rw [unhide HY]; exact h0
          case measure =>
            have h2 : y.size = y.data.toList.length := by simp
            have h3 : sb.size = sb.data.toList.length := by simp
            cases more with
            | false => simp [msr]
            | true =>
              have h1 := (unhide Hcl).2.2 rfl
              rw [← unhide HY] at h1
              simp [msr]
              omega
end Go.Proofs.YtglhapkclpllfaaDoor
