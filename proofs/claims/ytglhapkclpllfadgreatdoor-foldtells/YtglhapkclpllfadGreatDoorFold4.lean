/-
  Contracts of package fold: readWords, Read, whatever the text is; all of the package's contracts (foldP).
-/
import Derived.Test.YtglhapkclpllfadGreatDoorFold3
import Derived.Test.YtglhapkclpllfadGreatDoorGo
import Derived.Deep.AppendLies
namespace Go.Proofs.YtglhapkclpllfadGreatDoor
open Go.RowKit Go.Shelf Go.Deep

theorem split44_ok (s : ByteArray) (hs : s.size ≤ 4000) (e : Nat → TypeId × Value) (w : World) (F : FoSent e w) :
    Calls Tryz.prog 37 #[.string s, .string ⟨#[44]⟩] w fun r w' => ∃ ss : List ByteArray, r = .returned (.slice (some ⟨w.heap.size, 0, none⟩) ss.length ss.length) ∧ (∀ k, k < ss.length → w'.cell? ⟨w.heap.size, k, none⟩ = some (.string (ss.getD k ⟨#[]⟩))) ∧ ss.map (fun s : ByteArray => s.data.toList) = spl 44 s.data.toList ∧ Below w.heap.size w w' := by
  obtain ⟨m, hm⟩ := F.max
  refine (Tryz.strings_Split s ⟨#[44]⟩ m w (by omega) hm (by decide)).mono ?_
  rintro r w' ⟨rfl, rfl⟩
  refine ⟨Lib.splitB ⟨#[44]⟩ 0 (Lib.countB s ⟨#[44]⟩) s, ?_, ?_, ?_, (Below.refl _ _).alloc (Nat.le_refl _) _⟩
  · rw [Lib.splitB_all ⟨#[44]⟩ (by decide) 0 _ s rfl]
  · intro k hk
    rw [World.cell?_alloc_at _ _ _ _ rfl]
    simp [hk]
  · rw [Lib.splitB_data]
    exact splitK_spl 44 s.data.toList
/-- What readWords answers. -/
def RWords (l : List UInt8) (r : Ending) (w' : World) : Prop :=
  (readH l = none ∧ r = .returned (.tuple #[.slice none 0 0, .bool false])) ∨
  ∃ ys v, readH l = some ys ∧ r = .returned (.tuple #[v, .bool true]) ∧ EntsIn w' v ys
theorem readWords_dash (w : World) :
    Calls Tryz.prog 26 #[.string ⟨#[45]⟩] w fun r w' => RWords [45] r w' ∧ Below w.heap.size w w' := by
  go_enter Tryz.func26, Tryz.ntmps26
  go_wp2_with fail
  go_ret2
  exact ⟨Or.inr ⟨[], _, rfl, rfl, ⟨_, _, rfl, Nat.zero_le _, fun k hk => absurd hk (by simp)⟩⟩, Below.refl _ _⟩
theorem heap_new_two4 (w : World) (o o' : Obj) : ((w.alloc o).alloc o').heap[w.heap.size + 1]? = some o' := by
  have h := heap_alloc_new (w.alloc o) o'
  rw [World.size_alloc] at h
  exact h
set_option maxRecDepth 100000 in
set_option maxHeartbeats 4000000 in
theorem readWords_walk (s : ByteArray) (hs : s.size ≤ 4000) (hne : s.data.toList ≠ [45]) (e : Nat → TypeId × Value) (w : World) (S : FoSent e w) :
    Calls Tryz.prog 26 #[.string s] w fun r w' => RWords s.data.toList r w' ∧ Below w.heap.size w w' := by
  have hne' : (s.toList == [45]) = false := by rw [toList_data]; simpa using hne
  obtain ⟨ws, hws⟩ : ∃ ws, spl 44 s.data.toList = ws := ⟨_, rfl⟩
  have HR : Hid (readH s.data.toList = readWs 0 ws) := by
    show _ = _
    unfold readH; rw [if_neg hne, hws]
  have hwl : ws.length ≤ 4001 := by rw [← hws]; have := spl_many 44 s.data.toList; simp at this; omega
  have HW : Hid (∀ x ∈ ws, x.length ≤ 4000) := by show ∀ x ∈ ws, x.length ≤ 4000; rw [← hws]; intro x hx; have := spl_len 44 _ x hx; simp at this; omega
  have HC := hide (split44_ok s hs e w S)
  rw [hws] at HC
  obtain ⟨L, hL⟩ : ∃ L, s.data.toList = L := ⟨_, rfl⟩
  rw [hL] at HR ⊢
  have HS := hide S
  clear hws hne hs hL S
  obtain ⟨i0, hi0, hz0, hz1, hz2⟩ := info_parts Tryz.infoENF
  go_enter Tryz.func26, Tryz.ntmps26
  go_wp2_with fail
  refine (unhide HC).mono ?_
  rintro E w1 ⟨ss, rfl, hcell, hm, hB1⟩
  obtain ⟨n, hn⟩ : ∃ n, ss.length = n := ⟨_, rfl⟩
  rw [hn] at hcell ⊢
  have hnw : ws.length = n := by rw [← hm, List.length_map, hn]
  have Hn := hide hnw
  have HCell := hide hcell
  have HM : Hid (∀ k, k < n → (ss.getD k ⟨#[]⟩).data.toList = ws.getD k []) := fun k hk => by
    rw [← hm, List.getD_eq_getElem?_getD, List.getD_eq_getElem?_getD, List.getElem?_map, List.getElem?_eq_getElem (by omega)]
    rfl
  have HB1 := hide hB1
  have hwl' : n ≤ 4001 := by omega
  clear hcell hm hB1 hn hnw hwl HC
  go_wp2_with fail
  go_loopw [4, 14] (fun o i wr => ∃ (k : Nat) (ys : List Ent), k ≤ n ∧ i = .int .i64 k ∧ Hid (rdInv ws k ys) ∧ Hid (wr.ownsRow w1.heap.size 48 4 o k (ys.map Ent.cells).flatten) ∧ Hid (Below w1.heap.size w1 wr)) (fun _ i _ => n - (intOf i).toNat)
  case atStart => exact ⟨0, [], by omega, rfl, ⟨rfl, rfl⟩, World.ownsRow_nil _ _ _ _, Below.refl _ _⟩
  case round =>
    obtain ⟨k, ys, hk, rfl, Hinv, HRow, HB⟩ := hrel
    by_cases hlt : k < n
    · have hkw : k < ws.length := by rw [unhide Hn]; exact hlt
      have hc := below_cell (unhide HB) (unhide HCell k hlt)
      have hx := unhide HM k hlt
      have hlen : (ss.getD k ⟨#[]⟩).size ≤ 4000 := size_of hx (unhide HW _ (word_mem ws k hkw))
      have k0 : (0 : Int) ≤ (k : Int) := Int.natCast_nonneg _
      have k1 : (k : Int) < (n : Int) := by omega
      generalize ss.getD k ⟨#[]⟩ = x at *
      have HE := hide (readWord_ok x hlen wr ((unhide HS).below ((unhide HB1).trans ((unhide HB).mono (unhide HB1).size))).lib)
      rw [hx] at HE
      unfold wordV at HE
      have HStop : Hid ((rwOf (ws.getD k [])).2.2.2 = false → readH L = none) := fun he => by
        exact (unhide HR).trans (rd_stop hkw (by rw [readW_eq, he]; rfl))
      have HNext : Hid ((rwOf (ws.getD k [])).2.2.2 = true → rdInv ws (k + 1) (ys ++ [⟨k, (rwOf (ws.getD k [])).1, (rwOf (ws.getD k [])).2.1, (rwOf (ws.getD k [])).2.2.1⟩])) := fun he => by
        exact rd_next (unhide Hinv) hkw (by rw [readW_eq, he]; rfl)
      generalize rwOf (ws.getD k []) = q at *
      obtain ⟨q1, q2, q3, q4⟩ := q
      simp only at HE HStop HNext
      clear hx hlen hkw
      go_wp2_with fail
      refine (unhide HE).mono ?_
      rintro E w3 ⟨rfl, hB3⟩
      have hB4 : Below wr.heap.size wr (w3.alloc (.cells #[.int .i64 0, .int .i64 q1, .bool q2, .int .i64 q3] 48)) := hB3.alloc hB3.size _
      have hB5 : Below wr.heap.size wr (w3.alloc (.cells #[.int .i64 k, .int .i64 q1, .bool q2, .int .i64 q3] 48)) := hB3.alloc hB3.size _
      have HBr4 := hide hB4
      have HBr5 := hide hB5
      have hs3 := hB3.size
      clear hB3 hB4 hB5 HE
      cases q4 with
      | false =>
        have HN : Hid (readH L = none) := unhide HStop rfl
        clear HStop HNext
        go_wp2_with fail
        go_ret2
        exact ⟨Or.inl ⟨unhide HN, rfl⟩, (unhide HB1).trans (((unhide HB).trans ((unhide HBr4).mono (unhide HB).size)).mono (unhide HB1).size)⟩
      | true =>
        have HNx := hide (unhide HNext rfl)
        clear HStop HNext
        have HRow5 := hide (owns_below0 (unhide HRow) (unhide HBr5))
        have HB5 := hide ((unhide HB).trans ((unhide HBr5).mono (unhide HB).size))
        have hs5 := (unhide HB5).size
        go_wp2_with (at_builtin; refine wpList_append_lies _ rfl _ _ 22 rfl w1.heap.size 48 i0 _ 4 32 Tryz.underlying22 hi0 hz0 hz1 hz2 rfl (by omega) _ k _ rfl ((unhide HRow5).alloc _) ⟨_, 0, none⟩ 1 1 [.int .i64 (k : Int), .int .i64 q1, .bool q2, .int .i64 q3] rfl rfl (World.news_of_block (heap_new_two4 _ _ _)) (by simp [Value.oneCell']) (by omega) (by unfold maxLen; omega) (by omega) (by have := hs5; simp at this ⊢; omega) _ rfl ?_; intro g1 cap1 w7 hown1 hgrow1 hat1 hlt1; have HOwn := hide hown1; have HGr := hide hgrow1; clear hown1 hgrow1 hat1 hlt1)
        go_roundw
        case rel => exact ⟨k + 1, _, by omega, by go_num, unhide HNx, by rw [cells_snoc]; exact unhide HOwn, below_app (unhide HB5) (unhide HRow5) (unhide HGr) (unhide HB5).size⟩
        case measure => simp [intOf]; omega
    · have hkn : k = n := by omega
      subst hkn
      have HIn : Hid (∀ v, wr.ownsRow w1.heap.size 48 4 v k (ys.map Ent.cells).flatten → EntsIn wr v ys) := fun v hv => RecsIn.of_owns (base := w1.heap.size) (e := 48) (size := 4) (xs := ys.map Ent.cells) (fun y hy => by
        obtain ⟨z, _, rfl⟩ := List.mem_map.1 hy
        rfl) (by rw [List.length_map, (unhide Hinv).2]; exact hv)
      have HRd : Hid (readH L = some ys) := (unhide HR).trans (rd_end (by rw [unhide Hn]; exact unhide Hinv))
      go_wp2_with fail
      go_ret2
      exact ⟨Or.inr ⟨ys, _, unhide HRd, rfl, unhide HIn _ (unhide HRow)⟩, (unhide HB1).trans ((unhide HB).mono (unhide HB1).size)⟩
theorem readWords_all (s : ByteArray) (hs : s.size ≤ 4000) (e : Nat → TypeId × Value) (w : World) (S : FoSent e w) :
    Calls Tryz.prog 26 #[.string s] w fun r w' => RWords s.data.toList r w' ∧ Below w.heap.size w w' := by
  by_cases h45 : s.data.toList = [45]
  · have e45 : s = ⟨#[45]⟩ := by
      obtain ⟨⟨l⟩⟩ := s
      simp at h45
      rw [h45]
    subst e45
    exact readWords_dash w
  · exact readWords_walk s hs h45 e w S
theorem fread_bound (s : ByteArray) (h : 4000 < s.size) (e : Nat → TypeId × Value) (w : World) (S : FoSent e w) :
    Calls Tryz.prog 14 #[.string s] w fun r w' => r = .returned (.tuple #[.slice none 0 0, .iface (e 1).1 (e 1).2]) ∧ Below w.heap.size w w' := by
  have c1 := S.q.c1
  have h' : (4000 : Int) < (s.size : Int) := by omega
  clear S h
  go_enter Tryz.func14, Tryz.ntmps14
  go_wp2
  go_quiet (fail)
  go_wp2
  go_ret2
  exact ⟨rfl, below_draw (Below.refl _ _) _⟩
theorem fread_text (s : ByteArray) (hs : s.size ≤ 4000) (hn : readH s.data.toList = none) (e : Nat → TypeId × Value) (w : World) (S : FoSent e w) :
    Calls Tryz.prog 14 #[.string s] w fun r w' => r = .returned (.tuple #[.slice none 0 0, .iface (e 0).1 (e 0).2]) ∧ Below w.heap.size w w' := by
  have HC := hide (readWords_all s hs e w S)
  have HS := hide S
  have HN := hide hn
  have h' : ¬ (4000 : Int) < (s.size : Int) := by omega
  clear S hs hn
  go_enter Tryz.func14, Tryz.ntmps14
  go_wp2_with fail
  refine (unhide HC).mono ?_
  rintro E w2 ⟨⟨_, rfl⟩ | ⟨ys, v, hy, rfl, hv⟩, hB⟩
  · have c0 := ((unhide HS).below hB).c0
    have HB := hide hB
    clear hB
    go_wp2_with fail
    go_quiet (fail)
    go_wp2
    go_ret2
    exact ⟨rfl, below_draw (unhide HB) _⟩
  · rw [unhide HN] at hy
    cases hy
theorem fread_no (s : ByteArray) (l : List Ent) (hs : s.size ≤ 4000) (hr : readH s.data.toList = some l) (hl : ¬ histOk l) (e : Nat → TypeId × Value) (w : World) (S : FoSent e w) :
    Calls Tryz.prog 14 #[.string s] w fun r w' => ∃ ty p, r = .returned (.tuple #[.slice none 0 0, .iface ty p]) ∧ HistErr e w' l ty p ∧ Below w.heap.size w w' := by
  have HC := hide (readWords_all s hs e w S)
  have HS := hide S
  have HN := hide hr
  have HK : Hid (∀ w' v, Below w.heap.size w w' → EntsIn w' v l → Calls Tryz.prog 21 #[v] w' fun r w2 => ∃ ty p, r = .returned (.iface ty p) ∧ HistErr e w2 l ty p ∧ Below w'.heap.size w' w2) := fun w' v hB hv => check_no e v l w' hv hl (S.below hB).q
  have h' : ¬ (4000 : Int) < (s.size : Int) := by omega
  clear S hs hr
  go_enter Tryz.func14, Tryz.ntmps14
  go_wp2_with fail
  refine (unhide HC).mono ?_
  rintro E w2 ⟨⟨h0, rfl⟩ | ⟨ys, v, hy, rfl, hv⟩, hB⟩
  · rw [unhide HN] at h0
    cases h0
  · rw [unhide HN] at hy
    cases hy
    have HK2 := hide (unhide HK w2 v hB hv)
    have HB := hide hB
    obtain ⟨ad, cap, rfl, _⟩ := EntsIn.at hv
    clear hB hv HK
    go_wp2_with fail
    refine (unhide HK2).mono ?_
    rintro E w3 ⟨ty, p, rfl, hE, hB⟩
    have HE := hide hE
    have HB3 := hide ((unhide HB).trans (hB.mono (unhide HB).size))
    clear hE hB
    go_wp2_with fail
    go_ret2
    exact ⟨_, _, rfl, unhide HE, unhide HB3⟩
theorem fread_yes (s : ByteArray) (l : List Ent) (hs : s.size ≤ 4000) (hr : readH s.data.toList = some l) (hl : histOk l) (e : Nat → TypeId × Value) (w : World) (S : FoSent e w) :
    Calls Tryz.prog 14 #[.string s] w fun r w' => ∃ v, r = .returned (.tuple #[v, .nilIface]) ∧ EntsIn w' v l ∧ Below w.heap.size w w' := by
  have HC := hide (readWords_all s hs e w S)
  have HS := hide S
  have HN := hide hr
  have HK : Hid (∀ w' v, Below w.heap.size w w' → EntsIn w' v l → Calls Tryz.prog 21 #[v] w' fun r w2 => r = .returned .nilIface ∧ Below w'.heap.size w' w2) := fun w' v hB hv => check_yes e v l w' hv hl (S.below hB).q
  have h' : ¬ (4000 : Int) < (s.size : Int) := by omega
  clear S hs hr
  go_enter Tryz.func14, Tryz.ntmps14
  go_wp2_with fail
  refine (unhide HC).mono ?_
  rintro E w2 ⟨⟨h0, rfl⟩ | ⟨ys, v, hy, rfl, hv⟩, hB⟩
  · rw [unhide HN] at h0
    cases h0
  · rw [unhide HN] at hy
    cases hy
    have HK2 := hide (unhide HK w2 v hB hv)
    have HB := hide hB
    have HV := hide hv
    obtain ⟨ad, cap, rfl, _⟩ := EntsIn.at hv
    clear hB hv HK
    go_wp2_with fail
    refine (unhide HK2).mono ?_
    rintro E w3 ⟨rfl, hB⟩
    have HV3 := hide ((unhide HV).below hB)
    have HB3 := hide ((unhide HB).trans (hB.mono (unhide HB).size))
    clear hB
    go_wp2_with fail
    go_ret2
    exact ⟨_, rfl, unhide HV3, unhide HB3⟩
/-- All that package fold answers. -/
theorem foldP (e : Nat → TypeId × Value) : FoldP (FoSent e) e where
  keep := fun _ _ m h => m.below h
  ckY := fun w v l m hv h => check_yes e v l w hv h m.q
  ckN := fun w v l m hv h => check_no e v l w hv h m.q
  laN := fun w v l m hv h => last_no e v l w hv h m
  laO := fun w v l m hv h => last_ok e v l w hv h m
  toN := fun w v l m hv h => total_no e v l w hv h m
  toO := fun w v l m hv h => total_ok e v l w hv h m
  teN := fun w v l m hv h => text_no e v l w hv h m
  teO := fun w v l m hv h => text_ok' e v l w hv h m
  reB := fun w s m h _ => (fread_bound s h e w m).mono fun _ _ ⟨h1, h2⟩ => ⟨_, _, h1, h2⟩
  reT := fun w s m h hn => (fread_text s h hn e w m).mono fun _ _ ⟨h1, h2⟩ => ⟨_, _, h1, h2⟩
  reN := fun w s l m h hr hl => (fread_no s l h hr hl e w m).mono fun _ _ ⟨ty, p, h1, h2, h3⟩ => ⟨_, _, ty, p, h1, h2, h3⟩
  reO := fun w s l m h hr hl => fread_yes s l h hr hl e w m
/-- The same over a narrower condition. -/
theorem FoldP.mono {M N : World → Prop} {e : Nat → TypeId × Value} (P : FoldP M e) (h : ∀ w, N w → M w) (hk : ∀ w w', N w → Below w.heap.size w w' → N w') : FoldP N e where
  keep := hk
  ckY := fun w v l n => P.ckY w v l (h w n)
  ckN := fun w v l n => P.ckN w v l (h w n)
  laN := fun w v l n => P.laN w v l (h w n)
  laO := fun w v l n => P.laO w v l (h w n)
  toN := fun w v l n => P.toN w v l (h w n)
  toO := fun w v l n => P.toO w v l (h w n)
  teN := fun w v l n => P.teN w v l (h w n)
  teO := fun w v l n => P.teO w v l (h w n)
  reB := fun w s n => P.reB w s (h w n)
  reT := fun w s n => P.reT w s (h w n)
  reN := fun w s l n => P.reN w s l (h w n)
  reO := fun w s l n => P.reO w s l (h w n)
end Go.Proofs.YtglhapkclpllfadGreatDoor
