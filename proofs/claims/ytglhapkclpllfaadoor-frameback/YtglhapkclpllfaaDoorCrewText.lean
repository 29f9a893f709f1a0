/-
  The contract of crew.Text: of a crew that is right: its nodes, rising, a comma between; of none: a dash.
-/
import Derived.Test.YtglhapkclpllfaaDoorCrewNodes
import Derived.Test.YtglhapkclpllfaaDoorShelf
import Derived.Lib.Join
import Derived.Shelf.RegionOpen
import Derived.RangeFuncCalls
namespace Go.Proofs.YtglhapkclpllfaaDoor
open Go.RowKit Go.Shelf

attribute [local go_sem] Oper.semAt_some

/-- A node's digits. -/
def digs (x : Fin 16) : ByteArray := ⟨(Lib.decDigits (x.val + 1)).toArray⟩
theorem itoa_node (x : Fin 16) (w : World) : Calls Tryd.prog 45 #[.int .i64 ((x.val : Int) + 1)] w fun e w' => e = .returned (.string (digs x)) ∧ w' = w :=
  Tryd.strconv_Itoa_small (x.val + 1) (by omega) w
/-- The text of a crew. -/
def textOf (c : Nat) : List UInt8 := if c = 0 then [45] else Lib.join ((nodesF c).map fun x => (digs x).data.toList) [44]
theorem Tryd.infoStr : (Tryd.prog.info? 9).map (fun i => (i.zero, i.size, i.bytes)) = some (some (.string ⟨#[]⟩), 1, 16) := by kernel_rfl

theorem text_zero (w : World) : Calls Tryd.prog 20 #[.int .i64 0] w fun e w' => e = .returned (.string ⟨#[45]⟩) ∧ w' = w := by
  go_enter Tryd.func20, Tryd.ntmps20
  go_wp2_with (go_at_call 13; refine (check_ok 0 (by omega) _).mono ?_; rintro e w' ⟨rfl, rfl⟩)
  go_ret
  exact ⟨rfl, rfl⟩

/-- The step of an append inside a region, kept from the walk's own unfolding. -/
def AppendStep (F : Fence) (n : Nat) (P : Program) (o : Oper) (a : Act) (w : World) (K : Act → World → Prop) (Q : Exit → Act → World → Prop) : Prop := Oper.wpIn F n P o a w K Q
theorem append_step {F : Fence} {n : Nat} {P : Program} (w : World) {o : Oper} {a : Act} {K : Act → World → Prop} {Q : Exit → Act → World → Prop} (s x : Operand) (t : TypeId) (hop : o.op = Op.call { callee := Callee.builtin Builtin.append, args := #[s, x], argTypes := #[t, t] })
    (base : Nat) (e : TypeId) (i : TypeInfo) (z : Value) (size bytes : Nat) (h1 : P.underlying t = some (.slice e)) (h2 : P.info? e = some i) (h3 : i.zero = some z) (h4 : i.size = size) (h5 : i.bytes = bytes) (h6 : z.cells.size = size) (h7 : 0 < size)
    (v : Value) (k : Nat) (xs : List Value) (hs : a.eval s = v) (hown : w.ownsRow base e size v k xs) (ad : Addr) (m c : Nat) (news : List Value) (hx : a.eval x = .slice (some ad) m c) (hn : news.length = m * size)
    (hc : ∀ j u, news[j]? = some u → w.cell? (ad.add j) = some u) (h1c : ∀ u ∈ news, u.oneCell' = true) (b1 : k + m ≤ maxLen) (b2 : (k + m) * bytes ≤ 140737488355328) (b3 : base ≤ w.heap.size)
    (hK : ∀ v' w', w'.ownsRow base e size v' (k + m) (xs ++ news) → w.grownBy w' v.ownBlock → (v' = .slice none 0 0 ↔ v = .slice none 0 0 ∧ m = 0) → K (a.put o.dst v') w') : AppendStep F n P o a w K Q := by
  obtain ⟨v', w', hrun, r1, r2, r3⟩ := run_append_own (P := P) w base t o.type e i z size bytes h1 h2 h3 h4 h5 h6 h7 v k xs hown ad m c news hn hc h1c b1 b2 b3
  unfold AppendStep Oper.wpIn
  refine ⟨?_, ?_⟩
  · simp [Oper.about, hop, resolve, Target.leads, Sem.run_pure]
  · rw [Oper.semAt_plain F _ _ (by rw [hop]; intro c hc'; cases hc')]
    simp [execOp, hop, resolve, invoke, builtin, hs, hx, hrun, Result.andThen]
    exact hK v' w' r1 r2 r3

set_option maxRecDepth 100000 in
set_option maxHeartbeats 2000000 in
theorem text_in (n : Nat) (hn : 3 ≤ n) (c : Nat) (hc : c ≤ 65535) (hc0 : ((c : Int) == 0) = false) (hjoin : (Lib.join (((nodesF c).map digs).map (·.data.toList)) [44]).length ≤ 140737488355328) (w : World) (hg : 14 < w.heap.size) (hT : Go.Proofs.TabAt 14 Lib.deBruijn64tab w) :
    CallsIn Fence.wide n Tryd.prog 20 #[.int .i64 c] w fun e W' => e = .returned (.string ⟨(Lib.join (((nodesF c).map digs).map (·.data.toList)) [44]).toArray⟩) ∧ Below w.heap.size w W' := by
  have h1 : 1 ≤ n := by omega
  have hlen := nodesF_len c
  obtain ⟨i0, hi, hz0, hz1, hz2⟩ := info_parts Tryd.infoStr
  have hc' := hc
  have HT := hide hT
  have HJ := hide hjoin
  clear hT hjoin
  refine callsIn_of_wp_marks Tryd.func20 rfl trivial ?_ rfl
  simp only [Tryd.ntmps20, List.size_toArray, List.length_cons, List.length_nil, Nat.reduceAdd, Nat.reduceSub, Array.replicate_succ, Array.replicate_zero, List.push_toArray, List.append_toArray, List.nil_append, List.cons_append]
  gi_wp2_with (refine ⟨trivial, ?_⟩; first | (gi_at_call 42; refine (nodes_in (n - 1) c _).mono ?_; rintro e w' ⟨rfl, rfl⟩) | (gi_at_call 13; refine (callsIn_wide.2 (check_ok c hc _)).mono ?_; rintro e w' ⟨rfl, rfl⟩))
  have bO := Boxed.new w' 83 (.slice none 0 0)
  have bN := Boxed.new (w'.alloc (.cells #[.slice none 0 0] 83)) 3 (.int .i64 c)
  rw [World.size_alloc] at bN
  have hB0 : Below w'.heap.size w' ((w'.alloc (.cells #[.slice none 0 0] 83)).alloc (.cells #[.int .i64 c] 3)) := ((Below.refl _ w').alloc (Nat.le_refl _) _).alloc (by simp) _
  refine wpIn_rangeFunc_ownG rfl h1 (gf := 67) (lb := #[.pointer (some ⟨w'.heap.size + 1, 0, none⟩)]) rfl trivial (enters_of Tryd.func67 (by kernel_rfl) rfl)
    (nodes_stops (n - 1) (by omega) (w'.heap.size + 1) w'.heap.size c hc _ (by simp) (by simp; omega) hg bN.cell (fun j hj => (hB0.cell (p := ⟨14, j, none⟩) hg).trans (unhide HT j hj))) belowK_t (belowK_b (by simp; omega)) (Below.refl _ _) (fun _ => rfl)
    (fun pre W => (∃ v, Boxed W w'.heap.size 83 v ∧ W.ownsRow w'.heap.size 9 1 v pre.length (pre.map fun x => Value.string (digs x)) ∧ (v = .slice none 0 0 ↔ pre = [])) ∧ Below w'.heap.size w' W)
    (fun _ _ _ => False)
    (OwnFrom.and (Own.from (holdsRow_own w'.heap.size w'.heap.size 83 9 1 (fun pre => pre.length) (fun pre => pre.map fun x => Value.string (digs x)) (fun pre v => v = .slice none 0 0 ↔ pre = [])) _) (ownFrom_below (Nat.le_refl _) (by simp; omega)))
    (fun _ _ _ _ _ hs _ _ => hs)
    ⟨⟨_, bO.alloc _, World.ownsRow_nil _ _ _ _, by simp⟩, hB0⟩
    (fun x => { tmps := #[.int .i64 c, undef, .string ⟨#[]⟩, .pointer (some ⟨w'.heap.size, 0, none⟩), .int .i64 ((x.val : Int) + 1), .int .i64 c, .nilIface, .bool false, .int .i64 c, .bool false, .int .i64 c, .func (.func 67) #[] #[.pointer (some ⟨w'.heap.size + 1, 0, none⟩)], .int .i64 ((x.val : Int) + 1), undef, undef, undef, undef, undef, undef, undef], defers := [] }) ?assign ?body ?done ?stop
  case assign =>
    intro l x W K hK
    gi_wp2
    exact hK
  case body =>
    rintro l pre x W ⟨⟨v, hv, hrow, hnil⟩, hB⟩ hlt
    have hc := hv.cell
    have hcA : ∀ o, (W.alloc o).cell? ⟨w'.heap.size, 0, none⟩ = some v := fun o => (hv.alloc o).cell
    have hd : 1 ≤ n - 1 - 1 := by omega
    have hmx : Tryd.prog.follows .mixedOrders = true := by kernel_rfl
    gi_wp2
    refine wpIn_region_any hmx ?_
    change wpAnyIn _ _ _ _ _ _ _ _ _ (World.drew _)
    refine wpAnyIn_ready (rs := [0, 1]) (by kernel_rfl) (by simp) ?_
    refine AllReadyIn.cons rfl (fun K hK => ?_) (AllReadyIn.cons rfl (fun K hK => ?_) AllReadyIn.nil)
    · go_simp
      refine hK _ _ ?_
      clear hK K
      refine wpAnyIn_ready (rs := [1]) (by kernel_rfl) (by simp) ?_
      refine AllReadyIn.cons rfl (fun K hK => ?_) AllReadyIn.nil
      go_simp
      refine hK _ _ ?_
      clear hK K
      refine wpAnyIn_ready (rs := [2]) (by kernel_rfl) (by simp) ?_
      refine AllReadyIn.cons rfl (fun K hK => ?_) AllReadyIn.nil
      go_simp
      refine ⟨trivial, (CallsIn.inRound l (callsIn_wide.2 (itoa_node x _))).mono ?_⟩
      rintro e wq ⟨rfl, rfl⟩
      refine hK _ _ ?_
      clear hK K
      refine wpAnyIn_ready (rs := [3]) (by kernel_rfl) (by simp) ?_
      refine AllReadyIn.cons rfl (fun K hK => ?_) AllReadyIn.nil
      go_simp
      refine hK _ _ ?_
      clear hK K
      refine wpAnyIn_ready (rs := [4]) (by kernel_rfl) (by simp) ?_
      refine AllReadyIn.cons rfl (fun K hK => ?_) AllReadyIn.nil
      rw [if_pos (by rfl)]
      change AppendStep _ _ _ _ _ _ _ _
      refine append_step _ (.tmp 13) (.tmp 16) 83 rfl w'.heap.size 9 i0 (.string ⟨#[]⟩) 1 16 Tryd.underlying83 hi hz0 hz1 hz2 rfl (by decide) v pre.length _ rfl (hrow.alloc _) ⟨W.heap.size, 0, none⟩ 1 1 [.string (digs x)] rfl rfl (cell_one_new _ _ _) (by simp [Value.oneCell']) (by unfold maxLen; omega) (by omega) (by have := hB.size; simp; omega) ?_
      intro v' w1 hown' hgrow _
      obtain ⟨g', cap', rfl⟩ := ownsRow_succ hown'
      obtain ⟨hv1, hv2, hr2, hk2, hb2⟩ := hv.appended (by decide) hrow hB.size (Nat.le_refl _) hown' (tmp := .cells #[.string (digs x)] 9) ⟨hgrow.os, hgrow.tape, hgrow.output, hgrow.size, hgrow.block⟩
      have hc1 := hv1.cell
      have hf1 := hv1.frozen
      refine hK _ _ ?_
      clear hK K
      refine wpAnyIn_ready (rs := [5]) (by kernel_rfl) (by simp) ?_
      refine AllReadyIn.cons rfl (fun K hK => ?_) AllReadyIn.nil
      go_simp
      refine hK _ _ ?_
      clear hK K
      refine wpAnyIn_done (by kernel_rfl) ?_ _
      go_simp
      exact ⟨hk2.from _, hb2, ⟨_, hv2, by simpa using hr2, by simp⟩, hB.trans hb2⟩
    · go_simp
      refine hK _ _ ?_
      clear hK K
      refine wpAnyIn_ready (rs := [0, 2]) (by kernel_rfl) (by simp) ?_
      refine AllReadyIn.cons rfl (fun K hK => ?_) (AllReadyIn.cons rfl (fun K hK => ?_) AllReadyIn.nil)
      · go_simp
        refine hK _ _ ?_
        clear hK K
        refine wpAnyIn_ready (rs := [2]) (by kernel_rfl) (by simp) ?_
        refine AllReadyIn.cons rfl (fun K hK => ?_) AllReadyIn.nil
        go_simp
        refine ⟨trivial, (CallsIn.inRound l (callsIn_wide.2 (itoa_node x _))).mono ?_⟩
        rintro e wq ⟨rfl, rfl⟩
        refine hK _ _ ?_
        clear hK K
        refine wpAnyIn_ready (rs := [3]) (by kernel_rfl) (by simp) ?_
        refine AllReadyIn.cons rfl (fun K hK => ?_) AllReadyIn.nil
        go_simp
        refine hK _ _ ?_
        clear hK K
        refine wpAnyIn_ready (rs := [4]) (by kernel_rfl) (by simp) ?_
        refine AllReadyIn.cons rfl (fun K hK => ?_) AllReadyIn.nil
        rw [if_pos (by rfl)]
        change AppendStep _ _ _ _ _ _ _ _
        refine append_step _ (.tmp 13) (.tmp 16) 83 rfl w'.heap.size 9 i0 (.string ⟨#[]⟩) 1 16 Tryd.underlying83 hi hz0 hz1 hz2 rfl (by decide) v pre.length _ rfl (hrow.alloc _) ⟨W.heap.size, 0, none⟩ 1 1 [.string (digs x)] rfl rfl (cell_one_new _ _ _) (by simp [Value.oneCell']) (by unfold maxLen; omega) (by omega) (by have := hB.size; simp; omega) ?_
        intro v' w1 hown' hgrow _
        obtain ⟨g', cap', rfl⟩ := ownsRow_succ hown'
        obtain ⟨hv1, hv2, hr2, hk2, hb2⟩ := hv.appended (by decide) hrow hB.size (Nat.le_refl _) hown' (tmp := .cells #[.string (digs x)] 9) ⟨hgrow.os, hgrow.tape, hgrow.output, hgrow.size, hgrow.block⟩
        have hc1 := hv1.cell
        have hf1 := hv1.frozen
        refine hK _ _ ?_
        clear hK K
        refine wpAnyIn_ready (rs := [5]) (by kernel_rfl) (by simp) ?_
        refine AllReadyIn.cons rfl (fun K hK => ?_) AllReadyIn.nil
        go_simp
        refine hK _ _ ?_
        clear hK K
        refine wpAnyIn_done (by kernel_rfl) ?_ _
        go_simp
        exact ⟨hk2.from _, hb2, ⟨_, hv2, by simpa using hr2, by simp⟩, hB.trans hb2⟩
      · go_simp
        refine ⟨trivial, (CallsIn.inRound l (callsIn_wide.2 (itoa_node x _))).mono ?_⟩
        rintro e wq ⟨rfl, rfl⟩
        refine hK _ _ ?_
        clear hK K
        refine wpAnyIn_ready (rs := [0, 3]) (by kernel_rfl) (by simp) ?_
        refine AllReadyIn.cons rfl (fun K hK => ?_) (AllReadyIn.cons rfl (fun K hK => ?_) AllReadyIn.nil)
        · go_simp
          refine hK _ _ ?_
          clear hK K
          refine wpAnyIn_ready (rs := [3]) (by kernel_rfl) (by simp) ?_
          refine AllReadyIn.cons rfl (fun K hK => ?_) AllReadyIn.nil
          go_simp
          refine hK _ _ ?_
          clear hK K
          refine wpAnyIn_ready (rs := [4]) (by kernel_rfl) (by simp) ?_
          refine AllReadyIn.cons rfl (fun K hK => ?_) AllReadyIn.nil
          rw [if_pos (by rfl)]
          change AppendStep _ _ _ _ _ _ _ _
          refine append_step _ (.tmp 13) (.tmp 16) 83 rfl w'.heap.size 9 i0 (.string ⟨#[]⟩) 1 16 Tryd.underlying83 hi hz0 hz1 hz2 rfl (by decide) v pre.length _ rfl (hrow.alloc _) ⟨W.heap.size, 0, none⟩ 1 1 [.string (digs x)] rfl rfl (cell_one_new _ _ _) (by simp [Value.oneCell']) (by unfold maxLen; omega) (by omega) (by have := hB.size; simp; omega) ?_
          intro v' w1 hown' hgrow _
          obtain ⟨g', cap', rfl⟩ := ownsRow_succ hown'
          obtain ⟨hv1, hv2, hr2, hk2, hb2⟩ := hv.appended (by decide) hrow hB.size (Nat.le_refl _) hown' (tmp := .cells #[.string (digs x)] 9) ⟨hgrow.os, hgrow.tape, hgrow.output, hgrow.size, hgrow.block⟩
          have hc1 := hv1.cell
          have hf1 := hv1.frozen
          refine hK _ _ ?_
          clear hK K
          refine wpAnyIn_ready (rs := [5]) (by kernel_rfl) (by simp) ?_
          refine AllReadyIn.cons rfl (fun K hK => ?_) AllReadyIn.nil
          go_simp
          refine hK _ _ ?_
          clear hK K
          refine wpAnyIn_done (by kernel_rfl) ?_ _
          go_simp
          exact ⟨hk2.from _, hb2, ⟨_, hv2, by simpa using hr2, by simp⟩, hB.trans hb2⟩
        · go_simp
          refine hK _ _ ?_
          clear hK K
          refine wpAnyIn_ready (rs := [0]) (by kernel_rfl) (by simp) ?_
          refine AllReadyIn.cons rfl (fun K hK => ?_) AllReadyIn.nil
          go_simp
          refine hK _ _ ?_
          clear hK K
          refine wpAnyIn_ready (rs := [4]) (by kernel_rfl) (by simp) ?_
          refine AllReadyIn.cons rfl (fun K hK => ?_) AllReadyIn.nil
          rw [if_pos (by rfl)]
          change AppendStep _ _ _ _ _ _ _ _
          refine append_step _ (.tmp 13) (.tmp 16) 83 rfl w'.heap.size 9 i0 (.string ⟨#[]⟩) 1 16 Tryd.underlying83 hi hz0 hz1 hz2 rfl (by decide) v pre.length _ rfl (hrow.alloc _) ⟨W.heap.size, 0, none⟩ 1 1 [.string (digs x)] rfl rfl (cell_one_new _ _ _) (by simp [Value.oneCell']) (by unfold maxLen; omega) (by omega) (by have := hB.size; simp; omega) ?_
          intro v' w1 hown' hgrow _
          obtain ⟨g', cap', rfl⟩ := ownsRow_succ hown'
          obtain ⟨hv1, hv2, hr2, hk2, hb2⟩ := hv.appended (by decide) hrow hB.size (Nat.le_refl _) hown' (tmp := .cells #[.string (digs x)] 9) ⟨hgrow.os, hgrow.tape, hgrow.output, hgrow.size, hgrow.block⟩
          have hc1 := hv1.cell
          have hf1 := hv1.frozen
          refine hK _ _ ?_
          clear hK K
          refine wpAnyIn_ready (rs := [5]) (by kernel_rfl) (by simp) ?_
          refine AllReadyIn.cons rfl (fun K hK => ?_) AllReadyIn.nil
          go_simp
          refine hK _ _ ?_
          clear hK K
          refine wpAnyIn_done (by kernel_rfl) ?_ _
          go_simp
          exact ⟨hk2.from _, hb2, ⟨_, hv2, by simpa using hr2, by simp⟩, hB.trans hb2⟩
  case done =>
    rintro D ys W hD rfl ⟨⟨v, hv, hrow, hnil⟩, hB⟩ hK
    have hc := hv.cell
    have hne : nodesF c ≠ [] := by rw [nodesF_step c (by have : ¬ (c : Int) = 0 := by simpa using hc0
                                                         omega) hc']; exact List.cons_ne_nil _ _
    obtain ⟨hxl, hform⟩ := hrow
    rcases hform with ⟨rfl, h0⟩ | ⟨g, cap, cur, rfl, hg', hgb, hncap, hcapm, hcs, htake⟩
    · exact absurd (hnil.1 rfl) hne
    have hcells : ∀ (j : Nat) y, ((nodesF c).map digs)[j]? = some y → W.cell? ⟨g, 0 + j, none⟩ = some (.string y) := fun j y hy => by
      have hj : j < (nodesF c).length := by
        have := (List.getElem?_eq_some_iff.1 hy).1
        simpa using this
      have e1 : (cur.toList.take ((nodesF c).length * 1))[j]? = some (.string y) := by
        rw [htake, List.getElem?_map]
        rw [List.getElem?_map] at hy
        obtain ⟨z, hz, rfl⟩ := Option.map_eq_some_iff.1 hy
        rw [hz]; rfl
      rw [List.getElem?_take_of_lt (by omega)] at e1
      simp only [World.cell?, hgb, Nat.zero_add]
      rw [← e1]; simp
    have hgl := blk_lt hgb
    have hDl := (Array.getElem?_eq_some_iff.1 hK).1
    have hl : ((nodesF c).map digs).length = (nodesF c).length := by simp
    have hjo := Tryd.strings_Join g 0 cap ((nodesF c).map digs) ⟨#[44]⟩ W hcells hgl (by omega) (by omega) (unhide HJ)
    rw [hl] at hjo
    have HJO := hide hjo
    have HK := hide hK
    clear hjo hK hcells htake hxl hl
    gi_wp2_with (refine ⟨trivial, ?_⟩; gi_at_call 46; refine (callsIn_wide.2 (unhide HJO)).mono ?_; rintro e W2 ⟨rfl, hB2⟩)
    have hK2 := below_row hB2 (unhide HK)
    refine ⟨by simp, .inl ⟨_, _, rfl, run_takeDeferred hK2, ?_⟩⟩
    exact ⟨_, results_tmp rfl _ _ _, by show Ending.returned (Value.string _) = _; rw [List.map_map], (hB.trans (hB2.mono hB.size)).trans (belowK_b (w := w') (Nat.le_refl _) W2 D _ _ (by simp at hD; omega) hK2 rfl rfl)⟩
  case stop =>
    rintro D c pre W _ _ h _
    exact h.elim
/-- A node's digits, written out. -/
def dg (x : Fin 16) : List UInt8 := if x.val < 9 then [UInt8.ofNat (49 + x.val)] else [49, UInt8.ofNat (39 + x.val)]
theorem dec_small (n : Nat) (h : n < 10) : Lib.decDigits n = [UInt8.ofNat (48 + n)] := by rw [Lib.decDigits, dif_pos h]
theorem dec_two (n : Nat) (h : ¬ n < 10) (h2 : n < 100) : Lib.decDigits n = [UInt8.ofNat (48 + n / 10), UInt8.ofNat (48 + n % 10)] := by
  rw [Lib.decDigits, dif_neg h, dec_small (n / 10) (by omega)]; rfl
theorem digs_eq (x : Fin 16) : (digs x).data.toList = dg x := by
  unfold digs dg
  have hx := x.isLt
  by_cases h : x.val < 9
  · rw [if_pos h, dec_small _ (by omega), show 48 + (x.val + 1) = 49 + x.val by omega]
  · rw [if_neg h, dec_two _ (by omega) (by omega), show 48 + (x.val + 1) / 10 = 49 by omega, show 48 + (x.val + 1) % 10 = 39 + x.val by omega]; rfl
theorem digs_len (x : Fin 16) : (digs x).data.toList.length ≤ 2 := by
  rw [digs_eq]; unfold dg; split <;> simp
theorem join_len (sep : List UInt8) (hs : sep.length ≤ 1) : ∀ ls : List (List UInt8), (∀ l ∈ ls, l.length ≤ 2) → (Lib.join ls sep).length ≤ 3 * ls.length
  | [], _ => by simp [Lib.join_nil]
  | [a], h => by have := h a (by simp); rw [Lib.join_one]; simp; omega
  | a :: b :: r, h => by
    have h1 := h a (by simp)
    have ih := join_len sep hs (b :: r) (fun l hl => h l (List.mem_cons_of_mem _ hl))
    rw [Lib.join_cons, Lib.joinTail] at ih ⊢
    simp only [List.map_cons, List.flatten_cons, List.length_append, List.length_cons] at ih ⊢
    omega
theorem text_len (c : Nat) : (Lib.join (((nodesF c).map digs).map (·.data.toList)) [44]).length ≤ 48 := by
  have h := join_len [44] (by decide) (((nodesF c).map digs).map (·.data.toList)) (fun l hl => by
    obtain ⟨y, hy, rfl⟩ := List.mem_map.1 hl
    obtain ⟨x, _, rfl⟩ := List.mem_map.1 hy
    exact digs_len x)
  have := nodesF_len c
  simp only [List.length_map] at h
  omega
theorem textOf_eq (c : Nat) (h : c ≠ 0) : textOf c = Lib.join (((nodesF c).map digs).map (·.data.toList)) [44] := by
  unfold textOf; rw [if_neg h, List.map_map]; rfl
theorem textOf_len (c : Nat) : (textOf c).length ≤ 48 := by
  by_cases h : c = 0
  · subst h; decide
  · rw [textOf_eq c h]; exact text_len c
theorem text_ok (c : Nat) (hc : c ≤ 65535) (w : World) (hg : 14 < w.heap.size) (hT : Go.Proofs.TabAt 14 Lib.deBruijn64tab w) :
    Calls Tryd.prog 20 #[.int .i64 c] w fun e W' => e = .returned (.string ⟨(textOf c).toArray⟩) ∧ Below w.heap.size w W' := by
  by_cases h0 : c = 0
  · subst h0
    refine (text_zero w).mono ?_
    rintro e W' ⟨rfl, rfl⟩
    exact ⟨rfl, Below.refl _ _⟩
  · have hl := text_len c
    rw [textOf_eq c h0]
    exact callsIn_wide.1 (text_in 3 (by omega) c hc (by simp; omega) (by omega) w hg hT)
end Go.Proofs.YtglhapkclpllfaaDoor
