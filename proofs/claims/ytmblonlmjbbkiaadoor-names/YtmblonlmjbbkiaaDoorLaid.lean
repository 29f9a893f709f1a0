/-
  What the rows' condition on the listed package variables gives the walks: the sentinels of package api, each apart from the others; the handle of the type error.
  Conditions: the row's own ('laid').
-/
import Derived.Test.YtmblonlmjbbkiaaDoorCode
import Derived.Test.YtmblonlmjbbkiaaDoorRows
import Derived.LaidLaws
import Derived.LaidSub
import Derived.LaidHandle
import Derived.Stop.LaidErr
namespace Go.Proofs.YtmblonlmjbbkiaaDoor
open Go.RowKit Go.ChangeShapes

theorem Tryd.star : "*" ++ "errors.errorString" = "*errors.errorString" := by decide
theorem Tryd.rowES (u : TypeId) (h : Tryd.prog.typeName? 3 u = some "*errors.errorString") : u = 47 :=
  typeName_ptr_named (nm := "errors.errorString") (by rw [Tryd.star]; kernel_rfl) (by kernel_rfl) (by decide) u (by rw [Tryd.star]; exact h)
theorem Tryd.cellsEST : Tryd.prog.cellsOf 49 = 1 := by kernel_rfl
theorem Tryd.cellsSTR : Tryd.prog.cellsOf 9 = 1 := by kernel_rfl

/-- A sentinel's row on the list: its name, its text. -/
def esEntry (x : String × List UInt8) : String × DataW Unit := (x.1, .iface "*errors.errorString" (.ptr (.agg [.lit (.string x.2)])))

theorem sents_of_laid {P : Program} {ti tp te ts : TypeId} {ms : Array (String × TypeId)} {f : Field} (hi : P.underlying ti = some (.interface ms)) (hrow : ∀ u, P.typeName? 3 u = some "*errors.errorString" → u = tp)
    (hp : P.underlying tp = some (.pointer te)) (he : P.underlying te = some (.struct #[f])) (hft : f.type = ts) (hfo : f.offset = 0) (hs : P.underlying ts = some .string) (hc : P.cellsOf te = 1) (hcs : P.cellsOf ts = 1) :
    ∀ (l : List (String × List UInt8)) (W : World) (ps : List MemPlace), DataW.LaidVars P W (l.map esEntry) ps → ps.Nodup →
    (∀ b off, MemPlace.cell b off ∈ ps → (∃ c t, W.heap[b]? = some (.cells c t (0, 0))) ∧ ∀ u v, W.cell? ⟨b, off, none⟩ = some (.iface u v) → Value.okWide P W .any 0 u v) →
    (l.all fun x => (P.globalNamed x.1).any fun g => (P.globals[g]?).any fun v => v.type == ti) = true →
    ∃ sa : List Addr, sa.length = l.length ∧ sa.Nodup ∧ (∀ i (h : i < l.length) (h' : i < sa.length), W.var? P l[i].1 = some #[.iface tp (.pointer (some sa[i]))]) ∧
      (∀ a ∈ sa, ∃ c t, W.heap[a.block]? = some (.cells c t (0, 0))) ∧ ∀ a ∈ sa, MemPlace.cell a.block a.off ∈ ps
  | [], W, ps, _, _, _, _ => ⟨[], rfl, List.nodup_nil, fun i h _ => absurd h (Nat.not_lt_zero _), (fun a h => absurd h List.not_mem_nil), (fun a h => absurd h List.not_mem_nil)⟩
  | (n, text) :: r, W, ps, hv, hnd, hrows, hty => by
    obtain ⟨g, t, cs, fuel, p, q, hg, ht, hvar, hd, hq, rfl⟩ := hv
    have hty1 : t = ti := by
      have := (List.all_eq_true.1 hty) _ (List.mem_cons_self)
      simp only [hg, Option.any_some] at this
      cases hgl : P.globals[g]? with
      | none => rw [hgl] at this; simp at this
      | some v =>
        rw [hgl] at this ht
        simp at this ht
        rw [← ht, this]
    subst hty1
    obtain ⟨l0⟩ := cs
    have ok0 : ∀ u v, l0 = [.iface u v] → Value.okWide P W .any 0 u v := fun u v e => by
      subst e
      exact (hrows g 0 (by simp [MemPlace.row])).2 u v (by simpa using World.var?_cell hg hvar 0)
    obtain ⟨a0, s0, rfl, hc0, hs0, hz0, rfl⟩ := errorString_of_trod hi hrow hp he hft hfo hs hc hcs hd ok0
    obtain ⟨sa, hlen, hnda, hvs, hrs, hps⟩ := sents_of_laid hi hrow hp he hft hfo hs hc hcs r W q hq (List.Nodup.sublist (List.sublist_append_right _ _) hnd) (fun b off hm => hrows b off (List.mem_append_right _ hm))
      (List.all_eq_true.2 fun x hx => (List.all_eq_true.1 hty) x (List.mem_cons_of_mem _ hx))
    have hin : MemPlace.cell a0.block a0.off ∈ MemPlace.row ⟨g, 0, none⟩ #[Value.iface tp (.pointer (some a0))].size ++ MemPlace.row a0 1 ++ q := by simp [MemPlace.row]
    refine ⟨a0 :: sa, by simp [hlen], List.nodup_cons.2 ⟨fun hm => ?_, hnda⟩, ?_, ?_, ?_⟩
    · have h1 := hps a0 hm
      have h2 : MemPlace.cell a0.block a0.off ∈ MemPlace.row ⟨g, 0, none⟩ #[Value.iface tp (.pointer (some a0))].size ++ MemPlace.row a0 1 := by simp [MemPlace.row]
      exact absurd rfl ((List.nodup_append.1 hnd).2.2 _ h2 _ h1)
    · intro i h h'
      cases i with
      | zero => exact hvar
      | succ i => exact hvs i (by simpa using h) (by simpa using h')
    · intro a ha
      rcases List.mem_cons.1 ha with rfl | ha
      · exact (hrows a.block a.off hin).1
      · exact hrs a ha
    · intro a ha
      rcases List.mem_cons.1 ha with rfl | ha
      · exact hin
      · exact List.mem_append_right _ (hps a ha)

theorem Tryd.rtRow : (Tryd.prog.cutTypes.find? (·.1 == "internal/reflectlite.rtype")).map (·.2) = some 88 := by kernel_rfl
theorem Tryd.errRow : ((List.range 160).filter fun t => Tryd.prog.rowNamed t [101, 114, 114, 111, 114]) = [25] := by kernel_rfl
theorem Tryd.ntypes : Tryd.prog.types.size = 160 := by kernel_rfl
theorem Tryd.etNamed : Tryd.prog.globalNamed "errors.errorType" = some 11 := by kernel_rfl
theorem handle_of_laid {W : World} {l : List (String × DataW Unit)} (h : handlesMet Tryd.prog l W) (hm : ("errors.errorType", Rows.laid_errors_errorType) ∈ l) : W.cell? ⟨11, 0, none⟩ = some (.iface 88 (.agg #[.pointer (some ⟨18, 25, none⟩)])) := by
  obtain ⟨name, u, ty, e1, e2, e3, e4, e5⟩ := h _ hm
  have en : name = [101, 114, 114, 111, 114] := (Option.some.inj e1).symm
  subst en
  obtain rfl := Option.some.inj (Tryd.rtRow.symm.trans e2)
  have hm : ty ∈ (List.range 160).filter fun t => Tryd.prog.rowNamed t [101, 114, 114, 111, 114] := List.mem_filter.2 ⟨List.mem_range.2 (by rw [← Tryd.ntypes]; exact e3), e4⟩
  rw [Tryd.errRow] at hm
  obtain rfl := List.mem_singleton.1 hm
  have hh : typeHandle Tryd.prog 25 = .pointer (some ⟨18, 25, none⟩) := by kernel_rfl
  rw [hh] at e5
  simpa using World.var?_cell Tryd.etNamed e5 0

/-- The eleven of package api, by their names and texts. -/
def apiErrs : List (String × List UInt8) := [("bargelock/api.ErrText", [98, 97, 114, 103, 101, 108, 111, 99, 107, 58, 32, 116, 101, 120, 116]), ("bargelock/api.ErrBound", [98, 97, 114, 103, 101, 108, 111, 99, 107, 58, 32, 98, 111, 117, 110, 100]), ("bargelock/api.ErrShape", [98, 97, 114, 103, 101, 108, 111, 99, 107, 58, 32, 115, 104, 97, 112, 101]), ("bargelock/api.ErrNode", [98, 97, 114, 103, 101, 108, 111, 99, 107, 58, 32, 110, 111, 100, 101]), ("bargelock/api.ErrNone", [98, 97, 114, 103, 101, 108, 111, 99, 107, 58, 32, 110, 111, 110, 101]), ("bargelock/api.ErrExist", [98, 97, 114, 103, 101, 108, 111, 99, 107, 58, 32, 101, 120, 105, 115, 116]), ("bargelock/api.ErrFull", [98, 97, 114, 103, 101, 108, 111, 99, 107, 58, 32, 102, 117, 108, 108]), ("bargelock/api.ErrSum", [98, 97, 114, 103, 101, 108, 111, 99, 107, 58, 32, 115, 117, 109]), ("bargelock/api.ErrLate", [98, 97, 114, 103, 101, 108, 111, 99, 107, 58, 32, 108, 97, 116, 101]), ("bargelock/api.ErrGap", [98, 97, 114, 103, 101, 108, 111, 99, 107, 58, 32, 103, 97, 112]), ("bargelock/api.ErrOff", [98, 97, 114, 103, 101, 108, 111, 99, 107, 58, 32, 111, 102, 102])]

/-- From a list that has the eleven and the handle to the walks' condition. -/
theorem sent_of_laid {W : World} {l : List (String × DataW Unit)} (keep : String × DataW Unit → Bool) (h : laidMetH Tryd.prog l W)
    (hk : (l.filter fun x => x.2.handleName?.isNone).filter keep = apiErrs.map esEntry) (hm : ("errors.errorType", Rows.laid_errors_errorType) ∈ l.filter fun x => x.2.handleName?.isSome) : ∃ a, Sent a W := by
  obtain ⟨h1, h2⟩ := laidMetH_iff.1 h
  have h3 := h1.filter keep
  rw [hk] at h3
  obtain ⟨ps, hv, hnd, hrows⟩ := h3
  obtain ⟨sa, hlen, hnda, hvs, hrs, _⟩ := sents_of_laid Tryd.underlying25 Tryd.rowES Tryd.underlying47 Tryd.underlying49 rfl rfl Tryd.underlying9 Tryd.cellsEST Tryd.cellsSTR apiErrs W ps hv hnd hrows (by kernel_rfl)
  have hl : sa.length = 11 := hlen
  match sa, hl, hnda, hvs, hrs with
  | [a0, a1, a2, a3, a4, a5, a6, a7, a8, a9, a10], _, hnda, hvs, hrs =>
    have cell : ∀ i (hi : i < 11) (g : Nat), Tryd.prog.globalNamed apiErrs[i].1 = some g → W.cell? ⟨g, 0, none⟩ = some (.iface 47 (.pointer (some ([a0, a1, a2, a3, a4, a5, a6, a7, a8, a9, a10][i])))) := fun i hi g hg => by
      simpa using World.var?_cell hg (hvs i hi hi) 0
    refine ⟨fun k => [a0, a1, a2, a3, a4, a5, a6, a7, a8, a9, a10].getD k a0, ⟨cell 0 (by decide) _ (by kernel_rfl), cell 1 (by decide) _ (by kernel_rfl), cell 2 (by decide) _ (by kernel_rfl), cell 3 (by decide) _ (by kernel_rfl), cell 4 (by decide) _ (by kernel_rfl), cell 5 (by decide) _ (by kernel_rfl),
      cell 6 (by decide) _ (by kernel_rfl), cell 7 (by decide) _ (by kernel_rfl), cell 8 (by decide) _ (by kernel_rfl), cell 9 (by decide) _ (by kernel_rfl), cell 10 (by decide) _ (by kernel_rfl), handle_of_laid h2 hm, ?_, ?_⟩⟩
    · intro k hk
      rw [List.getD_eq_getElem?_getD, List.getElem?_eq_getElem (by simpa using hk)]
      exact hrs _ (List.getElem_mem _)
    · intro i j hi hj e
      rw [List.getD_eq_getElem?_getD, List.getElem?_eq_getElem (by simpa using hi), List.getD_eq_getElem?_getD, List.getElem?_eq_getElem (by simpa using hj)] at e
      simp only [Option.getD_some] at e
      have hpw := List.pairwise_iff_getElem.1 hnda
      rcases Nat.lt_trichotomy i j with h | h | h
      · exact absurd e (hpw i j (by simpa using hi) (by simpa using hj) h)
      · exact h
      · exact absurd e.symm (hpw j i (by simpa using hj) (by simpa using hi) h)
end Go.Proofs.YtmblonlmjbbkiaaDoor
