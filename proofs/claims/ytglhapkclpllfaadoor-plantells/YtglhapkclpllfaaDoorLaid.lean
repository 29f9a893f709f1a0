/-
  What the rows' condition on the listed package variables gives the walks: the sentinels of package api, each apart from the others; the handle of the type error.
  Conditions: the row's own ('laid').
-/
import Derived.Test.YtglhapkclpllfaaDoorCode
import Derived.Test.YtglhapkclpllfaaDoorSents
import Derived.Test.YtglhapkclpllfaaDoorRows
import Derived.LaidLaws
import Derived.LaidSub
import Derived.LaidHandle
import Derived.Stop.LaidErr
namespace Go.Proofs.YtglhapkclpllfaaDoor
open Go.RowKit Go.ChangeShapes

theorem Tryd.rtRow : (Tryd.prog.cutTypes.find? (·.1 == "internal/reflectlite.rtype")).map (·.2) = some 125 := by kernel_rfl
theorem Tryd.errRow : ((List.range 202).filter fun t => Tryd.prog.rowNamed t [101, 114, 114, 111, 114]) = [25] := by kernel_rfl
theorem Tryd.ntypes : Tryd.prog.types.size = 202 := by kernel_rfl
theorem Tryd.etNamed : Tryd.prog.globalNamed "errors.errorType" = some 11 := by kernel_rfl
theorem handle_of_laid {W : World} {l : List (String × DataW Unit)} (h : handlesMet Tryd.prog l W) (hm : ("errors.errorType", Rows.laid_errors_errorType) ∈ l) : W.cell? ⟨11, 0, none⟩ = some (.iface 125 (.agg #[.pointer (some ⟨20, 25, none⟩)])) := by
  obtain ⟨name, u, ty, e1, e2, e3, e4, e5⟩ := h _ hm
  have en : name = [101, 114, 114, 111, 114] := (Option.some.inj e1).symm
  subst en
  obtain rfl := Option.some.inj (Tryd.rtRow.symm.trans e2)
  have hm : ty ∈ (List.range 202).filter fun t => Tryd.prog.rowNamed t [101, 114, 114, 111, 114] := List.mem_filter.2 ⟨List.mem_range.2 (by rw [← Tryd.ntypes]; exact e3), e4⟩
  rw [Tryd.errRow] at hm
  obtain rfl := List.mem_singleton.1 hm
  have hh : typeHandle Tryd.prog 25 = .pointer (some ⟨20, 25, none⟩) := by kernel_rfl
  rw [hh] at e5
  simpa using World.var?_cell Tryd.etNamed e5 0

/-- The eleven of package api, by their names and texts. -/
def apiErrs : List (String × List UInt8) := [("bargelock/api.ErrText", [98, 97, 114, 103, 101, 108, 111, 99, 107, 58, 32, 116, 101, 120, 116]), ("bargelock/api.ErrBound", [98, 97, 114, 103, 101, 108, 111, 99, 107, 58, 32, 98, 111, 117, 110, 100]), ("bargelock/api.ErrShape", [98, 97, 114, 103, 101, 108, 111, 99, 107, 58, 32, 115, 104, 97, 112, 101]), ("bargelock/api.ErrNode", [98, 97, 114, 103, 101, 108, 111, 99, 107, 58, 32, 110, 111, 100, 101]), ("bargelock/api.ErrNone", [98, 97, 114, 103, 101, 108, 111, 99, 107, 58, 32, 110, 111, 110, 101]), ("bargelock/api.ErrExist", [98, 97, 114, 103, 101, 108, 111, 99, 107, 58, 32, 101, 120, 105, 115, 116]), ("bargelock/api.ErrFull", [98, 97, 114, 103, 101, 108, 111, 99, 107, 58, 32, 102, 117, 108, 108]), ("bargelock/api.ErrSum", [98, 97, 114, 103, 101, 108, 111, 99, 107, 58, 32, 115, 117, 109]), ("bargelock/api.ErrLate", [98, 97, 114, 103, 101, 108, 111, 99, 107, 58, 32, 108, 97, 116, 101]), ("bargelock/api.ErrGap", [98, 97, 114, 103, 101, 108, 111, 99, 107, 58, 32, 103, 97, 112]), ("bargelock/api.ErrOff", [98, 97, 114, 103, 101, 108, 111, 99, 107, 58, 32, 111, 102, 102])]

/-- From a list that has the eleven and the handle to the walks' condition. -/
theorem sent_of_laid {W : World} {l : List (String × DataW Unit)} (keep : String × DataW Unit → Bool) (h : laidMetH Tryd.prog l W)
    (hk : (l.filter fun x => x.2.handleName?.isNone).filter keep = apiErrs.map esEntry) (hm : ("errors.errorType", Rows.laid_errors_errorType) ∈ l.filter fun x => x.2.handleName?.isSome) : ∃ a, Sent a W := by
  obtain ⟨h1, h2⟩ := laidMetH_iff.1 h
  have h3 := h1.filter keep
  rw [hk] at h3
  obtain ⟨ps, hv, hnd, hrows⟩ := h3
  obtain ⟨sa, hlen, hnda, hvs, hrs, _⟩ := sents_of_laid Tryd.underlying25 Tryd.rowES Tryd.underlying73 Tryd.underlying75 rfl rfl Tryd.underlying9 Tryd.cellsEST Tryd.cellsSTR apiErrs W ps hv hnd hrows (by kernel_rfl)
  have hl : sa.length = 11 := hlen
  match sa, hl, hnda, hvs, hrs with
  | [a0, a1, a2, a3, a4, a5, a6, a7, a8, a9, a10], _, hnda, hvs, hrs =>
    have cell : ∀ i (hi : i < 11) (g : Nat), Tryd.prog.globalNamed apiErrs[i].1 = some g → W.cell? ⟨g, 0, none⟩ = some (.iface 73 (.pointer (some ([a0, a1, a2, a3, a4, a5, a6, a7, a8, a9, a10][i])))) := fun i hi g hg => by
      simpa using World.var?_cell hg (hvs i hi hi) 0
    refine ⟨fun k => [a0, a1, a2, a3, a4, a5, a6, a7, a8, a9, a10].getD k a0, ⟨cell 0 (by decide) _ (by kernel_rfl), cell 1 (by decide) _ (by kernel_rfl), cell 2 (by decide) _ (by kernel_rfl), cell 3 (by decide) _ (by kernel_rfl), cell 4 (by decide) _ (by kernel_rfl), cell 5 (by decide) _ (by kernel_rfl),
      cell 6 (by decide) _ (by kernel_rfl), cell 7 (by decide) _ (by kernel_rfl), cell 8 (by decide) _ (by kernel_rfl), cell 9 (by decide) _ (by kernel_rfl), cell 10 (by decide) _ (by kernel_rfl), handle_of_laid h2 hm, ?_, ?_⟩⟩
    · intro k hk
      rw [List.getD_eq_getElem?_getD, List.getElem?_eq_getElem (by simpa using hk)]
      exact hrs _ (List.getElem_mem _)
    · intro i j hi hj e
      rw [List.getD_eq_getElem?_getD, List.getElem?_eq_getElem (by simpa using hi), List.getD_eq_getElem?_getD, List.getElem?_eq_getElem (by simpa using hj)] at e
      simp only [Option.getD_some] at e
      have hpw := List.pairwise_iff_getElem.1 hnda
      rcases Nat.lt_trichotomy i j with h | h | h
      · exact absurd e (hpw i j (by simpa using hi) (by simpa using hj) h)
      · exact h
      · exact absurd e.symm (hpw j i (by simpa using hj) (by simpa using hi) h)
end Go.Proofs.YtglhapkclpllfaaDoor
