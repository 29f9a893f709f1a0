/-
  What a row's condition on listed sentinel errors gives: each variable holds a pointer to an errorString, all apart from each other.
  Conditions: the row's own ('laid').
-/
import Derived.Test.YtglhapkclpllfaaDoorProg
import Derived.WalkKit
import Derived.LaidLaws
import Derived.LaidSub
import Derived.Stop.LaidErr
namespace Go.Proofs.YtglhapkclpllfaaDoor
open Go.RowKit Go.ChangeShapes

theorem Tryd.star : "*" ++ "errors.errorString" = "*errors.errorString" := by decide
theorem Tryd.rowES (u : TypeId) (h : Tryd.prog.typeName? 3 u = some "*errors.errorString") : u = 73 :=
  typeName_ptr_named (nm := "errors.errorString") (by rw [Tryd.star]; kernel_rfl) (by kernel_rfl) (by decide) u (by rw [Tryd.star]; exact h)
theorem Tryd.cellsEST : Tryd.prog.cellsOf 75 = 1 := by kernel_rfl
theorem Tryd.cellsSTR : Tryd.prog.cellsOf 9 = 1 := by kernel_rfl

/-- A sentinel's row on the list: its name, its text. -/
def esEntry (x : String × List UInt8) : String × DataW Unit := (x.1, .iface "*errors.errorString" (.ptr (.agg [.lit (.string x.2)])))

theorem sents_of_laid {P : Program} {ti tp te ts : TypeId} {ms : Array (String × TypeId)} {f : Field} (hi : P.underlying ti = some (.interface ms)) (hrow : ∀ u, P.typeName? 3 u = some "*errors.errorString" → u = tp)
    (hp : P.underlying tp = some (.pointer te)) (he : P.underlying te = some (.struct #[f])) (hft : f.type = ts) (hfo : f.offset = 0) (hs : P.underlying ts = some .string) (hc : P.cellsOf te = 1) (hcs : P.cellsOf ts = 1) :
    ∀ (l : List (String × List UInt8)) (W : World) (ps : List MemPlace), DataW.LaidVars P W (l.map esEntry) ps → ps.Nodup →
    (∀ b off, MemPlace.cell b off ∈ ps → (∃ c t, W.heap[b]? = some (.cells c t (0, 0))) ∧ ∀ u v, W.cell? ⟨b, off, none⟩ = some (.iface u v) → Value.okWide P W .any 0 u v) →
    (l.all fun x => (P.globalNamed x.1).any fun g => (P.globals[g]?).any fun v => v.type == ti) = true →
    ∃ sa : List Addr, sa.length = l.length ∧ sa.Nodup ∧ (∀ i (h : i < l.length) (h' : i < sa.length), W.var? P l[i].1 = some #[.iface tp (.pointer (some sa[i]))]) ∧
      (∀ a ∈ sa, ∃ c t, W.heap[a.block]? = some (.cells c t (0, 0))) ∧ ∀ a ∈ sa, MemPlace.cell a.block a.off ∈ ps
  | [], W, ps, _, _, _, _ => ⟨[], rfl, List.nodup_nil, fun i h _ => absurd h (Nat.not_lt_zero _), (fun a h => absurd h List.not_mem_nil), (fun a h => absurd h List.not_mem_nil)⟩
  | (n, text) :: r, W, ps, hv, hnd, hrows, hty => by
    obtain ⟨g, t, cs, fuel, p, q, hg, ht, hvar, hd, hq, rfl⟩ := hv
    have hty1 : t = ti := by
      have := (List.all_eq_true.1 hty) _ (List.mem_cons_self)
      simp only [hg, Option.any_some] at this
      cases hgl : P.globals[g]? with
      | none => rw [hgl] at this; simp at this
      | some v =>
        rw [hgl] at this ht
        simp at this ht
        rw [← ht, this]
    subst hty1
    obtain ⟨l0⟩ := cs
    have ok0 : ∀ u v, l0 = [.iface u v] → Value.okWide P W .any 0 u v := fun u v e => by
      subst e
      exact (hrows g 0 (by simp [MemPlace.row])).2 u v (by simpa using World.var?_cell hg hvar 0)
    obtain ⟨a0, s0, rfl, hc0, hs0, hz0, rfl⟩ := errorString_of_trod hi hrow hp he hft hfo hs hc hcs hd ok0
    obtain ⟨sa, hlen, hnda, hvs, hrs, hps⟩ := sents_of_laid hi hrow hp he hft hfo hs hc hcs r W q hq (List.Nodup.sublist (List.sublist_append_right _ _) hnd) (fun b off hm => hrows b off (List.mem_append_right _ hm))
      (List.all_eq_true.2 fun x hx => (List.all_eq_true.1 hty) x (List.mem_cons_of_mem _ hx))
    have hin : MemPlace.cell a0.block a0.off ∈ MemPlace.row ⟨g, 0, none⟩ #[Value.iface tp (.pointer (some a0))].size ++ MemPlace.row a0 1 ++ q := by simp [MemPlace.row]
    refine ⟨a0 :: sa, by simp [hlen], List.nodup_cons.2 ⟨fun hm => ?_, hnda⟩, ?_, ?_, ?_⟩
    · have h1 := hps a0 hm
      have h2 : MemPlace.cell a0.block a0.off ∈ MemPlace.row ⟨g, 0, none⟩ #[Value.iface tp (.pointer (some a0))].size ++ MemPlace.row a0 1 := by simp [MemPlace.row]
      exact absurd rfl ((List.nodup_append.1 hnd).2.2 _ h2 _ h1)
    · intro i h h'
      cases i with
      | zero => exact hvar
      | succ i => exact hvs i (by simpa using h) (by simpa using h')
    · intro a ha
      rcases List.mem_cons.1 ha with rfl | ha
      · exact (hrows a.block a.off hin).1
      · exact hrs a ha
    · intro a ha
      rcases List.mem_cons.1 ha with rfl | ha
      · exact hin
      · exact List.mem_append_right _ (hps a ha)

/-- One sentinel, wherever it stands on the list. -/
theorem sent_at {W : World} {l : List (String × DataW Unit)} (h : laidMet Tryd.prog l W) (keep : String × DataW Unit → Bool) (x : String × List UInt8) (hk : l.filter keep = [esEntry x])
    (ht : ((Tryd.prog.globalNamed x.1).any fun g => (Tryd.prog.globals[g]?).any fun v => v.type == 25) = true) : ∃ a, W.var? Tryd.prog x.1 = some #[.iface 73 (.pointer (some a))] := by
  have h1 := h.filter keep
  rw [hk] at h1
  obtain ⟨ps, hv, hnd, hrows⟩ := h1
  obtain ⟨sa, hlen, _, hvs, _, _⟩ := sents_of_laid Tryd.underlying25 Tryd.rowES Tryd.underlying73 Tryd.underlying75 rfl rfl Tryd.underlying9 Tryd.cellsEST Tryd.cellsSTR [x] W ps hv hnd hrows (by simpa using ht)
  exact ⟨_, hvs 0 (by simp) (by rw [hlen]; simp)⟩
end Go.Proofs.YtglhapkclpllfaaDoor
