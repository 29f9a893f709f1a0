/-
  Package member's answers, all of them (structure MProg).
  Conditions: what packages frame and guard's errors need (structure MOk).
-/
import Derived.Test.YtglhapkclpllfacDoorMember4
namespace Go.Proofs.YtglhapkclpllfacDoor
open Go.RowKit

theorem goodM_no (f : Frm) (xs : List Int) (v : Vw) (hp : planOk xs) (h : v.ok) (hn : ¬ (f.fr = whoV xs v ∧ f.me = (withV xs v : Nat) ∧ f.mo = v.mo ∧ f.sl = v.sl)) (w : World) :
    Calls Tryd.prog 41 #[frmV f, v.val, .int .i64 (whoV xs v)] w fun r w' => r = .returned (.bool false) ∧ Below w.heap.size w w' := by
  obtain ⟨h1, h2⟩ := who_at hp v
  have hc : v.me.toNat ≤ 65535 := by have := h.1; omega
  have hme : ((v.me.toNat : Nat) : Int) = v.me := by have := h.1; omega
  by_cases c1 : f.fr = whoV xs v
  · have c1' : f.fr = ((atV xs v : Nat) : Int) + 1 := c1.trans h1
    have key : Calls Tryd.prog 41 #[frmV f, .agg #[.int .i64 (v.me.toNat : Nat), .int .i64 v.mo, .int .i64 v.sl], .int .i64 ((atV xs v : Int) + 1)] w fun r w' => r = .returned (.bool false) ∧ Below w.heap.size w w' := by
      by_cases c2 : f.me = (withV xs v : Nat)
      · by_cases c3 : f.mo = v.mo
        · by_cases c4 : f.sl = v.sl
          · exact absurd ⟨c1, c2, c3, c4⟩ hn
          · exact goodM_s f v.me.toNat v.mo v.sl hc (atV xs v) h2 c1' w ⟨c2, c3, c4⟩
        · exact goodM_o f v.me.toNat v.mo v.sl hc (atV xs v) h2 c1' w ⟨c2, c3⟩
      · exact goodM_m f v.me.toNat v.mo v.sl hc (atV xs v) h2 c1' w c2
    rw [hme, ← h1] at key
    exact key
  · exact goodM_far f v (whoV xs v) c1 w
theorem goodM_yes (f : Frm) (xs : List Int) (v : Vw) (hp : planOk xs) (h : v.ok) (hn : f.fr = whoV xs v ∧ f.me = (withV xs v : Nat) ∧ f.mo = v.mo ∧ f.sl = v.sl) (w : World) :
    Calls Tryd.prog 41 #[frmV f, v.val, .int .i64 (whoV xs v)] w fun r w' => r = .returned (.bool true) ∧ Below w.heap.size w w' := by
  obtain ⟨h1, h2⟩ := who_at hp v
  have hc : v.me.toNat ≤ 65535 := by have := h.1; omega
  have hme : ((v.me.toNat : Nat) : Int) = v.me := by have := h.1; omega
  have key := goodM_y f v.me.toNat v.mo v.sl hc (atV xs v) h2 (hn.1.trans h1) w hn.2
  rw [hme, ← h1] at key
  exact key
theorem stepM_O (e : Nat → TypeId × Value) (vl : Value) (xs : List Int) (v : Vw) (s : ByteArray) (w : World) (hv : IntsIn w vl xs) (hp : planOk xs) (h : v.ok) (hsl : v.sl < 1000000) (m : MOk e w) :
    Calls Tryd.prog 21 #[vl, v.val, .string s] w fun r w' => r = .returned (.tuple #[(nextV xs v (goodV xs v (readF s.data.toList))).val, (entV xs v (goodV xs v (readF s.data.toList))).val, .nilIface]) ∧ Below w.heap.size w w' := by
  obtain ⟨h1, h2⟩ := who_at hp v
  have hc : v.me.toNat ≤ 65535 := by have := h.1; omega
  have hme : ((v.me.toNat : Nat) : Int) = v.me := by have := h.1; omega
  have hs0 := h.2.2.1
  have hse : ∀ w', Below w.heap.size w w' → Calls Tryd.prog 36 #[vl, .agg #[.int .i64 v.me, .int .i64 v.mo, .int .i64 v.sl]] w' fun r w2 => r = .returned (.tuple #[.int .i64 (whoV xs v), .nilIface]) ∧ Below w'.heap.size w' w2 := fun w' hB => senderO e vl xs v w' (hv.below hB) hp h (m.below hB).g.p
  have hwo : ∀ w', Calls Tryd.prog 39 #[.agg #[.int .i64 v.me, .int .i64 v.mo, .int .i64 v.sl], .int .i64 (whoV xs v)] w' fun r w2 => r = .returned (.agg #[.int .i64 ((lessV xs v : Nat) : Int), .int .i64 v.mo, .int .i64 v.sl]) ∧ Below w'.heap.size w' w2 := fun w' => by
    have h3 := lessM_ok v.me.toNat v.mo v.sl hc (atV xs v) h2 w'
    rw [hme, ← h1] at h3
    exact h3
  have hre : ∀ w', Below w.heap.size w w' → Calls Tryd.prog 40 #[.string s] w' fun r w2 => r = .returned (readV (shE e) (readF s.data.toList)) ∧ Below w'.heap.size w' w2 := fun w' hB => fread_ok s (shE e) w' (m.below hB).fr
  cases hr : readF s.data.toList with
  | error k =>
    rw [hr] at hre
    exact stepM_A vl xs v.me v.mo v.sl (whoV xs v) (lessV xs v) s 0 0 0 0 0 (shE e k).1 (shE e k).2 w hv hs0 hsl hse hwo hre
  | ok f =>
    rw [hr] at hre
    by_cases hg : f.fr = whoV xs v ∧ f.me = (withV xs v : Nat) ∧ f.mo = v.mo ∧ f.sl = v.sl
    · have e1 : goodV xs v (.ok f) = some f.va := if_pos hg
      rw [e1]
      have key := stepM_C vl xs v.me v.mo v.sl (whoV xs v) (lessV xs v) s f.fr f.me f.mo f.sl f.va w hv hs0 hsl (by omega) (by omega) hse hwo hre (fun w' => goodM_yes f xs v hp h hg w')
      rw [hg.2.1, hg.2.2.1, hg.2.2.2] at key
      exact key
    · have e1 : goodV xs v (.ok f) = none := if_neg hg
      rw [e1]
      exact stepM_B vl xs v.me v.mo v.sl (whoV xs v) (lessV xs v) s f.fr f.me f.mo f.sl f.va w hv hs0 hsl hse hwo hre (fun w' => goodM_no f xs v hp h hg w')
theorem mprog (e : Nat → TypeId × Value) : MProg (MOk e) e where
  keep _ _ m hB := m.below hB
  plan _ m := m.g.p
  yes w x _ h := checkM_yes x h w
  no w x m h := checkM_no x h _ ⟨_, _, rfl⟩ w m.g.p.c1
  stP w vl xs v s m hv hp := stepM_P e vl xs v s w hv hp m
  stV w vl xs v s m hv hp h := stepM_V e vl xs v s w hv hp h m
  stF w vl xs v s m hv hp h hsl := stepM_F e vl xs v s w hv hp h hsl m
  stO w vl xs v s m hv hp h hsl := stepM_O e vl xs v s w hv hp h hsl m
  seP w vl xs v node value m hv hp := sendM_P e vl xs v node value w hv hp m
  seV w vl xs v node value m hv hp h := sendM_V e vl xs v node value w hv hp h m
  seL w vl xs v node value m hv hp h hne := sendM_L e vl xs v node value w hv hp h hne m
  seB w vl xs v value m hv hp h hval := by
    have key := sendM_O e vl xs v value w hv hp h m
    have he := send_err hp h value
    rw [if_neg hval] at he
    unfold makeV at key
    rw [he] at key
    exact key
  seO w vl xs v value m hv hp h hval := by
    have key := sendM_O e vl xs v value w hv hp h m
    have he := send_err hp h value
    rw [if_pos hval] at he
    unfold makeV at key
    rw [if_pos he] at key
    exact key
end Go.Proofs.YtglhapkclpllfacDoor
