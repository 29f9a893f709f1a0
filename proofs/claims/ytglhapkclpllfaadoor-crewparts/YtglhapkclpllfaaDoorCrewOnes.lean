/-
  The counting of math/bits.OnesCount64, at numbers below 65536, is the number of bits that are set: looked through, all of them, by the kernel.
-/
import Derived.Test.YtglhapkclpllfaaDoorCrewMath
import Derived.KernelRfl
namespace Go.Proofs.YtglhapkclpllfaaDoor
namespace Cm
def oc (x : Nat) : Nat :=
  let y1 := (x / 2 &&& 6148914691236517205) + (x &&& 6148914691236517205)
  let y2 := (y1 / 4 &&& 3689348814741910323) + (y1 &&& 3689348814741910323)
  let y3 := (y2 / 16 + y2) &&& 1085102592571150095
  let y4 := y3 + y3 / 256
  let y5 := y4 + y4 / 65536
  let y6 := y5 + y5 / 4294967296
  y6 &&& 127
def all2 (p : Nat → Bool) : Nat → Nat → Bool   -- of all x from base on, 2^f of them
  | 0, b => p b
  | f + 1, b => all2 p f b && all2 p f (b + 2 ^ f)
theorem all2_sound (p : Nat → Bool) : ∀ f b, all2 p f b = true → ∀ x, b ≤ x → x < b + 2 ^ f → p x = true
  | 0, b, h, x, h1, h2 => by
    have : x = b := by simp at h2; omega
    subst this; exact h
  | f + 1, b, h, x, h1, h2 => by
    simp only [all2, Bool.and_eq_true] at h
    rcases Nat.lt_or_ge x (b + 2 ^ f) with h' | h'
    · exact all2_sound p f b h.1 x h1 h'
    · exact all2_sound p f (b + 2 ^ f) h.2 x h' (by rw [Nat.pow_succ] at h2; omega)
theorem oc_all : all2 (fun x => oc x == many x) 16 0 = true := by kernel_rfl
theorem oc_many (x : Nat) (h : x ≤ 65535) : oc x = many x := eq_of_beq (all2_sound _ 16 0 oc_all x (Nat.zero_le _) (by omega))
end Cm
end Go.Proofs.YtglhapkclpllfaaDoor
