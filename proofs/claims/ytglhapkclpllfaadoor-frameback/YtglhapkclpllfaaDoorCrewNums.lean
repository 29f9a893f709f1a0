/-
  Numbers of 64 bits without a sign, as plain ones.
-/
import Derived.Test.YtglhapkclpllfaaDoorCrew0
namespace Go.Proofs.YtglhapkclpllfaaDoor
open Go.RowKit

theorem u64_and (a b : Nat) (ha : a < 18446744073709551616) (hb : b < 18446744073709551616) : bits .and .u64 (a : Int) (b : Int) = ((a &&& b : Nat) : Int) := bits_and_u64_nat a b ha hb
theorem u64_wrap (a : Nat) (ha : a < 18446744073709551616) : IntKind.u64.wrap (a : Int) = (a : Int) := by rw [IntKind.wrap_u64]; omega
end Go.Proofs.YtglhapkclpllfaaDoor
