/- The contract of the model's product of limbs. -/
import Derived.Test.YtmbojhlcmgknbaaMul
namespace Go.Proofs.Ytmbojhlcmgknbaa.Ints
open Go.RowKit
set_option linter.unusedVariables false

theorem mulArg (t y c z : Int) (t0 : 0 ≤ t) (t1 : t < 1000000) (y0 : 0 ≤ y) (y1 : y < 1000000) : 0 ≤ t * y ∧ t * y ≤ 999999000000 := by
  have := Int.mul_nonneg t0 y0
  have := (mul_bd t y (by omega) (by omega) y0 (by omega)).2
  omega
end Go.Proofs.Ytmbojhlcmgknbaa.Ints
