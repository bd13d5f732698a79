/- Counters: the laws' helpers. -/
import Derived.Test.YtbifkjmmhfnblaaDoorCel
namespace Go.Proofs.YtbifkjmmhfnblaaDoor.Ints
open Go.RowKit
set_option linter.unusedVariables false
set_option linter.unusedSimpArgs false
theorem eqCnt (x y z : Int) (w : World) : Calls Tryd.prog 16 #[.agg #[.int .i64 x, .int .i64 y, .int .i64 z], .agg #[.int .i64 x, .int .i64 y, .int .i64 z]] w fun e w' => e = .returned (.bool true) ∧ Below w.heap.size w w' := by
  go_enter Tryd.func16, Tryd.ntmps16
  go_wp2
  go_ret
  exact ⟨rfl, ((Below.refl _ _).alloc (Nat.le_refl _) _).alloc (by simp) _⟩
theorem fit64_of {x : Int} (h : (Lit.int .i64 x).wf = true) : fit64 x := bounds_i64 h
end Go.Proofs.YtbifkjmmhfnblaaDoor.Ints
