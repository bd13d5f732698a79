/- Counters: the laws' helpers. -/
import Derived.Test.YtemooadcjdngdaaDoorCel
namespace Go.Proofs.YtemooadcjdngdaaDoor.Ints
open Go.RowKit
set_option linter.unusedVariables false
set_option linter.unusedSimpArgs false
theorem toCnt (x y z : Int) (w : World) : Calls Tryd.prog 17 #[.agg #[.int .i64 x, .int .i64 y, .int .i64 z]] w fun e w' => e = .returned (.agg #[.int .i64 x, .int .i64 y, .int .i64 z]) ∧ Below w.heap.size w w' := by
  go_enter Tryd.func17, Tryd.ntmps17
  go_wp2
  refine bodyPost_ret (v := .agg #[.int .i64 x, .int .i64 y, .int .i64 z]) (by simp [results, Tryd.f17, go_sem]) rfl ⟨rfl, ?_⟩
  exact (((Below.refl _ _).alloc (Nat.le_refl _) _).alloc (by simp) _).alloc (by simp; omega) _
theorem fit64_of {x : Int} (h : (Lit.int .i64 x).wf = true) : fit64 x := bounds_i64 h
end Go.Proofs.YtemooadcjdngdaaDoor.Ints
