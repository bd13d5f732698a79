/- Contracts of SetNumber, of the model and of the program. -/
import Derived.Test.YtoppaipiibaocaaSn
import Derived.Test.YtoppaipiibaocaaOwn
import Derived.Test.YtoppaipiibaocaaWvI
namespace Go.Proofs.Ytoppaipiibaocaa.Ints
open Go.RowKit
set_option linter.unusedVariables false

theorem specInR (n lo hi : Int) (r : Bool) (w : World) (h : r = (decide (lo ≤ n) && decide (n ≤ hi))) : Calls Try.prog 47 #[.int .i64 n, .int .i64 lo, .int .i64 hi] w fun e w' => e = .returned (.bool r) ∧ w = w' := by
  subst h
  by_cases h0 : lo ≤ n
  · by_cases h1 : n ≤ hi
    · have e : Hid ((decide (lo ≤ n) && decide (n ≤ hi)) = true) := Lib.hid (by simp [h0, h1])
      go_enter Try.func47, Try.ntmps47
      go_wp2
      go_ret
      exact ⟨by rw [e.out] <;> rfl, rfl⟩
    · have e : Hid ((decide (lo ≤ n) && decide (n ≤ hi)) = false) := Lib.hid (by simp [h1])
      have d0 : decide (lo ≤ n) = true := decide_eq_true h0
      have d1 : decide (n ≤ hi) = false := decide_eq_false h1
      clear h0 h1
      go_enter Try.func47, Try.ntmps47
      go_wp2
      go_ret
      exact ⟨by rw [e.out] <;> rfl, rfl⟩
  · have e : Hid ((decide (lo ≤ n) && decide (n ≤ hi)) = false) := Lib.hid (by simp [h0])
    have d0 : decide (lo ≤ n) = false := decide_eq_false h0
    clear h0
    go_enter Try.func47, Try.ntmps47
    go_wp2
    go_ret
    exact ⟨by rw [e.out] <;> rfl, rfl⟩

theorem specInQ (n lo hi : Int) (r : Bool) (w : World) (h : r = (decide (lo ≤ n) && decide (n ≤ hi))) : Calls Try.prog 47 #[.int .i64 n, .int .i64 lo, .int .i64 hi] w fun e w' => e = .returned (.bool r) ∧ w' = w :=
  (specInR n lo hi r w h).mono fun _ _ h => ⟨h.1, h.2.symm⟩
end Go.Proofs.Ytoppaipiibaocaa.Ints
