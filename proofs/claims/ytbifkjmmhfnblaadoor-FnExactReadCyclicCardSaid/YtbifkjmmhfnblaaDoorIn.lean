/- The model's test of bounds. -/
import Derived.Test.YtbifkjmmhfnblaaDoorInts
import Derived.Test.YtbifkjmmhfnblaaDoorOwn
namespace Go.Proofs.YtbifkjmmhfnblaaDoor.Ints
open Go.RowKit
set_option linter.unusedVariables false
set_option linter.unusedSimpArgs false
theorem specInB (n lo hi : Int) (b : Bool) (w : World) (h : b = true ↔ (lo ≤ n ∧ n ≤ hi)) : Calls Tryd.prog 43 #[.int .i64 n, .int .i64 lo, .int .i64 hi] w fun e w' => e = .returned (.bool b) ∧ w' = w := by
  cases b with
  | true =>
    obtain ⟨h0, h1⟩ := h.1 rfl
    clear h
    go_enter Tryd.func43, Tryd.ntmps43
    go_wp2
    go_ret
    exact ⟨rfl, rfl⟩
  | false =>
    have hn : ¬ (lo ≤ n ∧ n ≤ hi) := fun h' => by cases h.2 h'
    clear h
    by_cases h0 : lo ≤ n
    · have h1 : decide (n ≤ hi) = false := decide_eq_false (fun h1 => hn ⟨h0, h1⟩)
      clear hn
      go_enter Tryd.func43, Tryd.ntmps43
      go_wp2
      go_ret
      exact ⟨rfl, rfl⟩
    · clear hn
      go_enter Tryd.func43, Tryd.ntmps43
      go_wp2
      go_ret
      exact ⟨rfl, rfl⟩
theorem specInY (n lo hi : Int) (w : World) (h : lo ≤ n ∧ n ≤ hi) : Calls Tryd.prog 43 #[.int .i64 n, .int .i64 lo, .int .i64 hi] w fun e w' => e = .returned (.bool true) ∧ w' = w := specInB n lo hi true w ⟨fun _ => h, fun _ => rfl⟩
theorem specInN (n lo hi : Int) (w : World) (h : ¬ (lo ≤ n ∧ n ≤ hi)) : Calls Tryd.prog 43 #[.int .i64 n, .int .i64 lo, .int .i64 hi] w fun e w' => e = .returned (.bool false) ∧ w' = w := specInB n lo hi false w ⟨fun h' => (by cases h'), fun h' => absurd h' h⟩
end Go.Proofs.YtbifkjmmhfnblaaDoor.Ints
