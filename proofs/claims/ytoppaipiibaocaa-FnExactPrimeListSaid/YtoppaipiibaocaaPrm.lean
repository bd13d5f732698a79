/- Primes: the model's trial division and the program's wheel. -/
import Derived.Test.YtoppaipiibaocaaMath
import Derived.Test.YtoppaipiibaocaaOwn
import Derived.Handy
import Derived.Lib.Hide
namespace Go.Proofs.Ytoppaipiibaocaa.Math
open Go.RowKit
set_option linter.unusedVariables false
set_option linter.unusedSimpArgs false
set_option maxHeartbeats 1000000 in
theorem spec_prime (n : Int) (w : World) (h1 : 2 ≤ n) (h2 : n ≤ 1000000000000) :
    Calls Try.prog 91 #[.int .i64 n] w fun x w' => x = .returned (.bool (primeB n)) ∧ w = w' := by
  have t1 : ¬ n < 2 := by omega
  go_enter Try.func91, Try.ntmps91
  go_wp2
  go_loop [3] (fun x => ∃ d : Int, 2 ≤ d ∧ d ≤ 1000010 ∧ x = .int .i64 d ∧ ∀ y : Int, 2 ≤ y → y < d → n % y ≠ 0) (fun x => (1000020 - intOf x).toNat)
  case atStart => exact ⟨2, by omega, by omega, rfl, fun y a b => by omega⟩
  case round =>
    obtain ⟨d, hd1, hd2, rfl, hall⟩ := hrel
    have HA := Lib.hid hall
    clear hall
    obtain ⟨s0, s1⟩ := sq_facts (d := d) (by omega) hd2
    by_cases hle : d * d ≤ n
    · have hr := root_le (d := d) (by omega)
      by_cases hz : n % d = 0
      · have hb : (n % d == 0) = true := by simp [hz]
        have HF := Lib.hid (primeB_false (one_found hd1 hle hz))
        clear hz
        go_wp2
        go_ret
        exact ⟨by rw [HF.out] <;> rfl, rfl⟩
      · have hb : (n % d == 0) = false := by simp [hz]
        have HN : Hid (∀ y : Int, 2 ≤ y → y < d + 1 → n % y ≠ 0) := Lib.hid (fun y a b => by
          by_cases hy : y = d
          · subst hy; exact hz
          · exact HA.out y a (by omega))
        have hd3 : d ≤ 1000000 := hr
        clear hz hr
        go_wp2
        go_round
        case rel => exact ⟨d + 1, by omega, by omega, rfl, HN.out⟩
        case measure => simp [intOf]; omega
    · have HF := Lib.hid (primeB_true (none_left hd1 (by omega) HA.out))
      go_wp2
      go_ret
      exact ⟨by rw [HF.out] <;> rfl, rfl⟩
end Go.Proofs.Ytoppaipiibaocaa.Math
