/- Primes: the model's trial division and the program's wheel. -/
import Derived.Test.YtmbojhlcmgknbaaMath
import Derived.Test.YtmbojhlcmgknbaaOwn
import Derived.Handy
import Derived.Lib.Hide
namespace Go.Proofs.Ytmbojhlcmgknbaa.Math
open Go.RowKit
set_option linter.unusedVariables false
set_option linter.unusedSimpArgs false
set_option maxHeartbeats 1000000 in
theorem spec_prime (n : Int) (w : World) (h1 : 2 ≤ n) (h2 : n ≤ 1000000000000) :
    Calls Try.prog 12 #[.int .i64 n] w fun x w' => x = .returned (.bool (primeB n)) ∧ w = w' := by
  have t1 : ¬ n < 2 := by omega
  go_enter Try.func12, Try.ntmps12
  go_wp2
  go_loop [3] (fun x => ∃ d : Int, 2 ≤ d ∧ d ≤ 1000010 ∧ x = .int .i64 d ∧ ∀ y : Int, 2 ≤ y → y < d → n % y ≠ 0) (fun x => (1000020 - intOf x).toNat)
  case atStart => exact ⟨2, by omega, by omega, rfl, fun y a b => by omega⟩
  case round =>
    obtain ⟨d, hd1, hd2, rfl, hall⟩ := hrel
    have HA := Lib.hid hall
    clear hall
    obtain ⟨s0, s1⟩ := sq_facts (d := d) (by omega) hd2
    by_cases hle : d * d ≤ n
    · have hr := root_le (d := d) (by omega)
      by_cases hz : n % d = 0
      · have hb : (n % d == 0) = true := by simp [hz]
        have HF := Lib.hid (primeB_false (one_found hd1 hle hz))
        clear hz
        go_wp2
        go_ret
        exact ⟨by rw [HF.out] <;> rfl, rfl⟩
      · have hb : (n % d == 0) = false := by simp [hz]
        have HN : Hid (∀ y : Int, 2 ≤ y → y < d + 1 → n % y ≠ 0) := Lib.hid (fun y a b => by
          by_cases hy : y = d
          · subst hy; exact hz
          · exact HA.out y a (by omega))
        have hd3 : d ≤ 1000000 := hr
        clear hz hr
        go_wp2
        go_round
        case rel => exact ⟨d + 1, by omega, by omega, rfl, HN.out⟩
        case measure => simp [intOf]; omega
    · have HF := Lib.hid (primeB_true (none_left hd1 (by omega) HA.out))
      go_wp2
      go_ret
      exact ⟨by rw [HF.out] <;> rfl, rfl⟩
set_option maxHeartbeats 1000000 in
theorem impl_wheel (n : Int) (w : World) (h1 : 5 ≤ n) (h2 : n ≤ 1000000000000) (h3 : n % 2 ≠ 0) (h4 : n % 3 ≠ 0) :
    Calls Try.prog 27 #[.int .i64 n] w fun x w' => x = .returned (.bool (primeB n)) ∧ w = w' := by
  have t1 : ¬ n < 2 := by omega
  have t2 : ¬ 1000000000000 < n := by omega
  have t3 : (n % 2 == 0) = false := by simp [h3]
  have t4 : (n % 3 == 0) = false := by simp [h4]
  have H3 := Lib.hid h3
  have H4 := Lib.hid h4
  clear h3 h4
  go_enter Try.func27, Try.ntmps27
  go_wp2
  go_loop [3] (fun x => ∃ (d : Int) (k : Nat), d = 6 * k + 5 ∧ d ≤ 1000010 ∧ x = .int .i64 d ∧ ∀ y : Int, 2 ≤ y → y < d → n % y ≠ 0) (fun x => (1000020 - intOf x).toNat)
  case atStart => exact ⟨5, 0, by omega, by omega, rfl, Math.start H3.out H4.out⟩
  case round =>
    obtain ⟨d, k, hk, hd2, rfl, hall⟩ := hrel
    have HA := Lib.hid hall
    have hd1 : 5 ≤ d := by omega
    have HK := Lib.hid hk
    clear hall hk
    obtain ⟨s0, s1⟩ := sq_facts (d := d) (by omega) hd2
    by_cases hle : d * d ≤ n
    · have hd3 : d ≤ 1000000 := root_le (d := d) (by omega)
      by_cases hz : n % d = 0
      · have hb : (n % d == 0) = true := by simp [hz]
        have HF := Lib.hid (primeB_false (one_found (by omega) hle hz))
        clear hz
        go_wp2
        go_ret
        exact ⟨by rw [HF.out] <;> rfl, rfl⟩
      · have hb : (n % d == 0) = false := by simp [hz]
        by_cases hz2 : n % (d + 2) = 0
        · have hb2 : (n % (d + 2) == 0) = true := by simp [hz2]
          have HF := Lib.hid (primeB_false (wheel_none hd1 hle hz2))
          clear hz hz2
          go_wp2
          go_ret
          exact ⟨by rw [HF.out] <;> rfl, rfl⟩
        · have hb2 : (n % (d + 2) == 0) = false := by simp [hz2]
          have HN := Lib.hid (wheel HK.out H3.out H4.out hz hz2 HA.out)
          clear hz hz2
          go_wp2
          go_round
          case rel => exact ⟨d + 6, k + 1, by have := HK.out; omega, by omega, rfl, HN.out⟩
          case measure => simp [intOf]; omega
    · have HF := Lib.hid (primeB_true (none_left (by omega) (by omega) HA.out))
      go_wp2
      go_ret
      exact ⟨by rw [HF.out] <;> rfl, rfl⟩
theorem impl_prime (n : Int) (w : World) (h1 : 2 ≤ n) (h2 : n ≤ 1000000000000) :
    Calls Try.prog 27 #[.int .i64 n] w fun x w' => x = .returned (.bool (primeB n)) ∧ w = w' := by
  have t1 : ¬ n < 2 := by omega
  have t2 : ¬ 1000000000000 < n := by omega
  by_cases h3 : n % 2 = 0
  · have t3 : (n % 2 == 0) = true := by simp [h3]
    have HP : Hid (primeB n = decide (n ≤ 3)) := Lib.hid (by
      by_cases h : n ≤ 3
      · simp [h, primeB_true (small_prime h1 h)]
      · simp [h, primeB_false (even_none (by omega) h3)])
    clear h3
    go_enter Try.func27, Try.ntmps27
    go_wp2
    all_goals
      go_ret
      exact ⟨by rw [HP.out] <;> rfl, rfl⟩
  · by_cases h4 : n % 3 = 0
    · have t3 : (n % 2 == 0) = false := by simp [h3]
      have t4 : (n % 3 == 0) = true := by simp [h4]
      have HP : Hid (primeB n = decide (n ≤ 3)) := Lib.hid (by
        by_cases h : n ≤ 3
        · simp [h, primeB_true (small_prime h1 h)]
        · simp [h, primeB_false (third_none (by omega) h4)])
      clear h3 h4
      go_enter Try.func27, Try.ntmps27
      go_wp2
      all_goals
        go_ret
        exact ⟨by rw [HP.out] <;> rfl, rfl⟩
    · exact impl_wheel n w (by omega) h2 h3 h4
end Go.Proofs.Ytmbojhlcmgknbaa.Math
