/- Long division's estimate by two limbs is right, or greater by one: arithmetic alone, for DivideNaturals. -/
import Derived.Test.YtcpipakpkmfhlaaVal
namespace Go.Proofs.Ytcpipakpkmfhlaa.Ints
open Go.RowKit
set_option linter.unusedVariables false

/-- H: the three highest limbs of the part; D: the two highest of the divisor; S: the power of the base below them. -/
theorem est_le {H D S A B q a0 b0 : Int} (hS : 0 < S) (hD : 0 < D) (hA : A = H * S + a0) (h1 : a0 < S) (hB : B = D * S + b0) (hb0 : 0 ≤ b0) (q0 : 0 ≤ q) (hq : q * B ≤ A) : q ≤ H / D := by
  have e1 : q * B = q * D * S + q * b0 := by rw [hB, Int.mul_add, Int.mul_assoc]
  have e2 : 0 ≤ q * b0 := Int.mul_nonneg q0 hb0
  have e3 : (H + 1) * S = H * S + S := by rw [Int.add_mul, Int.one_mul]
  have e4 : q * D * S < (H + 1) * S := by omega
  have e5 : q * D < H + 1 := Int.lt_of_mul_lt_mul_right e4 (Int.le_of_lt hS)
  exact Int.le_ediv_of_mul_le hD (by omega)
theorem est_ge {H D S A B b a0 b0 : Int} (hS : 0 < S) (hb : 0 < b) (hD : b ≤ D) (hH : 0 ≤ H) (hA : A = H * S + a0) (h0 : 0 ≤ a0) (hB : B = D * S + b0) (hb1 : b0 < S) (hAB : A < B * b) : (H / D - 1) * B ≤ A := by
  have hD0 : 0 < D := by omega
  obtain ⟨E, hE⟩ : ∃ E, E = H / D := ⟨_, rfl⟩
  rw [← hE]
  have g1 : E * D ≤ H := by rw [hE]; exact Int.ediv_mul_le _ (by omega)
  have g0 : 0 ≤ E := by rw [hE]; exact Int.ediv_nonneg hH (by omega)
  -- E is at most b
  have k1 : B ≤ (D + 1) * S := by rw [Int.add_mul, Int.one_mul]; omega
  have k2 : B * b ≤ (D + 1) * S * b := Int.mul_le_mul_of_nonneg_right k1 (Int.le_of_lt hb)
  have k3 : H * S < (D + 1) * b * S := by
    have : (D + 1) * S * b = (D + 1) * b * S := by rw [Int.mul_assoc, Int.mul_comm S b, ← Int.mul_assoc]
    omega
  have k4 : H < (D + 1) * b := Int.lt_of_mul_lt_mul_right k3 (Int.le_of_lt hS)
  have k5 : E * D < (b + 1) * D := by
    have e1 : (D + 1) * b = b * D + b := by rw [Int.add_mul, Int.one_mul, Int.mul_comm]
    have e2 : (b + 1) * D = b * D + D := by rw [Int.add_mul, Int.one_mul]
    omega
  have k6 : E < b + 1 := Int.lt_of_mul_lt_mul_right k5 (Int.le_of_lt hD0)
  by_cases hz : E = 0
  · subst hz
    have hB0 : 0 ≤ B := by
      have : 0 ≤ D * S := Int.mul_nonneg (by omega) (by omega)
      by_cases h : 0 ≤ b0
      · omega
      · -- a divisor's low part is not negative; else the product is settled by A's bound
        have hA0 : 0 ≤ A := by rw [hA]; have := Int.mul_nonneg hH (Int.le_of_lt hS); omega
        have hBb : 0 < B * b := by omega
        by_cases hB' : 0 ≤ B
        · exact hB'
        · have := Int.mul_nonpos_of_nonpos_of_nonneg (show B ≤ 0 by omega) (Int.le_of_lt hb)
          omega
    have hA0 : 0 ≤ A := by rw [hA]; have := Int.mul_nonneg hH (Int.le_of_lt hS); omega
    have : (0 - 1) * B = -B := by omega
    omega
  · have m1 : (E - 1) * B ≤ (E - 1) * ((D + 1) * S) := Int.mul_le_mul_of_nonneg_left k1 (by omega)
    have m2 : (E - 1) * ((D + 1) * S) = ((E - 1) * (D + 1)) * S := by rw [Int.mul_assoc]
    have m3 : (E - 1) * (D + 1) = E * D - D + E - 1 := by rw [Int.sub_mul, Int.mul_add, Int.mul_one, Int.one_mul]; omega
    have m4 : (E - 1) * (D + 1) ≤ H := by omega
    have m5 : ((E - 1) * (D + 1)) * S ≤ H * S := Int.mul_le_mul_of_nonneg_right m4 (Int.le_of_lt hS)
    omega
theorem est_base {H D S A B b a0 b0 : Int} (hS : 0 < S) (hb : 0 < b) (hD : b ≤ D) (hH : 0 ≤ H) (hA : A = H * S + a0) (h0 : 0 ≤ a0) (hB : B = D * S + b0) (hb1 : b0 < S) (hAB : A < B * b) : 0 ≤ H / D ∧ H / D ≤ b := by
  have hD0 : 0 < D := by omega
  obtain ⟨E, hE⟩ : ∃ E, E = H / D := ⟨_, rfl⟩
  rw [← hE]
  have g1 : E * D ≤ H := by rw [hE]; exact Int.ediv_mul_le _ (by omega)
  have g0 : 0 ≤ E := by rw [hE]; exact Int.ediv_nonneg hH (by omega)
  have k1 : B ≤ (D + 1) * S := by rw [Int.add_mul, Int.one_mul]; omega
  have k2 : B * b ≤ (D + 1) * S * b := Int.mul_le_mul_of_nonneg_right k1 (Int.le_of_lt hb)
  have k3 : H * S < (D + 1) * b * S := by
    have : (D + 1) * S * b = (D + 1) * b * S := by rw [Int.mul_assoc, Int.mul_comm S b, ← Int.mul_assoc]
    omega
  have k4 : H < (D + 1) * b := Int.lt_of_mul_lt_mul_right k3 (Int.le_of_lt hS)
  have k5 : E * D < (b + 1) * D := by
    have e1 : (D + 1) * b = b * D + b := by rw [Int.add_mul, Int.one_mul, Int.mul_comm]
    have e2 : (b + 1) * D = b * D + D := by rw [Int.add_mul, Int.one_mul]
    omega
  have k6 : E < b + 1 := Int.lt_of_mul_lt_mul_right k5 (Int.le_of_lt hD0)
  omega
end Go.Proofs.Ytcpipakpkmfhlaa.Ints
