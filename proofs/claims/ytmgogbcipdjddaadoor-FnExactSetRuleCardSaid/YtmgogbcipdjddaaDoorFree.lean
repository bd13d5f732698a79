/- Contracts of FreeRules, of the model and of the program. -/
import Derived.Test.YtmgogbcipdjddaaDoorTurI
import Derived.Test.YtmgogbcipdjddaaDoorMark
namespace Go.Proofs.YtmgogbcipdjddaaDoor.Ints
open Go.RowKit
set_option linter.unusedVariables false
set_option linter.unusedSimpArgs false
def IsNo (r : Ru) : Prop := r.wr = 0 ∧ r.mv = 0 ∧ r.nx = -1
instance (r : Ru) : Decidable (IsNo r) := inferInstanceAs (Decidable (_ ∧ _ ∧ _))
/-- The indices below k at which there is no rule. -/
def freeTo (rs : List Ru) : Nat → List Int
  | 0 => []
  | k + 1 => if IsNo (rs.getD k ru0) then freeTo rs k ++ [(k : Int)] else freeTo rs k
theorem freeTo_yes {rs : List Ru} {k : Nat} (h : IsNo (rs.getD k ru0)) : freeTo rs (k + 1) = freeTo rs k ++ [(k : Int)] := by rw [freeTo, if_pos h]
theorem freeTo_no {rs : List Ru} {k : Nat} (h : ¬ IsNo (rs.getD k ru0)) : freeTo rs (k + 1) = freeTo rs k := by rw [freeTo, if_neg h]
theorem freeTo_len (rs : List Ru) (k : Nat) : (freeTo rs k).length ≤ k := by
  induction k with
  | zero => simp [freeTo]
  | succ k ih =>
    rw [freeTo]
    split
    · rw [List.length_append]; simp; omega
    · omega
theorem no_cases {x y z : Int} (h : ¬ IsNo ⟨x, y, z⟩) : (x == 0) = false ∨ ((x == 0) = true ∧ (y == 0) = false) ∨ ((x == 0) = true ∧ (y == 0) = true ∧ (z == -1) = false) := by
  simp only [IsNo] at h
  simp only [beq_eq_false_iff_ne, beq_iff_eq]; omega
noncomputable def frL (sy st : Int) (rs : List Ru) : List Int := if machB sy st rs = true then freeTo rs rs.length else []
noncomputable def frC (sy st : Int) (rs : List Ru) : Int := if machB sy st rs = true then 0 else 1
theorem appendIdx_fits (k : Nat) (h : k ≤ 16777216) : -9223372036854775808 ≤ (k : Int) ∧ (k : Int) ≤ 9223372036854775807 := by omega
end Go.Proofs.YtmgogbcipdjddaaDoor.Ints
