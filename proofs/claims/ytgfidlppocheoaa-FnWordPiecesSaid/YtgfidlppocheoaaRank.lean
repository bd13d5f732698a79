/- Contracts of RankWord, of the model and of the program. -/
import Derived.Test.YtgfidlppocheoaaWord
namespace Go.Proofs.Ytgfidlppocheoaa.Ints
open Go.RowKit
set_option linter.unusedVariables false
def rankGo (letters : Int) : List Int → Int → Int × Int
  | [], r => (r, 0)
  | x :: xs, r => if 1000000000000 < r * letters + x + 1 then (0, 5) else rankGo letters xs (r * letters + x + 1)
noncomputable def rankOf (zs : List Int) (letters : Int) : Int × Int :=
  if wordB zs = false then (0, 1) else if (decide (1 ≤ letters ∧ letters ≤ 10) && digB letters zs) = false then (0, 2) else rankGo letters zs 0
theorem rankGo_end {letters r : Int} {zs : List Int} {k : Nat} (h : zs.length ≤ k) : rankGo letters (zs.drop k) r = (r, 0) := by rw [List.drop_eq_nil_of_le h, rankGo]
theorem rankGo_full {letters r : Int} {zs : List Int} {k : Nat} (h : k < zs.length) (hb : 1000000000000 < r * letters + zs.getD k 0 + 1) : rankGo letters (zs.drop k) r = (0, 5) := by
  rw [List.drop_eq_getElem_cons h, rankGo]
  have e : zs[k] = zs.getD k 0 := by simp [List.getD_eq_getElem?_getD, List.getElem?_eq_getElem h]
  rw [e, if_pos hb]
theorem rankGo_step {letters r : Int} {zs : List Int} {k : Nat} (h : k < zs.length) (hb : ¬ 1000000000000 < r * letters + zs.getD k 0 + 1) : rankGo letters (zs.drop k) r = rankGo letters (zs.drop (k + 1)) (r * letters + zs.getD k 0 + 1) := by
  rw [List.drop_eq_getElem_cons h, rankGo]
  have e : zs[k] = zs.getD k 0 := by simp [List.getD_eq_getElem?_getD, List.getElem?_eq_getElem h]
  rw [e, if_neg hb]
theorem mul_le10 {r l : Int} (r0 : 0 ≤ r) (r1 : r ≤ 1000000000000) (l0 : 1 ≤ l) (l1 : l ≤ 10) : 0 ≤ r * l ∧ r * l ≤ 10000000000000 := by
  have a : r * l ≤ r * 10 := Int.mul_le_mul_of_nonneg_left l1 r0
  have b : 0 ≤ r * l := Int.mul_nonneg r0 (by omega)
  omega
noncomputable def overB (zs : List Int) (letters : Int) : Bool := decide (1 ≤ letters ∧ letters ≤ 10) && (wordB zs && digB letters zs)
theorem rankOf_over {zs : List Int} {letters : Int} (h : wordB zs = true) : rankOf zs letters = if overB zs letters = false then (0, 2) else rankGo letters zs 0 := by
  simp [rankOf, overB, h]
end Go.Proofs.Ytgfidlppocheoaa.Ints
