/- Contracts of CompareLists, of the model and of the program. -/
import Derived.Test.YtgfidlppocheoaaInts
namespace Go.Proofs.Ytgfidlppocheoaa.Ints
open Go.RowKit
set_option linter.unusedVariables false

/-- The lexicographic comparison. -/
def cmpL : List Int → List Int → Int
  | [], [] => 0
  | [], _ :: _ => -1
  | _ :: _, [] => 1
  | a :: s, b :: t => if a < b then -1 else if b < a then 1 else cmpL s t
theorem drop_at (zs : List Int) (k : Nat) (h : k < zs.length) : zs.drop k = zs.getD k 0 :: zs.drop (k + 1) := by
  rw [List.drop_eq_getElem_cons h]; simp [List.getD_eq_getElem?_getD, List.getElem?_eq_getElem h]
theorem cmp_lt {xs ys : List Int} {k : Nat} (h : k < xs.length) (h' : k < ys.length) (hl : xs.getD k 0 < ys.getD k 0) : cmpL (xs.drop k) (ys.drop k) = -1 := by
  rw [drop_at xs k h, drop_at ys k h', cmpL, if_pos hl]
theorem cmp_gt {xs ys : List Int} {k : Nat} (h : k < xs.length) (h' : k < ys.length) (hl : ys.getD k 0 < xs.getD k 0) : cmpL (xs.drop k) (ys.drop k) = 1 := by
  rw [drop_at xs k h, drop_at ys k h', cmpL, if_neg (by omega), if_pos hl]
theorem cmp_eq {xs ys : List Int} {k : Nat} (h : k < xs.length) (h' : k < ys.length) (h1 : ¬ xs.getD k 0 < ys.getD k 0) (h2 : ¬ ys.getD k 0 < xs.getD k 0) : cmpL (xs.drop k) (ys.drop k) = cmpL (xs.drop (k + 1)) (ys.drop (k + 1)) := by
  rw [drop_at xs k h, drop_at ys k h', cmpL, if_neg h1, if_neg h2]
theorem cmp_end {xs ys : List Int} {k : Nat} (h : k ≤ xs.length) (h' : k ≤ ys.length) (hn : ¬ (k < xs.length ∧ k < ys.length)) :
    cmpL (xs.drop k) (ys.drop k) = if xs.length < ys.length then -1 else if ys.length < xs.length then 1 else 0 := by
  by_cases hx : k < xs.length
  · have hy : ys.drop k = [] := List.drop_eq_nil_of_le (by omega)
    rw [drop_at xs k hx, hy, cmpL, if_neg (by omega), if_pos (by omega)]
  · have hx' : xs.drop k = [] := List.drop_eq_nil_of_le (by omega)
    rw [hx']
    by_cases hy : k < ys.length
    · rw [drop_at ys k hy, cmpL, if_pos (by omega)]
    · rw [List.drop_eq_nil_of_le (by omega : ys.length ≤ k), cmpL, if_neg (by omega), if_neg (by omega)]

end Go.Proofs.Ytgfidlppocheoaa.Ints
