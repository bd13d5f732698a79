/- The program's test that all lists of a list are naturals. -/
import Derived.Test.YtoppaipiibaocaaNat
import Derived.Test.YtoppaipiibaocaaRdL
namespace Go.Proofs.Ytoppaipiibaocaa.Ints
open Go.RowKit
set_option linter.unusedVariables false
noncomputable def allN (zss : List (List Int)) : Bool := zss.all natB
theorem allN_true {zss : List (List Int)} (h : ∀ i, i < zss.length → natB (zss.getD i []) = true) : allN zss = true := by
  rw [allN, List.all_eq_true]
  intro x hx
  obtain ⟨i, hi, rfl⟩ := List.getElem_of_mem hx
  have := h i hi
  rwa [List.getD_eq_getElem?_getD, List.getElem?_eq_getElem hi] at this
theorem allN_false {zss : List (List Int)} {i : Nat} (hi : i < zss.length) (h : natB (zss.getD i []) = false) : allN zss = false := by
  rw [allN, List.all_eq_false]
  refine ⟨_, List.getElem_mem hi, ?_⟩
  rw [List.getD_eq_getElem?_getD, List.getElem?_eq_getElem hi] at h
  simp at h
  simp [h]
theorem allN_two (xs ys : List Int) : allN [xs, ys] = (natB xs && natB ys) := by simp [allN]
theorem allN_three (xs ys zs : List Int) : allN [xs, ys, zs] = (natB xs && (natB ys && natB zs)) := by simp [allN]
end Go.Proofs.Ytoppaipiibaocaa.Ints
