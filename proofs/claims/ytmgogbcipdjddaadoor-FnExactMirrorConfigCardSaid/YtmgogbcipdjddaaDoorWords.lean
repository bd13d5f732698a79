/- The program's test that all lists of a list are words. -/
import Derived.Test.YtmgogbcipdjddaaDoorWord
import Derived.Test.YtmgogbcipdjddaaDoorRdL
namespace Go.Proofs.YtmgogbcipdjddaaDoor.Ints
open Go.RowKit
set_option linter.unusedVariables false
noncomputable def allW (zss : List (List Int)) : Bool := zss.all wordB
theorem allW_true {zss : List (List Int)} (h : ∀ i, i < zss.length → wordB (zss.getD i []) = true) : allW zss = true := by
  rw [allW, List.all_eq_true]
  intro x hx
  obtain ⟨i, hi, rfl⟩ := List.getElem_of_mem hx
  have := h i hi
  rwa [List.getD_eq_getElem?_getD, List.getElem?_eq_getElem hi] at this
theorem allW_false {zss : List (List Int)} {i : Nat} (hi : i < zss.length) (h : wordB (zss.getD i []) = false) : allW zss = false := by
  rw [allW, List.all_eq_false]
  refine ⟨_, List.getElem_mem hi, ?_⟩
  rw [List.getD_eq_getElem?_getD, List.getElem?_eq_getElem hi] at h
  simp at h
  simp [h]
theorem allW_two (xs ys : List Int) : allW [xs, ys] = (wordB xs && wordB ys) := by simp [allW]
theorem allW_three (xs ys zs : List Int) : allW [xs, ys, zs] = (wordB xs && (wordB ys && wordB zs)) := by simp [allW]
end Go.Proofs.YtmgogbcipdjddaaDoor.Ints
