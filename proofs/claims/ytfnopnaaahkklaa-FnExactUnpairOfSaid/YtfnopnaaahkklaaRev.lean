/- Letters in opposite order: the model's loop, slices.Clone and slices.Reverse. -/
import Derived.Test.YtfnopnaaahkklaaInts
import Derived.Test.YtfnopnaaahkklaaOwn
import Derived.BigRegion
namespace Go.Proofs.Ytfnopnaaahkklaa.Ints
open Go.RowKit
set_option linter.unusedVariables false

theorem rev_snoc (zs : List Int) (k : Nat) (h : k < zs.length) : zs.reverse.take (k + 1) = zs.reverse.take k ++ [zs.getD (zs.length - 1 - k) 0] := by
  rw [List.take_succ_eq_append_getElem (by simpa using h)]
  congr 2
  rw [List.getElem_reverse, List.getD_eq_getElem?_getD, List.getElem?_eq_getElem (by omega)]; rfl
theorem Fit.rev {zs : List Int} (h : Fit zs) : Fit zs.reverse := fun z hz => h z (List.mem_reverse.1 hz)


theorem mapAt {zs : List Int} {i : Nat} {x : Int} (h : i < zs.length) (e : zs.getD i 0 = x) : (zs.map (Value.int .i64))[i]? = some (.int .i64 x) := by
  subst e; simp [List.getD_eq_getElem?_getD, List.getElem?_eq_getElem h]
/-- The first k and the last k elements exchanged. -/
def revK (zs : List Int) (k : Nat) : List Int := (List.range zs.length).map fun i => if i < k ∨ zs.length - k ≤ i then zs.getD (zs.length - 1 - i) 0 else zs.getD i 0
theorem revK_length (zs : List Int) (k : Nat) : (revK zs k).length = zs.length := by simp [revK]
theorem revK_at (zs : List Int) (k i : Nat) (h : i < zs.length) : (revK zs k).getD i 0 = if i < k ∨ zs.length - k ≤ i then zs.getD (zs.length - 1 - i) 0 else zs.getD i 0 := by
  simp [revK, List.getD_eq_getElem?_getD, h]
theorem getD_inj {xs ys : List Int} (hl : xs.length = ys.length) (h : ∀ i, i < xs.length → xs.getD i 0 = ys.getD i 0) : xs = ys := by
  apply List.ext_getElem hl
  intro i h1 h2
  have := h i h1
  simpa [List.getD_eq_getElem?_getD, List.getElem?_eq_getElem h1, List.getElem?_eq_getElem h2] using this
theorem getD_set0 (Z : List Int) (i j : Nat) (x : Int) (h : i < Z.length) : (Z.set i x).getD j 0 = if i = j then x else Z.getD j 0 := by
  simp only [List.getD_eq_getElem?_getD, List.getElem?_set]
  by_cases e : i = j
  · subst e; simp [h]
  · simp [e]
theorem revK_zero (zs : List Int) : revK zs 0 = zs := by
  refine getD_inj (revK_length _ _) fun i hi => ?_
  rw [revK_length] at hi
  rw [revK_at _ _ _ hi, if_neg (by omega)]
theorem revK_end (zs : List Int) (k : Nat) (h : zs.length ≤ 2 * k + 1) : revK zs k = zs.reverse := by
  refine getD_inj (by simp [revK_length]) fun i hi => ?_
  rw [revK_length] at hi
  rw [revK_at _ _ _ hi]
  have e : zs.reverse.getD i 0 = zs.getD (zs.length - 1 - i) 0 := by
    simp only [List.getD_eq_getElem?_getD]
    rw [List.getElem?_reverse hi]
  rw [e]
  by_cases hc : i < k ∨ zs.length - k ≤ i
  · rw [if_pos hc]
  · rw [if_neg hc, show zs.length - 1 - i = i by omega]
theorem revK_step (zs : List Int) (k : Nat) (h : 2 * k + 1 < zs.length) :
    ((revK zs k).set k (zs.getD (zs.length - 1 - k) 0)).set (zs.length - 1 - k) (zs.getD k 0) = revK zs (k + 1) := by
  refine getD_inj (by simp [revK_length]) fun i hi => ?_
  simp only [List.length_set, revK_length] at hi
  rw [getD_set0 _ _ _ _ (by simp [revK_length]; omega), getD_set0 _ _ _ _ (by simp [revK_length]; omega), revK_at _ _ _ hi, revK_at _ _ _ hi]
  by_cases e1 : zs.length - 1 - k = i
  · rw [if_pos e1, if_pos (by omega), show zs.length - 1 - i = k by omega]
  · rw [if_neg e1]
    by_cases e2 : k = i
    · subst e2; rw [if_pos rfl, if_pos (by omega)]
    · rw [if_neg e2]
      by_cases e3 : i < k ∨ zs.length - k ≤ i
      · rw [if_pos e3, if_pos (by omega)]
      · rw [if_neg e3, if_neg (by omega)]
end Go.Proofs.Ytfnopnaaahkklaa.Ints
