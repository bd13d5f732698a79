/- Contracts of WordAt, of the model and of the program. -/
import Derived.Test.YtgfidlppocheoaaRev
import Derived.Test.YtgfidlppocheoaaWord
namespace Go.Proofs.Ytgfidlppocheoaa.Ints
open Go.RowKit
set_option linter.unusedVariables false
/-- The letters of a word by its number, the last one first; none if there are more than the fuel. -/
def wdGo (b : Int) : Nat → Int → List Int → Option (List Int)
  | 0, r, xs => if 0 < r then none else some xs
  | f + 1, r, xs => if 0 < r then wdGo b f ((r - 1) / b) (xs ++ [(r - 1) % b]) else some xs
def wdOk (r b : Int) : Prop := (0 ≤ r ∧ r ≤ 1000000000000) ∧ (1 ≤ b ∧ b ≤ 10)
instance (r b : Int) : Decidable (wdOk r b) := by unfold wdOk; infer_instance
def wdR (r b : Int) : Option (List Int) := wdGo b 400 r []
def wdL (r b : Int) : List Int := if wdOk r b then (match wdR r b with | some xs => xs.reverse | none => []) else []
def wdC (r b : Int) : Int := if wdOk r b then (match wdR r b with | some _ => 0 | none => 5) else 2
theorem wdGo_end {b r : Int} (f : Nat) (xs : List Int) (h : ¬ 0 < r) : wdGo b f r xs = some xs := by cases f <;> simp [wdGo, h]
theorem wdGo_full {b r : Int} (xs : List Int) (h : 0 < r) : wdGo b 0 r xs = none := by simp [wdGo, h]
theorem wdGo_step {b r : Int} (f : Nat) (xs : List Int) (h : 0 < r) : wdGo b (f + 1) r xs = wdGo b f ((r - 1) / b) (xs ++ [(r - 1) % b]) := by simp [wdGo, h]
theorem wd_div {r b : Int} (r0 : 0 < r) (r1 : r ≤ 1000000000000) (h1 : 1 ≤ b) (h2 : b ≤ 10) : 0 ≤ (r - 1) / b ∧ (r - 1) / b < r ∧ 0 ≤ (r - 1) % b ∧ (r - 1) % b < b := by
  have a : 0 ≤ (r - 1) / b := Int.ediv_nonneg (by omega) (by omega)
  have c : (r - 1) / b ≤ r - 1 := Int.ediv_le_self _ (by omega)
  exact ⟨a, by omega, Int.emod_nonneg _ (by omega), Int.emod_lt_of_pos _ (by omega)⟩
structure WdInv (rank b : Int) (r : Int) (xs : List Int) : Prop where
  len : xs.length ≤ 400
  r0 : 0 ≤ r
  r1 : r ≤ 1000000000000
  fit : Fit xs
  eq : wdR rank b = wdGo b (400 - xs.length) r xs
theorem WdInv.step {rank b r : Int} {xs : List Int} (h : WdInv rank b r xs) (hr : 0 < r) (h1 : 1 ≤ b) (h2 : b ≤ 10) (hl : xs.length < 400) : WdInv rank b ((r - 1) / b) (xs ++ [(r - 1) % b]) := by
  obtain ⟨a, c, d, e⟩ := wd_div hr h.r1 h1 h2
  refine ⟨by simp; omega, a, by have := h.r1; omega, fun x hx => ?_, ?_⟩
  · rcases List.mem_append.1 hx with hx | hx
    · exact h.fit x hx
    · simp at hx; subst hx; omega
  · rw [h.eq, show 400 - xs.length = (400 - (xs ++ [(r - 1) % b]).length) + 1 by simp; omega, wdGo_step _ _ hr]

end Go.Proofs.Ytgfidlppocheoaa.Ints
