/- Rows of symbols between bounds. -/
import Derived.Test.YtbifkjmmhfnblaaDoorDig
import Derived.Test.YtbifkjmmhfnblaaDoorIn
import Derived.BigRegion
import Derived.Lib.Hide
namespace Go.Proofs.YtbifkjmmhfnblaaDoor.Ints
open Go.RowKit
set_option linter.unusedVariables false
set_option linter.unusedSimpArgs false
/-! The model's row of symbols. -/
def Bet (lo hi : Int) (zs : List Int) : Prop := ∀ i, i < zs.length → lo ≤ zs.getD i 0 ∧ zs.getD i 0 ≤ hi
open Classical in
noncomputable def betB (lo hi : Int) (zs : List Int) : Bool := decide (Bet lo hi zs)
theorem betB_true {lo hi : Int} {zs : List Int} (h : Bet lo hi zs) : betB lo hi zs = true := by simp [betB, h]
theorem betB_false {lo hi : Int} {zs : List Int} (h : ¬ Bet lo hi zs) : betB lo hi zs = false := by simp [betB, h]
theorem betB_dig (zs : List Int) : betB 0 9 zs = digB 10 zs := by
  by_cases h : Dig 10 zs
  · rw [digB_true h, betB_true fun i hi => by have := h i hi; omega]
  · rw [digB_false h, betB_false fun H => h fun i hi => by have := H i hi; omega]
end Go.Proofs.YtbifkjmmhfnblaaDoor.Ints
