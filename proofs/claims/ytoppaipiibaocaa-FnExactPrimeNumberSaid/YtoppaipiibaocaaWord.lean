/- Contracts of the model's and the program's tests for words. -/
import Derived.Test.YtoppaipiibaocaaDig
namespace Go.Proofs.Ytoppaipiibaocaa.Ints
open Go.RowKit
set_option linter.unusedVariables false

/-- A word. -/
def Word (zs : List Int) : Prop := zs.length ≤ 400 ∧ Dig 10 zs
open Classical in
noncomputable def wordB (zs : List Int) : Bool := decide (Word zs)
theorem wordB_true {zs : List Int} (h : Word zs) : wordB zs = true := by simp [wordB, h]
theorem wordB_false {zs : List Int} (h : ¬ Word zs) : wordB zs = false := by simp [wordB, h]
theorem wordB_iff {zs : List Int} (h : wordB zs = true) : Word zs := by simpa [wordB] using h
theorem wordB_split {zs : List Int} (h : zs.length ≤ 400) : wordB zs = digB 10 zs := by
  by_cases hd : Dig 10 zs
  · rw [digB_true hd, wordB_true ⟨h, hd⟩]
  · rw [digB_false hd, wordB_false fun H => hd H.2]

theorem specInT (n lo hi : Int) (w : World) (h0 : lo ≤ n) (h1 : n ≤ hi) : Calls Try.prog 47 #[.int .i64 n, .int .i64 lo, .int .i64 hi] w fun e w' => e = .returned (.bool true) ∧ w = w' := by
  go_enter Try.func47, Try.ntmps47
  go_wp2
  go_ret
  exact ⟨rfl, rfl⟩
end Go.Proofs.Ytoppaipiibaocaa.Ints
