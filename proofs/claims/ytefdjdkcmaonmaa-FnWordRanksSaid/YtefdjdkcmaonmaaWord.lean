/- Contracts of the model's and the program's tests for words. -/
import Derived.Test.YtefdjdkcmaonmaaDig
namespace Go.Proofs.Ytefdjdkcmaonmaa.Ints
open Go.RowKit
set_option linter.unusedVariables false

/-- A word. -/
def Word (zs : List Int) : Prop := zs.length ≤ 400 ∧ Dig 10 zs
open Classical in
noncomputable def wordB (zs : List Int) : Bool := decide (Word zs)
theorem wordB_true {zs : List Int} (h : Word zs) : wordB zs = true := by simp [wordB, h]
theorem wordB_false {zs : List Int} (h : ¬ Word zs) : wordB zs = false := by simp [wordB, h]
theorem wordB_iff {zs : List Int} (h : wordB zs = true) : Word zs := by simpa [wordB] using h
theorem wordB_split {zs : List Int} (h : zs.length ≤ 400) : wordB zs = digB 10 zs := by
  by_cases hd : Dig 10 zs
  · rw [digB_true hd, wordB_true ⟨h, hd⟩]
  · rw [digB_false hd, wordB_false fun H => hd H.2]

theorem implWord (v : Value) (zs : List Int) (w : World) (h : Rd w v zs) :
    Calls Try.prog 12 #[v] w fun e w' => e = .returned (.bool (wordB zs)) ∧ Below w.heap.size w w' := by
  have H := Lib.hid h
  obtain ⟨hl, hf, a, c, rfl, hcap, hr⟩ := h
  clear hr
  by_cases hz : zs.length ≤ 400
  · have HF := Lib.hid (wordB_split hz)
    have hz' : (zs.length : Int) ≤ 400 := by omega
    go_enter Try.func12, Try.ntmps12
    go_wp2_with (go_at_call 19; refine (areBelow_any _ zs _ _ H.out).mono ?_; rintro e w' ⟨rfl, hb⟩)
    go_ret
    exact ⟨by rw [HF.out] <;> rfl, hb⟩
  · have HF : Hid (wordB zs = false) := Lib.hid (wordB_false fun H => hz H.1)
    have hz' : ¬ (zs.length : Int) ≤ 400 := by omega
    go_enter Try.func12, Try.ntmps12
    go_wp2
    go_ret
    exact ⟨by rw [HF.out] <;> rfl, Below.refl _ _⟩
theorem alphaT (b : Int) (w : World) (h0 : 1 ≤ b) (h1 : b ≤ 10) : Calls Try.prog 14 #[.int .i64 b] w fun e w' => e = .returned (.bool true) ∧ w = w' := by
  go_enter Try.func14, Try.ntmps14
  go_wp2
  go_ret
  exact ⟨rfl, rfl⟩
end Go.Proofs.Ytefdjdkcmaonmaa.Ints
