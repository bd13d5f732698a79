/- Contracts of CompareShortlex, of the model and of the program. -/
import Derived.Test.YtefdjdkcmaonmaaCmp
namespace Go.Proofs.Ytefdjdkcmaonmaa.Ints
open Go.RowKit
set_option linter.unusedVariables false
def shortL (xs ys : List Int) : Int := if xs.length < ys.length then -1 else if ys.length < xs.length then 1 else cmpL xs ys
theorem implCompareShortlex (u : Value) (xs : List Int) (v : Value) (ys : List Int) (w : World) (hu : Rd w u xs) (hv : Rd w v ys) :
    Calls Try.prog 9 #[u, v] w fun e w' => e = .returned (.int .i64 (shortL xs ys)) ∧ Below w.heap.size w w' := by
  have H := Lib.hid hu
  have H' := Lib.hid hv
  obtain ⟨hl, hf, a, c, rfl, hcap, hr⟩ := hu
  obtain ⟨hl', hf', a', c', rfl, hcap', hr'⟩ := hv
  clear hr hr'
  have e1 : ((xs.length : Int) != (xs.length : Int)) = false := by simp
  have e2 : ((ys.length : Int) != (ys.length : Int)) = false := by simp
  by_cases h1 : xs.length < ys.length
  · have HS : Hid (shortL xs ys = -1) := Lib.hid (by simp [shortL, h1])
    have n1 : (xs.length : Int) < (ys.length : Int) := by omega
    have n3 : ((xs.length : Int) != (ys.length : Int)) = true := by simp; omega
    go_enter Try.func9, Try.ntmps9
    go_wp2
    go_ret
    exact ⟨by rw [HS.out] <;> rfl, Below.refl _ _⟩
  · by_cases h2 : ys.length < xs.length
    · have HS : Hid (shortL xs ys = 1) := Lib.hid (by simp [shortL, h1, h2])
      have n1 : ¬ (xs.length : Int) < (ys.length : Int) := by omega
      have n2 : (ys.length : Int) < (xs.length : Int) := by omega
      have n3 : ((xs.length : Int) != (ys.length : Int)) = true := by simp; omega
      go_enter Try.func9, Try.ntmps9
      go_wp2
      go_ret
      exact ⟨by rw [HS.out] <;> rfl, Below.refl _ _⟩
    · have HS : Hid (shortL xs ys = cmpL xs ys) := Lib.hid (by simp [shortL, h1, h2])
      have n3 : ((xs.length : Int) != (ys.length : Int)) = false := by simp; omega
      go_enter Try.func9, Try.ntmps9
      go_wp2_with (go_at_call 17; refine (implCompareLists _ xs _ ys _ H.out H'.out).mono ?_; rintro e w' ⟨rfl, hb⟩; have HB := Lib.hid hb; clear hb)
      go_ret
      exact ⟨by rw [HS.out] <;> rfl, HB.out⟩
end Go.Proofs.Ytefdjdkcmaonmaa.Ints
