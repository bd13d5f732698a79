/- Contracts of FromDigits, of the model and of the program. -/
import Derived.Test.YtoppaipiibaocaaFd
import Derived.Test.YtoppaipiibaocaaDivBy
namespace Go.Proofs.Ytoppaipiibaocaa.Ints
open Go.RowKit
set_option linter.unusedVariables false

noncomputable def fgOk (zs : List Int) (b : Int) : Bool := decide (2 ≤ b ∧ b ≤ 1000000) && digB b zs
noncomputable def fgL (zs : List Int) (b : Int) : List Int := if fgOk zs b = true ∧ zs.length ≤ 800 then fdL zs b else []
noncomputable def fgC (zs : List Int) (b : Int) : Int := if fgOk zs b = true then (if zs.length ≤ 800 then (if fdB zs b = true then 0 else 5) else 5) else 2
theorem fg_bad {zs : List Int} {b : Int} (h : fgOk zs b = false) : fgL zs b = [] ∧ fgC zs b = 2 := by simp [fgL, fgC, h]
theorem fg_long {zs : List Int} {b : Int} (h : fgOk zs b = true) (k : ¬ zs.length ≤ 800) : fgL zs b = [] ∧ fgC zs b = 5 := by simp [fgL, fgC, h, k]
theorem fd_none {zs : List Int} {b : Int} (h : fdR zs b = none) : fdL zs b = [] ∧ fdB zs b = false := by simp [fdL, fdB, h]
theorem fd_some {zs : List Int} {b V : Int} (h : fdR zs b = some V) : fdL zs b = canOf V ∧ fdB zs b = true := by simp [fdL, fdB, h]
theorem fg_full {zs : List Int} {b : Int} (h : fgOk zs b = true) (k : zs.length ≤ 800) (n : fdB zs b = false) : fgL zs b = [] ∧ fgC zs b = 5 := by
  have : fdL zs b = [] := by
    cases hr : fdR zs b with
    | none => exact (fd_none hr).1
    | some V => rw [(fd_some hr).2] at n; cases n
  simp [fgL, fgC, h, k, n, this]
theorem fg_good {zs : List Int} {b : Int} (h : fgOk zs b = true) (k : zs.length ≤ 800) (n : fdB zs b = true) : fgL zs b = fdL zs b ∧ fgC zs b = 0 := by simp [fgL, fgC, h, k, n]
theorem fgOk_dig {zs : List Int} {b : Int} (h : fgOk zs b = true) : (2 ≤ b ∧ b ≤ 1000000) ∧ Dig b zs := by
  simp only [fgOk, Bool.and_eq_true, decide_eq_true_eq] at h
  exact ⟨h.1, by simpa [digB] using h.2⟩
theorem fgOk_dig' {zs : List Int} {b : Int} (h1 : 2 ≤ b) (h2 : b ≤ 1000000) : fgOk zs b = digB b zs := by simp [fgOk, h1, h2]
theorem fgOk_lo {zs : List Int} {b : Int} (h1 : ¬ (2 ≤ b ∧ b ≤ 1000000)) : fgOk zs b = false := by simp only [fgOk, decide_eq_false h1, Bool.false_and]
end Go.Proofs.Ytoppaipiibaocaa.Ints
