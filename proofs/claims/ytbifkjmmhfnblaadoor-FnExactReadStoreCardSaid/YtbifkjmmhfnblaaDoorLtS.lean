/- The text of a list of numbers, of the model. -/
import Derived.Test.YtbifkjmmhfnblaaDoorStr
import Derived.Test.YtbifkjmmhfnblaaDoorBt
namespace Go.Proofs.YtbifkjmmhfnblaaDoor.Ints
open Go.RowKit
set_option linter.unusedVariables false
set_option linter.unusedSimpArgs false

/-- The numerals of a list, parted by a byte; a dash for none. -/
def txtL (sep : UInt8) (zs : List Int) : List UInt8 := if zs = [] then [45] else Lib.join (zs.map Lib.itoa) [sep]
theorem txtL_some {sep : UInt8} {zs : List Int} (h : zs ≠ []) : txtL sep zs = Lib.join (zs.map Lib.itoa) [sep] := if_neg h
theorem txtL_small (sep : UInt8) (zs : List Int) (hf : Fit zs) : (txtL sep zs).length ≤ 22 * zs.length + 1 := by
  by_cases h : zs = []
  · subst h; simp [txtL]
  · rw [txtL_some h]
    have := join_small (zs.map Lib.itoa) [sep] 21 (fun y hy => by
      obtain ⟨z, hz, rfl⟩ := List.mem_map.1 hy
      exact Lib.itoa_length_le z (hf z hz).1 (hf z hz).2)
    simp only [List.length_singleton, List.length_map] at this
    omega
/-- Whether a list has a text. -/
noncomputable def fitB (zs : List Int) : Bool := decide (zs.length ≤ 64) && betB (-1000000000000) 1000000000000 zs
noncomputable def ltV (zs : List Int) : List UInt8 := if fitB zs = true then txtL 44 zs else []

end Go.Proofs.YtbifkjmmhfnblaaDoor.Ints
