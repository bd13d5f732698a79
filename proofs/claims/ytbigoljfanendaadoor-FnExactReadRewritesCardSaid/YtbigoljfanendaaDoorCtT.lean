/- The text of counters, of the model and of the program. -/
import Derived.Test.YtbigoljfanendaaDoorMapD
import Derived.Test.YtbigoljfanendaaDoorBt
import Derived.Test.YtbigoljfanendaaDoorCel
import Derived.Deep.RegionHeld3
namespace Go.Proofs.YtbigoljfanendaaDoor.Ints
open Go.RowKit
set_option linter.unusedVariables false
set_option linter.unusedSimpArgs false
/-- Three numerals. -/
def ctT (x y z : Int) : List UInt8 := Lib.itoa x ++ [58] ++ Lib.itoa y ++ [58] ++ Lib.itoa z
def valB (x y z : Int) : Bool := decide (0 ≤ x ∧ x ≤ 1000000000000) && (decide (0 ≤ y ∧ y ≤ 1000000000000) && decide (0 ≤ z ∧ z ≤ 1000000000000))
def ctV (x y z : Int) : List UInt8 := if valB x y z = true then ctT x y z else []
theorem ctJoin (x y z : Int) : Lib.join [Lib.itoa x, Lib.itoa y, Lib.itoa z] [58] = ctT x y z := by
  rw [Lib.join_cons]; simp [Lib.joinTail, ctT, List.append_assoc]
theorem rd3 {w : World} {g : Nat} {x y z : Int} (hx : fit64 x) (hy : fit64 y) (hz : fit64 z) (h : Cels w g 2 [.int .i64 x, .int .i64 y, .int .i64 z]) : Rd w (.slice (some ⟨g, 0, none⟩) 3 3) [x, y, z] := by
  refine ⟨by simp, fun u hu => ?_, _, _, rfl, Nat.le_refl _, fun _ => ⟨g, 0, rfl, h.lt, fun i hi => ?_⟩⟩
  · simp at hu; rcases hu with rfl | rfl | rfl <;> assumption
  · match i, hi with
    | 0, _ => exact h.cell 0 rfl
    | 1, _ => exact h.cell 1 rfl
    | 2, _ => exact h.cell 2 rfl
    | n + 3, hi => simp only [List.length_cons, List.length_nil] at hi; omega
theorem dig3 (x y z : Int) : digB 1000000000001 [x, y, z] = valB x y z := by
  by_cases h : Dig 1000000000001 [x, y, z]
  · rw [digB_true h]
    have h0 := h 0 (by simp)
    have h1 := h 1 (by simp)
    have h2 := h 2 (by simp)
    simp at h0 h1 h2
    simp [valB]; omega
  · rw [digB_false h]
    by_cases hv : valB x y z = true
    · exfalso
      refine h fun i hi => ?_
      simp [valB] at hv
      match i, hi with
      | 0, _ => simp; omega
      | 1, _ => simp; omega
      | 2, _ => simp; omega
      | n + 3, hi => simp only [List.length_cons, List.length_nil] at hi; omega
    · simp at hv; rw [hv]
end Go.Proofs.YtbigoljfanendaaDoor.Ints
