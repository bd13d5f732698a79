/- Words read from texts, of the model and of the program. -/
import Derived.Test.YtoppaipiibaocaaBts
import Derived.Test.YtoppaipiibaocaaInts
import Derived.Test.YtoppaipiibaocaaOwn
import Derived.Lib.OthersKept
import Derived.WalkSmall
import Derived.OneCell
namespace Go.Proofs.Ytoppaipiibaocaa.Ints
open Go.RowKit
set_option linter.unusedVariables false
set_option linter.unusedSimpArgs false
/-- The numbers of the digits. -/
def rwL (s : ByteArray) : List Int := (List.range s.size).map fun i => (bt s i : Int) - 48
theorem rwL_length (s : ByteArray) : (rwL s).length = s.size := by simp [rwL]
theorem rwL_succ (s : ByteArray) (k : Nat) (h : k < s.size) : (rwL s).take (k + 1) = (rwL s).take k ++ [(bt s k : Int) - 48] := by
  rw [List.take_succ_eq_append_getElem (by rw [rwL_length]; exact h)]; simp [rwL]
def AllD (s : ByteArray) : Prop := ∀ i, i < s.size → Dgt (bt s i)
theorem rwL_fit {s : ByteArray} (h : AllD s) : Fit (rwL s) := fun z hz => by
  simp only [rwL, List.mem_map, List.mem_range] at hz
  obtain ⟨i, hi, rfl⟩ := hz
  have := h i hi
  unfold Dgt at this
  omega
def Rok (s : ByteArray) : Prop := s.size ≠ 0 ∧ s.size ≤ 400 ∧ AllD s
open Classical in
noncomputable def rwB (s : ByteArray) : Bool := decide (s.toList = [45] ∨ Rok s)
open Classical in
noncomputable def rwV (s : ByteArray) : List Int := if s.toList = [45] then [] else if Rok s then rwL s else []
theorem rw_dash {s : ByteArray} (h : s.toList = [45]) : rwB s = true ∧ rwV s = [] := by simp [rwB, rwV, h]
theorem rw_bad {s : ByteArray} (h : s.toList ≠ [45]) (k : ¬ Rok s) : rwB s = false ∧ rwV s = [] := by simp [rwB, rwV, h, k]
theorem rw_good {s : ByteArray} (h : s.toList ≠ [45]) (k : Rok s) : rwB s = true ∧ rwV s = rwL s := by simp [rwB, rwV, h, k]
theorem rwV_len (s : ByteArray) : (rwV s).length ≤ 400 := by
  unfold rwV
  split
  · simp
  · split
    · rename_i h; rw [rwL_length]; exact h.2.1
    · simp
open Classical in
noncomputable def allDB (s : ByteArray) : Bool := decide (AllD s)
theorem allDB_true {s : ByteArray} (h : AllD s) : allDB s = true := by simp [allDB, h]
theorem allDB_false {s : ByteArray} (h : ¬ AllD s) : allDB s = false := by simp [allDB, h]
theorem allDB_ok {s : ByteArray} (h : allDB s = true) : AllD s := by simpa [allDB] using h
theorem allDB_no {s : ByteArray} (h : allDB s = false) : ¬ AllD s := by simpa [allDB] using h
noncomputable def rlV (s : ByteArray) : List Int := if allDB s = true then rwL s else []
theorem rlV_true {s : ByteArray} (h : allDB s = true) : rlV s = rwL s := if_pos h
theorem rlV_false {s : ByteArray} (h : allDB s = false) : rlV s = [] := if_neg (by rw [h]; decide)
theorem ow_of_row {w : World} {B : Nat} {v : Value} {zs : List Int} (hl : zs.length ≤ 16777216) (hf : Fit zs) (h : w.ownsRow B 2 1 v zs.length (zs.map (Value.int .i64))) (hb : B ≤ w.heap.size) : Ow w B w.heap.size v zs :=
  ⟨hl, hf, h, fun k hk => (h.lt k hk).2, Nat.le_refl _, hb⟩
end Go.Proofs.Ytoppaipiibaocaa.Ints
