/- Lists read from texts, of the model. -/
import Derived.Test.YtbigoljfanendaaDoorSpl
import Derived.Test.YtbigoljfanendaaDoorRdD
import Derived.Test.YtbigoljfanendaaDoorIn
namespace Go.Proofs.YtbigoljfanendaaDoor.Ints
open Go.RowKit
set_option linter.unusedVariables false
set_option linter.unusedSimpArgs false
/-- A piece that is a number within the bounds. -/
def rlOne (t : List UInt8) : Prop := NumOk t ∧ -1000000000000 ≤ valL t ∧ valL t ≤ 1000000000000
def rlOk (ts : List (List UInt8)) : Prop := ts.length ≤ 64 ∧ ∀ j, j < ts.length → rlOne (ts.getD j [])
open Classical in
noncomputable def rlsB (l : List UInt8) : Bool := decide (l = [45] ∨ rlOk (pcs 44 l))
open Classical in
noncomputable def rlsV (l : List UInt8) : List Int := if l = [45] then [] else if rlOk (pcs 44 l) then (pcs 44 l).map valL else []
theorem rls_dash {l : List UInt8} (h : l = [45]) : rlsB l = true ∧ rlsV l = [] := by simp [rlsB, rlsV, h]
theorem rls_bad {l : List UInt8} (h : l ≠ [45]) (k : ¬ rlOk (pcs 44 l)) : rlsB l = false ∧ rlsV l = [] := by simp [rlsB, rlsV, h, k]
theorem rls_good {l : List UInt8} (h : l ≠ [45]) (k : rlOk (pcs 44 l)) : rlsB l = true ∧ rlsV l = (pcs 44 l).map valL := by simp [rlsB, rlsV, h, k]
theorem rlsV_len (l : List UInt8) : (rlsV l).length ≤ 64 := by
  unfold rlsV
  split
  · simp
  · split
    · rename_i h; rw [List.length_map]; exact h.1
    · simp
theorem map_takeS {α : Type} (f : List UInt8 → α) (ts : List (List UInt8)) (k : Nat) (h : k < ts.length) : (ts.take (k + 1)).map f = (ts.take k).map f ++ [f (ts.getD k [])] := by
  rw [List.take_succ_eq_append_getElem h, List.map_append, List.getD_eq_getElem?_getD, List.getElem?_eq_getElem h]; rfl
end Go.Proofs.YtbigoljfanendaaDoor.Ints
