/- An allocation ahead of a region's draw. -/
import Derived.Test.YtkjoakdepjpkhaaDoorCel
namespace Go.Proofs.YtkjoakdepjpkhaaDoor.Ints
open Go.RowKit
set_option linter.unusedVariables false
theorem below_preD {w w' : World} {o : Obj} (h : Below (w.alloc o).drew.heap.size (w.alloc o).drew w') : Below w.drew.heap.size w.drew w' :=
  (show Below w.drew.heap.size w.drew (w.alloc o).drew from ((Below.refl w.drew.heap.size w.drew).alloc (Nat.le_refl _) o)).trans (h.mono (by show w.heap.size ≤ (w.alloc o).heap.size; simp))
theorem cels_preD {w w' : World} {t : TypeId} {cs : List Value} (h : Below (w.alloc (.cells cs.toArray t)).drew.heap.size (w.alloc (.cells cs.toArray t)).drew w') : Cels w' w.heap.size t cs := by
  have k : Cels (w.alloc (.cells cs.toArray t)).drew w.heap.size t cs := Cels.new w t cs
  exact k.below h (by show w.heap.size < (w.alloc (.cells cs.toArray t)).heap.size; simp)
end Go.Proofs.YtkjoakdepjpkhaaDoor.Ints
