/- The program's SortList, under the model's name of the sorted list. -/
import Derived.Test.YtepdjlhlcjkdkaaSrtI
import Derived.Test.YtepdjlhlcjkdkaaSrtS
namespace Go.Proofs.Ytepdjlhlcjkdkaa.Ints
open Go.RowKit
theorem implSortL (v : Value) (zs : List Int) (w : World) (hv : Rd w v zs) :
    Calls Try.prog 50 #[v] w fun e w' => ∃ u, e = .returned u ∧ Ow w' w.heap.size w'.heap.size u (sortL zs) ∧ Below w.heap.size w w' := implSortList v zs w hv
end Go.Proofs.Ytepdjlhlcjkdkaa.Ints
