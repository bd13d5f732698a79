/- MirrorMachine: the contracts of the model and of the program. -/
import Derived.Test.YtmgogbcipdjddaaDoorMirB
import Derived.Test.YtmgogbcipdjddaaDoorFree
namespace Go.Proofs.YtmgogbcipdjddaaDoor.Ints
open Go.RowKit
set_option linter.unusedVariables false
set_option linter.unusedSimpArgs false
noncomputable def mmR (sy st : Int) (rs : List Ru) : List Ru := if machB sy st rs = true then mirR rs else []
noncomputable def mmC (sy st : Int) (rs : List Ru) : Int := if machB sy st rs = true then 0 else 1
noncomputable def mmI (sy st : Int) (rs : List Ru) (x : Int) : Int := if machB sy st rs = true then x else 0
theorem OwR.noneAt {w : World} {B : Nat} (h : B ≤ w.heap.size) : OwR w B w.heap.size (.slice none 0 0) [] := OwR.emptyUp h
end Go.Proofs.YtmgogbcipdjddaaDoor.Ints
