/- Contracts of ReverseWord, of the model and of the program. -/
import Derived.Test.YtoppaipiibaocaaRev
import Derived.Test.YtoppaipiibaocaaWord
namespace Go.Proofs.Ytoppaipiibaocaa.Ints
open Go.RowKit
set_option linter.unusedVariables false
noncomputable def rvL (zs : List Int) : List Int := if wordB zs = true then zs.reverse else []
noncomputable def rvC (zs : List Int) : Int := if wordB zs = true then 0 else 1
end Go.Proofs.Ytoppaipiibaocaa.Ints
