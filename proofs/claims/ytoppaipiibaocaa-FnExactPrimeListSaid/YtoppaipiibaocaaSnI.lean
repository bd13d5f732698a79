/- Contracts of SetNumber, of the model and of the program. -/
import Derived.Test.YtoppaipiibaocaaSnN
namespace Go.Proofs.Ytoppaipiibaocaa.Ints
open Go.RowKit
set_option linter.unusedVariables false

end Go.Proofs.Ytoppaipiibaocaa.Ints
