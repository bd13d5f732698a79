/- The numerals of a list: the program's mapped. -/
import Derived.Test.YtbifkjmmhfnblaaDoorStr
namespace Go.Proofs.YtbifkjmmhfnblaaDoor.Ints
open Go.RowKit
set_option linter.unusedVariables false
set_option linter.unusedSimpArgs false

end Go.Proofs.YtbifkjmmhfnblaaDoor.Ints
