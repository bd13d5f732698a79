/- The numerals of a list: the program's mapped. -/
import Derived.Test.YtbigoljfanendaaDoorStr
namespace Go.Proofs.YtbigoljfanendaaDoor.Ints
open Go.RowKit
set_option linter.unusedVariables false
set_option linter.unusedSimpArgs false

end Go.Proofs.YtbigoljfanendaaDoor.Ints
