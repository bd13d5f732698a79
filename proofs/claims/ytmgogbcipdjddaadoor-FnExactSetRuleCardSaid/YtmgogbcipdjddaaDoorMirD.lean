/- MirrorMachine: the contract of the program. -/
import Derived.Test.YtmgogbcipdjddaaDoorMirC
namespace Go.Proofs.YtmgogbcipdjddaaDoor.Ints
open Go.RowKit
set_option linter.unusedVariables false
set_option linter.unusedSimpArgs false
end Go.Proofs.YtmgogbcipdjddaaDoor.Ints
