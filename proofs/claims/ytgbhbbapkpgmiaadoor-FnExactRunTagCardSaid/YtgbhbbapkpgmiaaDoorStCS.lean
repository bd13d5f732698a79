/- StepCounters: the model's. -/
import Derived.Test.YtgbhbbapkpgmiaaDoorStC
namespace Go.Proofs.YtgbhbbapkpgmiaaDoor.Ints
open Go.RowKit
set_option linter.unusedVariables false
set_option linter.unusedSimpArgs false
end Go.Proofs.YtgbhbbapkpgmiaaDoor.Ints
