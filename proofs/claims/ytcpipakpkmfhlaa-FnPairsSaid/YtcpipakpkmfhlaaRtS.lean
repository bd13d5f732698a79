/- Square roots, of the model. -/
import Derived.Test.YtcpipakpkmfhlaaRtV
namespace Go.Proofs.Ytcpipakpkmfhlaa.Ints
open Go.RowKit
set_option linter.unusedVariables false
set_option linter.unusedSimpArgs false
end Go.Proofs.Ytcpipakpkmfhlaa.Ints
