/- Contracts of CompareNaturals, of the model and of the program. -/
import Derived.Test.YtcpipakpkmfhlaaCmpNat
namespace Go.Proofs.Ytcpipakpkmfhlaa.Ints
open Go.RowKit
set_option linter.unusedVariables false

noncomputable def cnV (xs ys : List Int) : Int := if natB xs = true ∧ natB ys = true then cmpN xs ys else 0
noncomputable def cnC (xs ys : List Int) : Int := if natB xs = true ∧ natB ys = true then 0 else 1
end Go.Proofs.Ytcpipakpkmfhlaa.Ints
