/- Contracts of CompareShortlex, of the model and of the program. -/
import Derived.Test.YtgfidlppocheoaaCmp
namespace Go.Proofs.Ytgfidlppocheoaa.Ints
open Go.RowKit
set_option linter.unusedVariables false
def shortL (xs ys : List Int) : Int := if xs.length < ys.length then -1 else if ys.length < xs.length then 1 else cmpL xs ys
end Go.Proofs.Ytgfidlppocheoaa.Ints
