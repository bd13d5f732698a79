/- StepProgram: both contracts in the law's order. -/
import Derived.Test.YtgbhbbapkpgmiaaDoorSpS
import Derived.Test.YtgbhbbapkpgmiaaDoorCelD
namespace Go.Proofs.YtgbhbbapkpgmiaaDoor.Ints
open Go.RowKit
set_option linter.unusedVariables false
theorem put2sg {w : World} {g : Nat} {t : TypeId} {cs : List Value} (h : Cels w g t cs) (b0 b1 : Value) :
    w.grownBy ((w.setCell ⟨g, 0, none⟩ b0).setCell ⟨g, 1, none⟩ b1) (some g) := grown_trans (put1g _ _ _ _) (put1g _ _ _ _)
end Go.Proofs.YtgbhbbapkpgmiaaDoor.Ints
