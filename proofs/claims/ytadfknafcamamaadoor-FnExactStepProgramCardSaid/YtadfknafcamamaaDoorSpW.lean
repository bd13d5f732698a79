/- StepProgram: both contracts in the law's order. -/
import Derived.Test.YtadfknafcamamaaDoorSpS
import Derived.Test.YtadfknafcamamaaDoorCelD
namespace Go.Proofs.YtadfknafcamamaaDoor.Ints
open Go.RowKit
set_option linter.unusedVariables false
theorem put2sg {w : World} {g : Nat} {t : TypeId} {cs : List Value} (h : Cels w g t cs) (b0 b1 : Value) :
    w.grownBy ((w.setCell ⟨g, 0, none⟩ b0).setCell ⟨g, 1, none⟩ b1) (some g) := grown_trans (put1g _ _ _ _) (put1g _ _ _ _)
theorem specSP (v : Value) (rs : List Ins) (at' : Int) (u : Value) (cs : List Int) (w : World) (hv : RdIns w v rs) (hu : Rd w u cs) :
    Calls Tryd.prog 25 #[v, .agg #[.int .i64 at', u]] w fun e w' => ∃ r, e = .returned (.tuple #[.agg #[.int .i64 (spAt rs at' cs), r], .int .i64 (spC rs at' cs)]) ∧ Ow w' w.heap.size w'.heap.size r (spL rs at' cs) ∧ Below w.heap.size w w' := specStepProgram at' v u rs cs w hv hu
theorem implSP (v : Value) (rs : List Ins) (at' : Int) (u : Value) (cs : List Int) (w : World) (hv : RdIns w v rs) (hu : Rd w u cs) (he : EtV w) :
    Calls Tryd.prog 27 #[v, .agg #[.int .i64 at', u]] w fun e w' => ∃ r, e = .returned (.tuple #[.agg #[.int .i64 (spAt rs at' cs), r], .int .i64 (spC rs at' cs)]) ∧ Ow w' w.heap.size w'.heap.size r (spL rs at' cs) ∧ Below w.heap.size w w' := implStepProgram at' v u rs cs w hv hu he
end Go.Proofs.YtadfknafcamamaaDoor.Ints
