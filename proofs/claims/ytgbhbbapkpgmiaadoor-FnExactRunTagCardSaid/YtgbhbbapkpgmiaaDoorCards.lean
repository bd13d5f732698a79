/-
  DERIVED. GIVEN WITH THE SEED: THE CARDS: each row of YtgbhbbapkpgmiaaDoorRows.lean that lists a variable, with what it lists TIED to the program's text (the seventh form; the later family's looks); each row that meets fmt, with fmt's text TOLD by the authors' own Lean function (tested against real Go, not proved from fmt's source: count such statements apart). THE CARD IS WHAT COUNTS. Prove the row's statement (the work); the ties are given (YtgbhbbapkpgmiaaDoorTie.lean); close each card by the builder's one call (the guide's Derived/Test/ToyasCard.lean, 'card_holds'). Laid BY PROGRAM, IN A SANDBOX (cutbox-door.mjs). By AI agents, Wed Nov 11 2026. No macro, syntax, notation, axiom, sorry.
-/
import Derived.Test.YtgbhbbapkpgmiaaDoorRows
import GoSem.ClaimSeven
namespace Go.Proofs.YtgbhbbapkpgmiaaDoor
namespace Rows

/-- THE TIED CARD OF 'laws.FnExactRunCounters'. -/
def fnExactRunCountersCard : Claim7 := { stood := { row := fnExactRunCountersRow, standIns := [], harness := (true, "eee6a4d104c7dc6ec1cd1acb840045d3df37c600f956d1caf597bc5aeadbbacb"), looks := true }, kinds := [], alts := [], laidByText := true, laidKinds := [.handle], laidTests := true, laidLooks := .later }
def FnExactRunCountersCardSaid : Prop := Claim7.holds Tryd.pinned (.plain (OpenSpec.ofChange fnExactRunCountersSpec)) fnExactRunCountersCard

/-- THE TIED CARD OF 'laws.FnExactRunProgram'. -/
def fnExactRunProgramCard : Claim7 := { stood := { row := fnExactRunProgramRow, standIns := [], harness := (true, "eee6a4d104c7dc6ec1cd1acb840045d3df37c600f956d1caf597bc5aeadbbacb"), looks := true }, kinds := [], alts := [], laidByText := true, laidKinds := [.handle], laidTests := true, laidLooks := .later }
def FnExactRunProgramCardSaid : Prop := Claim7.holds Tryd.pinned (.plain (OpenSpec.ofChange fnExactRunProgramSpec)) fnExactRunProgramCard

/-- THE TIED CARD OF 'laws.FnExactTraceCounters'. -/
def fnExactTraceCountersCard : Claim7 := { stood := { row := fnExactTraceCountersRow, standIns := [], harness := (true, "eee6a4d104c7dc6ec1cd1acb840045d3df37c600f956d1caf597bc5aeadbbacb"), looks := true }, kinds := [], alts := [], laidByText := true, laidKinds := [.handle], laidTests := true, laidLooks := .later }
def FnExactTraceCountersCardSaid : Prop := Claim7.holds Tryd.pinned (.plain (OpenSpec.ofChange fnExactTraceCountersSpec)) fnExactTraceCountersCard

/-- THE TIED CARD OF 'laws.FnExactStepTag'. -/
def fnExactStepTagCard : Claim7 := { stood := { row := fnExactStepTagRow, standIns := [], harness := (true, "eee6a4d104c7dc6ec1cd1acb840045d3df37c600f956d1caf597bc5aeadbbacb"), looks := true }, kinds := [], alts := [], laidByText := true, laidKinds := [.handle], laidTests := true, laidLooks := .later }
def FnExactStepTagCardSaid : Prop := Claim7.holds Tryd.pinned (.plain (OpenSpec.ofChange fnExactStepTagSpec)) fnExactStepTagCard

/-- THE TIED CARD OF 'laws.FnExactTraceProgram'. -/
def fnExactTraceProgramCard : Claim7 := { stood := { row := fnExactTraceProgramRow, standIns := [], harness := (true, "eee6a4d104c7dc6ec1cd1acb840045d3df37c600f956d1caf597bc5aeadbbacb"), looks := true }, kinds := [], alts := [], laidByText := true, laidKinds := [.handle], laidTests := true, laidLooks := .later }
def FnExactTraceProgramCardSaid : Prop := Claim7.holds Tryd.pinned (.plain (OpenSpec.ofChange fnExactTraceProgramSpec)) fnExactTraceProgramCard

/-- THE TIED CARD OF 'laws.FnExactRunTag'. -/
def fnExactRunTagCard : Claim7 := { stood := { row := fnExactRunTagRow, standIns := [], harness := (true, "eee6a4d104c7dc6ec1cd1acb840045d3df37c600f956d1caf597bc5aeadbbacb"), looks := true }, kinds := [], alts := [], laidByText := true, laidKinds := [.handle], laidTests := true, laidLooks := .later }
def FnExactRunTagCardSaid : Prop := Claim7.holds Tryd.pinned (.plain (OpenSpec.ofChange fnExactRunTagSpec)) fnExactRunTagCard

/-- THE TIED CARD OF 'laws.FnExactStepCyclic'. -/
def fnExactStepCyclicCard : Claim7 := { stood := { row := fnExactStepCyclicRow, standIns := [], harness := (true, "eee6a4d104c7dc6ec1cd1acb840045d3df37c600f956d1caf597bc5aeadbbacb"), looks := true }, kinds := [], alts := [], laidByText := true, laidKinds := [.handle], laidTests := true, laidLooks := .later }
def FnExactStepCyclicCardSaid : Prop := Claim7.holds Tryd.pinned (.plain (OpenSpec.ofChange fnExactStepCyclicSpec)) fnExactStepCyclicCard

/-- THE TIED CARD OF 'laws.FnExactRunCyclic'. -/
def fnExactRunCyclicCard : Claim7 := { stood := { row := fnExactRunCyclicRow, standIns := [], harness := (true, "eee6a4d104c7dc6ec1cd1acb840045d3df37c600f956d1caf597bc5aeadbbacb"), looks := true }, kinds := [], alts := [], laidByText := true, laidKinds := [.handle], laidTests := true, laidLooks := .later }
def FnExactRunCyclicCardSaid : Prop := Claim7.holds Tryd.pinned (.plain (OpenSpec.ofChange fnExactRunCyclicSpec)) fnExactRunCyclicCard

/-- THE TIED CARD OF 'laws.FnExactTagLengths'. -/
def fnExactTagLengthsCard : Claim7 := { stood := { row := fnExactTagLengthsRow, standIns := [], harness := (true, "eee6a4d104c7dc6ec1cd1acb840045d3df37c600f956d1caf597bc5aeadbbacb"), looks := true }, kinds := [], alts := [], laidByText := true, laidKinds := [.handle], laidTests := true, laidLooks := .later }
def FnExactTagLengthsCardSaid : Prop := Claim7.holds Tryd.pinned (.plain (OpenSpec.ofChange fnExactTagLengthsSpec)) fnExactTagLengthsCard

/-- THE SECOND FORM's CARD OF 'laws.FnExactRunCounters'. -/
def fnExactRunCountersUptoCard : Claim7 := { stood := { row := fnExactRunCountersUptoRow, standIns := [], harness := (true, "eee6a4d104c7dc6ec1cd1acb840045d3df37c600f956d1caf597bc5aeadbbacb"), looks := true }, kinds := [], alts := [], laidByText := true, laidKinds := [.handle], laidTests := true, laidLooks := .later }
def FnExactRunCountersUptoCardSaid : Prop := Claim7.holds Tryd.pinned (.plain (OpenSpec.upto fnExactRunCountersSpec)) fnExactRunCountersUptoCard

/-- THE SECOND FORM's CARD OF 'laws.FnExactRunProgram'. -/
def fnExactRunProgramUptoCard : Claim7 := { stood := { row := fnExactRunProgramUptoRow, standIns := [], harness := (true, "eee6a4d104c7dc6ec1cd1acb840045d3df37c600f956d1caf597bc5aeadbbacb"), looks := true }, kinds := [], alts := [], laidByText := true, laidKinds := [.handle], laidTests := true, laidLooks := .later }
def FnExactRunProgramUptoCardSaid : Prop := Claim7.holds Tryd.pinned (.plain (OpenSpec.upto fnExactRunProgramSpec)) fnExactRunProgramUptoCard

/-- THE SECOND FORM's CARD OF 'laws.FnExactTraceCounters'. -/
def fnExactTraceCountersUptoCard : Claim7 := { stood := { row := fnExactTraceCountersUptoRow, standIns := [], harness := (true, "eee6a4d104c7dc6ec1cd1acb840045d3df37c600f956d1caf597bc5aeadbbacb"), looks := true }, kinds := [], alts := [], laidByText := true, laidKinds := [.handle], laidTests := true, laidLooks := .later }
def FnExactTraceCountersUptoCardSaid : Prop := Claim7.holds Tryd.pinned (.plain (OpenSpec.upto fnExactTraceCountersSpec)) fnExactTraceCountersUptoCard

/-- THE SECOND FORM's CARD OF 'laws.FnExactStepTag'. -/
def fnExactStepTagUptoCard : Claim7 := { stood := { row := fnExactStepTagUptoRow, standIns := [], harness := (true, "eee6a4d104c7dc6ec1cd1acb840045d3df37c600f956d1caf597bc5aeadbbacb"), looks := true }, kinds := [], alts := [], laidByText := true, laidKinds := [.handle], laidTests := true, laidLooks := .later }
def FnExactStepTagUptoCardSaid : Prop := Claim7.holds Tryd.pinned (.plain (OpenSpec.upto fnExactStepTagSpec)) fnExactStepTagUptoCard

/-- THE SECOND FORM's CARD OF 'laws.FnExactTraceProgram'. -/
def fnExactTraceProgramUptoCard : Claim7 := { stood := { row := fnExactTraceProgramUptoRow, standIns := [], harness := (true, "eee6a4d104c7dc6ec1cd1acb840045d3df37c600f956d1caf597bc5aeadbbacb"), looks := true }, kinds := [], alts := [], laidByText := true, laidKinds := [.handle], laidTests := true, laidLooks := .later }
def FnExactTraceProgramUptoCardSaid : Prop := Claim7.holds Tryd.pinned (.plain (OpenSpec.upto fnExactTraceProgramSpec)) fnExactTraceProgramUptoCard

/-- THE SECOND FORM's CARD OF 'laws.FnExactRunTag'. -/
def fnExactRunTagUptoCard : Claim7 := { stood := { row := fnExactRunTagUptoRow, standIns := [], harness := (true, "eee6a4d104c7dc6ec1cd1acb840045d3df37c600f956d1caf597bc5aeadbbacb"), looks := true }, kinds := [], alts := [], laidByText := true, laidKinds := [.handle], laidTests := true, laidLooks := .later }
def FnExactRunTagUptoCardSaid : Prop := Claim7.holds Tryd.pinned (.plain (OpenSpec.upto fnExactRunTagSpec)) fnExactRunTagUptoCard

/-- THE SECOND FORM's CARD OF 'laws.FnExactStepCyclic'. -/
def fnExactStepCyclicUptoCard : Claim7 := { stood := { row := fnExactStepCyclicUptoRow, standIns := [], harness := (true, "eee6a4d104c7dc6ec1cd1acb840045d3df37c600f956d1caf597bc5aeadbbacb"), looks := true }, kinds := [], alts := [], laidByText := true, laidKinds := [.handle], laidTests := true, laidLooks := .later }
def FnExactStepCyclicUptoCardSaid : Prop := Claim7.holds Tryd.pinned (.plain (OpenSpec.upto fnExactStepCyclicSpec)) fnExactStepCyclicUptoCard

/-- THE SECOND FORM's CARD OF 'laws.FnExactRunCyclic'. -/
def fnExactRunCyclicUptoCard : Claim7 := { stood := { row := fnExactRunCyclicUptoRow, standIns := [], harness := (true, "eee6a4d104c7dc6ec1cd1acb840045d3df37c600f956d1caf597bc5aeadbbacb"), looks := true }, kinds := [], alts := [], laidByText := true, laidKinds := [.handle], laidTests := true, laidLooks := .later }
def FnExactRunCyclicUptoCardSaid : Prop := Claim7.holds Tryd.pinned (.plain (OpenSpec.upto fnExactRunCyclicSpec)) fnExactRunCyclicUptoCard

/-- THE SECOND FORM's CARD OF 'laws.FnExactTagLengths'. -/
def fnExactTagLengthsUptoCard : Claim7 := { stood := { row := fnExactTagLengthsUptoRow, standIns := [], harness := (true, "eee6a4d104c7dc6ec1cd1acb840045d3df37c600f956d1caf597bc5aeadbbacb"), looks := true }, kinds := [], alts := [], laidByText := true, laidKinds := [.handle], laidTests := true, laidLooks := .later }
def FnExactTagLengthsUptoCardSaid : Prop := Claim7.holds Tryd.pinned (.plain (OpenSpec.upto fnExactTagLengthsSpec)) fnExactTagLengthsUptoCard
end Rows
end Go.Proofs.YtgbhbbapkpgmiaaDoor
