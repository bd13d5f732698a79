/-
  DERIVED. GIVEN WITH THE SEED: THE CARDS: each row of YtkjoakdepjpkhaaDoorRows.lean that lists a variable, with what it lists TIED to the program's text (the seventh form; the later family's looks); each row that meets fmt, with fmt's text TOLD by the authors' own Lean function (tested against real Go, not proved from fmt's source: count such statements apart). THE CARD IS WHAT COUNTS. Prove the row's statement (the work); the ties are given (YtkjoakdepjpkhaaDoorTie.lean); close each card by the builder's one call (the guide's Derived/Test/ToyasCard.lean, 'card_holds'). Laid BY PROGRAM, IN A SANDBOX (cutbox-door.mjs). By AI agents, Wed Nov 11 2026. No macro, syntax, notation, axiom, sorry.
-/
import Derived.Test.YtkjoakdepjpkhaaDoorRows
import GoSem.ClaimSeven
namespace Go.Proofs.YtkjoakdepjpkhaaDoor
namespace Rows

/-- THE TIED CARD OF 'laws.FnExactTagLengths'. -/
def fnExactTagLengthsCard : Claim7 := { stood := { row := fnExactTagLengthsRow, standIns := [], harness := (true, "c0fc20f790dd7a661bba9688d90c0549d2b2be9d4476f1098c010769c9aec365"), looks := true }, kinds := [], alts := [], laidByText := true, laidKinds := [.handle], laidTests := true, laidLooks := .later }
def FnExactTagLengthsCardSaid : Prop := Claim7.holds Tryd.pinned (.plain (OpenSpec.ofChange fnExactTagLengthsSpec)) fnExactTagLengthsCard

/-- THE TIED CARD OF 'laws.FnExactStepCyclic'. -/
def fnExactStepCyclicCard : Claim7 := { stood := { row := fnExactStepCyclicRow, standIns := [], harness := (true, "c0fc20f790dd7a661bba9688d90c0549d2b2be9d4476f1098c010769c9aec365"), looks := true }, kinds := [], alts := [], laidByText := true, laidKinds := [.handle], laidTests := true, laidLooks := .later }
def FnExactStepCyclicCardSaid : Prop := Claim7.holds Tryd.pinned (.plain (OpenSpec.ofChange fnExactStepCyclicSpec)) fnExactStepCyclicCard

/-- THE TIED CARD OF 'laws.FnExactRunCyclic'. -/
def fnExactRunCyclicCard : Claim7 := { stood := { row := fnExactRunCyclicRow, standIns := [], harness := (true, "c0fc20f790dd7a661bba9688d90c0549d2b2be9d4476f1098c010769c9aec365"), looks := true }, kinds := [], alts := [], laidByText := true, laidKinds := [.handle], laidTests := true, laidLooks := .later }
def FnExactRunCyclicCardSaid : Prop := Claim7.holds Tryd.pinned (.plain (OpenSpec.ofChange fnExactRunCyclicSpec)) fnExactRunCyclicCard

/-- THE TIED CARD OF 'laws.FnExactTraceTag'. -/
def fnExactTraceTagCard : Claim7 := { stood := { row := fnExactTraceTagRow, standIns := [], harness := (true, "c0fc20f790dd7a661bba9688d90c0549d2b2be9d4476f1098c010769c9aec365"), looks := true }, kinds := [], alts := [], laidByText := true, laidKinds := [.handle], laidTests := true, laidLooks := .later }
def FnExactTraceTagCardSaid : Prop := Claim7.holds Tryd.pinned (.plain (OpenSpec.ofChange fnExactTraceTagSpec)) fnExactTraceTagCard

/-- THE TIED CARD OF 'laws.FnExactTraceCyclic'. -/
def fnExactTraceCyclicCard : Claim7 := { stood := { row := fnExactTraceCyclicRow, standIns := [], harness := (true, "c0fc20f790dd7a661bba9688d90c0549d2b2be9d4476f1098c010769c9aec365"), looks := true }, kinds := [], alts := [], laidByText := true, laidKinds := [.handle], laidTests := true, laidLooks := .later }
def FnExactTraceCyclicCardSaid : Prop := Claim7.holds Tryd.pinned (.plain (OpenSpec.ofChange fnExactTraceCyclicSpec)) fnExactTraceCyclicCard

/-- THE TIED CARD OF 'laws.FnExactTraceCounters'. -/
def fnExactTraceCountersCard : Claim7 := { stood := { row := fnExactTraceCountersRow, standIns := [], harness := (true, "c0fc20f790dd7a661bba9688d90c0549d2b2be9d4476f1098c010769c9aec365"), looks := true }, kinds := [], alts := [], laidByText := true, laidKinds := [.handle], laidTests := true, laidLooks := .later }
def FnExactTraceCountersCardSaid : Prop := Claim7.holds Tryd.pinned (.plain (OpenSpec.ofChange fnExactTraceCountersSpec)) fnExactTraceCountersCard

/-- THE TIED CARD OF 'laws.FnExactTraceProgram'. -/
def fnExactTraceProgramCard : Claim7 := { stood := { row := fnExactTraceProgramRow, standIns := [], harness := (true, "c0fc20f790dd7a661bba9688d90c0549d2b2be9d4476f1098c010769c9aec365"), looks := true }, kinds := [], alts := [], laidByText := true, laidKinds := [.handle], laidTests := true, laidLooks := .later }
def FnExactTraceProgramCardSaid : Prop := Claim7.holds Tryd.pinned (.plain (OpenSpec.ofChange fnExactTraceProgramSpec)) fnExactTraceProgramCard

/-- THE SECOND FORM's CARD OF 'laws.FnExactTagLengths'. -/
def fnExactTagLengthsUptoCard : Claim7 := { stood := { row := fnExactTagLengthsUptoRow, standIns := [], harness := (true, "c0fc20f790dd7a661bba9688d90c0549d2b2be9d4476f1098c010769c9aec365"), looks := true }, kinds := [], alts := [], laidByText := true, laidKinds := [.handle], laidTests := true, laidLooks := .later }
def FnExactTagLengthsUptoCardSaid : Prop := Claim7.holds Tryd.pinned (.plain (OpenSpec.upto fnExactTagLengthsSpec)) fnExactTagLengthsUptoCard

/-- THE SECOND FORM's CARD OF 'laws.FnExactStepCyclic'. -/
def fnExactStepCyclicUptoCard : Claim7 := { stood := { row := fnExactStepCyclicUptoRow, standIns := [], harness := (true, "c0fc20f790dd7a661bba9688d90c0549d2b2be9d4476f1098c010769c9aec365"), looks := true }, kinds := [], alts := [], laidByText := true, laidKinds := [.handle], laidTests := true, laidLooks := .later }
def FnExactStepCyclicUptoCardSaid : Prop := Claim7.holds Tryd.pinned (.plain (OpenSpec.upto fnExactStepCyclicSpec)) fnExactStepCyclicUptoCard

/-- THE SECOND FORM's CARD OF 'laws.FnExactRunCyclic'. -/
def fnExactRunCyclicUptoCard : Claim7 := { stood := { row := fnExactRunCyclicUptoRow, standIns := [], harness := (true, "c0fc20f790dd7a661bba9688d90c0549d2b2be9d4476f1098c010769c9aec365"), looks := true }, kinds := [], alts := [], laidByText := true, laidKinds := [.handle], laidTests := true, laidLooks := .later }
def FnExactRunCyclicUptoCardSaid : Prop := Claim7.holds Tryd.pinned (.plain (OpenSpec.upto fnExactRunCyclicSpec)) fnExactRunCyclicUptoCard

/-- THE SECOND FORM's CARD OF 'laws.FnExactTraceTag'. -/
def fnExactTraceTagUptoCard : Claim7 := { stood := { row := fnExactTraceTagUptoRow, standIns := [], harness := (true, "c0fc20f790dd7a661bba9688d90c0549d2b2be9d4476f1098c010769c9aec365"), looks := true }, kinds := [], alts := [], laidByText := true, laidKinds := [.handle], laidTests := true, laidLooks := .later }
def FnExactTraceTagUptoCardSaid : Prop := Claim7.holds Tryd.pinned (.plain (OpenSpec.upto fnExactTraceTagSpec)) fnExactTraceTagUptoCard

/-- THE SECOND FORM's CARD OF 'laws.FnExactTraceCyclic'. -/
def fnExactTraceCyclicUptoCard : Claim7 := { stood := { row := fnExactTraceCyclicUptoRow, standIns := [], harness := (true, "c0fc20f790dd7a661bba9688d90c0549d2b2be9d4476f1098c010769c9aec365"), looks := true }, kinds := [], alts := [], laidByText := true, laidKinds := [.handle], laidTests := true, laidLooks := .later }
def FnExactTraceCyclicUptoCardSaid : Prop := Claim7.holds Tryd.pinned (.plain (OpenSpec.upto fnExactTraceCyclicSpec)) fnExactTraceCyclicUptoCard

/-- THE SECOND FORM's CARD OF 'laws.FnExactTraceCounters'. -/
def fnExactTraceCountersUptoCard : Claim7 := { stood := { row := fnExactTraceCountersUptoRow, standIns := [], harness := (true, "c0fc20f790dd7a661bba9688d90c0549d2b2be9d4476f1098c010769c9aec365"), looks := true }, kinds := [], alts := [], laidByText := true, laidKinds := [.handle], laidTests := true, laidLooks := .later }
def FnExactTraceCountersUptoCardSaid : Prop := Claim7.holds Tryd.pinned (.plain (OpenSpec.upto fnExactTraceCountersSpec)) fnExactTraceCountersUptoCard

/-- THE SECOND FORM's CARD OF 'laws.FnExactTraceProgram'. -/
def fnExactTraceProgramUptoCard : Claim7 := { stood := { row := fnExactTraceProgramUptoRow, standIns := [], harness := (true, "c0fc20f790dd7a661bba9688d90c0549d2b2be9d4476f1098c010769c9aec365"), looks := true }, kinds := [], alts := [], laidByText := true, laidKinds := [.handle], laidTests := true, laidLooks := .later }
def FnExactTraceProgramUptoCardSaid : Prop := Claim7.holds Tryd.pinned (.plain (OpenSpec.upto fnExactTraceProgramSpec)) fnExactTraceProgramUptoCard
end Rows
end Go.Proofs.YtkjoakdepjpkhaaDoor
