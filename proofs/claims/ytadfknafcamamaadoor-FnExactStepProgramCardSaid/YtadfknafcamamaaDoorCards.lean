/-
  DERIVED. GIVEN WITH THE SEED: THE CARDS: each row of YtadfknafcamamaaDoorRows.lean that lists a variable, with what it lists TIED to the program's text (the seventh form; the later family's looks); each row that meets fmt, with fmt's text TOLD by the authors' own Lean function (tested against real Go, not proved from fmt's source: count such statements apart). THE CARD IS WHAT COUNTS. Prove the row's statement (the work); the ties are given (YtadfknafcamamaaDoorTie.lean); close each card by the builder's one call (the guide's Derived/Test/ToyasCard.lean, 'card_holds'). Laid BY PROGRAM, IN A SANDBOX (cutbox-door.mjs). By AI agents, Wed Nov 11 2026. No macro, syntax, notation, axiom, sorry.
-/
import Derived.Test.YtadfknafcamamaaDoorRows
import GoSem.ClaimSeven
namespace Go.Proofs.YtadfknafcamamaaDoor
namespace Rows

/-- THE TIED CARD OF 'laws.FnExactStepCounters'. -/
def fnExactStepCountersCard : Claim7 := { stood := { row := fnExactStepCountersRow, standIns := [], harness := (true, "1e9900bf87a813631d4fc5a6f8bc0a08388d027e4dfa2ce9a235c728b820ac28"), looks := true }, kinds := [], alts := [], laidByText := true, laidKinds := [.handle], laidTests := true, laidLooks := .later }
def FnExactStepCountersCardSaid : Prop := Claim7.holds Tryd.pinned (.plain (OpenSpec.ofChange fnExactStepCountersSpec)) fnExactStepCountersCard

/-- THE TIED CARD OF 'laws.FnExactRunCounters'. -/
def fnExactRunCountersCard : Claim7 := { stood := { row := fnExactRunCountersRow, standIns := [], harness := (true, "1e9900bf87a813631d4fc5a6f8bc0a08388d027e4dfa2ce9a235c728b820ac28"), looks := true }, kinds := [], alts := [], laidByText := true, laidKinds := [.handle], laidTests := true, laidLooks := .later }
def FnExactRunCountersCardSaid : Prop := Claim7.holds Tryd.pinned (.plain (OpenSpec.ofChange fnExactRunCountersSpec)) fnExactRunCountersCard

/-- THE TIED CARD OF 'laws.FnExactTraceCounters'. -/
def fnExactTraceCountersCard : Claim7 := { stood := { row := fnExactTraceCountersRow, standIns := [], harness := (true, "1e9900bf87a813631d4fc5a6f8bc0a08388d027e4dfa2ce9a235c728b820ac28"), looks := true }, kinds := [], alts := [], laidByText := true, laidKinds := [.handle], laidTests := true, laidLooks := .later }
def FnExactTraceCountersCardSaid : Prop := Claim7.holds Tryd.pinned (.plain (OpenSpec.ofChange fnExactTraceCountersSpec)) fnExactTraceCountersCard

/-- THE TIED CARD OF 'laws.FnExactStepProgram'. -/
def fnExactStepProgramCard : Claim7 := { stood := { row := fnExactStepProgramRow, standIns := [], harness := (true, "1e9900bf87a813631d4fc5a6f8bc0a08388d027e4dfa2ce9a235c728b820ac28"), looks := true }, kinds := [], alts := [], laidByText := true, laidKinds := [.handle], laidTests := true, laidLooks := .later }
def FnExactStepProgramCardSaid : Prop := Claim7.holds Tryd.pinned (.plain (OpenSpec.ofChange fnExactStepProgramSpec)) fnExactStepProgramCard

/-- THE TIED CARD OF 'laws.FnExactRunProgram'. -/
def fnExactRunProgramCard : Claim7 := { stood := { row := fnExactRunProgramRow, standIns := [], harness := (true, "1e9900bf87a813631d4fc5a6f8bc0a08388d027e4dfa2ce9a235c728b820ac28"), looks := true }, kinds := [], alts := [], laidByText := true, laidKinds := [.handle], laidTests := true, laidLooks := .later }
def FnExactRunProgramCardSaid : Prop := Claim7.holds Tryd.pinned (.plain (OpenSpec.ofChange fnExactRunProgramSpec)) fnExactRunProgramCard

/-- THE TIED CARD OF 'laws.FnExactTraceProgram'. -/
def fnExactTraceProgramCard : Claim7 := { stood := { row := fnExactTraceProgramRow, standIns := [], harness := (true, "1e9900bf87a813631d4fc5a6f8bc0a08388d027e4dfa2ce9a235c728b820ac28"), looks := true }, kinds := [], alts := [], laidByText := true, laidKinds := [.handle], laidTests := true, laidLooks := .later }
def FnExactTraceProgramCardSaid : Prop := Claim7.holds Tryd.pinned (.plain (OpenSpec.ofChange fnExactTraceProgramSpec)) fnExactTraceProgramCard

/-- THE SECOND FORM's CARD OF 'laws.FnExactStepCounters'. -/
def fnExactStepCountersUptoCard : Claim7 := { stood := { row := fnExactStepCountersUptoRow, standIns := [], harness := (true, "1e9900bf87a813631d4fc5a6f8bc0a08388d027e4dfa2ce9a235c728b820ac28"), looks := true }, kinds := [], alts := [], laidByText := true, laidKinds := [.handle], laidTests := true, laidLooks := .later }
def FnExactStepCountersUptoCardSaid : Prop := Claim7.holds Tryd.pinned (.plain (OpenSpec.upto fnExactStepCountersSpec)) fnExactStepCountersUptoCard

/-- THE SECOND FORM's CARD OF 'laws.FnExactRunCounters'. -/
def fnExactRunCountersUptoCard : Claim7 := { stood := { row := fnExactRunCountersUptoRow, standIns := [], harness := (true, "1e9900bf87a813631d4fc5a6f8bc0a08388d027e4dfa2ce9a235c728b820ac28"), looks := true }, kinds := [], alts := [], laidByText := true, laidKinds := [.handle], laidTests := true, laidLooks := .later }
def FnExactRunCountersUptoCardSaid : Prop := Claim7.holds Tryd.pinned (.plain (OpenSpec.upto fnExactRunCountersSpec)) fnExactRunCountersUptoCard

/-- THE SECOND FORM's CARD OF 'laws.FnExactTraceCounters'. -/
def fnExactTraceCountersUptoCard : Claim7 := { stood := { row := fnExactTraceCountersUptoRow, standIns := [], harness := (true, "1e9900bf87a813631d4fc5a6f8bc0a08388d027e4dfa2ce9a235c728b820ac28"), looks := true }, kinds := [], alts := [], laidByText := true, laidKinds := [.handle], laidTests := true, laidLooks := .later }
def FnExactTraceCountersUptoCardSaid : Prop := Claim7.holds Tryd.pinned (.plain (OpenSpec.upto fnExactTraceCountersSpec)) fnExactTraceCountersUptoCard

/-- THE SECOND FORM's CARD OF 'laws.FnExactStepProgram'. -/
def fnExactStepProgramUptoCard : Claim7 := { stood := { row := fnExactStepProgramUptoRow, standIns := [], harness := (true, "1e9900bf87a813631d4fc5a6f8bc0a08388d027e4dfa2ce9a235c728b820ac28"), looks := true }, kinds := [], alts := [], laidByText := true, laidKinds := [.handle], laidTests := true, laidLooks := .later }
def FnExactStepProgramUptoCardSaid : Prop := Claim7.holds Tryd.pinned (.plain (OpenSpec.upto fnExactStepProgramSpec)) fnExactStepProgramUptoCard

/-- THE SECOND FORM's CARD OF 'laws.FnExactRunProgram'. -/
def fnExactRunProgramUptoCard : Claim7 := { stood := { row := fnExactRunProgramUptoRow, standIns := [], harness := (true, "1e9900bf87a813631d4fc5a6f8bc0a08388d027e4dfa2ce9a235c728b820ac28"), looks := true }, kinds := [], alts := [], laidByText := true, laidKinds := [.handle], laidTests := true, laidLooks := .later }
def FnExactRunProgramUptoCardSaid : Prop := Claim7.holds Tryd.pinned (.plain (OpenSpec.upto fnExactRunProgramSpec)) fnExactRunProgramUptoCard

/-- THE SECOND FORM's CARD OF 'laws.FnExactTraceProgram'. -/
def fnExactTraceProgramUptoCard : Claim7 := { stood := { row := fnExactTraceProgramUptoRow, standIns := [], harness := (true, "1e9900bf87a813631d4fc5a6f8bc0a08388d027e4dfa2ce9a235c728b820ac28"), looks := true }, kinds := [], alts := [], laidByText := true, laidKinds := [.handle], laidTests := true, laidLooks := .later }
def FnExactTraceProgramUptoCardSaid : Prop := Claim7.holds Tryd.pinned (.plain (OpenSpec.upto fnExactTraceProgramSpec)) fnExactTraceProgramUptoCard
end Rows
end Go.Proofs.YtadfknafcamamaaDoor
