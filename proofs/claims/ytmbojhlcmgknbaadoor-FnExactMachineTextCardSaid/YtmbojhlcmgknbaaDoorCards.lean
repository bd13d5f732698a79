/-
  DERIVED. GIVEN WITH THE SEED: THE CARDS: each row of YtmbojhlcmgknbaaDoorRows.lean that lists a variable, with what it lists TIED to the program's text (the seventh form; the later family's looks); each row that meets fmt, with fmt's text TOLD by the authors' own Lean function (tested against real Go, not proved from fmt's source: count such statements apart). THE CARD IS WHAT COUNTS. Prove the row's statement (the work); the ties are given (YtmbojhlcmgknbaaDoorTie.lean); close each card by the builder's one call (the guide's Derived/Test/ToyasCard.lean, 'card_holds'). Laid BY PROGRAM, IN A SANDBOX (cutbox-door.mjs). By AI agents, Wed Nov 11 2026. No macro, syntax, notation, axiom, sorry.
-/
import Derived.Test.YtmbojhlcmgknbaaDoorRows
import GoSem.ClaimSeven
namespace Go.Proofs.YtmbojhlcmgknbaaDoor
namespace Rows

/-- THE TIED CARD OF 'laws.FnExactMachineText'. -/
def fnExactMachineTextCard : Claim7 := { stood := { row := fnExactMachineTextRow, standIns := [], harness := (true, "0bff7f4c540059c54cc4c1985054ae9494e53be26d74328d60002052a3a173d2"), looks := true }, kinds := [], alts := [], laidByText := true, laidKinds := [.data, .data, .data, .data], laidTests := true, laidLooks := .later }
def FnExactMachineTextCardSaid : Prop := Claim7.holds Tryd.pinned (.plain (OpenSpec.ofChange fnExactMachineTextSpec)) fnExactMachineTextCard

/-- THE TIED CARD OF 'laws.FnExactMultiText'. -/
def fnExactMultiTextCard : Claim7 := { stood := { row := fnExactMultiTextRow, standIns := [], harness := (true, "0bff7f4c540059c54cc4c1985054ae9494e53be26d74328d60002052a3a173d2"), looks := true }, kinds := [], alts := [], laidByText := true, laidKinds := [.data, .data, .data], laidTests := true, laidLooks := .later }
def FnExactMultiTextCardSaid : Prop := Claim7.holds Tryd.pinned (.plain (OpenSpec.ofChange fnExactMultiTextSpec)) fnExactMultiTextCard

/-- THE TIED CARD OF 'laws.FnExactTraceCounters'. -/
def fnExactTraceCountersCard : Claim7 := { stood := { row := fnExactTraceCountersRow, standIns := [], harness := (true, "0bff7f4c540059c54cc4c1985054ae9494e53be26d74328d60002052a3a173d2"), looks := true }, kinds := [], alts := [], laidByText := true, laidKinds := [.handle], laidTests := true, laidLooks := .later }
def FnExactTraceCountersCardSaid : Prop := Claim7.holds Tryd.pinned (.plain (OpenSpec.ofChange fnExactTraceCountersSpec)) fnExactTraceCountersCard

/-- THE TIED CARD OF 'laws.FnExactTraceTag'. -/
def fnExactTraceTagCard : Claim7 := { stood := { row := fnExactTraceTagRow, standIns := [], harness := (true, "0bff7f4c540059c54cc4c1985054ae9494e53be26d74328d60002052a3a173d2"), looks := true }, kinds := [], alts := [], laidByText := true, laidKinds := [.handle], laidTests := true, laidLooks := .later }
def FnExactTraceTagCardSaid : Prop := Claim7.holds Tryd.pinned (.plain (OpenSpec.ofChange fnExactTraceTagSpec)) fnExactTraceTagCard

/-- THE SECOND FORM's CARD OF 'laws.FnExactMachineText'. -/
def fnExactMachineTextUptoCard : Claim7 := { stood := { row := fnExactMachineTextUptoRow, standIns := [], harness := (true, "0bff7f4c540059c54cc4c1985054ae9494e53be26d74328d60002052a3a173d2"), looks := true }, kinds := [], alts := [], laidByText := true, laidKinds := [.data, .data, .data, .data], laidTests := true, laidLooks := .later }
def FnExactMachineTextUptoCardSaid : Prop := Claim7.holds Tryd.pinned (.plain (OpenSpec.upto fnExactMachineTextSpec)) fnExactMachineTextUptoCard

/-- THE SECOND FORM's CARD OF 'laws.FnExactMultiText'. -/
def fnExactMultiTextUptoCard : Claim7 := { stood := { row := fnExactMultiTextUptoRow, standIns := [], harness := (true, "0bff7f4c540059c54cc4c1985054ae9494e53be26d74328d60002052a3a173d2"), looks := true }, kinds := [], alts := [], laidByText := true, laidKinds := [.data, .data, .data], laidTests := true, laidLooks := .later }
def FnExactMultiTextUptoCardSaid : Prop := Claim7.holds Tryd.pinned (.plain (OpenSpec.upto fnExactMultiTextSpec)) fnExactMultiTextUptoCard

/-- THE SECOND FORM's CARD OF 'laws.FnExactTraceCounters'. -/
def fnExactTraceCountersUptoCard : Claim7 := { stood := { row := fnExactTraceCountersUptoRow, standIns := [], harness := (true, "0bff7f4c540059c54cc4c1985054ae9494e53be26d74328d60002052a3a173d2"), looks := true }, kinds := [], alts := [], laidByText := true, laidKinds := [.handle], laidTests := true, laidLooks := .later }
def FnExactTraceCountersUptoCardSaid : Prop := Claim7.holds Tryd.pinned (.plain (OpenSpec.upto fnExactTraceCountersSpec)) fnExactTraceCountersUptoCard

/-- THE SECOND FORM's CARD OF 'laws.FnExactTraceTag'. -/
def fnExactTraceTagUptoCard : Claim7 := { stood := { row := fnExactTraceTagUptoRow, standIns := [], harness := (true, "0bff7f4c540059c54cc4c1985054ae9494e53be26d74328d60002052a3a173d2"), looks := true }, kinds := [], alts := [], laidByText := true, laidKinds := [.handle], laidTests := true, laidLooks := .later }
def FnExactTraceTagUptoCardSaid : Prop := Claim7.holds Tryd.pinned (.plain (OpenSpec.upto fnExactTraceTagSpec)) fnExactTraceTagUptoCard
end Rows
end Go.Proofs.YtmbojhlcmgknbaaDoor
