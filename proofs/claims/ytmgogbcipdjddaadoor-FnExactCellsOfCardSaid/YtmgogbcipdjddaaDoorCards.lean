/-
  DERIVED. GIVEN WITH THE SEED: THE CARDS: each row of YtmgogbcipdjddaaDoorRows.lean that lists a variable, with what it lists TIED to the program's text (the seventh form; the later family's looks); each row that meets fmt, with fmt's text TOLD by the authors' own Lean function (tested against real Go, not proved from fmt's source: count such statements apart). THE CARD IS WHAT COUNTS. Prove the row's statement (the work); the ties are given (YtmgogbcipdjddaaDoorTie.lean); close each card by the builder's one call (the guide's Derived/Test/ToyasCard.lean, 'card_holds'). Laid BY PROGRAM, IN A SANDBOX (cutbox-door.mjs). By AI agents, Wed Nov 11 2026. No macro, syntax, notation, axiom, sorry.
-/
import Derived.Test.YtmgogbcipdjddaaDoorRows
import GoSem.ClaimSeven
namespace Go.Proofs.YtmgogbcipdjddaaDoor
namespace Rows

/-- THE TIED CARD OF 'laws.FnExactValidConfig'. -/
def fnExactValidConfigCard : Claim7 := { stood := { row := fnExactValidConfigRow, standIns := [], harness := (true, "c55629d5258df5787542cb948229df54977e89236064997cf78e3dd7c72c83a1"), looks := false }, kinds := [], alts := [], laidByText := true, laidKinds := [.data], laidTests := true, laidLooks := .later }
def FnExactValidConfigCardSaid : Prop := Claim7.holds Tryd.pinned (.plain (OpenSpec.ofChange fnExactValidConfigSpec)) fnExactValidConfigCard

/-- THE TIED CARD OF 'laws.FnExactCellsOf'. -/
def fnExactCellsOfCard : Claim7 := { stood := { row := fnExactCellsOfRow, standIns := [], harness := (true, "c55629d5258df5787542cb948229df54977e89236064997cf78e3dd7c72c83a1"), looks := false }, kinds := [], alts := [], laidByText := true, laidKinds := [.data], laidTests := true, laidLooks := .later }
def FnExactCellsOfCardSaid : Prop := Claim7.holds Tryd.pinned (.plain (OpenSpec.ofChange fnExactCellsOfSpec)) fnExactCellsOfCard

/-- THE TIED CARD OF 'laws.FnExactStartConfig'. -/
def fnExactStartConfigCard : Claim7 := { stood := { row := fnExactStartConfigRow, standIns := [], harness := (true, "c55629d5258df5787542cb948229df54977e89236064997cf78e3dd7c72c83a1"), looks := false }, kinds := [], alts := [], laidByText := true, laidKinds := [.data], laidTests := true, laidLooks := .later }
def FnExactStartConfigCardSaid : Prop := Claim7.holds Tryd.pinned (.plain (OpenSpec.ofChange fnExactStartConfigSpec)) fnExactStartConfigCard

/-- THE TIED CARD OF 'laws.FnExactMirrorConfig'. -/
def fnExactMirrorConfigCard : Claim7 := { stood := { row := fnExactMirrorConfigRow, standIns := [], harness := (true, "c55629d5258df5787542cb948229df54977e89236064997cf78e3dd7c72c83a1"), looks := false }, kinds := [], alts := [], laidByText := true, laidKinds := [.data], laidTests := true, laidLooks := .later }
def FnExactMirrorConfigCardSaid : Prop := Claim7.holds Tryd.pinned (.plain (OpenSpec.ofChange fnExactMirrorConfigSpec)) fnExactMirrorConfigCard

/-- THE TIED CARD OF 'laws.FnExactRenameStates'. -/
def fnExactRenameStatesCard : Claim7 := { stood := { row := fnExactRenameStatesRow, standIns := [], harness := (true, "c55629d5258df5787542cb948229df54977e89236064997cf78e3dd7c72c83a1"), looks := false }, kinds := [], alts := [], laidByText := true, laidKinds := [.data], laidTests := true, laidLooks := .later }
def FnExactRenameStatesCardSaid : Prop := Claim7.holds Tryd.pinned (.plain (OpenSpec.ofChange fnExactRenameStatesSpec)) fnExactRenameStatesCard

/-- THE TIED CARD OF 'laws.FnExactSwapSymbols'. -/
def fnExactSwapSymbolsCard : Claim7 := { stood := { row := fnExactSwapSymbolsRow, standIns := [], harness := (true, "c55629d5258df5787542cb948229df54977e89236064997cf78e3dd7c72c83a1"), looks := false }, kinds := [], alts := [], laidByText := true, laidKinds := [.data], laidTests := true, laidLooks := .later }
def FnExactSwapSymbolsCardSaid : Prop := Claim7.holds Tryd.pinned (.plain (OpenSpec.ofChange fnExactSwapSymbolsSpec)) fnExactSwapSymbolsCard

/-- THE TIED CARD OF 'laws.FnExactPruneMachine'. -/
def fnExactPruneMachineCard : Claim7 := { stood := { row := fnExactPruneMachineRow, standIns := [], harness := (true, "c55629d5258df5787542cb948229df54977e89236064997cf78e3dd7c72c83a1"), looks := false }, kinds := [], alts := [], laidByText := true, laidKinds := [.data], laidTests := true, laidLooks := .later }
def FnExactPruneMachineCardSaid : Prop := Claim7.holds Tryd.pinned (.plain (OpenSpec.ofChange fnExactPruneMachineSpec)) fnExactPruneMachineCard

/-- THE TIED CARD OF 'laws.FnExactSetRule'. -/
def fnExactSetRuleCard : Claim7 := { stood := { row := fnExactSetRuleRow, standIns := [], harness := (true, "c55629d5258df5787542cb948229df54977e89236064997cf78e3dd7c72c83a1"), looks := false }, kinds := [], alts := [], laidByText := true, laidKinds := [.data], laidTests := true, laidLooks := .later }
def FnExactSetRuleCardSaid : Prop := Claim7.holds Tryd.pinned (.plain (OpenSpec.ofChange fnExactSetRuleSpec)) fnExactSetRuleCard

/-- THE SECOND FORM's CARD OF 'laws.FnExactValidConfig'. -/
def fnExactValidConfigUptoCard : Claim7 := { stood := { row := fnExactValidConfigUptoRow, standIns := [], harness := (true, "c55629d5258df5787542cb948229df54977e89236064997cf78e3dd7c72c83a1"), looks := false }, kinds := [], alts := [], laidByText := true, laidKinds := [.data], laidTests := true, laidLooks := .later }
def FnExactValidConfigUptoCardSaid : Prop := Claim7.holds Tryd.pinned (.plain (OpenSpec.upto fnExactValidConfigSpec)) fnExactValidConfigUptoCard

/-- THE SECOND FORM's CARD OF 'laws.FnExactCellsOf'. -/
def fnExactCellsOfUptoCard : Claim7 := { stood := { row := fnExactCellsOfUptoRow, standIns := [], harness := (true, "c55629d5258df5787542cb948229df54977e89236064997cf78e3dd7c72c83a1"), looks := false }, kinds := [], alts := [], laidByText := true, laidKinds := [.data], laidTests := true, laidLooks := .later }
def FnExactCellsOfUptoCardSaid : Prop := Claim7.holds Tryd.pinned (.plain (OpenSpec.upto fnExactCellsOfSpec)) fnExactCellsOfUptoCard

/-- THE SECOND FORM's CARD OF 'laws.FnExactStartConfig'. -/
def fnExactStartConfigUptoCard : Claim7 := { stood := { row := fnExactStartConfigUptoRow, standIns := [], harness := (true, "c55629d5258df5787542cb948229df54977e89236064997cf78e3dd7c72c83a1"), looks := false }, kinds := [], alts := [], laidByText := true, laidKinds := [.data], laidTests := true, laidLooks := .later }
def FnExactStartConfigUptoCardSaid : Prop := Claim7.holds Tryd.pinned (.plain (OpenSpec.upto fnExactStartConfigSpec)) fnExactStartConfigUptoCard

/-- THE SECOND FORM's CARD OF 'laws.FnExactMirrorConfig'. -/
def fnExactMirrorConfigUptoCard : Claim7 := { stood := { row := fnExactMirrorConfigUptoRow, standIns := [], harness := (true, "c55629d5258df5787542cb948229df54977e89236064997cf78e3dd7c72c83a1"), looks := false }, kinds := [], alts := [], laidByText := true, laidKinds := [.data], laidTests := true, laidLooks := .later }
def FnExactMirrorConfigUptoCardSaid : Prop := Claim7.holds Tryd.pinned (.plain (OpenSpec.upto fnExactMirrorConfigSpec)) fnExactMirrorConfigUptoCard

/-- THE SECOND FORM's CARD OF 'laws.FnExactRenameStates'. -/
def fnExactRenameStatesUptoCard : Claim7 := { stood := { row := fnExactRenameStatesUptoRow, standIns := [], harness := (true, "c55629d5258df5787542cb948229df54977e89236064997cf78e3dd7c72c83a1"), looks := false }, kinds := [], alts := [], laidByText := true, laidKinds := [.data], laidTests := true, laidLooks := .later }
def FnExactRenameStatesUptoCardSaid : Prop := Claim7.holds Tryd.pinned (.plain (OpenSpec.upto fnExactRenameStatesSpec)) fnExactRenameStatesUptoCard

/-- THE SECOND FORM's CARD OF 'laws.FnExactSwapSymbols'. -/
def fnExactSwapSymbolsUptoCard : Claim7 := { stood := { row := fnExactSwapSymbolsUptoRow, standIns := [], harness := (true, "c55629d5258df5787542cb948229df54977e89236064997cf78e3dd7c72c83a1"), looks := false }, kinds := [], alts := [], laidByText := true, laidKinds := [.data], laidTests := true, laidLooks := .later }
def FnExactSwapSymbolsUptoCardSaid : Prop := Claim7.holds Tryd.pinned (.plain (OpenSpec.upto fnExactSwapSymbolsSpec)) fnExactSwapSymbolsUptoCard

/-- THE SECOND FORM's CARD OF 'laws.FnExactPruneMachine'. -/
def fnExactPruneMachineUptoCard : Claim7 := { stood := { row := fnExactPruneMachineUptoRow, standIns := [], harness := (true, "c55629d5258df5787542cb948229df54977e89236064997cf78e3dd7c72c83a1"), looks := false }, kinds := [], alts := [], laidByText := true, laidKinds := [.data], laidTests := true, laidLooks := .later }
def FnExactPruneMachineUptoCardSaid : Prop := Claim7.holds Tryd.pinned (.plain (OpenSpec.upto fnExactPruneMachineSpec)) fnExactPruneMachineUptoCard

/-- THE SECOND FORM's CARD OF 'laws.FnExactSetRule'. -/
def fnExactSetRuleUptoCard : Claim7 := { stood := { row := fnExactSetRuleUptoRow, standIns := [], harness := (true, "c55629d5258df5787542cb948229df54977e89236064997cf78e3dd7c72c83a1"), looks := false }, kinds := [], alts := [], laidByText := true, laidKinds := [.data], laidTests := true, laidLooks := .later }
def FnExactSetRuleUptoCardSaid : Prop := Claim7.holds Tryd.pinned (.plain (OpenSpec.upto fnExactSetRuleSpec)) fnExactSetRuleUptoCard
end Rows
end Go.Proofs.YtmgogbcipdjddaaDoor
