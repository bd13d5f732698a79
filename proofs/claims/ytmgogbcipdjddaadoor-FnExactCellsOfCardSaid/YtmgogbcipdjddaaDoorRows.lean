/-
  NARROWER THAN 'FOR EVERY INPUT', by the rows' own cells (each row's printed sentence says how): FnExactValidConfig: laid · FnExactCellsOf: laid · FnExactStartConfig: laid · FnExactMirrorConfig: laid · FnExactRenameStates: laid · FnExactSwapSymbols: laid · FnExactPruneMachine: laid · FnExactSetRule: laid.
  DERIVED. THE GIVEN ROWS OF THIS SEAT. 8 by the template 'for every input the law returns true; each argument reads behind the call as it read before'; 0 by the template 'total and deterministic' (their statements: YtmgogbcipdjddaaDoorTotals.lean).
  GIVEN WITH THE SEED: the statements are not yours to turn. If you find one false, say at which input.
  Laid BY PROGRAM, IN A SANDBOX (cutbox-rows.mjs): the forced cells as the released guide's own fill.sh prints them over the translation f5fa5a5fae8d48b1… (all of the seat's roots in one cut). By AI agents, Wed Nov 11 2026. No macro, syntax, notation, axiom, sorry.
-/
import Derived.Test.YtmgogbcipdjddaaDoorChecked
import GoSem.Claim
import GoSem.ClaimJoined
import GoSem.ClaimMapViews
import Derived.JoinedTies
import Derived.KernelRfl
namespace Go.Proofs.YtmgogbcipdjddaaDoor
/- THE CELL 'sum', in the pinned program and in every row, IS THE sha256 OF THE DUMP (.gsa) THAT YtmgogbcipdjddaaDoorProg.lean LOADS. Nothing in Lean hashes anything: it is a label: what it is worth is what the hold of that sum in a sandbox is worth. -/
noncomputable def Tryd.pinned : Pinned := { name := "ytmgogbcipdjddaadoor", sum := "f5fa5a5fae8d48b1fb186d26aff3416a0dabed208d8e14cdb8751e8f5c3ccb9a", checked := Tryd.checked }
namespace Rows
def none {H : Type} : Left H := { results := [], args := [] }

/- WHAT THE LISTED PACKAGE-LEVEL VARIABLES READ AS WHEN THE CALL BEGINS. Each datum BY PROGRAM (the guide's laid-datum.mjs) off the statement by which the dump's own 'gosem.cut.vars' lays the variable. In a bare row this is a premise. The card (YtmgogbcipdjddaaDoorCards.lean) ties it to the program's text. -/
def laid_loop_example_g01079_impl_noRule {H : Type} : DataW H := .agg [.lit (.int .i64 0), .lit (.int .i64 0), .lit (.int .i64 (-1))]

/-- 'laws.FnExactValidConfig': WHATEVER THE INPUT: true; the input reads as it did. -/
def fnExactValidConfigSpec : ChangeSpec := { name := "fnExactValidConfig", vars := ["loop.example/g01079/impl.noRule"], fn := fun _ => fun
  | [d1, d2, g1] => { results := [.lit (.bool true)], args := [d1, d2], vars := [g1] }
  | _ => none }
def fnExactValidConfigRow : OpenClaim := { program := "ytmgogbcipdjddaadoor", sum := "f5fa5a5fae8d48b1fb186d26aff3416a0dabed208d8e14cdb8751e8f5c3ccb9a", func := "loop.example/g01079/laws.FnExactValidConfig", spec := "fnExactValidConfig", unfollowed := true, recurses := true, named := ["loop.example/g01079/impl.noRule"], apart := false, laid := [("loop.example/g01079/impl.noRule", laid_loop_example_g01079_impl_noRule)] }
def FnExactValidConfigSaid : Prop := fnExactValidConfigRow.holds Tryd.pinned (OpenSpec.ofChange fnExactValidConfigSpec)

/-- ITS FALSE NEIGHBOUR: 'it returns false'. Refute it at one input. -/
def fnExactValidConfigWrong : ChangeSpec := { name := "fnExactValidConfig", vars := ["loop.example/g01079/impl.noRule"], fn := fun _ => fun
  | [d1, d2, g1] => { results := [.lit (.bool false)], args := [d1, d2], vars := [g1] }
  | _ => none }
def FnExactValidConfigWrongFalsely : Prop := fnExactValidConfigRow.holds Tryd.pinned (OpenSpec.ofChange fnExactValidConfigWrong)

/-- 'laws.FnExactCellsOf': WHATEVER THE INPUT: true; the input reads as it did. -/
def fnExactCellsOfSpec : ChangeSpec := { name := "fnExactCellsOf", vars := ["loop.example/g01079/impl.noRule"], fn := fun _ => fun
  | [d1, d2, g1] => { results := [.lit (.bool true)], args := [d1, d2], vars := [g1] }
  | _ => none }
def fnExactCellsOfRow : OpenClaim := { program := "ytmgogbcipdjddaadoor", sum := "f5fa5a5fae8d48b1fb186d26aff3416a0dabed208d8e14cdb8751e8f5c3ccb9a", func := "loop.example/g01079/laws.FnExactCellsOf", spec := "fnExactCellsOf", unfollowed := true, recurses := true, named := ["loop.example/g01079/impl.noRule"], apart := false, laid := [("loop.example/g01079/impl.noRule", laid_loop_example_g01079_impl_noRule)] }
def FnExactCellsOfSaid : Prop := fnExactCellsOfRow.holds Tryd.pinned (OpenSpec.ofChange fnExactCellsOfSpec)

/-- ITS FALSE NEIGHBOUR: 'it returns false'. Refute it at one input. -/
def fnExactCellsOfWrong : ChangeSpec := { name := "fnExactCellsOf", vars := ["loop.example/g01079/impl.noRule"], fn := fun _ => fun
  | [d1, d2, g1] => { results := [.lit (.bool false)], args := [d1, d2], vars := [g1] }
  | _ => none }
def FnExactCellsOfWrongFalsely : Prop := fnExactCellsOfRow.holds Tryd.pinned (OpenSpec.ofChange fnExactCellsOfWrong)

/-- 'laws.FnExactStartConfig': WHATEVER THE INPUT: true; the input reads as it did. -/
def fnExactStartConfigSpec : ChangeSpec := { name := "fnExactStartConfig", vars := ["loop.example/g01079/impl.noRule"], fn := fun _ => fun
  | [d1, d2, g1] => { results := [.lit (.bool true)], args := [d1, d2], vars := [g1] }
  | _ => none }
def fnExactStartConfigRow : OpenClaim := { program := "ytmgogbcipdjddaadoor", sum := "f5fa5a5fae8d48b1fb186d26aff3416a0dabed208d8e14cdb8751e8f5c3ccb9a", func := "loop.example/g01079/laws.FnExactStartConfig", spec := "fnExactStartConfig", unfollowed := true, recurses := true, named := ["loop.example/g01079/impl.noRule"], apart := false, laid := [("loop.example/g01079/impl.noRule", laid_loop_example_g01079_impl_noRule)] }
def FnExactStartConfigSaid : Prop := fnExactStartConfigRow.holds Tryd.pinned (OpenSpec.ofChange fnExactStartConfigSpec)

/-- ITS FALSE NEIGHBOUR: 'it returns false'. Refute it at one input. -/
def fnExactStartConfigWrong : ChangeSpec := { name := "fnExactStartConfig", vars := ["loop.example/g01079/impl.noRule"], fn := fun _ => fun
  | [d1, d2, g1] => { results := [.lit (.bool false)], args := [d1, d2], vars := [g1] }
  | _ => none }
def FnExactStartConfigWrongFalsely : Prop := fnExactStartConfigRow.holds Tryd.pinned (OpenSpec.ofChange fnExactStartConfigWrong)

/-- 'laws.FnExactMirrorConfig': WHATEVER THE INPUT: true; the input reads as it did. -/
def fnExactMirrorConfigSpec : ChangeSpec := { name := "fnExactMirrorConfig", vars := ["loop.example/g01079/impl.noRule"], fn := fun _ => fun
  | [d1, d2, g1] => { results := [.lit (.bool true)], args := [d1, d2], vars := [g1] }
  | _ => none }
def fnExactMirrorConfigRow : OpenClaim := { program := "ytmgogbcipdjddaadoor", sum := "f5fa5a5fae8d48b1fb186d26aff3416a0dabed208d8e14cdb8751e8f5c3ccb9a", func := "loop.example/g01079/laws.FnExactMirrorConfig", spec := "fnExactMirrorConfig", unfollowed := true, recurses := true, named := ["loop.example/g01079/impl.noRule"], apart := false, laid := [("loop.example/g01079/impl.noRule", laid_loop_example_g01079_impl_noRule)] }
def FnExactMirrorConfigSaid : Prop := fnExactMirrorConfigRow.holds Tryd.pinned (OpenSpec.ofChange fnExactMirrorConfigSpec)

/-- ITS FALSE NEIGHBOUR: 'it returns false'. Refute it at one input. -/
def fnExactMirrorConfigWrong : ChangeSpec := { name := "fnExactMirrorConfig", vars := ["loop.example/g01079/impl.noRule"], fn := fun _ => fun
  | [d1, d2, g1] => { results := [.lit (.bool false)], args := [d1, d2], vars := [g1] }
  | _ => none }
def FnExactMirrorConfigWrongFalsely : Prop := fnExactMirrorConfigRow.holds Tryd.pinned (OpenSpec.ofChange fnExactMirrorConfigWrong)

/-- 'laws.FnExactRenameStates': WHATEVER THE INPUT: true; the input reads as it did. -/
def fnExactRenameStatesSpec : ChangeSpec := { name := "fnExactRenameStates", vars := ["loop.example/g01079/impl.noRule"], fn := fun _ => fun
  | [d1, d2, g1] => { results := [.lit (.bool true)], args := [d1, d2], vars := [g1] }
  | _ => none }
def fnExactRenameStatesRow : OpenClaim := { program := "ytmgogbcipdjddaadoor", sum := "f5fa5a5fae8d48b1fb186d26aff3416a0dabed208d8e14cdb8751e8f5c3ccb9a", func := "loop.example/g01079/laws.FnExactRenameStates", spec := "fnExactRenameStates", unfollowed := true, recurses := true, named := ["loop.example/g01079/impl.noRule"], apart := false, laid := [("loop.example/g01079/impl.noRule", laid_loop_example_g01079_impl_noRule)] }
def FnExactRenameStatesSaid : Prop := fnExactRenameStatesRow.holds Tryd.pinned (OpenSpec.ofChange fnExactRenameStatesSpec)

/-- ITS FALSE NEIGHBOUR: 'it returns false'. Refute it at one input. -/
def fnExactRenameStatesWrong : ChangeSpec := { name := "fnExactRenameStates", vars := ["loop.example/g01079/impl.noRule"], fn := fun _ => fun
  | [d1, d2, g1] => { results := [.lit (.bool false)], args := [d1, d2], vars := [g1] }
  | _ => none }
def FnExactRenameStatesWrongFalsely : Prop := fnExactRenameStatesRow.holds Tryd.pinned (OpenSpec.ofChange fnExactRenameStatesWrong)

/-- 'laws.FnExactSwapSymbols': WHATEVER THE INPUT: true; the input reads as it did. -/
def fnExactSwapSymbolsSpec : ChangeSpec := { name := "fnExactSwapSymbols", vars := ["loop.example/g01079/impl.noRule"], fn := fun _ => fun
  | [d1, d2, g1] => { results := [.lit (.bool true)], args := [d1, d2], vars := [g1] }
  | _ => none }
def fnExactSwapSymbolsRow : OpenClaim := { program := "ytmgogbcipdjddaadoor", sum := "f5fa5a5fae8d48b1fb186d26aff3416a0dabed208d8e14cdb8751e8f5c3ccb9a", func := "loop.example/g01079/laws.FnExactSwapSymbols", spec := "fnExactSwapSymbols", unfollowed := true, recurses := true, named := ["loop.example/g01079/impl.noRule"], apart := false, laid := [("loop.example/g01079/impl.noRule", laid_loop_example_g01079_impl_noRule)] }
def FnExactSwapSymbolsSaid : Prop := fnExactSwapSymbolsRow.holds Tryd.pinned (OpenSpec.ofChange fnExactSwapSymbolsSpec)

/-- ITS FALSE NEIGHBOUR: 'it returns false'. Refute it at one input. -/
def fnExactSwapSymbolsWrong : ChangeSpec := { name := "fnExactSwapSymbols", vars := ["loop.example/g01079/impl.noRule"], fn := fun _ => fun
  | [d1, d2, g1] => { results := [.lit (.bool false)], args := [d1, d2], vars := [g1] }
  | _ => none }
def FnExactSwapSymbolsWrongFalsely : Prop := fnExactSwapSymbolsRow.holds Tryd.pinned (OpenSpec.ofChange fnExactSwapSymbolsWrong)

/-- 'laws.FnExactPruneMachine': WHATEVER THE INPUT: true; the input reads as it did. -/
def fnExactPruneMachineSpec : ChangeSpec := { name := "fnExactPruneMachine", vars := ["loop.example/g01079/impl.noRule"], fn := fun _ => fun
  | [d, g1] => { results := [.lit (.bool true)], args := [d], vars := [g1] }
  | _ => none }
def fnExactPruneMachineRow : OpenClaim := { program := "ytmgogbcipdjddaadoor", sum := "f5fa5a5fae8d48b1fb186d26aff3416a0dabed208d8e14cdb8751e8f5c3ccb9a", func := "loop.example/g01079/laws.FnExactPruneMachine", spec := "fnExactPruneMachine", unfollowed := true, recurses := true, named := ["loop.example/g01079/impl.noRule"], apart := false, laid := [("loop.example/g01079/impl.noRule", laid_loop_example_g01079_impl_noRule)] }
def FnExactPruneMachineSaid : Prop := fnExactPruneMachineRow.holds Tryd.pinned (OpenSpec.ofChange fnExactPruneMachineSpec)

/-- ITS FALSE NEIGHBOUR: 'it returns false'. Refute it at one input. -/
def fnExactPruneMachineWrong : ChangeSpec := { name := "fnExactPruneMachine", vars := ["loop.example/g01079/impl.noRule"], fn := fun _ => fun
  | [d, g1] => { results := [.lit (.bool false)], args := [d], vars := [g1] }
  | _ => none }
def FnExactPruneMachineWrongFalsely : Prop := fnExactPruneMachineRow.holds Tryd.pinned (OpenSpec.ofChange fnExactPruneMachineWrong)

/-- 'laws.FnExactSetRule': WHATEVER THE INPUT: true; the input reads as it did. -/
def fnExactSetRuleSpec : ChangeSpec := { name := "fnExactSetRule", vars := ["loop.example/g01079/impl.noRule"], fn := fun _ => fun
  | [d1, d2, d3, g1] => { results := [.lit (.bool true)], args := [d1, d2, d3], vars := [g1] }
  | _ => none }
def fnExactSetRuleRow : OpenClaim := { program := "ytmgogbcipdjddaadoor", sum := "f5fa5a5fae8d48b1fb186d26aff3416a0dabed208d8e14cdb8751e8f5c3ccb9a", func := "loop.example/g01079/laws.FnExactSetRule", spec := "fnExactSetRule", unfollowed := true, recurses := true, named := ["loop.example/g01079/impl.noRule"], apart := false, laid := [("loop.example/g01079/impl.noRule", laid_loop_example_g01079_impl_noRule)] }
def FnExactSetRuleSaid : Prop := fnExactSetRuleRow.holds Tryd.pinned (OpenSpec.ofChange fnExactSetRuleSpec)

/-- ITS FALSE NEIGHBOUR: 'it returns false'. Refute it at one input. -/
def fnExactSetRuleWrong : ChangeSpec := { name := "fnExactSetRule", vars := ["loop.example/g01079/impl.noRule"], fn := fun _ => fun
  | [d1, d2, d3, g1] => { results := [.lit (.bool false)], args := [d1, d2, d3], vars := [g1] }
  | _ => none }
def FnExactSetRuleWrongFalsely : Prop := fnExactSetRuleRow.holds Tryd.pinned (OpenSpec.ofChange fnExactSetRuleWrong)

/- THE SECOND FORM. 'bulk': how many values and letters a reading holds, each counted each time it is reached (what is shared counts as often as it is met; a slice's spare places count too). A statement '..UptoSaid' is the law's where the arguments, and the package variables that the reading takes, are together of bulk at most 1048576: NARROWER than '..Said'. Prove '..Said' where nothing that the law and all that it calls make is longer than what came in: it says more and counts as full. Else prove '..UptoSaid'. A law counts once. -/
mutual
def uptoBulk {H : Type} : DataW H → Nat
  | .lit (.string bytes) => bytes.length + 1
  | .lit _ => 1
  | .nil => 1
  | .ptr d => uptoBulk d + 1
  | .slice elems spare => uptoBulkAll elems + uptoBulkAll spare + 1
  | .agg parts => uptoBulkAll parts + 1
  | .iface _ d => uptoBulk d + 1
  | .map entries => uptoBulkEntries entries + 1
  | .held _ => 1
def uptoBulkAll {H : Type} : List (DataW H) → Nat
  | [] => 0
  | d :: r => uptoBulk d + uptoBulkAll r
def uptoBulkEntries {H : Type} : List (Lit × DataW H) → Nat
  | [] => 0
  | x :: r => uptoBulkEntry x + uptoBulkEntries r
def uptoBulkEntry {H : Type} : Lit × DataW H → Nat
  | (.string bytes, d) => bytes.length + uptoBulk d + 1
  | (_, d) => uptoBulk d + 1
 end
def uptoSmall : (H : Type) → List (DataW H) → Bool := fun _ ds => decide (uptoBulkAll ds ≤ 1048576)
def OpenSpec.upto (s : _root_.Go.ChangeSpec) : _root_.Go.OpenSpec := { _root_.Go.OpenSpec.ofChange s with cond := some uptoSmall }

/-- 'laws.FnExactValidConfig', WHERE WHAT IT READS IS OF BULK AT MOST 1048576: true; the input reads as it did. -/
def fnExactValidConfigUptoRow : OpenClaim := { program := "ytmgogbcipdjddaadoor", sum := "f5fa5a5fae8d48b1fb186d26aff3416a0dabed208d8e14cdb8751e8f5c3ccb9a", func := "loop.example/g01079/laws.FnExactValidConfig", spec := "fnExactValidConfig", unfollowed := true, recurses := true, named := ["loop.example/g01079/impl.noRule"], apart := false, laid := [("loop.example/g01079/impl.noRule", laid_loop_example_g01079_impl_noRule)], narrowed := true }
def FnExactValidConfigUptoSaid : Prop := fnExactValidConfigUptoRow.holds Tryd.pinned (OpenSpec.upto fnExactValidConfigSpec)

/-- 'laws.FnExactCellsOf', WHERE WHAT IT READS IS OF BULK AT MOST 1048576: true; the input reads as it did. -/
def fnExactCellsOfUptoRow : OpenClaim := { program := "ytmgogbcipdjddaadoor", sum := "f5fa5a5fae8d48b1fb186d26aff3416a0dabed208d8e14cdb8751e8f5c3ccb9a", func := "loop.example/g01079/laws.FnExactCellsOf", spec := "fnExactCellsOf", unfollowed := true, recurses := true, named := ["loop.example/g01079/impl.noRule"], apart := false, laid := [("loop.example/g01079/impl.noRule", laid_loop_example_g01079_impl_noRule)], narrowed := true }
def FnExactCellsOfUptoSaid : Prop := fnExactCellsOfUptoRow.holds Tryd.pinned (OpenSpec.upto fnExactCellsOfSpec)

/-- 'laws.FnExactStartConfig', WHERE WHAT IT READS IS OF BULK AT MOST 1048576: true; the input reads as it did. -/
def fnExactStartConfigUptoRow : OpenClaim := { program := "ytmgogbcipdjddaadoor", sum := "f5fa5a5fae8d48b1fb186d26aff3416a0dabed208d8e14cdb8751e8f5c3ccb9a", func := "loop.example/g01079/laws.FnExactStartConfig", spec := "fnExactStartConfig", unfollowed := true, recurses := true, named := ["loop.example/g01079/impl.noRule"], apart := false, laid := [("loop.example/g01079/impl.noRule", laid_loop_example_g01079_impl_noRule)], narrowed := true }
def FnExactStartConfigUptoSaid : Prop := fnExactStartConfigUptoRow.holds Tryd.pinned (OpenSpec.upto fnExactStartConfigSpec)

/-- 'laws.FnExactMirrorConfig', WHERE WHAT IT READS IS OF BULK AT MOST 1048576: true; the input reads as it did. -/
def fnExactMirrorConfigUptoRow : OpenClaim := { program := "ytmgogbcipdjddaadoor", sum := "f5fa5a5fae8d48b1fb186d26aff3416a0dabed208d8e14cdb8751e8f5c3ccb9a", func := "loop.example/g01079/laws.FnExactMirrorConfig", spec := "fnExactMirrorConfig", unfollowed := true, recurses := true, named := ["loop.example/g01079/impl.noRule"], apart := false, laid := [("loop.example/g01079/impl.noRule", laid_loop_example_g01079_impl_noRule)], narrowed := true }
def FnExactMirrorConfigUptoSaid : Prop := fnExactMirrorConfigUptoRow.holds Tryd.pinned (OpenSpec.upto fnExactMirrorConfigSpec)

/-- 'laws.FnExactRenameStates', WHERE WHAT IT READS IS OF BULK AT MOST 1048576: true; the input reads as it did. -/
def fnExactRenameStatesUptoRow : OpenClaim := { program := "ytmgogbcipdjddaadoor", sum := "f5fa5a5fae8d48b1fb186d26aff3416a0dabed208d8e14cdb8751e8f5c3ccb9a", func := "loop.example/g01079/laws.FnExactRenameStates", spec := "fnExactRenameStates", unfollowed := true, recurses := true, named := ["loop.example/g01079/impl.noRule"], apart := false, laid := [("loop.example/g01079/impl.noRule", laid_loop_example_g01079_impl_noRule)], narrowed := true }
def FnExactRenameStatesUptoSaid : Prop := fnExactRenameStatesUptoRow.holds Tryd.pinned (OpenSpec.upto fnExactRenameStatesSpec)

/-- 'laws.FnExactSwapSymbols', WHERE WHAT IT READS IS OF BULK AT MOST 1048576: true; the input reads as it did. -/
def fnExactSwapSymbolsUptoRow : OpenClaim := { program := "ytmgogbcipdjddaadoor", sum := "f5fa5a5fae8d48b1fb186d26aff3416a0dabed208d8e14cdb8751e8f5c3ccb9a", func := "loop.example/g01079/laws.FnExactSwapSymbols", spec := "fnExactSwapSymbols", unfollowed := true, recurses := true, named := ["loop.example/g01079/impl.noRule"], apart := false, laid := [("loop.example/g01079/impl.noRule", laid_loop_example_g01079_impl_noRule)], narrowed := true }
def FnExactSwapSymbolsUptoSaid : Prop := fnExactSwapSymbolsUptoRow.holds Tryd.pinned (OpenSpec.upto fnExactSwapSymbolsSpec)

/-- 'laws.FnExactPruneMachine', WHERE WHAT IT READS IS OF BULK AT MOST 1048576: true; the input reads as it did. -/
def fnExactPruneMachineUptoRow : OpenClaim := { program := "ytmgogbcipdjddaadoor", sum := "f5fa5a5fae8d48b1fb186d26aff3416a0dabed208d8e14cdb8751e8f5c3ccb9a", func := "loop.example/g01079/laws.FnExactPruneMachine", spec := "fnExactPruneMachine", unfollowed := true, recurses := true, named := ["loop.example/g01079/impl.noRule"], apart := false, laid := [("loop.example/g01079/impl.noRule", laid_loop_example_g01079_impl_noRule)], narrowed := true }
def FnExactPruneMachineUptoSaid : Prop := fnExactPruneMachineUptoRow.holds Tryd.pinned (OpenSpec.upto fnExactPruneMachineSpec)

/-- 'laws.FnExactSetRule', WHERE WHAT IT READS IS OF BULK AT MOST 1048576: true; the input reads as it did. -/
def fnExactSetRuleUptoRow : OpenClaim := { program := "ytmgogbcipdjddaadoor", sum := "f5fa5a5fae8d48b1fb186d26aff3416a0dabed208d8e14cdb8751e8f5c3ccb9a", func := "loop.example/g01079/laws.FnExactSetRule", spec := "fnExactSetRule", unfollowed := true, recurses := true, named := ["loop.example/g01079/impl.noRule"], apart := false, laid := [("loop.example/g01079/impl.noRule", laid_loop_example_g01079_impl_noRule)], narrowed := true }
def FnExactSetRuleUptoSaid : Prop := fnExactSetRuleUptoRow.holds Tryd.pinned (OpenSpec.upto fnExactSetRuleSpec)

end Rows
end Go.Proofs.YtmgogbcipdjddaaDoor
