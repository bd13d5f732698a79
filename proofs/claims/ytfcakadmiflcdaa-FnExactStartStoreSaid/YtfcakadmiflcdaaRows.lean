/-
  No cell of these rows narrows 'for every input' (looked for: loops, veiled, ifaces, maps, wideKeys, modest, calm, conditions, laid).
  DERIVED. THE GIVEN ROWS OF THIS SEAT. 12 by the template 'for every input the law returns true; each argument reads behind the call as it read before'; 0 by the template 'total and deterministic' (their statements: YtfcakadmiflcdaaTotals.lean).
  GIVEN WITH THE SEED: the statements are not yours to turn. If you find one false, say at which input.
  Laid BY PROGRAM, IN A SANDBOX (cutbox-rows.mjs): the forced cells as the released guide's own fill.sh prints them over the translation d666c147da4bf03f… (all of the seat's roots in one cut). By AI agents, Wed Nov 11 2026. No macro, syntax, notation, axiom, sorry.
-/
import Derived.Test.YtfcakadmiflcdaaChecked
import GoSem.Claim
import GoSem.ClaimJoined
import GoSem.ClaimMapViews
import Derived.JoinedTies
import Derived.KernelRfl
namespace Go.Proofs.Ytfcakadmiflcdaa
/- THE CELL 'sum', in the pinned program and in every row, IS THE sha256 OF THE DUMP (.gsa) THAT YtfcakadmiflcdaaProg.lean LOADS. Nothing in Lean hashes anything: it is a label: what it is worth is what the hold of that sum in a sandbox is worth. -/
noncomputable def Try.pinned : Pinned := { name := "ytfcakadmiflcdaa", sum := "d666c147da4bf03f64e5867c76c2d8df07283cfb2a8cdc63fca0ba26574a8bc2", checked := Try.checked }
namespace Rows
def none {H : Type} : Left H := { results := [], args := [] }

/-- 'laws.FnExactValidProgram': WHATEVER THE INPUT: true; the input reads as it did. -/
def fnExactValidProgramSpec : ChangeSpec := { name := "fnExactValidProgram", fn := fun _ => fun
  | [d] => { results := [.lit (.bool true)], args := [d] }
  | _ => none }
def fnExactValidProgramRow : OpenClaim := { program := "ytfcakadmiflcdaa", sum := "d666c147da4bf03f64e5867c76c2d8df07283cfb2a8cdc63fca0ba26574a8bc2", func := "loop.example/g01079/laws.FnExactValidProgram", spec := "fnExactValidProgram", unfollowed := true, recurses := true, apart := false }
def FnExactValidProgramSaid : Prop := fnExactValidProgramRow.holds Try.pinned (OpenSpec.ofChange fnExactValidProgramSpec)

/-- ITS FALSE NEIGHBOUR: 'it returns false'. Refute it at one input. -/
def fnExactValidProgramWrong : ChangeSpec := { name := "fnExactValidProgram", fn := fun _ => fun
  | [d] => { results := [.lit (.bool false)], args := [d] }
  | _ => none }
def FnExactValidProgramWrongFalsely : Prop := fnExactValidProgramRow.holds Try.pinned (OpenSpec.ofChange fnExactValidProgramWrong)

/-- 'laws.FnExactValidStore': WHATEVER THE INPUT: true; the input reads as it did. -/
def fnExactValidStoreSpec : ChangeSpec := { name := "fnExactValidStore", fn := fun _ => fun
  | [d1, d2] => { results := [.lit (.bool true)], args := [d1, d2] }
  | _ => none }
def fnExactValidStoreRow : OpenClaim := { program := "ytfcakadmiflcdaa", sum := "d666c147da4bf03f64e5867c76c2d8df07283cfb2a8cdc63fca0ba26574a8bc2", func := "loop.example/g01079/laws.FnExactValidStore", spec := "fnExactValidStore", unfollowed := true, recurses := true, apart := false }
def FnExactValidStoreSaid : Prop := fnExactValidStoreRow.holds Try.pinned (OpenSpec.ofChange fnExactValidStoreSpec)

/-- ITS FALSE NEIGHBOUR: 'it returns false'. Refute it at one input. -/
def fnExactValidStoreWrong : ChangeSpec := { name := "fnExactValidStore", fn := fun _ => fun
  | [d1, d2] => { results := [.lit (.bool false)], args := [d1, d2] }
  | _ => none }
def FnExactValidStoreWrongFalsely : Prop := fnExactValidStoreRow.holds Try.pinned (OpenSpec.ofChange fnExactValidStoreWrong)

/-- 'laws.FnExactStartStore': WHATEVER THE INPUT: true; the input reads as it did. -/
def fnExactStartStoreSpec : ChangeSpec := { name := "fnExactStartStore", fn := fun _ => fun
  | [d1, d2] => { results := [.lit (.bool true)], args := [d1, d2] }
  | _ => none }
def fnExactStartStoreRow : OpenClaim := { program := "ytfcakadmiflcdaa", sum := "d666c147da4bf03f64e5867c76c2d8df07283cfb2a8cdc63fca0ba26574a8bc2", func := "loop.example/g01079/laws.FnExactStartStore", spec := "fnExactStartStore", unfollowed := true, recurses := true, apart := false }
def FnExactStartStoreSaid : Prop := fnExactStartStoreRow.holds Try.pinned (OpenSpec.ofChange fnExactStartStoreSpec)

/-- ITS FALSE NEIGHBOUR: 'it returns false'. Refute it at one input. -/
def fnExactStartStoreWrong : ChangeSpec := { name := "fnExactStartStore", fn := fun _ => fun
  | [d1, d2] => { results := [.lit (.bool false)], args := [d1, d2] }
  | _ => none }
def FnExactStartStoreWrongFalsely : Prop := fnExactStartStoreRow.holds Try.pinned (OpenSpec.ofChange fnExactStartStoreWrong)

/-- 'laws.FnExactRegistersOf': WHATEVER THE INPUT: true; the input reads as it did. -/
def fnExactRegistersOfSpec : ChangeSpec := { name := "fnExactRegistersOf", fn := fun _ => fun
  | [d] => { results := [.lit (.bool true)], args := [d] }
  | _ => none }
def fnExactRegistersOfRow : OpenClaim := { program := "ytfcakadmiflcdaa", sum := "d666c147da4bf03f64e5867c76c2d8df07283cfb2a8cdc63fca0ba26574a8bc2", func := "loop.example/g01079/laws.FnExactRegistersOf", spec := "fnExactRegistersOf", unfollowed := true, recurses := true, apart := false }
def FnExactRegistersOfSaid : Prop := fnExactRegistersOfRow.holds Try.pinned (OpenSpec.ofChange fnExactRegistersOfSpec)

/-- ITS FALSE NEIGHBOUR: 'it returns false'. Refute it at one input. -/
def fnExactRegistersOfWrong : ChangeSpec := { name := "fnExactRegistersOf", fn := fun _ => fun
  | [d] => { results := [.lit (.bool false)], args := [d] }
  | _ => none }
def FnExactRegistersOfWrongFalsely : Prop := fnExactRegistersOfRow.holds Try.pinned (OpenSpec.ofChange fnExactRegistersOfWrong)

/-- 'laws.FnExactMapRegisters': WHATEVER THE INPUT: true; the input reads as it did. -/
def fnExactMapRegistersSpec : ChangeSpec := { name := "fnExactMapRegisters", fn := fun _ => fun
  | [d1, d2] => { results := [.lit (.bool true)], args := [d1, d2] }
  | _ => none }
def fnExactMapRegistersRow : OpenClaim := { program := "ytfcakadmiflcdaa", sum := "d666c147da4bf03f64e5867c76c2d8df07283cfb2a8cdc63fca0ba26574a8bc2", func := "loop.example/g01079/laws.FnExactMapRegisters", spec := "fnExactMapRegisters", unfollowed := true, recurses := true, apart := false }
def FnExactMapRegistersSaid : Prop := fnExactMapRegistersRow.holds Try.pinned (OpenSpec.ofChange fnExactMapRegistersSpec)

/-- ITS FALSE NEIGHBOUR: 'it returns false'. Refute it at one input. -/
def fnExactMapRegistersWrong : ChangeSpec := { name := "fnExactMapRegisters", fn := fun _ => fun
  | [d1, d2] => { results := [.lit (.bool false)], args := [d1, d2] }
  | _ => none }
def FnExactMapRegistersWrongFalsely : Prop := fnExactMapRegistersRow.holds Try.pinned (OpenSpec.ofChange fnExactMapRegistersWrong)

/-- 'laws.FnExactPruneProgram': WHATEVER THE INPUT: true; the input reads as it did. -/
def fnExactPruneProgramSpec : ChangeSpec := { name := "fnExactPruneProgram", fn := fun _ => fun
  | [d] => { results := [.lit (.bool true)], args := [d] }
  | _ => none }
def fnExactPruneProgramRow : OpenClaim := { program := "ytfcakadmiflcdaa", sum := "d666c147da4bf03f64e5867c76c2d8df07283cfb2a8cdc63fca0ba26574a8bc2", func := "loop.example/g01079/laws.FnExactPruneProgram", spec := "fnExactPruneProgram", unfollowed := true, recurses := true, apart := false }
def FnExactPruneProgramSaid : Prop := fnExactPruneProgramRow.holds Try.pinned (OpenSpec.ofChange fnExactPruneProgramSpec)

/-- ITS FALSE NEIGHBOUR: 'it returns false'. Refute it at one input. -/
def fnExactPruneProgramWrong : ChangeSpec := { name := "fnExactPruneProgram", fn := fun _ => fun
  | [d] => { results := [.lit (.bool false)], args := [d] }
  | _ => none }
def FnExactPruneProgramWrongFalsely : Prop := fnExactPruneProgramRow.holds Try.pinned (OpenSpec.ofChange fnExactPruneProgramWrong)

/-- 'laws.FnExactJoinPrograms': WHATEVER THE INPUT: true; the input reads as it did. -/
def fnExactJoinProgramsSpec : ChangeSpec := { name := "fnExactJoinPrograms", fn := fun _ => fun
  | [d1, d2] => { results := [.lit (.bool true)], args := [d1, d2] }
  | _ => none }
def fnExactJoinProgramsRow : OpenClaim := { program := "ytfcakadmiflcdaa", sum := "d666c147da4bf03f64e5867c76c2d8df07283cfb2a8cdc63fca0ba26574a8bc2", func := "loop.example/g01079/laws.FnExactJoinPrograms", spec := "fnExactJoinPrograms", unfollowed := true, recurses := true, apart := false }
def FnExactJoinProgramsSaid : Prop := fnExactJoinProgramsRow.holds Try.pinned (OpenSpec.ofChange fnExactJoinProgramsSpec)

/-- ITS FALSE NEIGHBOUR: 'it returns false'. Refute it at one input. -/
def fnExactJoinProgramsWrong : ChangeSpec := { name := "fnExactJoinPrograms", fn := fun _ => fun
  | [d1, d2] => { results := [.lit (.bool false)], args := [d1, d2] }
  | _ => none }
def FnExactJoinProgramsWrongFalsely : Prop := fnExactJoinProgramsRow.holds Try.pinned (OpenSpec.ofChange fnExactJoinProgramsWrong)

/-- 'laws.FnExactLoopProgram': WHATEVER THE INPUT: true; the input reads as it did. -/
def fnExactLoopProgramSpec : ChangeSpec := { name := "fnExactLoopProgram", fn := fun _ => fun
  | [d1, d2] => { results := [.lit (.bool true)], args := [d1, d2] }
  | _ => none }
def fnExactLoopProgramRow : OpenClaim := { program := "ytfcakadmiflcdaa", sum := "d666c147da4bf03f64e5867c76c2d8df07283cfb2a8cdc63fca0ba26574a8bc2", func := "loop.example/g01079/laws.FnExactLoopProgram", spec := "fnExactLoopProgram", unfollowed := true, recurses := true, apart := false }
def FnExactLoopProgramSaid : Prop := fnExactLoopProgramRow.holds Try.pinned (OpenSpec.ofChange fnExactLoopProgramSpec)

/-- ITS FALSE NEIGHBOUR: 'it returns false'. Refute it at one input. -/
def fnExactLoopProgramWrong : ChangeSpec := { name := "fnExactLoopProgram", fn := fun _ => fun
  | [d1, d2] => { results := [.lit (.bool false)], args := [d1, d2] }
  | _ => none }
def FnExactLoopProgramWrongFalsely : Prop := fnExactLoopProgramRow.holds Try.pinned (OpenSpec.ofChange fnExactLoopProgramWrong)

/-- 'laws.FnExactBranchProgram': WHATEVER THE INPUT: true; the input reads as it did. -/
def fnExactBranchProgramSpec : ChangeSpec := { name := "fnExactBranchProgram", fn := fun _ => fun
  | [d1, d2, d3] => { results := [.lit (.bool true)], args := [d1, d2, d3] }
  | _ => none }
def fnExactBranchProgramRow : OpenClaim := { program := "ytfcakadmiflcdaa", sum := "d666c147da4bf03f64e5867c76c2d8df07283cfb2a8cdc63fca0ba26574a8bc2", func := "loop.example/g01079/laws.FnExactBranchProgram", spec := "fnExactBranchProgram", unfollowed := true, recurses := true, apart := false }
def FnExactBranchProgramSaid : Prop := fnExactBranchProgramRow.holds Try.pinned (OpenSpec.ofChange fnExactBranchProgramSpec)

/-- ITS FALSE NEIGHBOUR: 'it returns false'. Refute it at one input. -/
def fnExactBranchProgramWrong : ChangeSpec := { name := "fnExactBranchProgram", fn := fun _ => fun
  | [d1, d2, d3] => { results := [.lit (.bool false)], args := [d1, d2, d3] }
  | _ => none }
def FnExactBranchProgramWrongFalsely : Prop := fnExactBranchProgramRow.holds Try.pinned (OpenSpec.ofChange fnExactBranchProgramWrong)

/-- 'laws.FnExactClearRegister': WHATEVER THE INPUT: true; the input reads as it did. -/
def fnExactClearRegisterSpec : ChangeSpec := { name := "fnExactClearRegister", fn := fun _ => fun
  | [d] => { results := [.lit (.bool true)], args := [d] }
  | _ => none }
def fnExactClearRegisterRow : OpenClaim := { program := "ytfcakadmiflcdaa", sum := "d666c147da4bf03f64e5867c76c2d8df07283cfb2a8cdc63fca0ba26574a8bc2", func := "loop.example/g01079/laws.FnExactClearRegister", spec := "fnExactClearRegister", unfollowed := true, recurses := true, apart := false }
def FnExactClearRegisterSaid : Prop := fnExactClearRegisterRow.holds Try.pinned (OpenSpec.ofChange fnExactClearRegisterSpec)

/-- ITS FALSE NEIGHBOUR: 'it returns false'. Refute it at one input. -/
def fnExactClearRegisterWrong : ChangeSpec := { name := "fnExactClearRegister", fn := fun _ => fun
  | [d] => { results := [.lit (.bool false)], args := [d] }
  | _ => none }
def FnExactClearRegisterWrongFalsely : Prop := fnExactClearRegisterRow.holds Try.pinned (OpenSpec.ofChange fnExactClearRegisterWrong)

/-- 'laws.FnExactMoveRegister': WHATEVER THE INPUT: true; the input reads as it did. -/
def fnExactMoveRegisterSpec : ChangeSpec := { name := "fnExactMoveRegister", fn := fun _ => fun
  | [d1, d2] => { results := [.lit (.bool true)], args := [d1, d2] }
  | _ => none }
def fnExactMoveRegisterRow : OpenClaim := { program := "ytfcakadmiflcdaa", sum := "d666c147da4bf03f64e5867c76c2d8df07283cfb2a8cdc63fca0ba26574a8bc2", func := "loop.example/g01079/laws.FnExactMoveRegister", spec := "fnExactMoveRegister", unfollowed := true, recurses := true, apart := false }
def FnExactMoveRegisterSaid : Prop := fnExactMoveRegisterRow.holds Try.pinned (OpenSpec.ofChange fnExactMoveRegisterSpec)

/-- ITS FALSE NEIGHBOUR: 'it returns false'. Refute it at one input. -/
def fnExactMoveRegisterWrong : ChangeSpec := { name := "fnExactMoveRegister", fn := fun _ => fun
  | [d1, d2] => { results := [.lit (.bool false)], args := [d1, d2] }
  | _ => none }
def FnExactMoveRegisterWrongFalsely : Prop := fnExactMoveRegisterRow.holds Try.pinned (OpenSpec.ofChange fnExactMoveRegisterWrong)

/-- 'laws.FnExactCopyRegister': WHATEVER THE INPUT: true; the input reads as it did. -/
def fnExactCopyRegisterSpec : ChangeSpec := { name := "fnExactCopyRegister", fn := fun _ => fun
  | [d1, d2, d3] => { results := [.lit (.bool true)], args := [d1, d2, d3] }
  | _ => none }
def fnExactCopyRegisterRow : OpenClaim := { program := "ytfcakadmiflcdaa", sum := "d666c147da4bf03f64e5867c76c2d8df07283cfb2a8cdc63fca0ba26574a8bc2", func := "loop.example/g01079/laws.FnExactCopyRegister", spec := "fnExactCopyRegister", unfollowed := true, recurses := true, apart := false }
def FnExactCopyRegisterSaid : Prop := fnExactCopyRegisterRow.holds Try.pinned (OpenSpec.ofChange fnExactCopyRegisterSpec)

/-- ITS FALSE NEIGHBOUR: 'it returns false'. Refute it at one input. -/
def fnExactCopyRegisterWrong : ChangeSpec := { name := "fnExactCopyRegister", fn := fun _ => fun
  | [d1, d2, d3] => { results := [.lit (.bool false)], args := [d1, d2, d3] }
  | _ => none }
def FnExactCopyRegisterWrongFalsely : Prop := fnExactCopyRegisterRow.holds Try.pinned (OpenSpec.ofChange fnExactCopyRegisterWrong)

/- THE SECOND FORM. 'bulk': how many values and letters a reading holds, each counted each time it is reached (what is shared counts as often as it is met; a slice's spare places count too). A statement '..UptoSaid' is the law's where the arguments, and the package variables that the reading takes, are together of bulk at most 1048576: NARROWER than '..Said'. Prove '..Said' where nothing that the law and all that it calls make is longer than what came in: it says more and counts as full. Else prove '..UptoSaid'. A law counts once. -/
mutual
def uptoBulk {H : Type} : DataW H → Nat
  | .lit (.string bytes) => bytes.length + 1
  | .lit _ => 1
  | .nil => 1
  | .ptr d => uptoBulk d + 1
  | .slice elems spare => uptoBulkAll elems + uptoBulkAll spare + 1
  | .agg parts => uptoBulkAll parts + 1
  | .iface _ d => uptoBulk d + 1
  | .map entries => uptoBulkEntries entries + 1
  | .held _ => 1
def uptoBulkAll {H : Type} : List (DataW H) → Nat
  | [] => 0
  | d :: r => uptoBulk d + uptoBulkAll r
def uptoBulkEntries {H : Type} : List (Lit × DataW H) → Nat
  | [] => 0
  | x :: r => uptoBulkEntry x + uptoBulkEntries r
def uptoBulkEntry {H : Type} : Lit × DataW H → Nat
  | (.string bytes, d) => bytes.length + uptoBulk d + 1
  | (_, d) => uptoBulk d + 1
 end
def uptoSmall : (H : Type) → List (DataW H) → Bool := fun _ ds => decide (uptoBulkAll ds ≤ 1048576)
def OpenSpec.upto (s : _root_.Go.ChangeSpec) : _root_.Go.OpenSpec := { _root_.Go.OpenSpec.ofChange s with cond := some uptoSmall }

/-- 'laws.FnExactValidProgram', WHERE WHAT IT READS IS OF BULK AT MOST 1048576: true; the input reads as it did. -/
def fnExactValidProgramUptoRow : OpenClaim := { program := "ytfcakadmiflcdaa", sum := "d666c147da4bf03f64e5867c76c2d8df07283cfb2a8cdc63fca0ba26574a8bc2", func := "loop.example/g01079/laws.FnExactValidProgram", spec := "fnExactValidProgram", unfollowed := true, recurses := true, apart := false, narrowed := true }
def FnExactValidProgramUptoSaid : Prop := fnExactValidProgramUptoRow.holds Try.pinned (OpenSpec.upto fnExactValidProgramSpec)

/-- 'laws.FnExactValidStore', WHERE WHAT IT READS IS OF BULK AT MOST 1048576: true; the input reads as it did. -/
def fnExactValidStoreUptoRow : OpenClaim := { program := "ytfcakadmiflcdaa", sum := "d666c147da4bf03f64e5867c76c2d8df07283cfb2a8cdc63fca0ba26574a8bc2", func := "loop.example/g01079/laws.FnExactValidStore", spec := "fnExactValidStore", unfollowed := true, recurses := true, apart := false, narrowed := true }
def FnExactValidStoreUptoSaid : Prop := fnExactValidStoreUptoRow.holds Try.pinned (OpenSpec.upto fnExactValidStoreSpec)

/-- 'laws.FnExactStartStore', WHERE WHAT IT READS IS OF BULK AT MOST 1048576: true; the input reads as it did. -/
def fnExactStartStoreUptoRow : OpenClaim := { program := "ytfcakadmiflcdaa", sum := "d666c147da4bf03f64e5867c76c2d8df07283cfb2a8cdc63fca0ba26574a8bc2", func := "loop.example/g01079/laws.FnExactStartStore", spec := "fnExactStartStore", unfollowed := true, recurses := true, apart := false, narrowed := true }
def FnExactStartStoreUptoSaid : Prop := fnExactStartStoreUptoRow.holds Try.pinned (OpenSpec.upto fnExactStartStoreSpec)

/-- 'laws.FnExactRegistersOf', WHERE WHAT IT READS IS OF BULK AT MOST 1048576: true; the input reads as it did. -/
def fnExactRegistersOfUptoRow : OpenClaim := { program := "ytfcakadmiflcdaa", sum := "d666c147da4bf03f64e5867c76c2d8df07283cfb2a8cdc63fca0ba26574a8bc2", func := "loop.example/g01079/laws.FnExactRegistersOf", spec := "fnExactRegistersOf", unfollowed := true, recurses := true, apart := false, narrowed := true }
def FnExactRegistersOfUptoSaid : Prop := fnExactRegistersOfUptoRow.holds Try.pinned (OpenSpec.upto fnExactRegistersOfSpec)

/-- 'laws.FnExactMapRegisters', WHERE WHAT IT READS IS OF BULK AT MOST 1048576: true; the input reads as it did. -/
def fnExactMapRegistersUptoRow : OpenClaim := { program := "ytfcakadmiflcdaa", sum := "d666c147da4bf03f64e5867c76c2d8df07283cfb2a8cdc63fca0ba26574a8bc2", func := "loop.example/g01079/laws.FnExactMapRegisters", spec := "fnExactMapRegisters", unfollowed := true, recurses := true, apart := false, narrowed := true }
def FnExactMapRegistersUptoSaid : Prop := fnExactMapRegistersUptoRow.holds Try.pinned (OpenSpec.upto fnExactMapRegistersSpec)

/-- 'laws.FnExactPruneProgram', WHERE WHAT IT READS IS OF BULK AT MOST 1048576: true; the input reads as it did. -/
def fnExactPruneProgramUptoRow : OpenClaim := { program := "ytfcakadmiflcdaa", sum := "d666c147da4bf03f64e5867c76c2d8df07283cfb2a8cdc63fca0ba26574a8bc2", func := "loop.example/g01079/laws.FnExactPruneProgram", spec := "fnExactPruneProgram", unfollowed := true, recurses := true, apart := false, narrowed := true }
def FnExactPruneProgramUptoSaid : Prop := fnExactPruneProgramUptoRow.holds Try.pinned (OpenSpec.upto fnExactPruneProgramSpec)

/-- 'laws.FnExactJoinPrograms', WHERE WHAT IT READS IS OF BULK AT MOST 1048576: true; the input reads as it did. -/
def fnExactJoinProgramsUptoRow : OpenClaim := { program := "ytfcakadmiflcdaa", sum := "d666c147da4bf03f64e5867c76c2d8df07283cfb2a8cdc63fca0ba26574a8bc2", func := "loop.example/g01079/laws.FnExactJoinPrograms", spec := "fnExactJoinPrograms", unfollowed := true, recurses := true, apart := false, narrowed := true }
def FnExactJoinProgramsUptoSaid : Prop := fnExactJoinProgramsUptoRow.holds Try.pinned (OpenSpec.upto fnExactJoinProgramsSpec)

/-- 'laws.FnExactLoopProgram', WHERE WHAT IT READS IS OF BULK AT MOST 1048576: true; the input reads as it did. -/
def fnExactLoopProgramUptoRow : OpenClaim := { program := "ytfcakadmiflcdaa", sum := "d666c147da4bf03f64e5867c76c2d8df07283cfb2a8cdc63fca0ba26574a8bc2", func := "loop.example/g01079/laws.FnExactLoopProgram", spec := "fnExactLoopProgram", unfollowed := true, recurses := true, apart := false, narrowed := true }
def FnExactLoopProgramUptoSaid : Prop := fnExactLoopProgramUptoRow.holds Try.pinned (OpenSpec.upto fnExactLoopProgramSpec)

/-- 'laws.FnExactBranchProgram', WHERE WHAT IT READS IS OF BULK AT MOST 1048576: true; the input reads as it did. -/
def fnExactBranchProgramUptoRow : OpenClaim := { program := "ytfcakadmiflcdaa", sum := "d666c147da4bf03f64e5867c76c2d8df07283cfb2a8cdc63fca0ba26574a8bc2", func := "loop.example/g01079/laws.FnExactBranchProgram", spec := "fnExactBranchProgram", unfollowed := true, recurses := true, apart := false, narrowed := true }
def FnExactBranchProgramUptoSaid : Prop := fnExactBranchProgramUptoRow.holds Try.pinned (OpenSpec.upto fnExactBranchProgramSpec)

/-- 'laws.FnExactClearRegister', WHERE WHAT IT READS IS OF BULK AT MOST 1048576: true; the input reads as it did. -/
def fnExactClearRegisterUptoRow : OpenClaim := { program := "ytfcakadmiflcdaa", sum := "d666c147da4bf03f64e5867c76c2d8df07283cfb2a8cdc63fca0ba26574a8bc2", func := "loop.example/g01079/laws.FnExactClearRegister", spec := "fnExactClearRegister", unfollowed := true, recurses := true, apart := false, narrowed := true }
def FnExactClearRegisterUptoSaid : Prop := fnExactClearRegisterUptoRow.holds Try.pinned (OpenSpec.upto fnExactClearRegisterSpec)

/-- 'laws.FnExactMoveRegister', WHERE WHAT IT READS IS OF BULK AT MOST 1048576: true; the input reads as it did. -/
def fnExactMoveRegisterUptoRow : OpenClaim := { program := "ytfcakadmiflcdaa", sum := "d666c147da4bf03f64e5867c76c2d8df07283cfb2a8cdc63fca0ba26574a8bc2", func := "loop.example/g01079/laws.FnExactMoveRegister", spec := "fnExactMoveRegister", unfollowed := true, recurses := true, apart := false, narrowed := true }
def FnExactMoveRegisterUptoSaid : Prop := fnExactMoveRegisterUptoRow.holds Try.pinned (OpenSpec.upto fnExactMoveRegisterSpec)

/-- 'laws.FnExactCopyRegister', WHERE WHAT IT READS IS OF BULK AT MOST 1048576: true; the input reads as it did. -/
def fnExactCopyRegisterUptoRow : OpenClaim := { program := "ytfcakadmiflcdaa", sum := "d666c147da4bf03f64e5867c76c2d8df07283cfb2a8cdc63fca0ba26574a8bc2", func := "loop.example/g01079/laws.FnExactCopyRegister", spec := "fnExactCopyRegister", unfollowed := true, recurses := true, apart := false, narrowed := true }
def FnExactCopyRegisterUptoSaid : Prop := fnExactCopyRegisterUptoRow.holds Try.pinned (OpenSpec.upto fnExactCopyRegisterSpec)

end Rows
end Go.Proofs.Ytfcakadmiflcdaa
