/-
  NARROWER THAN 'FOR EVERY INPUT', by the rows' own cells (each row's printed sentence says how): FnExactRunCounters: laid · FnExactRunProgram: laid · FnExactTraceCounters: laid · FnExactStepTag: laid · FnExactTraceProgram: laid · FnExactRunTag: laid · FnExactStepCyclic: laid · FnExactRunCyclic: laid · FnExactTagLengths: laid.
  DERIVED. THE GIVEN ROWS OF THIS SEAT. 9 by the template 'for every input the law returns true; each argument reads behind the call as it read before'; 0 by the template 'total and deterministic' (their statements: YtgbhbbapkpgmiaaDoorTotals.lean).
  GIVEN WITH THE SEED: the statements are not yours to turn. If you find one false, say at which input.
  Laid BY PROGRAM, IN A SANDBOX (cutbox-rows.mjs): the forced cells as the released guide's own fill.sh prints them over the translation fe636db8bd1fa4fb… (all of the seat's roots in one cut). By AI agents, Wed Nov 11 2026. No macro, syntax, notation, axiom, sorry.
-/
import Derived.Test.YtgbhbbapkpgmiaaDoorChecked
import GoSem.Claim
import GoSem.ClaimJoined
import GoSem.ClaimMapViews
import Derived.JoinedTies
import Derived.KernelRfl
namespace Go.Proofs.YtgbhbbapkpgmiaaDoor
/- THE CELL 'sum', in the pinned program and in every row, IS THE sha256 OF THE DUMP (.gsa) THAT YtgbhbbapkpgmiaaDoorProg.lean LOADS. Nothing in Lean hashes anything: it is a label: what it is worth is what the hold of that sum in a sandbox is worth. -/
noncomputable def Tryd.pinned : Pinned := { name := "ytgbhbbapkpgmiaadoor", sum := "fe636db8bd1fa4fb71e5e834a1bc8bb254a9204c7354ffc4f00b3c04fcfcf881", checked := Tryd.checked }
namespace Rows
def none {H : Type} : Left H := { results := [], args := [] }

/- WHAT THE LISTED PACKAGE-LEVEL VARIABLES READ AS WHEN THE CALL BEGINS. Each datum BY PROGRAM (the guide's laid-datum.mjs) off the statement by which the dump's own 'gosem.cut.vars' lays the variable. In a bare row this is a premise. The card (YtgbhbbapkpgmiaaDoorCards.lean) ties it to the program's text. -/
def laid_errors_errorType {H : Type} : DataW H := .iface "internal/reflectlite.rtype" (.agg [.ptr (.lit (.string [101, 114, 114, 111, 114]))])

/-- 'laws.FnExactRunCounters': WHATEVER THE INPUT: true; the input reads as it did. -/
def fnExactRunCountersSpec : ChangeSpec := { name := "fnExactRunCounters", fn := fun _ => fun
  | [d1, d2, d3] => { results := [.lit (.bool true)], args := [d1, d2, d3] }
  | _ => none }
def fnExactRunCountersRow : OpenClaim := { program := "ytgbhbbapkpgmiaadoor", sum := "fe636db8bd1fa4fb71e5e834a1bc8bb254a9204c7354ffc4f00b3c04fcfcf881", func := "loop.example/g01079/laws.FnExactRunCounters", spec := "fnExactRunCounters", inPlace := ["internal/reflectlite.ValueOf", "(internal/reflectlite.Value).Type", "(internal/reflectlite.Value).IsNil", "internal/reflectlite.TypeOf", "(internal/reflectlite.Value).Elem", "(internal/reflectlite.Value).Set"], unfollowed := true, recurses := true, named := ["errors.errorType"], apart := false, laid := [("errors.errorType", laid_errors_errorType)] }
def FnExactRunCountersSaid : Prop := fnExactRunCountersRow.holds Tryd.pinned (OpenSpec.ofChange fnExactRunCountersSpec)

/-- ITS FALSE NEIGHBOUR: 'it returns false'. Refute it at one input. -/
def fnExactRunCountersWrong : ChangeSpec := { name := "fnExactRunCounters", fn := fun _ => fun
  | [d1, d2, d3] => { results := [.lit (.bool false)], args := [d1, d2, d3] }
  | _ => none }
def FnExactRunCountersWrongFalsely : Prop := fnExactRunCountersRow.holds Tryd.pinned (OpenSpec.ofChange fnExactRunCountersWrong)

/-- 'laws.FnExactRunProgram': WHATEVER THE INPUT: true; the input reads as it did. -/
def fnExactRunProgramSpec : ChangeSpec := { name := "fnExactRunProgram", fn := fun _ => fun
  | [d1, d2, d3] => { results := [.lit (.bool true)], args := [d1, d2, d3] }
  | _ => none }
def fnExactRunProgramRow : OpenClaim := { program := "ytgbhbbapkpgmiaadoor", sum := "fe636db8bd1fa4fb71e5e834a1bc8bb254a9204c7354ffc4f00b3c04fcfcf881", func := "loop.example/g01079/laws.FnExactRunProgram", spec := "fnExactRunProgram", inPlace := ["internal/reflectlite.ValueOf", "(internal/reflectlite.Value).Type", "(internal/reflectlite.Value).IsNil", "internal/reflectlite.TypeOf", "(internal/reflectlite.Value).Elem", "(internal/reflectlite.Value).Set"], unfollowed := true, recurses := true, named := ["errors.errorType"], apart := false, laid := [("errors.errorType", laid_errors_errorType)] }
def FnExactRunProgramSaid : Prop := fnExactRunProgramRow.holds Tryd.pinned (OpenSpec.ofChange fnExactRunProgramSpec)

/-- ITS FALSE NEIGHBOUR: 'it returns false'. Refute it at one input. -/
def fnExactRunProgramWrong : ChangeSpec := { name := "fnExactRunProgram", fn := fun _ => fun
  | [d1, d2, d3] => { results := [.lit (.bool false)], args := [d1, d2, d3] }
  | _ => none }
def FnExactRunProgramWrongFalsely : Prop := fnExactRunProgramRow.holds Tryd.pinned (OpenSpec.ofChange fnExactRunProgramWrong)

/-- 'laws.FnExactTraceCounters': WHATEVER THE INPUT: true; the input reads as it did. -/
def fnExactTraceCountersSpec : ChangeSpec := { name := "fnExactTraceCounters", fn := fun _ => fun
  | [d1, d2, d3] => { results := [.lit (.bool true)], args := [d1, d2, d3] }
  | _ => none }
def fnExactTraceCountersRow : OpenClaim := { program := "ytgbhbbapkpgmiaadoor", sum := "fe636db8bd1fa4fb71e5e834a1bc8bb254a9204c7354ffc4f00b3c04fcfcf881", func := "loop.example/g01079/laws.FnExactTraceCounters", spec := "fnExactTraceCounters", inPlace := ["internal/reflectlite.ValueOf", "(internal/reflectlite.Value).Type", "(internal/reflectlite.Value).IsNil", "internal/reflectlite.TypeOf", "(internal/reflectlite.Value).Elem", "(internal/reflectlite.Value).Set"], unfollowed := true, recurses := true, named := ["errors.errorType"], apart := false, laid := [("errors.errorType", laid_errors_errorType)] }
def FnExactTraceCountersSaid : Prop := fnExactTraceCountersRow.holds Tryd.pinned (OpenSpec.ofChange fnExactTraceCountersSpec)

/-- ITS FALSE NEIGHBOUR: 'it returns false'. Refute it at one input. -/
def fnExactTraceCountersWrong : ChangeSpec := { name := "fnExactTraceCounters", fn := fun _ => fun
  | [d1, d2, d3] => { results := [.lit (.bool false)], args := [d1, d2, d3] }
  | _ => none }
def FnExactTraceCountersWrongFalsely : Prop := fnExactTraceCountersRow.holds Tryd.pinned (OpenSpec.ofChange fnExactTraceCountersWrong)

/-- 'laws.FnExactStepTag': WHATEVER THE INPUT: true; the input reads as it did. -/
def fnExactStepTagSpec : ChangeSpec := { name := "fnExactStepTag", fn := fun _ => fun
  | [d1, d2] => { results := [.lit (.bool true)], args := [d1, d2] }
  | _ => none }
def fnExactStepTagRow : OpenClaim := { program := "ytgbhbbapkpgmiaadoor", sum := "fe636db8bd1fa4fb71e5e834a1bc8bb254a9204c7354ffc4f00b3c04fcfcf881", func := "loop.example/g01079/laws.FnExactStepTag", spec := "fnExactStepTag", inPlace := ["internal/reflectlite.ValueOf", "(internal/reflectlite.Value).Type", "(internal/reflectlite.Value).IsNil", "internal/reflectlite.TypeOf", "(internal/reflectlite.Value).Elem", "(internal/reflectlite.Value).Set"], unfollowed := true, recurses := true, named := ["errors.errorType"], apart := false, laid := [("errors.errorType", laid_errors_errorType)] }
def FnExactStepTagSaid : Prop := fnExactStepTagRow.holds Tryd.pinned (OpenSpec.ofChange fnExactStepTagSpec)

/-- ITS FALSE NEIGHBOUR: 'it returns false'. Refute it at one input. -/
def fnExactStepTagWrong : ChangeSpec := { name := "fnExactStepTag", fn := fun _ => fun
  | [d1, d2] => { results := [.lit (.bool false)], args := [d1, d2] }
  | _ => none }
def FnExactStepTagWrongFalsely : Prop := fnExactStepTagRow.holds Tryd.pinned (OpenSpec.ofChange fnExactStepTagWrong)

/-- 'laws.FnExactTraceProgram': WHATEVER THE INPUT: true; the input reads as it did. -/
def fnExactTraceProgramSpec : ChangeSpec := { name := "fnExactTraceProgram", fn := fun _ => fun
  | [d1, d2, d3] => { results := [.lit (.bool true)], args := [d1, d2, d3] }
  | _ => none }
def fnExactTraceProgramRow : OpenClaim := { program := "ytgbhbbapkpgmiaadoor", sum := "fe636db8bd1fa4fb71e5e834a1bc8bb254a9204c7354ffc4f00b3c04fcfcf881", func := "loop.example/g01079/laws.FnExactTraceProgram", spec := "fnExactTraceProgram", inPlace := ["internal/reflectlite.ValueOf", "(internal/reflectlite.Value).Type", "(internal/reflectlite.Value).IsNil", "internal/reflectlite.TypeOf", "(internal/reflectlite.Value).Elem", "(internal/reflectlite.Value).Set"], unfollowed := true, recurses := true, named := ["errors.errorType"], apart := false, laid := [("errors.errorType", laid_errors_errorType)] }
def FnExactTraceProgramSaid : Prop := fnExactTraceProgramRow.holds Tryd.pinned (OpenSpec.ofChange fnExactTraceProgramSpec)

/-- ITS FALSE NEIGHBOUR: 'it returns false'. Refute it at one input. -/
def fnExactTraceProgramWrong : ChangeSpec := { name := "fnExactTraceProgram", fn := fun _ => fun
  | [d1, d2, d3] => { results := [.lit (.bool false)], args := [d1, d2, d3] }
  | _ => none }
def FnExactTraceProgramWrongFalsely : Prop := fnExactTraceProgramRow.holds Tryd.pinned (OpenSpec.ofChange fnExactTraceProgramWrong)

/-- 'laws.FnExactRunTag': WHATEVER THE INPUT: true; the input reads as it did. -/
def fnExactRunTagSpec : ChangeSpec := { name := "fnExactRunTag", fn := fun _ => fun
  | [d1, d2, d3] => { results := [.lit (.bool true)], args := [d1, d2, d3] }
  | _ => none }
def fnExactRunTagRow : OpenClaim := { program := "ytgbhbbapkpgmiaadoor", sum := "fe636db8bd1fa4fb71e5e834a1bc8bb254a9204c7354ffc4f00b3c04fcfcf881", func := "loop.example/g01079/laws.FnExactRunTag", spec := "fnExactRunTag", inPlace := ["internal/reflectlite.ValueOf", "(internal/reflectlite.Value).Type", "(internal/reflectlite.Value).IsNil", "internal/reflectlite.TypeOf", "(internal/reflectlite.Value).Elem", "(internal/reflectlite.Value).Set"], unfollowed := true, recurses := true, named := ["errors.errorType"], apart := false, laid := [("errors.errorType", laid_errors_errorType)] }
def FnExactRunTagSaid : Prop := fnExactRunTagRow.holds Tryd.pinned (OpenSpec.ofChange fnExactRunTagSpec)

/-- ITS FALSE NEIGHBOUR: 'it returns false'. Refute it at one input. -/
def fnExactRunTagWrong : ChangeSpec := { name := "fnExactRunTag", fn := fun _ => fun
  | [d1, d2, d3] => { results := [.lit (.bool false)], args := [d1, d2, d3] }
  | _ => none }
def FnExactRunTagWrongFalsely : Prop := fnExactRunTagRow.holds Tryd.pinned (OpenSpec.ofChange fnExactRunTagWrong)

/-- 'laws.FnExactStepCyclic': WHATEVER THE INPUT: true; the input reads as it did. -/
def fnExactStepCyclicSpec : ChangeSpec := { name := "fnExactStepCyclic", fn := fun _ => fun
  | [d1, d2] => { results := [.lit (.bool true)], args := [d1, d2] }
  | _ => none }
def fnExactStepCyclicRow : OpenClaim := { program := "ytgbhbbapkpgmiaadoor", sum := "fe636db8bd1fa4fb71e5e834a1bc8bb254a9204c7354ffc4f00b3c04fcfcf881", func := "loop.example/g01079/laws.FnExactStepCyclic", spec := "fnExactStepCyclic", inPlace := ["internal/reflectlite.ValueOf", "(internal/reflectlite.Value).Type", "(internal/reflectlite.Value).IsNil", "internal/reflectlite.TypeOf", "(internal/reflectlite.Value).Elem", "(internal/reflectlite.Value).Set"], unfollowed := true, recurses := true, named := ["errors.errorType"], apart := false, laid := [("errors.errorType", laid_errors_errorType)] }
def FnExactStepCyclicSaid : Prop := fnExactStepCyclicRow.holds Tryd.pinned (OpenSpec.ofChange fnExactStepCyclicSpec)

/-- ITS FALSE NEIGHBOUR: 'it returns false'. Refute it at one input. -/
def fnExactStepCyclicWrong : ChangeSpec := { name := "fnExactStepCyclic", fn := fun _ => fun
  | [d1, d2] => { results := [.lit (.bool false)], args := [d1, d2] }
  | _ => none }
def FnExactStepCyclicWrongFalsely : Prop := fnExactStepCyclicRow.holds Tryd.pinned (OpenSpec.ofChange fnExactStepCyclicWrong)

/-- 'laws.FnExactRunCyclic': WHATEVER THE INPUT: true; the input reads as it did. -/
def fnExactRunCyclicSpec : ChangeSpec := { name := "fnExactRunCyclic", fn := fun _ => fun
  | [d1, d2, d3] => { results := [.lit (.bool true)], args := [d1, d2, d3] }
  | _ => none }
def fnExactRunCyclicRow : OpenClaim := { program := "ytgbhbbapkpgmiaadoor", sum := "fe636db8bd1fa4fb71e5e834a1bc8bb254a9204c7354ffc4f00b3c04fcfcf881", func := "loop.example/g01079/laws.FnExactRunCyclic", spec := "fnExactRunCyclic", inPlace := ["internal/reflectlite.ValueOf", "(internal/reflectlite.Value).Type", "(internal/reflectlite.Value).IsNil", "internal/reflectlite.TypeOf", "(internal/reflectlite.Value).Elem", "(internal/reflectlite.Value).Set"], unfollowed := true, recurses := true, named := ["errors.errorType"], apart := false, laid := [("errors.errorType", laid_errors_errorType)] }
def FnExactRunCyclicSaid : Prop := fnExactRunCyclicRow.holds Tryd.pinned (OpenSpec.ofChange fnExactRunCyclicSpec)

/-- ITS FALSE NEIGHBOUR: 'it returns false'. Refute it at one input. -/
def fnExactRunCyclicWrong : ChangeSpec := { name := "fnExactRunCyclic", fn := fun _ => fun
  | [d1, d2, d3] => { results := [.lit (.bool false)], args := [d1, d2, d3] }
  | _ => none }
def FnExactRunCyclicWrongFalsely : Prop := fnExactRunCyclicRow.holds Tryd.pinned (OpenSpec.ofChange fnExactRunCyclicWrong)

/-- 'laws.FnExactTagLengths': WHATEVER THE INPUT: true; the input reads as it did. -/
def fnExactTagLengthsSpec : ChangeSpec := { name := "fnExactTagLengths", fn := fun _ => fun
  | [d1, d2, d3] => { results := [.lit (.bool true)], args := [d1, d2, d3] }
  | _ => none }
def fnExactTagLengthsRow : OpenClaim := { program := "ytgbhbbapkpgmiaadoor", sum := "fe636db8bd1fa4fb71e5e834a1bc8bb254a9204c7354ffc4f00b3c04fcfcf881", func := "loop.example/g01079/laws.FnExactTagLengths", spec := "fnExactTagLengths", inPlace := ["internal/reflectlite.ValueOf", "(internal/reflectlite.Value).Type", "(internal/reflectlite.Value).IsNil", "internal/reflectlite.TypeOf", "(internal/reflectlite.Value).Elem", "(internal/reflectlite.Value).Set"], unfollowed := true, recurses := true, named := ["errors.errorType"], apart := false, laid := [("errors.errorType", laid_errors_errorType)] }
def FnExactTagLengthsSaid : Prop := fnExactTagLengthsRow.holds Tryd.pinned (OpenSpec.ofChange fnExactTagLengthsSpec)

/-- ITS FALSE NEIGHBOUR: 'it returns false'. Refute it at one input. -/
def fnExactTagLengthsWrong : ChangeSpec := { name := "fnExactTagLengths", fn := fun _ => fun
  | [d1, d2, d3] => { results := [.lit (.bool false)], args := [d1, d2, d3] }
  | _ => none }
def FnExactTagLengthsWrongFalsely : Prop := fnExactTagLengthsRow.holds Tryd.pinned (OpenSpec.ofChange fnExactTagLengthsWrong)

/- THE SECOND FORM. 'bulk': how many values and letters a reading holds, each counted each time it is reached (what is shared counts as often as it is met; a slice's spare places count too). A statement '..UptoSaid' is the law's where the arguments, and the package variables that the reading takes, are together of bulk at most 1048576: NARROWER than '..Said'. Prove '..Said' where nothing that the law and all that it calls make is longer than what came in: it says more and counts as full. Else prove '..UptoSaid'. A law counts once. -/
mutual
def uptoBulk {H : Type} : DataW H → Nat
  | .lit (.string bytes) => bytes.length + 1
  | .lit _ => 1
  | .nil => 1
  | .ptr d => uptoBulk d + 1
  | .slice elems spare => uptoBulkAll elems + uptoBulkAll spare + 1
  | .agg parts => uptoBulkAll parts + 1
  | .iface _ d => uptoBulk d + 1
  | .map entries => uptoBulkEntries entries + 1
  | .held _ => 1
def uptoBulkAll {H : Type} : List (DataW H) → Nat
  | [] => 0
  | d :: r => uptoBulk d + uptoBulkAll r
def uptoBulkEntries {H : Type} : List (Lit × DataW H) → Nat
  | [] => 0
  | x :: r => uptoBulkEntry x + uptoBulkEntries r
def uptoBulkEntry {H : Type} : Lit × DataW H → Nat
  | (.string bytes, d) => bytes.length + uptoBulk d + 1
  | (_, d) => uptoBulk d + 1
 end
def uptoSmall : (H : Type) → List (DataW H) → Bool := fun _ ds => decide (uptoBulkAll ds ≤ 1048576)
def OpenSpec.upto (s : _root_.Go.ChangeSpec) : _root_.Go.OpenSpec := { _root_.Go.OpenSpec.ofChange s with cond := some uptoSmall }

/-- 'laws.FnExactRunCounters', WHERE WHAT IT READS IS OF BULK AT MOST 1048576: true; the input reads as it did. -/
def fnExactRunCountersUptoRow : OpenClaim := { program := "ytgbhbbapkpgmiaadoor", sum := "fe636db8bd1fa4fb71e5e834a1bc8bb254a9204c7354ffc4f00b3c04fcfcf881", func := "loop.example/g01079/laws.FnExactRunCounters", spec := "fnExactRunCounters", inPlace := ["internal/reflectlite.ValueOf", "(internal/reflectlite.Value).Type", "(internal/reflectlite.Value).IsNil", "internal/reflectlite.TypeOf", "(internal/reflectlite.Value).Elem", "(internal/reflectlite.Value).Set"], unfollowed := true, recurses := true, named := ["errors.errorType"], apart := false, laid := [("errors.errorType", laid_errors_errorType)], narrowed := true }
def FnExactRunCountersUptoSaid : Prop := fnExactRunCountersUptoRow.holds Tryd.pinned (OpenSpec.upto fnExactRunCountersSpec)

/-- 'laws.FnExactRunProgram', WHERE WHAT IT READS IS OF BULK AT MOST 1048576: true; the input reads as it did. -/
def fnExactRunProgramUptoRow : OpenClaim := { program := "ytgbhbbapkpgmiaadoor", sum := "fe636db8bd1fa4fb71e5e834a1bc8bb254a9204c7354ffc4f00b3c04fcfcf881", func := "loop.example/g01079/laws.FnExactRunProgram", spec := "fnExactRunProgram", inPlace := ["internal/reflectlite.ValueOf", "(internal/reflectlite.Value).Type", "(internal/reflectlite.Value).IsNil", "internal/reflectlite.TypeOf", "(internal/reflectlite.Value).Elem", "(internal/reflectlite.Value).Set"], unfollowed := true, recurses := true, named := ["errors.errorType"], apart := false, laid := [("errors.errorType", laid_errors_errorType)], narrowed := true }
def FnExactRunProgramUptoSaid : Prop := fnExactRunProgramUptoRow.holds Tryd.pinned (OpenSpec.upto fnExactRunProgramSpec)

/-- 'laws.FnExactTraceCounters', WHERE WHAT IT READS IS OF BULK AT MOST 1048576: true; the input reads as it did. -/
def fnExactTraceCountersUptoRow : OpenClaim := { program := "ytgbhbbapkpgmiaadoor", sum := "fe636db8bd1fa4fb71e5e834a1bc8bb254a9204c7354ffc4f00b3c04fcfcf881", func := "loop.example/g01079/laws.FnExactTraceCounters", spec := "fnExactTraceCounters", inPlace := ["internal/reflectlite.ValueOf", "(internal/reflectlite.Value).Type", "(internal/reflectlite.Value).IsNil", "internal/reflectlite.TypeOf", "(internal/reflectlite.Value).Elem", "(internal/reflectlite.Value).Set"], unfollowed := true, recurses := true, named := ["errors.errorType"], apart := false, laid := [("errors.errorType", laid_errors_errorType)], narrowed := true }
def FnExactTraceCountersUptoSaid : Prop := fnExactTraceCountersUptoRow.holds Tryd.pinned (OpenSpec.upto fnExactTraceCountersSpec)

/-- 'laws.FnExactStepTag', WHERE WHAT IT READS IS OF BULK AT MOST 1048576: true; the input reads as it did. -/
def fnExactStepTagUptoRow : OpenClaim := { program := "ytgbhbbapkpgmiaadoor", sum := "fe636db8bd1fa4fb71e5e834a1bc8bb254a9204c7354ffc4f00b3c04fcfcf881", func := "loop.example/g01079/laws.FnExactStepTag", spec := "fnExactStepTag", inPlace := ["internal/reflectlite.ValueOf", "(internal/reflectlite.Value).Type", "(internal/reflectlite.Value).IsNil", "internal/reflectlite.TypeOf", "(internal/reflectlite.Value).Elem", "(internal/reflectlite.Value).Set"], unfollowed := true, recurses := true, named := ["errors.errorType"], apart := false, laid := [("errors.errorType", laid_errors_errorType)], narrowed := true }
def FnExactStepTagUptoSaid : Prop := fnExactStepTagUptoRow.holds Tryd.pinned (OpenSpec.upto fnExactStepTagSpec)

/-- 'laws.FnExactTraceProgram', WHERE WHAT IT READS IS OF BULK AT MOST 1048576: true; the input reads as it did. -/
def fnExactTraceProgramUptoRow : OpenClaim := { program := "ytgbhbbapkpgmiaadoor", sum := "fe636db8bd1fa4fb71e5e834a1bc8bb254a9204c7354ffc4f00b3c04fcfcf881", func := "loop.example/g01079/laws.FnExactTraceProgram", spec := "fnExactTraceProgram", inPlace := ["internal/reflectlite.ValueOf", "(internal/reflectlite.Value).Type", "(internal/reflectlite.Value).IsNil", "internal/reflectlite.TypeOf", "(internal/reflectlite.Value).Elem", "(internal/reflectlite.Value).Set"], unfollowed := true, recurses := true, named := ["errors.errorType"], apart := false, laid := [("errors.errorType", laid_errors_errorType)], narrowed := true }
def FnExactTraceProgramUptoSaid : Prop := fnExactTraceProgramUptoRow.holds Tryd.pinned (OpenSpec.upto fnExactTraceProgramSpec)

/-- 'laws.FnExactRunTag', WHERE WHAT IT READS IS OF BULK AT MOST 1048576: true; the input reads as it did. -/
def fnExactRunTagUptoRow : OpenClaim := { program := "ytgbhbbapkpgmiaadoor", sum := "fe636db8bd1fa4fb71e5e834a1bc8bb254a9204c7354ffc4f00b3c04fcfcf881", func := "loop.example/g01079/laws.FnExactRunTag", spec := "fnExactRunTag", inPlace := ["internal/reflectlite.ValueOf", "(internal/reflectlite.Value).Type", "(internal/reflectlite.Value).IsNil", "internal/reflectlite.TypeOf", "(internal/reflectlite.Value).Elem", "(internal/reflectlite.Value).Set"], unfollowed := true, recurses := true, named := ["errors.errorType"], apart := false, laid := [("errors.errorType", laid_errors_errorType)], narrowed := true }
def FnExactRunTagUptoSaid : Prop := fnExactRunTagUptoRow.holds Tryd.pinned (OpenSpec.upto fnExactRunTagSpec)

/-- 'laws.FnExactStepCyclic', WHERE WHAT IT READS IS OF BULK AT MOST 1048576: true; the input reads as it did. -/
def fnExactStepCyclicUptoRow : OpenClaim := { program := "ytgbhbbapkpgmiaadoor", sum := "fe636db8bd1fa4fb71e5e834a1bc8bb254a9204c7354ffc4f00b3c04fcfcf881", func := "loop.example/g01079/laws.FnExactStepCyclic", spec := "fnExactStepCyclic", inPlace := ["internal/reflectlite.ValueOf", "(internal/reflectlite.Value).Type", "(internal/reflectlite.Value).IsNil", "internal/reflectlite.TypeOf", "(internal/reflectlite.Value).Elem", "(internal/reflectlite.Value).Set"], unfollowed := true, recurses := true, named := ["errors.errorType"], apart := false, laid := [("errors.errorType", laid_errors_errorType)], narrowed := true }
def FnExactStepCyclicUptoSaid : Prop := fnExactStepCyclicUptoRow.holds Tryd.pinned (OpenSpec.upto fnExactStepCyclicSpec)

/-- 'laws.FnExactRunCyclic', WHERE WHAT IT READS IS OF BULK AT MOST 1048576: true; the input reads as it did. -/
def fnExactRunCyclicUptoRow : OpenClaim := { program := "ytgbhbbapkpgmiaadoor", sum := "fe636db8bd1fa4fb71e5e834a1bc8bb254a9204c7354ffc4f00b3c04fcfcf881", func := "loop.example/g01079/laws.FnExactRunCyclic", spec := "fnExactRunCyclic", inPlace := ["internal/reflectlite.ValueOf", "(internal/reflectlite.Value).Type", "(internal/reflectlite.Value).IsNil", "internal/reflectlite.TypeOf", "(internal/reflectlite.Value).Elem", "(internal/reflectlite.Value).Set"], unfollowed := true, recurses := true, named := ["errors.errorType"], apart := false, laid := [("errors.errorType", laid_errors_errorType)], narrowed := true }
def FnExactRunCyclicUptoSaid : Prop := fnExactRunCyclicUptoRow.holds Tryd.pinned (OpenSpec.upto fnExactRunCyclicSpec)

/-- 'laws.FnExactTagLengths', WHERE WHAT IT READS IS OF BULK AT MOST 1048576: true; the input reads as it did. -/
def fnExactTagLengthsUptoRow : OpenClaim := { program := "ytgbhbbapkpgmiaadoor", sum := "fe636db8bd1fa4fb71e5e834a1bc8bb254a9204c7354ffc4f00b3c04fcfcf881", func := "loop.example/g01079/laws.FnExactTagLengths", spec := "fnExactTagLengths", inPlace := ["internal/reflectlite.ValueOf", "(internal/reflectlite.Value).Type", "(internal/reflectlite.Value).IsNil", "internal/reflectlite.TypeOf", "(internal/reflectlite.Value).Elem", "(internal/reflectlite.Value).Set"], unfollowed := true, recurses := true, named := ["errors.errorType"], apart := false, laid := [("errors.errorType", laid_errors_errorType)], narrowed := true }
def FnExactTagLengthsUptoSaid : Prop := fnExactTagLengthsUptoRow.holds Tryd.pinned (OpenSpec.upto fnExactTagLengthsSpec)

end Rows
end Go.Proofs.YtgbhbbapkpgmiaaDoor
