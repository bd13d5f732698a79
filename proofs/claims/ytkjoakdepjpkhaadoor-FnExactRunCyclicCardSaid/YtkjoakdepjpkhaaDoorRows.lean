/-
  NARROWER THAN 'FOR EVERY INPUT', by the rows' own cells (each row's printed sentence says how): FnExactTagLengths: laid · FnExactStepCyclic: laid · FnExactRunCyclic: laid · FnExactTraceTag: laid · FnExactTraceCyclic: laid · FnExactTraceCounters: laid · FnExactTraceProgram: laid.
  DERIVED. THE GIVEN ROWS OF THIS SEAT. 7 by the template 'for every input the law returns true; each argument reads behind the call as it read before'; 0 by the template 'total and deterministic' (their statements: YtkjoakdepjpkhaaDoorTotals.lean).
  GIVEN WITH THE SEED: the statements are not yours to turn. If you find one false, say at which input.
  Laid BY PROGRAM, IN A SANDBOX (cutbox-rows.mjs): the forced cells as the released guide's own fill.sh prints them over the translation 379bf59a3c903fd6… (all of the seat's roots in one cut). By AI agents, Wed Nov 11 2026. No macro, syntax, notation, axiom, sorry.
-/
import Derived.Test.YtkjoakdepjpkhaaDoorChecked
import GoSem.Claim
import GoSem.ClaimJoined
import GoSem.ClaimMapViews
import Derived.JoinedTies
import Derived.KernelRfl
namespace Go.Proofs.YtkjoakdepjpkhaaDoor
/- THE CELL 'sum', in the pinned program and in every row, IS THE sha256 OF THE DUMP (.gsa) THAT YtkjoakdepjpkhaaDoorProg.lean LOADS. Nothing in Lean hashes anything: it is a label: what it is worth is what the hold of that sum in a sandbox is worth. -/
noncomputable def Tryd.pinned : Pinned := { name := "ytkjoakdepjpkhaadoor", sum := "379bf59a3c903fd63d69a677bb5ef169e80cc092d377100ff581fb68d731b623", checked := Tryd.checked }
namespace Rows
def none {H : Type} : Left H := { results := [], args := [] }

/- WHAT THE LISTED PACKAGE-LEVEL VARIABLES READ AS WHEN THE CALL BEGINS. Each datum BY PROGRAM (the guide's laid-datum.mjs) off the statement by which the dump's own 'gosem.cut.vars' lays the variable. In a bare row this is a premise. The card (YtkjoakdepjpkhaaDoorCards.lean) ties it to the program's text. -/
def laid_errors_errorType {H : Type} : DataW H := .iface "internal/reflectlite.rtype" (.agg [.ptr (.lit (.string [101, 114, 114, 111, 114]))])

/-- 'laws.FnExactTagLengths': WHATEVER THE INPUT: true; the input reads as it did. -/
def fnExactTagLengthsSpec : ChangeSpec := { name := "fnExactTagLengths", fn := fun _ => fun
  | [d1, d2, d3] => { results := [.lit (.bool true)], args := [d1, d2, d3] }
  | _ => none }
def fnExactTagLengthsRow : OpenClaim := { program := "ytkjoakdepjpkhaadoor", sum := "379bf59a3c903fd63d69a677bb5ef169e80cc092d377100ff581fb68d731b623", func := "loop.example/g01079/laws.FnExactTagLengths", spec := "fnExactTagLengths", inPlace := ["internal/reflectlite.ValueOf", "(internal/reflectlite.Value).Type", "(internal/reflectlite.Value).IsNil", "internal/reflectlite.TypeOf", "(internal/reflectlite.Value).Elem", "(internal/reflectlite.Value).Set"], unfollowed := true, recurses := true, named := ["errors.errorType"], apart := false, laid := [("errors.errorType", laid_errors_errorType)] }
def FnExactTagLengthsSaid : Prop := fnExactTagLengthsRow.holds Tryd.pinned (OpenSpec.ofChange fnExactTagLengthsSpec)

/-- ITS FALSE NEIGHBOUR: 'it returns false'. Refute it at one input. -/
def fnExactTagLengthsWrong : ChangeSpec := { name := "fnExactTagLengths", fn := fun _ => fun
  | [d1, d2, d3] => { results := [.lit (.bool false)], args := [d1, d2, d3] }
  | _ => none }
def FnExactTagLengthsWrongFalsely : Prop := fnExactTagLengthsRow.holds Tryd.pinned (OpenSpec.ofChange fnExactTagLengthsWrong)

/-- 'laws.FnExactStepCyclic': WHATEVER THE INPUT: true; the input reads as it did. -/
def fnExactStepCyclicSpec : ChangeSpec := { name := "fnExactStepCyclic", fn := fun _ => fun
  | [d1, d2] => { results := [.lit (.bool true)], args := [d1, d2] }
  | _ => none }
def fnExactStepCyclicRow : OpenClaim := { program := "ytkjoakdepjpkhaadoor", sum := "379bf59a3c903fd63d69a677bb5ef169e80cc092d377100ff581fb68d731b623", func := "loop.example/g01079/laws.FnExactStepCyclic", spec := "fnExactStepCyclic", inPlace := ["internal/reflectlite.ValueOf", "(internal/reflectlite.Value).Type", "(internal/reflectlite.Value).IsNil", "internal/reflectlite.TypeOf", "(internal/reflectlite.Value).Elem", "(internal/reflectlite.Value).Set"], unfollowed := true, recurses := true, named := ["errors.errorType"], apart := false, laid := [("errors.errorType", laid_errors_errorType)] }
def FnExactStepCyclicSaid : Prop := fnExactStepCyclicRow.holds Tryd.pinned (OpenSpec.ofChange fnExactStepCyclicSpec)

/-- ITS FALSE NEIGHBOUR: 'it returns false'. Refute it at one input. -/
def fnExactStepCyclicWrong : ChangeSpec := { name := "fnExactStepCyclic", fn := fun _ => fun
  | [d1, d2] => { results := [.lit (.bool false)], args := [d1, d2] }
  | _ => none }
def FnExactStepCyclicWrongFalsely : Prop := fnExactStepCyclicRow.holds Tryd.pinned (OpenSpec.ofChange fnExactStepCyclicWrong)

/-- 'laws.FnExactRunCyclic': WHATEVER THE INPUT: true; the input reads as it did. -/
def fnExactRunCyclicSpec : ChangeSpec := { name := "fnExactRunCyclic", fn := fun _ => fun
  | [d1, d2, d3] => { results := [.lit (.bool true)], args := [d1, d2, d3] }
  | _ => none }
def fnExactRunCyclicRow : OpenClaim := { program := "ytkjoakdepjpkhaadoor", sum := "379bf59a3c903fd63d69a677bb5ef169e80cc092d377100ff581fb68d731b623", func := "loop.example/g01079/laws.FnExactRunCyclic", spec := "fnExactRunCyclic", inPlace := ["internal/reflectlite.ValueOf", "(internal/reflectlite.Value).Type", "(internal/reflectlite.Value).IsNil", "internal/reflectlite.TypeOf", "(internal/reflectlite.Value).Elem", "(internal/reflectlite.Value).Set"], unfollowed := true, recurses := true, named := ["errors.errorType"], apart := false, laid := [("errors.errorType", laid_errors_errorType)] }
def FnExactRunCyclicSaid : Prop := fnExactRunCyclicRow.holds Tryd.pinned (OpenSpec.ofChange fnExactRunCyclicSpec)

/-- ITS FALSE NEIGHBOUR: 'it returns false'. Refute it at one input. -/
def fnExactRunCyclicWrong : ChangeSpec := { name := "fnExactRunCyclic", fn := fun _ => fun
  | [d1, d2, d3] => { results := [.lit (.bool false)], args := [d1, d2, d3] }
  | _ => none }
def FnExactRunCyclicWrongFalsely : Prop := fnExactRunCyclicRow.holds Tryd.pinned (OpenSpec.ofChange fnExactRunCyclicWrong)

/-- 'laws.FnExactTraceTag': WHATEVER THE INPUT: true; the input reads as it did. -/
def fnExactTraceTagSpec : ChangeSpec := { name := "fnExactTraceTag", fn := fun _ => fun
  | [d1, d2, d3] => { results := [.lit (.bool true)], args := [d1, d2, d3] }
  | _ => none }
def fnExactTraceTagRow : OpenClaim := { program := "ytkjoakdepjpkhaadoor", sum := "379bf59a3c903fd63d69a677bb5ef169e80cc092d377100ff581fb68d731b623", func := "loop.example/g01079/laws.FnExactTraceTag", spec := "fnExactTraceTag", inPlace := ["internal/reflectlite.ValueOf", "(internal/reflectlite.Value).Type", "(internal/reflectlite.Value).IsNil", "internal/reflectlite.TypeOf", "(internal/reflectlite.Value).Elem", "(internal/reflectlite.Value).Set"], unfollowed := true, recurses := true, named := ["errors.errorType"], apart := false, laid := [("errors.errorType", laid_errors_errorType)] }
def FnExactTraceTagSaid : Prop := fnExactTraceTagRow.holds Tryd.pinned (OpenSpec.ofChange fnExactTraceTagSpec)

/-- ITS FALSE NEIGHBOUR: 'it returns false'. Refute it at one input. -/
def fnExactTraceTagWrong : ChangeSpec := { name := "fnExactTraceTag", fn := fun _ => fun
  | [d1, d2, d3] => { results := [.lit (.bool false)], args := [d1, d2, d3] }
  | _ => none }
def FnExactTraceTagWrongFalsely : Prop := fnExactTraceTagRow.holds Tryd.pinned (OpenSpec.ofChange fnExactTraceTagWrong)

/-- 'laws.FnExactTraceCyclic': WHATEVER THE INPUT: true; the input reads as it did. -/
def fnExactTraceCyclicSpec : ChangeSpec := { name := "fnExactTraceCyclic", fn := fun _ => fun
  | [d1, d2, d3] => { results := [.lit (.bool true)], args := [d1, d2, d3] }
  | _ => none }
def fnExactTraceCyclicRow : OpenClaim := { program := "ytkjoakdepjpkhaadoor", sum := "379bf59a3c903fd63d69a677bb5ef169e80cc092d377100ff581fb68d731b623", func := "loop.example/g01079/laws.FnExactTraceCyclic", spec := "fnExactTraceCyclic", inPlace := ["internal/reflectlite.ValueOf", "(internal/reflectlite.Value).Type", "(internal/reflectlite.Value).IsNil", "internal/reflectlite.TypeOf", "(internal/reflectlite.Value).Elem", "(internal/reflectlite.Value).Set"], unfollowed := true, recurses := true, named := ["errors.errorType"], apart := false, laid := [("errors.errorType", laid_errors_errorType)] }
def FnExactTraceCyclicSaid : Prop := fnExactTraceCyclicRow.holds Tryd.pinned (OpenSpec.ofChange fnExactTraceCyclicSpec)

/-- ITS FALSE NEIGHBOUR: 'it returns false'. Refute it at one input. -/
def fnExactTraceCyclicWrong : ChangeSpec := { name := "fnExactTraceCyclic", fn := fun _ => fun
  | [d1, d2, d3] => { results := [.lit (.bool false)], args := [d1, d2, d3] }
  | _ => none }
def FnExactTraceCyclicWrongFalsely : Prop := fnExactTraceCyclicRow.holds Tryd.pinned (OpenSpec.ofChange fnExactTraceCyclicWrong)

/-- 'laws.FnExactTraceCounters': WHATEVER THE INPUT: true; the input reads as it did. -/
def fnExactTraceCountersSpec : ChangeSpec := { name := "fnExactTraceCounters", fn := fun _ => fun
  | [d1, d2, d3] => { results := [.lit (.bool true)], args := [d1, d2, d3] }
  | _ => none }
def fnExactTraceCountersRow : OpenClaim := { program := "ytkjoakdepjpkhaadoor", sum := "379bf59a3c903fd63d69a677bb5ef169e80cc092d377100ff581fb68d731b623", func := "loop.example/g01079/laws.FnExactTraceCounters", spec := "fnExactTraceCounters", inPlace := ["internal/reflectlite.ValueOf", "(internal/reflectlite.Value).Type", "(internal/reflectlite.Value).IsNil", "internal/reflectlite.TypeOf", "(internal/reflectlite.Value).Elem", "(internal/reflectlite.Value).Set"], unfollowed := true, recurses := true, named := ["errors.errorType"], apart := false, laid := [("errors.errorType", laid_errors_errorType)] }
def FnExactTraceCountersSaid : Prop := fnExactTraceCountersRow.holds Tryd.pinned (OpenSpec.ofChange fnExactTraceCountersSpec)

/-- ITS FALSE NEIGHBOUR: 'it returns false'. Refute it at one input. -/
def fnExactTraceCountersWrong : ChangeSpec := { name := "fnExactTraceCounters", fn := fun _ => fun
  | [d1, d2, d3] => { results := [.lit (.bool false)], args := [d1, d2, d3] }
  | _ => none }
def FnExactTraceCountersWrongFalsely : Prop := fnExactTraceCountersRow.holds Tryd.pinned (OpenSpec.ofChange fnExactTraceCountersWrong)

/-- 'laws.FnExactTraceProgram': WHATEVER THE INPUT: true; the input reads as it did. -/
def fnExactTraceProgramSpec : ChangeSpec := { name := "fnExactTraceProgram", fn := fun _ => fun
  | [d1, d2, d3] => { results := [.lit (.bool true)], args := [d1, d2, d3] }
  | _ => none }
def fnExactTraceProgramRow : OpenClaim := { program := "ytkjoakdepjpkhaadoor", sum := "379bf59a3c903fd63d69a677bb5ef169e80cc092d377100ff581fb68d731b623", func := "loop.example/g01079/laws.FnExactTraceProgram", spec := "fnExactTraceProgram", inPlace := ["internal/reflectlite.ValueOf", "(internal/reflectlite.Value).Type", "(internal/reflectlite.Value).IsNil", "internal/reflectlite.TypeOf", "(internal/reflectlite.Value).Elem", "(internal/reflectlite.Value).Set"], unfollowed := true, recurses := true, named := ["errors.errorType"], apart := false, laid := [("errors.errorType", laid_errors_errorType)] }
def FnExactTraceProgramSaid : Prop := fnExactTraceProgramRow.holds Tryd.pinned (OpenSpec.ofChange fnExactTraceProgramSpec)

/-- ITS FALSE NEIGHBOUR: 'it returns false'. Refute it at one input. -/
def fnExactTraceProgramWrong : ChangeSpec := { name := "fnExactTraceProgram", fn := fun _ => fun
  | [d1, d2, d3] => { results := [.lit (.bool false)], args := [d1, d2, d3] }
  | _ => none }
def FnExactTraceProgramWrongFalsely : Prop := fnExactTraceProgramRow.holds Tryd.pinned (OpenSpec.ofChange fnExactTraceProgramWrong)

/- THE SECOND FORM. 'bulk': how many values and letters a reading holds, each counted each time it is reached (what is shared counts as often as it is met; a slice's spare places count too). A statement '..UptoSaid' is the law's where the arguments, and the package variables that the reading takes, are together of bulk at most 1048576: NARROWER than '..Said'. Prove '..Said' where nothing that the law and all that it calls make is longer than what came in: it says more and counts as full. Else prove '..UptoSaid'. A law counts once. -/
mutual
def uptoBulk {H : Type} : DataW H → Nat
  | .lit (.string bytes) => bytes.length + 1
  | .lit _ => 1
  | .nil => 1
  | .ptr d => uptoBulk d + 1
  | .slice elems spare => uptoBulkAll elems + uptoBulkAll spare + 1
  | .agg parts => uptoBulkAll parts + 1
  | .iface _ d => uptoBulk d + 1
  | .map entries => uptoBulkEntries entries + 1
  | .held _ => 1
def uptoBulkAll {H : Type} : List (DataW H) → Nat
  | [] => 0
  | d :: r => uptoBulk d + uptoBulkAll r
def uptoBulkEntries {H : Type} : List (Lit × DataW H) → Nat
  | [] => 0
  | x :: r => uptoBulkEntry x + uptoBulkEntries r
def uptoBulkEntry {H : Type} : Lit × DataW H → Nat
  | (.string bytes, d) => bytes.length + uptoBulk d + 1
  | (_, d) => uptoBulk d + 1
 end
def uptoSmall : (H : Type) → List (DataW H) → Bool := fun _ ds => decide (uptoBulkAll ds ≤ 1048576)
def OpenSpec.upto (s : _root_.Go.ChangeSpec) : _root_.Go.OpenSpec := { _root_.Go.OpenSpec.ofChange s with cond := some uptoSmall }

/-- 'laws.FnExactTagLengths', WHERE WHAT IT READS IS OF BULK AT MOST 1048576: true; the input reads as it did. -/
def fnExactTagLengthsUptoRow : OpenClaim := { program := "ytkjoakdepjpkhaadoor", sum := "379bf59a3c903fd63d69a677bb5ef169e80cc092d377100ff581fb68d731b623", func := "loop.example/g01079/laws.FnExactTagLengths", spec := "fnExactTagLengths", inPlace := ["internal/reflectlite.ValueOf", "(internal/reflectlite.Value).Type", "(internal/reflectlite.Value).IsNil", "internal/reflectlite.TypeOf", "(internal/reflectlite.Value).Elem", "(internal/reflectlite.Value).Set"], unfollowed := true, recurses := true, named := ["errors.errorType"], apart := false, laid := [("errors.errorType", laid_errors_errorType)], narrowed := true }
def FnExactTagLengthsUptoSaid : Prop := fnExactTagLengthsUptoRow.holds Tryd.pinned (OpenSpec.upto fnExactTagLengthsSpec)

/-- 'laws.FnExactStepCyclic', WHERE WHAT IT READS IS OF BULK AT MOST 1048576: true; the input reads as it did. -/
def fnExactStepCyclicUptoRow : OpenClaim := { program := "ytkjoakdepjpkhaadoor", sum := "379bf59a3c903fd63d69a677bb5ef169e80cc092d377100ff581fb68d731b623", func := "loop.example/g01079/laws.FnExactStepCyclic", spec := "fnExactStepCyclic", inPlace := ["internal/reflectlite.ValueOf", "(internal/reflectlite.Value).Type", "(internal/reflectlite.Value).IsNil", "internal/reflectlite.TypeOf", "(internal/reflectlite.Value).Elem", "(internal/reflectlite.Value).Set"], unfollowed := true, recurses := true, named := ["errors.errorType"], apart := false, laid := [("errors.errorType", laid_errors_errorType)], narrowed := true }
def FnExactStepCyclicUptoSaid : Prop := fnExactStepCyclicUptoRow.holds Tryd.pinned (OpenSpec.upto fnExactStepCyclicSpec)

/-- 'laws.FnExactRunCyclic', WHERE WHAT IT READS IS OF BULK AT MOST 1048576: true; the input reads as it did. -/
def fnExactRunCyclicUptoRow : OpenClaim := { program := "ytkjoakdepjpkhaadoor", sum := "379bf59a3c903fd63d69a677bb5ef169e80cc092d377100ff581fb68d731b623", func := "loop.example/g01079/laws.FnExactRunCyclic", spec := "fnExactRunCyclic", inPlace := ["internal/reflectlite.ValueOf", "(internal/reflectlite.Value).Type", "(internal/reflectlite.Value).IsNil", "internal/reflectlite.TypeOf", "(internal/reflectlite.Value).Elem", "(internal/reflectlite.Value).Set"], unfollowed := true, recurses := true, named := ["errors.errorType"], apart := false, laid := [("errors.errorType", laid_errors_errorType)], narrowed := true }
def FnExactRunCyclicUptoSaid : Prop := fnExactRunCyclicUptoRow.holds Tryd.pinned (OpenSpec.upto fnExactRunCyclicSpec)

/-- 'laws.FnExactTraceTag', WHERE WHAT IT READS IS OF BULK AT MOST 1048576: true; the input reads as it did. -/
def fnExactTraceTagUptoRow : OpenClaim := { program := "ytkjoakdepjpkhaadoor", sum := "379bf59a3c903fd63d69a677bb5ef169e80cc092d377100ff581fb68d731b623", func := "loop.example/g01079/laws.FnExactTraceTag", spec := "fnExactTraceTag", inPlace := ["internal/reflectlite.ValueOf", "(internal/reflectlite.Value).Type", "(internal/reflectlite.Value).IsNil", "internal/reflectlite.TypeOf", "(internal/reflectlite.Value).Elem", "(internal/reflectlite.Value).Set"], unfollowed := true, recurses := true, named := ["errors.errorType"], apart := false, laid := [("errors.errorType", laid_errors_errorType)], narrowed := true }
def FnExactTraceTagUptoSaid : Prop := fnExactTraceTagUptoRow.holds Tryd.pinned (OpenSpec.upto fnExactTraceTagSpec)

/-- 'laws.FnExactTraceCyclic', WHERE WHAT IT READS IS OF BULK AT MOST 1048576: true; the input reads as it did. -/
def fnExactTraceCyclicUptoRow : OpenClaim := { program := "ytkjoakdepjpkhaadoor", sum := "379bf59a3c903fd63d69a677bb5ef169e80cc092d377100ff581fb68d731b623", func := "loop.example/g01079/laws.FnExactTraceCyclic", spec := "fnExactTraceCyclic", inPlace := ["internal/reflectlite.ValueOf", "(internal/reflectlite.Value).Type", "(internal/reflectlite.Value).IsNil", "internal/reflectlite.TypeOf", "(internal/reflectlite.Value).Elem", "(internal/reflectlite.Value).Set"], unfollowed := true, recurses := true, named := ["errors.errorType"], apart := false, laid := [("errors.errorType", laid_errors_errorType)], narrowed := true }
def FnExactTraceCyclicUptoSaid : Prop := fnExactTraceCyclicUptoRow.holds Tryd.pinned (OpenSpec.upto fnExactTraceCyclicSpec)

/-- 'laws.FnExactTraceCounters', WHERE WHAT IT READS IS OF BULK AT MOST 1048576: true; the input reads as it did. -/
def fnExactTraceCountersUptoRow : OpenClaim := { program := "ytkjoakdepjpkhaadoor", sum := "379bf59a3c903fd63d69a677bb5ef169e80cc092d377100ff581fb68d731b623", func := "loop.example/g01079/laws.FnExactTraceCounters", spec := "fnExactTraceCounters", inPlace := ["internal/reflectlite.ValueOf", "(internal/reflectlite.Value).Type", "(internal/reflectlite.Value).IsNil", "internal/reflectlite.TypeOf", "(internal/reflectlite.Value).Elem", "(internal/reflectlite.Value).Set"], unfollowed := true, recurses := true, named := ["errors.errorType"], apart := false, laid := [("errors.errorType", laid_errors_errorType)], narrowed := true }
def FnExactTraceCountersUptoSaid : Prop := fnExactTraceCountersUptoRow.holds Tryd.pinned (OpenSpec.upto fnExactTraceCountersSpec)

/-- 'laws.FnExactTraceProgram', WHERE WHAT IT READS IS OF BULK AT MOST 1048576: true; the input reads as it did. -/
def fnExactTraceProgramUptoRow : OpenClaim := { program := "ytkjoakdepjpkhaadoor", sum := "379bf59a3c903fd63d69a677bb5ef169e80cc092d377100ff581fb68d731b623", func := "loop.example/g01079/laws.FnExactTraceProgram", spec := "fnExactTraceProgram", inPlace := ["internal/reflectlite.ValueOf", "(internal/reflectlite.Value).Type", "(internal/reflectlite.Value).IsNil", "internal/reflectlite.TypeOf", "(internal/reflectlite.Value).Elem", "(internal/reflectlite.Value).Set"], unfollowed := true, recurses := true, named := ["errors.errorType"], apart := false, laid := [("errors.errorType", laid_errors_errorType)], narrowed := true }
def FnExactTraceProgramUptoSaid : Prop := fnExactTraceProgramUptoRow.holds Tryd.pinned (OpenSpec.upto fnExactTraceProgramSpec)

end Rows
end Go.Proofs.YtkjoakdepjpkhaaDoor
