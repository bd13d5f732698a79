/-
  No cell of these rows narrows 'for every input' (looked for: loops, veiled, ifaces, maps, wideKeys, modest, calm, conditions, laid).
  DERIVED. THE GIVEN ROWS OF THIS SEAT. 7 by the template 'for every input the law returns true; each argument reads behind the call as it read before'; 0 by the template 'total and deterministic' (their statements: YtfnopnaaahkklaaTotals.lean).
  GIVEN WITH THE SEED: the statements are not yours to turn. If you find one false, say at which input.
  Laid BY PROGRAM, IN A SANDBOX (cutbox-rows.mjs): the forced cells as the released guide's own fill.sh prints them over the translation 44d08842bee2c3c7… (all of the seat's roots in one cut). By AI agents, Wed Nov 11 2026. No macro, syntax, notation, axiom, sorry.
-/
import Derived.Test.YtfnopnaaahkklaaChecked
import GoSem.Claim
import GoSem.ClaimJoined
import GoSem.ClaimMapViews
import Derived.JoinedTies
import Derived.KernelRfl
namespace Go.Proofs.Ytfnopnaaahkklaa
/- THE CELL 'sum', in the pinned program and in every row, IS THE sha256 OF THE DUMP (.gsa) THAT YtfnopnaaahkklaaProg.lean LOADS. Nothing in Lean hashes anything: it is a label: what it is worth is what the hold of that sum in a sandbox is worth. -/
noncomputable def Try.pinned : Pinned := { name := "ytfnopnaaahkklaa", sum := "44d08842bee2c3c7b82d980049bbbe78a89216dafd6954cd19d53b639aa0af8d", checked := Try.checked }
namespace Rows
def none {H : Type} : Left H := { results := [], args := [] }

/-- 'laws.FnExactDivideNaturals': WHATEVER THE INPUT: true; the input reads as it did. -/
def fnExactDivideNaturalsSpec : ChangeSpec := { name := "fnExactDivideNaturals", fn := fun _ => fun
  | [d1, d2] => { results := [.lit (.bool true)], args := [d1, d2] }
  | _ => none }
def fnExactDivideNaturalsRow : OpenClaim := { program := "ytfnopnaaahkklaa", sum := "44d08842bee2c3c7b82d980049bbbe78a89216dafd6954cd19d53b639aa0af8d", func := "loop.example/g01079/laws.FnExactDivideNaturals", spec := "fnExactDivideNaturals", unfollowed := true, recurses := true, apart := false }
def FnExactDivideNaturalsSaid : Prop := fnExactDivideNaturalsRow.holds Try.pinned (OpenSpec.ofChange fnExactDivideNaturalsSpec)

/-- ITS FALSE NEIGHBOUR: 'it returns false'. Refute it at one input. -/
def fnExactDivideNaturalsWrong : ChangeSpec := { name := "fnExactDivideNaturals", fn := fun _ => fun
  | [d1, d2] => { results := [.lit (.bool false)], args := [d1, d2] }
  | _ => none }
def FnExactDivideNaturalsWrongFalsely : Prop := fnExactDivideNaturalsRow.holds Try.pinned (OpenSpec.ofChange fnExactDivideNaturalsWrong)

/-- 'laws.FnExactGcdNaturals': WHATEVER THE INPUT: true; the input reads as it did. -/
def fnExactGcdNaturalsSpec : ChangeSpec := { name := "fnExactGcdNaturals", fn := fun _ => fun
  | [d1, d2] => { results := [.lit (.bool true)], args := [d1, d2] }
  | _ => none }
def fnExactGcdNaturalsRow : OpenClaim := { program := "ytfnopnaaahkklaa", sum := "44d08842bee2c3c7b82d980049bbbe78a89216dafd6954cd19d53b639aa0af8d", func := "loop.example/g01079/laws.FnExactGcdNaturals", spec := "fnExactGcdNaturals", unfollowed := true, recurses := true, apart := false }
def FnExactGcdNaturalsSaid : Prop := fnExactGcdNaturalsRow.holds Try.pinned (OpenSpec.ofChange fnExactGcdNaturalsSpec)

/-- ITS FALSE NEIGHBOUR: 'it returns false'. Refute it at one input. -/
def fnExactGcdNaturalsWrong : ChangeSpec := { name := "fnExactGcdNaturals", fn := fun _ => fun
  | [d1, d2] => { results := [.lit (.bool false)], args := [d1, d2] }
  | _ => none }
def FnExactGcdNaturalsWrongFalsely : Prop := fnExactGcdNaturalsRow.holds Try.pinned (OpenSpec.ofChange fnExactGcdNaturalsWrong)

/-- 'laws.FnExactRootNatural': WHATEVER THE INPUT: true; the input reads as it did. -/
def fnExactRootNaturalSpec : ChangeSpec := { name := "fnExactRootNatural", fn := fun _ => fun
  | [d] => { results := [.lit (.bool true)], args := [d] }
  | _ => none }
def fnExactRootNaturalRow : OpenClaim := { program := "ytfnopnaaahkklaa", sum := "44d08842bee2c3c7b82d980049bbbe78a89216dafd6954cd19d53b639aa0af8d", func := "loop.example/g01079/laws.FnExactRootNatural", spec := "fnExactRootNatural", unfollowed := true, recurses := true, apart := false }
def FnExactRootNaturalSaid : Prop := fnExactRootNaturalRow.holds Try.pinned (OpenSpec.ofChange fnExactRootNaturalSpec)

/-- ITS FALSE NEIGHBOUR: 'it returns false'. Refute it at one input. -/
def fnExactRootNaturalWrong : ChangeSpec := { name := "fnExactRootNatural", fn := fun _ => fun
  | [d] => { results := [.lit (.bool false)], args := [d] }
  | _ => none }
def FnExactRootNaturalWrongFalsely : Prop := fnExactRootNaturalRow.holds Try.pinned (OpenSpec.ofChange fnExactRootNaturalWrong)

/-- 'laws.FnExactUnpairOf': WHATEVER THE INPUT: true; the input reads as it did. -/
def fnExactUnpairOfSpec : ChangeSpec := { name := "fnExactUnpairOf", fn := fun _ => fun
  | [d] => { results := [.lit (.bool true)], args := [d] }
  | _ => none }
def fnExactUnpairOfRow : OpenClaim := { program := "ytfnopnaaahkklaa", sum := "44d08842bee2c3c7b82d980049bbbe78a89216dafd6954cd19d53b639aa0af8d", func := "loop.example/g01079/laws.FnExactUnpairOf", spec := "fnExactUnpairOf", unfollowed := true, recurses := true, apart := false }
def FnExactUnpairOfSaid : Prop := fnExactUnpairOfRow.holds Try.pinned (OpenSpec.ofChange fnExactUnpairOfSpec)

/-- ITS FALSE NEIGHBOUR: 'it returns false'. Refute it at one input. -/
def fnExactUnpairOfWrong : ChangeSpec := { name := "fnExactUnpairOf", fn := fun _ => fun
  | [d] => { results := [.lit (.bool false)], args := [d] }
  | _ => none }
def FnExactUnpairOfWrongFalsely : Prop := fnExactUnpairOfRow.holds Try.pinned (OpenSpec.ofChange fnExactUnpairOfWrong)

/-- 'laws.FnExactTupleOf': WHATEVER THE INPUT: true; the input reads as it did. -/
def fnExactTupleOfSpec : ChangeSpec := { name := "fnExactTupleOf", fn := fun _ => fun
  | [d1, d2] => { results := [.lit (.bool true)], args := [d1, d2] }
  | _ => none }
def fnExactTupleOfRow : OpenClaim := { program := "ytfnopnaaahkklaa", sum := "44d08842bee2c3c7b82d980049bbbe78a89216dafd6954cd19d53b639aa0af8d", func := "loop.example/g01079/laws.FnExactTupleOf", spec := "fnExactTupleOf", unfollowed := true, recurses := true, apart := false }
def FnExactTupleOfSaid : Prop := fnExactTupleOfRow.holds Try.pinned (OpenSpec.ofChange fnExactTupleOfSpec)

/-- ITS FALSE NEIGHBOUR: 'it returns false'. Refute it at one input. -/
def fnExactTupleOfWrong : ChangeSpec := { name := "fnExactTupleOf", fn := fun _ => fun
  | [d1, d2] => { results := [.lit (.bool false)], args := [d1, d2] }
  | _ => none }
def FnExactTupleOfWrongFalsely : Prop := fnExactTupleOfRow.holds Try.pinned (OpenSpec.ofChange fnExactTupleOfWrong)

/-- 'laws.FnExactSequenceOf': WHATEVER THE INPUT: true; the input reads as it did. -/
def fnExactSequenceOfSpec : ChangeSpec := { name := "fnExactSequenceOf", fn := fun _ => fun
  | [d] => { results := [.lit (.bool true)], args := [d] }
  | _ => none }
def fnExactSequenceOfRow : OpenClaim := { program := "ytfnopnaaahkklaa", sum := "44d08842bee2c3c7b82d980049bbbe78a89216dafd6954cd19d53b639aa0af8d", func := "loop.example/g01079/laws.FnExactSequenceOf", spec := "fnExactSequenceOf", unfollowed := true, recurses := true, apart := false }
def FnExactSequenceOfSaid : Prop := fnExactSequenceOfRow.holds Try.pinned (OpenSpec.ofChange fnExactSequenceOfSpec)

/-- ITS FALSE NEIGHBOUR: 'it returns false'. Refute it at one input. -/
def fnExactSequenceOfWrong : ChangeSpec := { name := "fnExactSequenceOf", fn := fun _ => fun
  | [d] => { results := [.lit (.bool false)], args := [d] }
  | _ => none }
def FnExactSequenceOfWrongFalsely : Prop := fnExactSequenceOfRow.holds Try.pinned (OpenSpec.ofChange fnExactSequenceOfWrong)

/-- 'laws.FnArithmetic': WHATEVER THE INPUT: true; the input reads as it did. -/
def fnArithmeticSpec : ChangeSpec := { name := "fnArithmetic", fn := fun _ => fun
  | [d] => { results := [.lit (.bool true)], args := [d] }
  | _ => none }
def fnArithmeticRow : OpenClaim := { program := "ytfnopnaaahkklaa", sum := "44d08842bee2c3c7b82d980049bbbe78a89216dafd6954cd19d53b639aa0af8d", func := "loop.example/g01079/laws.FnArithmetic", spec := "fnArithmetic", unfollowed := true, recurses := true, apart := false }
def FnArithmeticSaid : Prop := fnArithmeticRow.holds Try.pinned (OpenSpec.ofChange fnArithmeticSpec)

/-- ITS FALSE NEIGHBOUR: 'it returns false'. Refute it at one input. -/
def fnArithmeticWrong : ChangeSpec := { name := "fnArithmetic", fn := fun _ => fun
  | [d] => { results := [.lit (.bool false)], args := [d] }
  | _ => none }
def FnArithmeticWrongFalsely : Prop := fnArithmeticRow.holds Try.pinned (OpenSpec.ofChange fnArithmeticWrong)

/- THE SECOND FORM. 'bulk': how many values and letters a reading holds, each counted each time it is reached (what is shared counts as often as it is met; a slice's spare places count too). A statement '..UptoSaid' is the law's where the arguments, and the package variables that the reading takes, are together of bulk at most 1048576: NARROWER than '..Said'. Prove '..Said' where nothing that the law and all that it calls make is longer than what came in: it says more and counts as full. Else prove '..UptoSaid'. A law counts once. -/
mutual
def uptoBulk {H : Type} : DataW H → Nat
  | .lit (.string bytes) => bytes.length + 1
  | .lit _ => 1
  | .nil => 1
  | .ptr d => uptoBulk d + 1
  | .slice elems spare => uptoBulkAll elems + uptoBulkAll spare + 1
  | .agg parts => uptoBulkAll parts + 1
  | .iface _ d => uptoBulk d + 1
  | .map entries => uptoBulkEntries entries + 1
  | .held _ => 1
def uptoBulkAll {H : Type} : List (DataW H) → Nat
  | [] => 0
  | d :: r => uptoBulk d + uptoBulkAll r
def uptoBulkEntries {H : Type} : List (Lit × DataW H) → Nat
  | [] => 0
  | x :: r => uptoBulkEntry x + uptoBulkEntries r
def uptoBulkEntry {H : Type} : Lit × DataW H → Nat
  | (.string bytes, d) => bytes.length + uptoBulk d + 1
  | (_, d) => uptoBulk d + 1
 end
def uptoSmall : (H : Type) → List (DataW H) → Bool := fun _ ds => decide (uptoBulkAll ds ≤ 1048576)
def OpenSpec.upto (s : _root_.Go.ChangeSpec) : _root_.Go.OpenSpec := { _root_.Go.OpenSpec.ofChange s with cond := some uptoSmall }

/-- 'laws.FnExactDivideNaturals', WHERE WHAT IT READS IS OF BULK AT MOST 1048576: true; the input reads as it did. -/
def fnExactDivideNaturalsUptoRow : OpenClaim := { program := "ytfnopnaaahkklaa", sum := "44d08842bee2c3c7b82d980049bbbe78a89216dafd6954cd19d53b639aa0af8d", func := "loop.example/g01079/laws.FnExactDivideNaturals", spec := "fnExactDivideNaturals", unfollowed := true, recurses := true, apart := false, narrowed := true }
def FnExactDivideNaturalsUptoSaid : Prop := fnExactDivideNaturalsUptoRow.holds Try.pinned (OpenSpec.upto fnExactDivideNaturalsSpec)

/-- 'laws.FnExactGcdNaturals', WHERE WHAT IT READS IS OF BULK AT MOST 1048576: true; the input reads as it did. -/
def fnExactGcdNaturalsUptoRow : OpenClaim := { program := "ytfnopnaaahkklaa", sum := "44d08842bee2c3c7b82d980049bbbe78a89216dafd6954cd19d53b639aa0af8d", func := "loop.example/g01079/laws.FnExactGcdNaturals", spec := "fnExactGcdNaturals", unfollowed := true, recurses := true, apart := false, narrowed := true }
def FnExactGcdNaturalsUptoSaid : Prop := fnExactGcdNaturalsUptoRow.holds Try.pinned (OpenSpec.upto fnExactGcdNaturalsSpec)

/-- 'laws.FnExactRootNatural', WHERE WHAT IT READS IS OF BULK AT MOST 1048576: true; the input reads as it did. -/
def fnExactRootNaturalUptoRow : OpenClaim := { program := "ytfnopnaaahkklaa", sum := "44d08842bee2c3c7b82d980049bbbe78a89216dafd6954cd19d53b639aa0af8d", func := "loop.example/g01079/laws.FnExactRootNatural", spec := "fnExactRootNatural", unfollowed := true, recurses := true, apart := false, narrowed := true }
def FnExactRootNaturalUptoSaid : Prop := fnExactRootNaturalUptoRow.holds Try.pinned (OpenSpec.upto fnExactRootNaturalSpec)

/-- 'laws.FnExactUnpairOf', WHERE WHAT IT READS IS OF BULK AT MOST 1048576: true; the input reads as it did. -/
def fnExactUnpairOfUptoRow : OpenClaim := { program := "ytfnopnaaahkklaa", sum := "44d08842bee2c3c7b82d980049bbbe78a89216dafd6954cd19d53b639aa0af8d", func := "loop.example/g01079/laws.FnExactUnpairOf", spec := "fnExactUnpairOf", unfollowed := true, recurses := true, apart := false, narrowed := true }
def FnExactUnpairOfUptoSaid : Prop := fnExactUnpairOfUptoRow.holds Try.pinned (OpenSpec.upto fnExactUnpairOfSpec)

/-- 'laws.FnExactTupleOf', WHERE WHAT IT READS IS OF BULK AT MOST 1048576: true; the input reads as it did. -/
def fnExactTupleOfUptoRow : OpenClaim := { program := "ytfnopnaaahkklaa", sum := "44d08842bee2c3c7b82d980049bbbe78a89216dafd6954cd19d53b639aa0af8d", func := "loop.example/g01079/laws.FnExactTupleOf", spec := "fnExactTupleOf", unfollowed := true, recurses := true, apart := false, narrowed := true }
def FnExactTupleOfUptoSaid : Prop := fnExactTupleOfUptoRow.holds Try.pinned (OpenSpec.upto fnExactTupleOfSpec)

/-- 'laws.FnExactSequenceOf', WHERE WHAT IT READS IS OF BULK AT MOST 1048576: true; the input reads as it did. -/
def fnExactSequenceOfUptoRow : OpenClaim := { program := "ytfnopnaaahkklaa", sum := "44d08842bee2c3c7b82d980049bbbe78a89216dafd6954cd19d53b639aa0af8d", func := "loop.example/g01079/laws.FnExactSequenceOf", spec := "fnExactSequenceOf", unfollowed := true, recurses := true, apart := false, narrowed := true }
def FnExactSequenceOfUptoSaid : Prop := fnExactSequenceOfUptoRow.holds Try.pinned (OpenSpec.upto fnExactSequenceOfSpec)

/-- 'laws.FnArithmetic', WHERE WHAT IT READS IS OF BULK AT MOST 1048576: true; the input reads as it did. -/
def fnArithmeticUptoRow : OpenClaim := { program := "ytfnopnaaahkklaa", sum := "44d08842bee2c3c7b82d980049bbbe78a89216dafd6954cd19d53b639aa0af8d", func := "loop.example/g01079/laws.FnArithmetic", spec := "fnArithmetic", unfollowed := true, recurses := true, apart := false, narrowed := true }
def FnArithmeticUptoSaid : Prop := fnArithmeticUptoRow.holds Try.pinned (OpenSpec.upto fnArithmeticSpec)

end Rows
end Go.Proofs.Ytfnopnaaahkklaa
