/-
  No cell of these rows narrows 'for every input' (looked for: loops, veiled, ifaces, maps, wideKeys, modest, calm, conditions, laid).
  DERIVED. THE GIVEN ROWS OF THIS SEAT. 10 by the template 'for every input the law returns true; each argument reads behind the call as it read before'; 0 by the template 'total and deterministic' (their statements: YtmbppdebpjgjnaaTotals.lean).
  GIVEN WITH THE SEED: the statements are not yours to turn. If you find one false, say at which input.
  Laid BY PROGRAM, IN A SANDBOX (cutbox-rows.mjs): the forced cells as the released guide's own fill.sh prints them over the translation c940f04eceb80bb4… (all of the seat's roots in one cut). By AI agents, Wed Nov 11 2026. No macro, syntax, notation, axiom, sorry.
-/
import Derived.Test.YtmbppdebpjgjnaaChecked
import GoSem.Claim
import GoSem.ClaimJoined
import GoSem.ClaimMapViews
import Derived.JoinedTies
import Derived.KernelRfl
namespace Go.Proofs.Ytmbppdebpjgjnaa
/- THE CELL 'sum', in the pinned program and in every row, IS THE sha256 OF THE DUMP (.gsa) THAT YtmbppdebpjgjnaaProg.lean LOADS. Nothing in Lean hashes anything: it is a label: what it is worth is what the hold of that sum in a sandbox is worth. -/
noncomputable def Try.pinned : Pinned := { name := "ytmbppdebpjgjnaa", sum := "c940f04eceb80bb481399ec20731932042e9537b9fc9368250ca956939614bcf", checked := Try.checked }
namespace Rows
def none {H : Type} : Left H := { results := [], args := [] }

/-- 'laws.FnExactMultiplyNaturals': WHATEVER THE INPUT: true; the input reads as it did. -/
def fnExactMultiplyNaturalsSpec : ChangeSpec := { name := "fnExactMultiplyNaturals", fn := fun _ => fun
  | [d1, d2] => { results := [.lit (.bool true)], args := [d1, d2] }
  | _ => none }
def fnExactMultiplyNaturalsRow : OpenClaim := { program := "ytmbppdebpjgjnaa", sum := "c940f04eceb80bb481399ec20731932042e9537b9fc9368250ca956939614bcf", func := "loop.example/g01079/laws.FnExactMultiplyNaturals", spec := "fnExactMultiplyNaturals", unfollowed := true, recurses := true, apart := false }
def FnExactMultiplyNaturalsSaid : Prop := fnExactMultiplyNaturalsRow.holds Try.pinned (OpenSpec.ofChange fnExactMultiplyNaturalsSpec)

/-- ITS FALSE NEIGHBOUR: 'it returns false'. Refute it at one input. -/
def fnExactMultiplyNaturalsWrong : ChangeSpec := { name := "fnExactMultiplyNaturals", fn := fun _ => fun
  | [d1, d2] => { results := [.lit (.bool false)], args := [d1, d2] }
  | _ => none }
def FnExactMultiplyNaturalsWrongFalsely : Prop := fnExactMultiplyNaturalsRow.holds Try.pinned (OpenSpec.ofChange fnExactMultiplyNaturalsWrong)

/-- 'laws.FnExactSubtractNaturals': WHATEVER THE INPUT: true; the input reads as it did. -/
def fnExactSubtractNaturalsSpec : ChangeSpec := { name := "fnExactSubtractNaturals", fn := fun _ => fun
  | [d1, d2] => { results := [.lit (.bool true)], args := [d1, d2] }
  | _ => none }
def fnExactSubtractNaturalsRow : OpenClaim := { program := "ytmbppdebpjgjnaa", sum := "c940f04eceb80bb481399ec20731932042e9537b9fc9368250ca956939614bcf", func := "loop.example/g01079/laws.FnExactSubtractNaturals", spec := "fnExactSubtractNaturals", unfollowed := true, recurses := true, apart := false }
def FnExactSubtractNaturalsSaid : Prop := fnExactSubtractNaturalsRow.holds Try.pinned (OpenSpec.ofChange fnExactSubtractNaturalsSpec)

/-- ITS FALSE NEIGHBOUR: 'it returns false'. Refute it at one input. -/
def fnExactSubtractNaturalsWrong : ChangeSpec := { name := "fnExactSubtractNaturals", fn := fun _ => fun
  | [d1, d2] => { results := [.lit (.bool false)], args := [d1, d2] }
  | _ => none }
def FnExactSubtractNaturalsWrongFalsely : Prop := fnExactSubtractNaturalsRow.holds Try.pinned (OpenSpec.ofChange fnExactSubtractNaturalsWrong)

/-- 'laws.FnExactAddNaturals': WHATEVER THE INPUT: true; the input reads as it did. -/
def fnExactAddNaturalsSpec : ChangeSpec := { name := "fnExactAddNaturals", fn := fun _ => fun
  | [d1, d2] => { results := [.lit (.bool true)], args := [d1, d2] }
  | _ => none }
def fnExactAddNaturalsRow : OpenClaim := { program := "ytmbppdebpjgjnaa", sum := "c940f04eceb80bb481399ec20731932042e9537b9fc9368250ca956939614bcf", func := "loop.example/g01079/laws.FnExactAddNaturals", spec := "fnExactAddNaturals", unfollowed := true, recurses := true, apart := false }
def FnExactAddNaturalsSaid : Prop := fnExactAddNaturalsRow.holds Try.pinned (OpenSpec.ofChange fnExactAddNaturalsSpec)

/-- ITS FALSE NEIGHBOUR: 'it returns false'. Refute it at one input. -/
def fnExactAddNaturalsWrong : ChangeSpec := { name := "fnExactAddNaturals", fn := fun _ => fun
  | [d1, d2] => { results := [.lit (.bool false)], args := [d1, d2] }
  | _ => none }
def FnExactAddNaturalsWrongFalsely : Prop := fnExactAddNaturalsRow.holds Try.pinned (OpenSpec.ofChange fnExactAddNaturalsWrong)

/-- 'laws.FnExactCompareNaturals': WHATEVER THE INPUT: true; the input reads as it did. -/
def fnExactCompareNaturalsSpec : ChangeSpec := { name := "fnExactCompareNaturals", fn := fun _ => fun
  | [d1, d2] => { results := [.lit (.bool true)], args := [d1, d2] }
  | _ => none }
def fnExactCompareNaturalsRow : OpenClaim := { program := "ytmbppdebpjgjnaa", sum := "c940f04eceb80bb481399ec20731932042e9537b9fc9368250ca956939614bcf", func := "loop.example/g01079/laws.FnExactCompareNaturals", spec := "fnExactCompareNaturals", unfollowed := true, recurses := true, apart := false }
def FnExactCompareNaturalsSaid : Prop := fnExactCompareNaturalsRow.holds Try.pinned (OpenSpec.ofChange fnExactCompareNaturalsSpec)

/-- ITS FALSE NEIGHBOUR: 'it returns false'. Refute it at one input. -/
def fnExactCompareNaturalsWrong : ChangeSpec := { name := "fnExactCompareNaturals", fn := fun _ => fun
  | [d1, d2] => { results := [.lit (.bool false)], args := [d1, d2] }
  | _ => none }
def FnExactCompareNaturalsWrongFalsely : Prop := fnExactCompareNaturalsRow.holds Try.pinned (OpenSpec.ofChange fnExactCompareNaturalsWrong)

/-- 'laws.FnExactPairOf': WHATEVER THE INPUT: true; the input reads as it did. -/
def fnExactPairOfSpec : ChangeSpec := { name := "fnExactPairOf", fn := fun _ => fun
  | [d1, d2] => { results := [.lit (.bool true)], args := [d1, d2] }
  | _ => none }
def fnExactPairOfRow : OpenClaim := { program := "ytmbppdebpjgjnaa", sum := "c940f04eceb80bb481399ec20731932042e9537b9fc9368250ca956939614bcf", func := "loop.example/g01079/laws.FnExactPairOf", spec := "fnExactPairOf", unfollowed := true, recurses := true, apart := false }
def FnExactPairOfSaid : Prop := fnExactPairOfRow.holds Try.pinned (OpenSpec.ofChange fnExactPairOfSpec)

/-- ITS FALSE NEIGHBOUR: 'it returns false'. Refute it at one input. -/
def fnExactPairOfWrong : ChangeSpec := { name := "fnExactPairOf", fn := fun _ => fun
  | [d1, d2] => { results := [.lit (.bool false)], args := [d1, d2] }
  | _ => none }
def FnExactPairOfWrongFalsely : Prop := fnExactPairOfRow.holds Try.pinned (OpenSpec.ofChange fnExactPairOfWrong)

/-- 'laws.FnExactWeaveNaturals': WHATEVER THE INPUT: true; the input reads as it did. -/
def fnExactWeaveNaturalsSpec : ChangeSpec := { name := "fnExactWeaveNaturals", fn := fun _ => fun
  | [d1, d2] => { results := [.lit (.bool true)], args := [d1, d2] }
  | _ => none }
def fnExactWeaveNaturalsRow : OpenClaim := { program := "ytmbppdebpjgjnaa", sum := "c940f04eceb80bb481399ec20731932042e9537b9fc9368250ca956939614bcf", func := "loop.example/g01079/laws.FnExactWeaveNaturals", spec := "fnExactWeaveNaturals", unfollowed := true, recurses := true, apart := false }
def FnExactWeaveNaturalsSaid : Prop := fnExactWeaveNaturalsRow.holds Try.pinned (OpenSpec.ofChange fnExactWeaveNaturalsSpec)

/-- ITS FALSE NEIGHBOUR: 'it returns false'. Refute it at one input. -/
def fnExactWeaveNaturalsWrong : ChangeSpec := { name := "fnExactWeaveNaturals", fn := fun _ => fun
  | [d1, d2] => { results := [.lit (.bool false)], args := [d1, d2] }
  | _ => none }
def FnExactWeaveNaturalsWrongFalsely : Prop := fnExactWeaveNaturalsRow.holds Try.pinned (OpenSpec.ofChange fnExactWeaveNaturalsWrong)

/-- 'laws.FnExactSetNumber': WHATEVER THE INPUT: true; the input reads as it did. -/
def fnExactSetNumberSpec : ChangeSpec := { name := "fnExactSetNumber", fn := fun _ => fun
  | [d] => { results := [.lit (.bool true)], args := [d] }
  | _ => none }
def fnExactSetNumberRow : OpenClaim := { program := "ytmbppdebpjgjnaa", sum := "c940f04eceb80bb481399ec20731932042e9537b9fc9368250ca956939614bcf", func := "loop.example/g01079/laws.FnExactSetNumber", spec := "fnExactSetNumber", unfollowed := true, recurses := true, apart := false }
def FnExactSetNumberSaid : Prop := fnExactSetNumberRow.holds Try.pinned (OpenSpec.ofChange fnExactSetNumberSpec)

/-- ITS FALSE NEIGHBOUR: 'it returns false'. Refute it at one input. -/
def fnExactSetNumberWrong : ChangeSpec := { name := "fnExactSetNumber", fn := fun _ => fun
  | [d] => { results := [.lit (.bool false)], args := [d] }
  | _ => none }
def FnExactSetNumberWrongFalsely : Prop := fnExactSetNumberRow.holds Try.pinned (OpenSpec.ofChange fnExactSetNumberWrong)

/-- 'laws.FnExactOccurrencesOf': WHATEVER THE INPUT: true; the input reads as it did. -/
def fnExactOccurrencesOfSpec : ChangeSpec := { name := "fnExactOccurrencesOf", fn := fun _ => fun
  | [d1, d2] => { results := [.lit (.bool true)], args := [d1, d2] }
  | _ => none }
def fnExactOccurrencesOfRow : OpenClaim := { program := "ytmbppdebpjgjnaa", sum := "c940f04eceb80bb481399ec20731932042e9537b9fc9368250ca956939614bcf", func := "loop.example/g01079/laws.FnExactOccurrencesOf", spec := "fnExactOccurrencesOf", unfollowed := true, recurses := true, apart := false }
def FnExactOccurrencesOfSaid : Prop := fnExactOccurrencesOfRow.holds Try.pinned (OpenSpec.ofChange fnExactOccurrencesOfSpec)

/-- ITS FALSE NEIGHBOUR: 'it returns false'. Refute it at one input. -/
def fnExactOccurrencesOfWrong : ChangeSpec := { name := "fnExactOccurrencesOf", fn := fun _ => fun
  | [d1, d2] => { results := [.lit (.bool false)], args := [d1, d2] }
  | _ => none }
def FnExactOccurrencesOfWrongFalsely : Prop := fnExactOccurrencesOfRow.holds Try.pinned (OpenSpec.ofChange fnExactOccurrencesOfWrong)

/-- 'laws.FnExactReplaceAt': WHATEVER THE INPUT: true; the input reads as it did. -/
def fnExactReplaceAtSpec : ChangeSpec := { name := "fnExactReplaceAt", fn := fun _ => fun
  | [d1, d2, d3, d4] => { results := [.lit (.bool true)], args := [d1, d2, d3, d4] }
  | _ => none }
def fnExactReplaceAtRow : OpenClaim := { program := "ytmbppdebpjgjnaa", sum := "c940f04eceb80bb481399ec20731932042e9537b9fc9368250ca956939614bcf", func := "loop.example/g01079/laws.FnExactReplaceAt", spec := "fnExactReplaceAt", unfollowed := true, recurses := true, apart := false }
def FnExactReplaceAtSaid : Prop := fnExactReplaceAtRow.holds Try.pinned (OpenSpec.ofChange fnExactReplaceAtSpec)

/-- ITS FALSE NEIGHBOUR: 'it returns false'. Refute it at one input. -/
def fnExactReplaceAtWrong : ChangeSpec := { name := "fnExactReplaceAt", fn := fun _ => fun
  | [d1, d2, d3, d4] => { results := [.lit (.bool false)], args := [d1, d2, d3, d4] }
  | _ => none }
def FnExactReplaceAtWrongFalsely : Prop := fnExactReplaceAtRow.holds Try.pinned (OpenSpec.ofChange fnExactReplaceAtWrong)

/-- 'laws.FnExactReplaceFirst': WHATEVER THE INPUT: true; the input reads as it did. -/
def fnExactReplaceFirstSpec : ChangeSpec := { name := "fnExactReplaceFirst", fn := fun _ => fun
  | [d1, d2, d3] => { results := [.lit (.bool true)], args := [d1, d2, d3] }
  | _ => none }
def fnExactReplaceFirstRow : OpenClaim := { program := "ytmbppdebpjgjnaa", sum := "c940f04eceb80bb481399ec20731932042e9537b9fc9368250ca956939614bcf", func := "loop.example/g01079/laws.FnExactReplaceFirst", spec := "fnExactReplaceFirst", unfollowed := true, recurses := true, apart := false }
def FnExactReplaceFirstSaid : Prop := fnExactReplaceFirstRow.holds Try.pinned (OpenSpec.ofChange fnExactReplaceFirstSpec)

/-- ITS FALSE NEIGHBOUR: 'it returns false'. Refute it at one input. -/
def fnExactReplaceFirstWrong : ChangeSpec := { name := "fnExactReplaceFirst", fn := fun _ => fun
  | [d1, d2, d3] => { results := [.lit (.bool false)], args := [d1, d2, d3] }
  | _ => none }
def FnExactReplaceFirstWrongFalsely : Prop := fnExactReplaceFirstRow.holds Try.pinned (OpenSpec.ofChange fnExactReplaceFirstWrong)

/- THE SECOND FORM. 'bulk': how many values and letters a reading holds, each counted each time it is reached (what is shared counts as often as it is met; a slice's spare places count too). A statement '..UptoSaid' is the law's where the arguments, and the package variables that the reading takes, are together of bulk at most 1048576: NARROWER than '..Said'. Prove '..Said' where nothing that the law and all that it calls make is longer than what came in: it says more and counts as full. Else prove '..UptoSaid'. A law counts once. -/
mutual
def uptoBulk {H : Type} : DataW H → Nat
  | .lit (.string bytes) => bytes.length + 1
  | .lit _ => 1
  | .nil => 1
  | .ptr d => uptoBulk d + 1
  | .slice elems spare => uptoBulkAll elems + uptoBulkAll spare + 1
  | .agg parts => uptoBulkAll parts + 1
  | .iface _ d => uptoBulk d + 1
  | .map entries => uptoBulkEntries entries + 1
  | .held _ => 1
def uptoBulkAll {H : Type} : List (DataW H) → Nat
  | [] => 0
  | d :: r => uptoBulk d + uptoBulkAll r
def uptoBulkEntries {H : Type} : List (Lit × DataW H) → Nat
  | [] => 0
  | x :: r => uptoBulkEntry x + uptoBulkEntries r
def uptoBulkEntry {H : Type} : Lit × DataW H → Nat
  | (.string bytes, d) => bytes.length + uptoBulk d + 1
  | (_, d) => uptoBulk d + 1
 end
def uptoSmall : (H : Type) → List (DataW H) → Bool := fun _ ds => decide (uptoBulkAll ds ≤ 1048576)
def OpenSpec.upto (s : _root_.Go.ChangeSpec) : _root_.Go.OpenSpec := { _root_.Go.OpenSpec.ofChange s with cond := some uptoSmall }

/-- 'laws.FnExactMultiplyNaturals', WHERE WHAT IT READS IS OF BULK AT MOST 1048576: true; the input reads as it did. -/
def fnExactMultiplyNaturalsUptoRow : OpenClaim := { program := "ytmbppdebpjgjnaa", sum := "c940f04eceb80bb481399ec20731932042e9537b9fc9368250ca956939614bcf", func := "loop.example/g01079/laws.FnExactMultiplyNaturals", spec := "fnExactMultiplyNaturals", unfollowed := true, recurses := true, apart := false, narrowed := true }
def FnExactMultiplyNaturalsUptoSaid : Prop := fnExactMultiplyNaturalsUptoRow.holds Try.pinned (OpenSpec.upto fnExactMultiplyNaturalsSpec)

/-- 'laws.FnExactSubtractNaturals', WHERE WHAT IT READS IS OF BULK AT MOST 1048576: true; the input reads as it did. -/
def fnExactSubtractNaturalsUptoRow : OpenClaim := { program := "ytmbppdebpjgjnaa", sum := "c940f04eceb80bb481399ec20731932042e9537b9fc9368250ca956939614bcf", func := "loop.example/g01079/laws.FnExactSubtractNaturals", spec := "fnExactSubtractNaturals", unfollowed := true, recurses := true, apart := false, narrowed := true }
def FnExactSubtractNaturalsUptoSaid : Prop := fnExactSubtractNaturalsUptoRow.holds Try.pinned (OpenSpec.upto fnExactSubtractNaturalsSpec)

/-- 'laws.FnExactAddNaturals', WHERE WHAT IT READS IS OF BULK AT MOST 1048576: true; the input reads as it did. -/
def fnExactAddNaturalsUptoRow : OpenClaim := { program := "ytmbppdebpjgjnaa", sum := "c940f04eceb80bb481399ec20731932042e9537b9fc9368250ca956939614bcf", func := "loop.example/g01079/laws.FnExactAddNaturals", spec := "fnExactAddNaturals", unfollowed := true, recurses := true, apart := false, narrowed := true }
def FnExactAddNaturalsUptoSaid : Prop := fnExactAddNaturalsUptoRow.holds Try.pinned (OpenSpec.upto fnExactAddNaturalsSpec)

/-- 'laws.FnExactCompareNaturals', WHERE WHAT IT READS IS OF BULK AT MOST 1048576: true; the input reads as it did. -/
def fnExactCompareNaturalsUptoRow : OpenClaim := { program := "ytmbppdebpjgjnaa", sum := "c940f04eceb80bb481399ec20731932042e9537b9fc9368250ca956939614bcf", func := "loop.example/g01079/laws.FnExactCompareNaturals", spec := "fnExactCompareNaturals", unfollowed := true, recurses := true, apart := false, narrowed := true }
def FnExactCompareNaturalsUptoSaid : Prop := fnExactCompareNaturalsUptoRow.holds Try.pinned (OpenSpec.upto fnExactCompareNaturalsSpec)

/-- 'laws.FnExactPairOf', WHERE WHAT IT READS IS OF BULK AT MOST 1048576: true; the input reads as it did. -/
def fnExactPairOfUptoRow : OpenClaim := { program := "ytmbppdebpjgjnaa", sum := "c940f04eceb80bb481399ec20731932042e9537b9fc9368250ca956939614bcf", func := "loop.example/g01079/laws.FnExactPairOf", spec := "fnExactPairOf", unfollowed := true, recurses := true, apart := false, narrowed := true }
def FnExactPairOfUptoSaid : Prop := fnExactPairOfUptoRow.holds Try.pinned (OpenSpec.upto fnExactPairOfSpec)

/-- 'laws.FnExactWeaveNaturals', WHERE WHAT IT READS IS OF BULK AT MOST 1048576: true; the input reads as it did. -/
def fnExactWeaveNaturalsUptoRow : OpenClaim := { program := "ytmbppdebpjgjnaa", sum := "c940f04eceb80bb481399ec20731932042e9537b9fc9368250ca956939614bcf", func := "loop.example/g01079/laws.FnExactWeaveNaturals", spec := "fnExactWeaveNaturals", unfollowed := true, recurses := true, apart := false, narrowed := true }
def FnExactWeaveNaturalsUptoSaid : Prop := fnExactWeaveNaturalsUptoRow.holds Try.pinned (OpenSpec.upto fnExactWeaveNaturalsSpec)

/-- 'laws.FnExactSetNumber', WHERE WHAT IT READS IS OF BULK AT MOST 1048576: true; the input reads as it did. -/
def fnExactSetNumberUptoRow : OpenClaim := { program := "ytmbppdebpjgjnaa", sum := "c940f04eceb80bb481399ec20731932042e9537b9fc9368250ca956939614bcf", func := "loop.example/g01079/laws.FnExactSetNumber", spec := "fnExactSetNumber", unfollowed := true, recurses := true, apart := false, narrowed := true }
def FnExactSetNumberUptoSaid : Prop := fnExactSetNumberUptoRow.holds Try.pinned (OpenSpec.upto fnExactSetNumberSpec)

/-- 'laws.FnExactOccurrencesOf', WHERE WHAT IT READS IS OF BULK AT MOST 1048576: true; the input reads as it did. -/
def fnExactOccurrencesOfUptoRow : OpenClaim := { program := "ytmbppdebpjgjnaa", sum := "c940f04eceb80bb481399ec20731932042e9537b9fc9368250ca956939614bcf", func := "loop.example/g01079/laws.FnExactOccurrencesOf", spec := "fnExactOccurrencesOf", unfollowed := true, recurses := true, apart := false, narrowed := true }
def FnExactOccurrencesOfUptoSaid : Prop := fnExactOccurrencesOfUptoRow.holds Try.pinned (OpenSpec.upto fnExactOccurrencesOfSpec)

/-- 'laws.FnExactReplaceAt', WHERE WHAT IT READS IS OF BULK AT MOST 1048576: true; the input reads as it did. -/
def fnExactReplaceAtUptoRow : OpenClaim := { program := "ytmbppdebpjgjnaa", sum := "c940f04eceb80bb481399ec20731932042e9537b9fc9368250ca956939614bcf", func := "loop.example/g01079/laws.FnExactReplaceAt", spec := "fnExactReplaceAt", unfollowed := true, recurses := true, apart := false, narrowed := true }
def FnExactReplaceAtUptoSaid : Prop := fnExactReplaceAtUptoRow.holds Try.pinned (OpenSpec.upto fnExactReplaceAtSpec)

/-- 'laws.FnExactReplaceFirst', WHERE WHAT IT READS IS OF BULK AT MOST 1048576: true; the input reads as it did. -/
def fnExactReplaceFirstUptoRow : OpenClaim := { program := "ytmbppdebpjgjnaa", sum := "c940f04eceb80bb481399ec20731932042e9537b9fc9368250ca956939614bcf", func := "loop.example/g01079/laws.FnExactReplaceFirst", spec := "fnExactReplaceFirst", unfollowed := true, recurses := true, apart := false, narrowed := true }
def FnExactReplaceFirstUptoSaid : Prop := fnExactReplaceFirstUptoRow.holds Try.pinned (OpenSpec.upto fnExactReplaceFirstSpec)

end Rows
end Go.Proofs.Ytmbppdebpjgjnaa
