/-
  No cell of these rows narrows 'for every input' (looked for: loops, veiled, ifaces, maps, wideKeys, modest, calm, conditions, laid).
  DERIVED. THE GIVEN ROWS OF THIS SEAT. 12 by the template 'for every input the law returns true; each argument reads behind the call as it read before'; 0 by the template 'total and deterministic' (their statements: YtknlpoeolicinacTotals.lean).
  GIVEN WITH THE SEED: the statements are not yours to turn. If you find one false, say at which input.
  Laid BY PROGRAM, IN A SANDBOX (cutbox-rows.mjs): the forced cells as the released guide's own fill.sh prints them over the translation 65658b8dadfbb36c… (all of the seat's roots in one cut). By AI agents, Wed Nov 11 2026. No macro, syntax, notation, axiom, sorry.
-/
import Derived.Test.YtknlpoeolicinacChecked
import GoSem.Claim
import GoSem.ClaimJoined
import GoSem.ClaimMapViews
import Derived.JoinedTies
import Derived.KernelRfl
namespace Go.Proofs.Ytknlpoeolicinac
/- THE CELL 'sum', in the pinned program and in every row, IS THE sha256 OF THE DUMP (.gsa) THAT YtknlpoeolicinacProg.lean LOADS. Nothing in Lean hashes anything: it is a label: what it is worth is what the hold of that sum in a sandbox is worth. -/
noncomputable def Try.pinned : Pinned := { name := "ytknlpoeolicinac", sum := "65658b8dadfbb36c438fea2e02ce94ecc4e2e3bab3dc8515b7b6d8b893b7e6da", checked := Try.checked }
namespace Rows
def none {H : Type} : Left H := { results := [], args := [] }

/-- 'laws.FnExactIsNatural': WHATEVER THE INPUT: true; the input reads as it did. -/
def fnExactIsNaturalSpec : ChangeSpec := { name := "fnExactIsNatural", fn := fun _ => fun
  | [d] => { results := [.lit (.bool true)], args := [d] }
  | _ => none }
def fnExactIsNaturalRow : OpenClaim := { program := "ytknlpoeolicinac", sum := "65658b8dadfbb36c438fea2e02ce94ecc4e2e3bab3dc8515b7b6d8b893b7e6da", func := "loop.example/g01079/laws.FnExactIsNatural", spec := "fnExactIsNatural", unfollowed := true, recurses := true, apart := false }
def FnExactIsNaturalSaid : Prop := fnExactIsNaturalRow.holds Try.pinned (OpenSpec.ofChange fnExactIsNaturalSpec)

/-- ITS FALSE NEIGHBOUR: 'it returns false'. Refute it at one input. -/
def fnExactIsNaturalWrong : ChangeSpec := { name := "fnExactIsNatural", fn := fun _ => fun
  | [d] => { results := [.lit (.bool false)], args := [d] }
  | _ => none }
def FnExactIsNaturalWrongFalsely : Prop := fnExactIsNaturalRow.holds Try.pinned (OpenSpec.ofChange fnExactIsNaturalWrong)

/-- 'laws.FnExactSmallOf': WHATEVER THE INPUT: true; the input reads as it did. -/
def fnExactSmallOfSpec : ChangeSpec := { name := "fnExactSmallOf", fn := fun _ => fun
  | [d] => { results := [.lit (.bool true)], args := [d] }
  | _ => none }
def fnExactSmallOfRow : OpenClaim := { program := "ytknlpoeolicinac", sum := "65658b8dadfbb36c438fea2e02ce94ecc4e2e3bab3dc8515b7b6d8b893b7e6da", func := "loop.example/g01079/laws.FnExactSmallOf", spec := "fnExactSmallOf", unfollowed := true, recurses := true, apart := false }
def FnExactSmallOfSaid : Prop := fnExactSmallOfRow.holds Try.pinned (OpenSpec.ofChange fnExactSmallOfSpec)

/-- ITS FALSE NEIGHBOUR: 'it returns false'. Refute it at one input. -/
def fnExactSmallOfWrong : ChangeSpec := { name := "fnExactSmallOf", fn := fun _ => fun
  | [d] => { results := [.lit (.bool false)], args := [d] }
  | _ => none }
def FnExactSmallOfWrongFalsely : Prop := fnExactSmallOfRow.holds Try.pinned (OpenSpec.ofChange fnExactSmallOfWrong)

/-- 'laws.FnExactCompareNaturals': WHATEVER THE INPUT: true; the input reads as it did. -/
def fnExactCompareNaturalsSpec : ChangeSpec := { name := "fnExactCompareNaturals", fn := fun _ => fun
  | [d1, d2] => { results := [.lit (.bool true)], args := [d1, d2] }
  | _ => none }
def fnExactCompareNaturalsRow : OpenClaim := { program := "ytknlpoeolicinac", sum := "65658b8dadfbb36c438fea2e02ce94ecc4e2e3bab3dc8515b7b6d8b893b7e6da", func := "loop.example/g01079/laws.FnExactCompareNaturals", spec := "fnExactCompareNaturals", unfollowed := true, recurses := true, apart := false }
def FnExactCompareNaturalsSaid : Prop := fnExactCompareNaturalsRow.holds Try.pinned (OpenSpec.ofChange fnExactCompareNaturalsSpec)

/-- ITS FALSE NEIGHBOUR: 'it returns false'. Refute it at one input. -/
def fnExactCompareNaturalsWrong : ChangeSpec := { name := "fnExactCompareNaturals", fn := fun _ => fun
  | [d1, d2] => { results := [.lit (.bool false)], args := [d1, d2] }
  | _ => none }
def FnExactCompareNaturalsWrongFalsely : Prop := fnExactCompareNaturalsRow.holds Try.pinned (OpenSpec.ofChange fnExactCompareNaturalsWrong)

/-- 'laws.FnExactAddNaturals': WHATEVER THE INPUT: true; the input reads as it did. -/
def fnExactAddNaturalsSpec : ChangeSpec := { name := "fnExactAddNaturals", fn := fun _ => fun
  | [d1, d2] => { results := [.lit (.bool true)], args := [d1, d2] }
  | _ => none }
def fnExactAddNaturalsRow : OpenClaim := { program := "ytknlpoeolicinac", sum := "65658b8dadfbb36c438fea2e02ce94ecc4e2e3bab3dc8515b7b6d8b893b7e6da", func := "loop.example/g01079/laws.FnExactAddNaturals", spec := "fnExactAddNaturals", unfollowed := true, recurses := true, apart := false }
def FnExactAddNaturalsSaid : Prop := fnExactAddNaturalsRow.holds Try.pinned (OpenSpec.ofChange fnExactAddNaturalsSpec)

/-- ITS FALSE NEIGHBOUR: 'it returns false'. Refute it at one input. -/
def fnExactAddNaturalsWrong : ChangeSpec := { name := "fnExactAddNaturals", fn := fun _ => fun
  | [d1, d2] => { results := [.lit (.bool false)], args := [d1, d2] }
  | _ => none }
def FnExactAddNaturalsWrongFalsely : Prop := fnExactAddNaturalsRow.holds Try.pinned (OpenSpec.ofChange fnExactAddNaturalsWrong)

/-- 'laws.FnExactMultiplyNaturals': WHATEVER THE INPUT: true; the input reads as it did. -/
def fnExactMultiplyNaturalsSpec : ChangeSpec := { name := "fnExactMultiplyNaturals", fn := fun _ => fun
  | [d1, d2] => { results := [.lit (.bool true)], args := [d1, d2] }
  | _ => none }
def fnExactMultiplyNaturalsRow : OpenClaim := { program := "ytknlpoeolicinac", sum := "65658b8dadfbb36c438fea2e02ce94ecc4e2e3bab3dc8515b7b6d8b893b7e6da", func := "loop.example/g01079/laws.FnExactMultiplyNaturals", spec := "fnExactMultiplyNaturals", unfollowed := true, recurses := true, apart := false }
def FnExactMultiplyNaturalsSaid : Prop := fnExactMultiplyNaturalsRow.holds Try.pinned (OpenSpec.ofChange fnExactMultiplyNaturalsSpec)

/-- ITS FALSE NEIGHBOUR: 'it returns false'. Refute it at one input. -/
def fnExactMultiplyNaturalsWrong : ChangeSpec := { name := "fnExactMultiplyNaturals", fn := fun _ => fun
  | [d1, d2] => { results := [.lit (.bool false)], args := [d1, d2] }
  | _ => none }
def FnExactMultiplyNaturalsWrongFalsely : Prop := fnExactMultiplyNaturalsRow.holds Try.pinned (OpenSpec.ofChange fnExactMultiplyNaturalsWrong)

/-- 'laws.FnExactPowerNatural': WHATEVER THE INPUT: true; the input reads as it did. -/
def fnExactPowerNaturalSpec : ChangeSpec := { name := "fnExactPowerNatural", fn := fun _ => fun
  | [d1, d2] => { results := [.lit (.bool true)], args := [d1, d2] }
  | _ => none }
def fnExactPowerNaturalRow : OpenClaim := { program := "ytknlpoeolicinac", sum := "65658b8dadfbb36c438fea2e02ce94ecc4e2e3bab3dc8515b7b6d8b893b7e6da", func := "loop.example/g01079/laws.FnExactPowerNatural", spec := "fnExactPowerNatural", unfollowed := true, recurses := true, apart := false }
def FnExactPowerNaturalSaid : Prop := fnExactPowerNaturalRow.holds Try.pinned (OpenSpec.ofChange fnExactPowerNaturalSpec)

/-- ITS FALSE NEIGHBOUR: 'it returns false'. Refute it at one input. -/
def fnExactPowerNaturalWrong : ChangeSpec := { name := "fnExactPowerNatural", fn := fun _ => fun
  | [d1, d2] => { results := [.lit (.bool false)], args := [d1, d2] }
  | _ => none }
def FnExactPowerNaturalWrongFalsely : Prop := fnExactPowerNaturalRow.holds Try.pinned (OpenSpec.ofChange fnExactPowerNaturalWrong)

/-- 'laws.FnExactValuationOf': WHATEVER THE INPUT: true; the input reads as it did. -/
def fnExactValuationOfSpec : ChangeSpec := { name := "fnExactValuationOf", fn := fun _ => fun
  | [d1, d2] => { results := [.lit (.bool true)], args := [d1, d2] }
  | _ => none }
def fnExactValuationOfRow : OpenClaim := { program := "ytknlpoeolicinac", sum := "65658b8dadfbb36c438fea2e02ce94ecc4e2e3bab3dc8515b7b6d8b893b7e6da", func := "loop.example/g01079/laws.FnExactValuationOf", spec := "fnExactValuationOf", unfollowed := true, recurses := true, apart := false }
def FnExactValuationOfSaid : Prop := fnExactValuationOfRow.holds Try.pinned (OpenSpec.ofChange fnExactValuationOfSpec)

/-- ITS FALSE NEIGHBOUR: 'it returns false'. Refute it at one input. -/
def fnExactValuationOfWrong : ChangeSpec := { name := "fnExactValuationOf", fn := fun _ => fun
  | [d1, d2] => { results := [.lit (.bool false)], args := [d1, d2] }
  | _ => none }
def FnExactValuationOfWrongFalsely : Prop := fnExactValuationOfRow.holds Try.pinned (OpenSpec.ofChange fnExactValuationOfWrong)

/-- 'laws.FnExactDigitsOf': WHATEVER THE INPUT: true; the input reads as it did. -/
def fnExactDigitsOfSpec : ChangeSpec := { name := "fnExactDigitsOf", fn := fun _ => fun
  | [d1, d2] => { results := [.lit (.bool true)], args := [d1, d2] }
  | _ => none }
def fnExactDigitsOfRow : OpenClaim := { program := "ytknlpoeolicinac", sum := "65658b8dadfbb36c438fea2e02ce94ecc4e2e3bab3dc8515b7b6d8b893b7e6da", func := "loop.example/g01079/laws.FnExactDigitsOf", spec := "fnExactDigitsOf", unfollowed := true, recurses := true, apart := false }
def FnExactDigitsOfSaid : Prop := fnExactDigitsOfRow.holds Try.pinned (OpenSpec.ofChange fnExactDigitsOfSpec)

/-- ITS FALSE NEIGHBOUR: 'it returns false'. Refute it at one input. -/
def fnExactDigitsOfWrong : ChangeSpec := { name := "fnExactDigitsOf", fn := fun _ => fun
  | [d1, d2] => { results := [.lit (.bool false)], args := [d1, d2] }
  | _ => none }
def FnExactDigitsOfWrongFalsely : Prop := fnExactDigitsOfRow.holds Try.pinned (OpenSpec.ofChange fnExactDigitsOfWrong)

/-- 'laws.FnExactSetNumber': WHATEVER THE INPUT: true; the input reads as it did. -/
def fnExactSetNumberSpec : ChangeSpec := { name := "fnExactSetNumber", fn := fun _ => fun
  | [d] => { results := [.lit (.bool true)], args := [d] }
  | _ => none }
def fnExactSetNumberRow : OpenClaim := { program := "ytknlpoeolicinac", sum := "65658b8dadfbb36c438fea2e02ce94ecc4e2e3bab3dc8515b7b6d8b893b7e6da", func := "loop.example/g01079/laws.FnExactSetNumber", spec := "fnExactSetNumber", unfollowed := true, recurses := true, apart := false }
def FnExactSetNumberSaid : Prop := fnExactSetNumberRow.holds Try.pinned (OpenSpec.ofChange fnExactSetNumberSpec)

/-- ITS FALSE NEIGHBOUR: 'it returns false'. Refute it at one input. -/
def fnExactSetNumberWrong : ChangeSpec := { name := "fnExactSetNumber", fn := fun _ => fun
  | [d] => { results := [.lit (.bool false)], args := [d] }
  | _ => none }
def FnExactSetNumberWrongFalsely : Prop := fnExactSetNumberRow.holds Try.pinned (OpenSpec.ofChange fnExactSetNumberWrong)

/-- 'laws.FnExactWeaveNaturals': WHATEVER THE INPUT: true; the input reads as it did. -/
def fnExactWeaveNaturalsSpec : ChangeSpec := { name := "fnExactWeaveNaturals", fn := fun _ => fun
  | [d1, d2] => { results := [.lit (.bool true)], args := [d1, d2] }
  | _ => none }
def fnExactWeaveNaturalsRow : OpenClaim := { program := "ytknlpoeolicinac", sum := "65658b8dadfbb36c438fea2e02ce94ecc4e2e3bab3dc8515b7b6d8b893b7e6da", func := "loop.example/g01079/laws.FnExactWeaveNaturals", spec := "fnExactWeaveNaturals", unfollowed := true, recurses := true, apart := false }
def FnExactWeaveNaturalsSaid : Prop := fnExactWeaveNaturalsRow.holds Try.pinned (OpenSpec.ofChange fnExactWeaveNaturalsSpec)

/-- ITS FALSE NEIGHBOUR: 'it returns false'. Refute it at one input. -/
def fnExactWeaveNaturalsWrong : ChangeSpec := { name := "fnExactWeaveNaturals", fn := fun _ => fun
  | [d1, d2] => { results := [.lit (.bool false)], args := [d1, d2] }
  | _ => none }
def FnExactWeaveNaturalsWrongFalsely : Prop := fnExactWeaveNaturalsRow.holds Try.pinned (OpenSpec.ofChange fnExactWeaveNaturalsWrong)

/-- 'laws.FnExactUnweaveNatural': WHATEVER THE INPUT: true; the input reads as it did. -/
def fnExactUnweaveNaturalSpec : ChangeSpec := { name := "fnExactUnweaveNatural", fn := fun _ => fun
  | [d] => { results := [.lit (.bool true)], args := [d] }
  | _ => none }
def fnExactUnweaveNaturalRow : OpenClaim := { program := "ytknlpoeolicinac", sum := "65658b8dadfbb36c438fea2e02ce94ecc4e2e3bab3dc8515b7b6d8b893b7e6da", func := "loop.example/g01079/laws.FnExactUnweaveNatural", spec := "fnExactUnweaveNatural", unfollowed := true, recurses := true, apart := false }
def FnExactUnweaveNaturalSaid : Prop := fnExactUnweaveNaturalRow.holds Try.pinned (OpenSpec.ofChange fnExactUnweaveNaturalSpec)

/-- ITS FALSE NEIGHBOUR: 'it returns false'. Refute it at one input. -/
def fnExactUnweaveNaturalWrong : ChangeSpec := { name := "fnExactUnweaveNatural", fn := fun _ => fun
  | [d] => { results := [.lit (.bool false)], args := [d] }
  | _ => none }
def FnExactUnweaveNaturalWrongFalsely : Prop := fnExactUnweaveNaturalRow.holds Try.pinned (OpenSpec.ofChange fnExactUnweaveNaturalWrong)

/-- 'laws.FnExactNaturalOf': WHATEVER THE INPUT: true; the input reads as it did. -/
def fnExactNaturalOfSpec : ChangeSpec := { name := "fnExactNaturalOf", fn := fun _ => fun
  | [d] => { results := [.lit (.bool true)], args := [d] }
  | _ => none }
def fnExactNaturalOfRow : OpenClaim := { program := "ytknlpoeolicinac", sum := "65658b8dadfbb36c438fea2e02ce94ecc4e2e3bab3dc8515b7b6d8b893b7e6da", func := "loop.example/g01079/laws.FnExactNaturalOf", spec := "fnExactNaturalOf", apart := false }
def FnExactNaturalOfSaid : Prop := fnExactNaturalOfRow.holds Try.pinned (OpenSpec.ofChange fnExactNaturalOfSpec)

/-- ITS FALSE NEIGHBOUR: 'it returns false'. Refute it at one input. -/
def fnExactNaturalOfWrong : ChangeSpec := { name := "fnExactNaturalOf", fn := fun _ => fun
  | [d] => { results := [.lit (.bool false)], args := [d] }
  | _ => none }
def FnExactNaturalOfWrongFalsely : Prop := fnExactNaturalOfRow.holds Try.pinned (OpenSpec.ofChange fnExactNaturalOfWrong)

/- THE SECOND FORM. 'bulk': how many values and letters a reading holds, each counted each time it is reached (what is shared counts as often as it is met; a slice's spare places count too). A statement '..UptoSaid' is the law's where the arguments, and the package variables that the reading takes, are together of bulk at most 1048576: NARROWER than '..Said'. Prove '..Said' where nothing that the law and all that it calls make is longer than what came in: it says more and counts as full. Else prove '..UptoSaid'. A law counts once. -/
mutual
def uptoBulk {H : Type} : DataW H → Nat
  | .lit (.string bytes) => bytes.length + 1
  | .lit _ => 1
  | .nil => 1
  | .ptr d => uptoBulk d + 1
  | .slice elems spare => uptoBulkAll elems + uptoBulkAll spare + 1
  | .agg parts => uptoBulkAll parts + 1
  | .iface _ d => uptoBulk d + 1
  | .map entries => uptoBulkEntries entries + 1
  | .held _ => 1
def uptoBulkAll {H : Type} : List (DataW H) → Nat
  | [] => 0
  | d :: r => uptoBulk d + uptoBulkAll r
def uptoBulkEntries {H : Type} : List (Lit × DataW H) → Nat
  | [] => 0
  | x :: r => uptoBulkEntry x + uptoBulkEntries r
def uptoBulkEntry {H : Type} : Lit × DataW H → Nat
  | (.string bytes, d) => bytes.length + uptoBulk d + 1
  | (_, d) => uptoBulk d + 1
 end
def uptoSmall : (H : Type) → List (DataW H) → Bool := fun _ ds => decide (uptoBulkAll ds ≤ 1048576)
def OpenSpec.upto (s : _root_.Go.ChangeSpec) : _root_.Go.OpenSpec := { _root_.Go.OpenSpec.ofChange s with cond := some uptoSmall }

/-- 'laws.FnExactIsNatural', WHERE WHAT IT READS IS OF BULK AT MOST 1048576: true; the input reads as it did. -/
def fnExactIsNaturalUptoRow : OpenClaim := { program := "ytknlpoeolicinac", sum := "65658b8dadfbb36c438fea2e02ce94ecc4e2e3bab3dc8515b7b6d8b893b7e6da", func := "loop.example/g01079/laws.FnExactIsNatural", spec := "fnExactIsNatural", unfollowed := true, recurses := true, apart := false, narrowed := true }
def FnExactIsNaturalUptoSaid : Prop := fnExactIsNaturalUptoRow.holds Try.pinned (OpenSpec.upto fnExactIsNaturalSpec)

/-- 'laws.FnExactSmallOf', WHERE WHAT IT READS IS OF BULK AT MOST 1048576: true; the input reads as it did. -/
def fnExactSmallOfUptoRow : OpenClaim := { program := "ytknlpoeolicinac", sum := "65658b8dadfbb36c438fea2e02ce94ecc4e2e3bab3dc8515b7b6d8b893b7e6da", func := "loop.example/g01079/laws.FnExactSmallOf", spec := "fnExactSmallOf", unfollowed := true, recurses := true, apart := false, narrowed := true }
def FnExactSmallOfUptoSaid : Prop := fnExactSmallOfUptoRow.holds Try.pinned (OpenSpec.upto fnExactSmallOfSpec)

/-- 'laws.FnExactCompareNaturals', WHERE WHAT IT READS IS OF BULK AT MOST 1048576: true; the input reads as it did. -/
def fnExactCompareNaturalsUptoRow : OpenClaim := { program := "ytknlpoeolicinac", sum := "65658b8dadfbb36c438fea2e02ce94ecc4e2e3bab3dc8515b7b6d8b893b7e6da", func := "loop.example/g01079/laws.FnExactCompareNaturals", spec := "fnExactCompareNaturals", unfollowed := true, recurses := true, apart := false, narrowed := true }
def FnExactCompareNaturalsUptoSaid : Prop := fnExactCompareNaturalsUptoRow.holds Try.pinned (OpenSpec.upto fnExactCompareNaturalsSpec)

/-- 'laws.FnExactAddNaturals', WHERE WHAT IT READS IS OF BULK AT MOST 1048576: true; the input reads as it did. -/
def fnExactAddNaturalsUptoRow : OpenClaim := { program := "ytknlpoeolicinac", sum := "65658b8dadfbb36c438fea2e02ce94ecc4e2e3bab3dc8515b7b6d8b893b7e6da", func := "loop.example/g01079/laws.FnExactAddNaturals", spec := "fnExactAddNaturals", unfollowed := true, recurses := true, apart := false, narrowed := true }
def FnExactAddNaturalsUptoSaid : Prop := fnExactAddNaturalsUptoRow.holds Try.pinned (OpenSpec.upto fnExactAddNaturalsSpec)

/-- 'laws.FnExactMultiplyNaturals', WHERE WHAT IT READS IS OF BULK AT MOST 1048576: true; the input reads as it did. -/
def fnExactMultiplyNaturalsUptoRow : OpenClaim := { program := "ytknlpoeolicinac", sum := "65658b8dadfbb36c438fea2e02ce94ecc4e2e3bab3dc8515b7b6d8b893b7e6da", func := "loop.example/g01079/laws.FnExactMultiplyNaturals", spec := "fnExactMultiplyNaturals", unfollowed := true, recurses := true, apart := false, narrowed := true }
def FnExactMultiplyNaturalsUptoSaid : Prop := fnExactMultiplyNaturalsUptoRow.holds Try.pinned (OpenSpec.upto fnExactMultiplyNaturalsSpec)

/-- 'laws.FnExactPowerNatural', WHERE WHAT IT READS IS OF BULK AT MOST 1048576: true; the input reads as it did. -/
def fnExactPowerNaturalUptoRow : OpenClaim := { program := "ytknlpoeolicinac", sum := "65658b8dadfbb36c438fea2e02ce94ecc4e2e3bab3dc8515b7b6d8b893b7e6da", func := "loop.example/g01079/laws.FnExactPowerNatural", spec := "fnExactPowerNatural", unfollowed := true, recurses := true, apart := false, narrowed := true }
def FnExactPowerNaturalUptoSaid : Prop := fnExactPowerNaturalUptoRow.holds Try.pinned (OpenSpec.upto fnExactPowerNaturalSpec)

/-- 'laws.FnExactValuationOf', WHERE WHAT IT READS IS OF BULK AT MOST 1048576: true; the input reads as it did. -/
def fnExactValuationOfUptoRow : OpenClaim := { program := "ytknlpoeolicinac", sum := "65658b8dadfbb36c438fea2e02ce94ecc4e2e3bab3dc8515b7b6d8b893b7e6da", func := "loop.example/g01079/laws.FnExactValuationOf", spec := "fnExactValuationOf", unfollowed := true, recurses := true, apart := false, narrowed := true }
def FnExactValuationOfUptoSaid : Prop := fnExactValuationOfUptoRow.holds Try.pinned (OpenSpec.upto fnExactValuationOfSpec)

/-- 'laws.FnExactDigitsOf', WHERE WHAT IT READS IS OF BULK AT MOST 1048576: true; the input reads as it did. -/
def fnExactDigitsOfUptoRow : OpenClaim := { program := "ytknlpoeolicinac", sum := "65658b8dadfbb36c438fea2e02ce94ecc4e2e3bab3dc8515b7b6d8b893b7e6da", func := "loop.example/g01079/laws.FnExactDigitsOf", spec := "fnExactDigitsOf", unfollowed := true, recurses := true, apart := false, narrowed := true }
def FnExactDigitsOfUptoSaid : Prop := fnExactDigitsOfUptoRow.holds Try.pinned (OpenSpec.upto fnExactDigitsOfSpec)

/-- 'laws.FnExactSetNumber', WHERE WHAT IT READS IS OF BULK AT MOST 1048576: true; the input reads as it did. -/
def fnExactSetNumberUptoRow : OpenClaim := { program := "ytknlpoeolicinac", sum := "65658b8dadfbb36c438fea2e02ce94ecc4e2e3bab3dc8515b7b6d8b893b7e6da", func := "loop.example/g01079/laws.FnExactSetNumber", spec := "fnExactSetNumber", unfollowed := true, recurses := true, apart := false, narrowed := true }
def FnExactSetNumberUptoSaid : Prop := fnExactSetNumberUptoRow.holds Try.pinned (OpenSpec.upto fnExactSetNumberSpec)

/-- 'laws.FnExactWeaveNaturals', WHERE WHAT IT READS IS OF BULK AT MOST 1048576: true; the input reads as it did. -/
def fnExactWeaveNaturalsUptoRow : OpenClaim := { program := "ytknlpoeolicinac", sum := "65658b8dadfbb36c438fea2e02ce94ecc4e2e3bab3dc8515b7b6d8b893b7e6da", func := "loop.example/g01079/laws.FnExactWeaveNaturals", spec := "fnExactWeaveNaturals", unfollowed := true, recurses := true, apart := false, narrowed := true }
def FnExactWeaveNaturalsUptoSaid : Prop := fnExactWeaveNaturalsUptoRow.holds Try.pinned (OpenSpec.upto fnExactWeaveNaturalsSpec)

/-- 'laws.FnExactUnweaveNatural', WHERE WHAT IT READS IS OF BULK AT MOST 1048576: true; the input reads as it did. -/
def fnExactUnweaveNaturalUptoRow : OpenClaim := { program := "ytknlpoeolicinac", sum := "65658b8dadfbb36c438fea2e02ce94ecc4e2e3bab3dc8515b7b6d8b893b7e6da", func := "loop.example/g01079/laws.FnExactUnweaveNatural", spec := "fnExactUnweaveNatural", unfollowed := true, recurses := true, apart := false, narrowed := true }
def FnExactUnweaveNaturalUptoSaid : Prop := fnExactUnweaveNaturalUptoRow.holds Try.pinned (OpenSpec.upto fnExactUnweaveNaturalSpec)

/-- 'laws.FnExactNaturalOf', WHERE WHAT IT READS IS OF BULK AT MOST 1048576: true; the input reads as it did. -/
def fnExactNaturalOfUptoRow : OpenClaim := { program := "ytknlpoeolicinac", sum := "65658b8dadfbb36c438fea2e02ce94ecc4e2e3bab3dc8515b7b6d8b893b7e6da", func := "loop.example/g01079/laws.FnExactNaturalOf", spec := "fnExactNaturalOf", apart := false, narrowed := true }
def FnExactNaturalOfUptoSaid : Prop := fnExactNaturalOfUptoRow.holds Try.pinned (OpenSpec.upto fnExactNaturalOfSpec)

end Rows
end Go.Proofs.Ytknlpoeolicinac
