/-
  No cell of these rows narrows 'for every input' (looked for: loops, veiled, ifaces, maps, wideKeys, modest, calm, conditions, laid).
  DERIVED. THE GIVEN ROWS OF THIS SEAT. 12 by the template 'for every input the law returns true; each argument reads behind the call as it read before'; 0 by the template 'total and deterministic' (their statements: YthnfjingkenhgaaTotals.lean).
  GIVEN WITH THE SEED: the statements are not yours to turn. If you find one false, say at which input.
  Laid BY PROGRAM, IN A SANDBOX (cutbox-rows.mjs): the forced cells as the released guide's own fill.sh prints them over the translation 87d5830b0c9ab460… (all of the seat's roots in one cut). By AI agents, Wed Nov 11 2026. No macro, syntax, notation, axiom, sorry.
-/
import Derived.Test.YthnfjingkenhgaaChecked
import GoSem.Claim
import GoSem.ClaimJoined
import GoSem.ClaimMapViews
import Derived.JoinedTies
import Derived.KernelRfl
namespace Go.Proofs.Ythnfjingkenhgaa
/- THE CELL 'sum', in the pinned program and in every row, IS THE sha256 OF THE DUMP (.gsa) THAT YthnfjingkenhgaaProg.lean LOADS. Nothing in Lean hashes anything: it is a label: what it is worth is what the hold of that sum in a sandbox is worth. -/
noncomputable def Try.pinned : Pinned := { name := "ythnfjingkenhgaa", sum := "87d5830b0c9ab460fe77e8e593d4794d0273b1e5ae0edd492f7c8c84e06b3cda", checked := Try.checked }
namespace Rows
def none {H : Type} : Left H := { results := [], args := [] }

/-- 'laws.FnExactSubtractNaturals': WHATEVER THE INPUT: true; the input reads as it did. -/
def fnExactSubtractNaturalsSpec : ChangeSpec := { name := "fnExactSubtractNaturals", fn := fun _ => fun
  | [d1, d2] => { results := [.lit (.bool true)], args := [d1, d2] }
  | _ => none }
def fnExactSubtractNaturalsRow : OpenClaim := { program := "ythnfjingkenhgaa", sum := "87d5830b0c9ab460fe77e8e593d4794d0273b1e5ae0edd492f7c8c84e06b3cda", func := "loop.example/g01079/laws.FnExactSubtractNaturals", spec := "fnExactSubtractNaturals", unfollowed := true, recurses := true, apart := false }
def FnExactSubtractNaturalsSaid : Prop := fnExactSubtractNaturalsRow.holds Try.pinned (OpenSpec.ofChange fnExactSubtractNaturalsSpec)

/-- ITS FALSE NEIGHBOUR: 'it returns false'. Refute it at one input. -/
def fnExactSubtractNaturalsWrong : ChangeSpec := { name := "fnExactSubtractNaturals", fn := fun _ => fun
  | [d1, d2] => { results := [.lit (.bool false)], args := [d1, d2] }
  | _ => none }
def FnExactSubtractNaturalsWrongFalsely : Prop := fnExactSubtractNaturalsRow.holds Try.pinned (OpenSpec.ofChange fnExactSubtractNaturalsWrong)

/-- 'laws.FnExactMultiplyNaturals': WHATEVER THE INPUT: true; the input reads as it did. -/
def fnExactMultiplyNaturalsSpec : ChangeSpec := { name := "fnExactMultiplyNaturals", fn := fun _ => fun
  | [d1, d2] => { results := [.lit (.bool true)], args := [d1, d2] }
  | _ => none }
def fnExactMultiplyNaturalsRow : OpenClaim := { program := "ythnfjingkenhgaa", sum := "87d5830b0c9ab460fe77e8e593d4794d0273b1e5ae0edd492f7c8c84e06b3cda", func := "loop.example/g01079/laws.FnExactMultiplyNaturals", spec := "fnExactMultiplyNaturals", unfollowed := true, recurses := true, apart := false }
def FnExactMultiplyNaturalsSaid : Prop := fnExactMultiplyNaturalsRow.holds Try.pinned (OpenSpec.ofChange fnExactMultiplyNaturalsSpec)

/-- ITS FALSE NEIGHBOUR: 'it returns false'. Refute it at one input. -/
def fnExactMultiplyNaturalsWrong : ChangeSpec := { name := "fnExactMultiplyNaturals", fn := fun _ => fun
  | [d1, d2] => { results := [.lit (.bool false)], args := [d1, d2] }
  | _ => none }
def FnExactMultiplyNaturalsWrongFalsely : Prop := fnExactMultiplyNaturalsRow.holds Try.pinned (OpenSpec.ofChange fnExactMultiplyNaturalsWrong)

/-- 'laws.FnExactDivideNaturals': WHATEVER THE INPUT: true; the input reads as it did. -/
def fnExactDivideNaturalsSpec : ChangeSpec := { name := "fnExactDivideNaturals", fn := fun _ => fun
  | [d1, d2] => { results := [.lit (.bool true)], args := [d1, d2] }
  | _ => none }
def fnExactDivideNaturalsRow : OpenClaim := { program := "ythnfjingkenhgaa", sum := "87d5830b0c9ab460fe77e8e593d4794d0273b1e5ae0edd492f7c8c84e06b3cda", func := "loop.example/g01079/laws.FnExactDivideNaturals", spec := "fnExactDivideNaturals", unfollowed := true, recurses := true, apart := false }
def FnExactDivideNaturalsSaid : Prop := fnExactDivideNaturalsRow.holds Try.pinned (OpenSpec.ofChange fnExactDivideNaturalsSpec)

/-- ITS FALSE NEIGHBOUR: 'it returns false'. Refute it at one input. -/
def fnExactDivideNaturalsWrong : ChangeSpec := { name := "fnExactDivideNaturals", fn := fun _ => fun
  | [d1, d2] => { results := [.lit (.bool false)], args := [d1, d2] }
  | _ => none }
def FnExactDivideNaturalsWrongFalsely : Prop := fnExactDivideNaturalsRow.holds Try.pinned (OpenSpec.ofChange fnExactDivideNaturalsWrong)

/-- 'laws.FnExactPowerNatural': WHATEVER THE INPUT: true; the input reads as it did. -/
def fnExactPowerNaturalSpec : ChangeSpec := { name := "fnExactPowerNatural", fn := fun _ => fun
  | [d1, d2] => { results := [.lit (.bool true)], args := [d1, d2] }
  | _ => none }
def fnExactPowerNaturalRow : OpenClaim := { program := "ythnfjingkenhgaa", sum := "87d5830b0c9ab460fe77e8e593d4794d0273b1e5ae0edd492f7c8c84e06b3cda", func := "loop.example/g01079/laws.FnExactPowerNatural", spec := "fnExactPowerNatural", unfollowed := true, recurses := true, apart := false }
def FnExactPowerNaturalSaid : Prop := fnExactPowerNaturalRow.holds Try.pinned (OpenSpec.ofChange fnExactPowerNaturalSpec)

/-- ITS FALSE NEIGHBOUR: 'it returns false'. Refute it at one input. -/
def fnExactPowerNaturalWrong : ChangeSpec := { name := "fnExactPowerNatural", fn := fun _ => fun
  | [d1, d2] => { results := [.lit (.bool false)], args := [d1, d2] }
  | _ => none }
def FnExactPowerNaturalWrongFalsely : Prop := fnExactPowerNaturalRow.holds Try.pinned (OpenSpec.ofChange fnExactPowerNaturalWrong)

/-- 'laws.FnExactGcdNaturals': WHATEVER THE INPUT: true; the input reads as it did. -/
def fnExactGcdNaturalsSpec : ChangeSpec := { name := "fnExactGcdNaturals", fn := fun _ => fun
  | [d1, d2] => { results := [.lit (.bool true)], args := [d1, d2] }
  | _ => none }
def fnExactGcdNaturalsRow : OpenClaim := { program := "ythnfjingkenhgaa", sum := "87d5830b0c9ab460fe77e8e593d4794d0273b1e5ae0edd492f7c8c84e06b3cda", func := "loop.example/g01079/laws.FnExactGcdNaturals", spec := "fnExactGcdNaturals", unfollowed := true, recurses := true, apart := false }
def FnExactGcdNaturalsSaid : Prop := fnExactGcdNaturalsRow.holds Try.pinned (OpenSpec.ofChange fnExactGcdNaturalsSpec)

/-- ITS FALSE NEIGHBOUR: 'it returns false'. Refute it at one input. -/
def fnExactGcdNaturalsWrong : ChangeSpec := { name := "fnExactGcdNaturals", fn := fun _ => fun
  | [d1, d2] => { results := [.lit (.bool false)], args := [d1, d2] }
  | _ => none }
def FnExactGcdNaturalsWrongFalsely : Prop := fnExactGcdNaturalsRow.holds Try.pinned (OpenSpec.ofChange fnExactGcdNaturalsWrong)

/-- 'laws.FnExactRootNatural': WHATEVER THE INPUT: true; the input reads as it did. -/
def fnExactRootNaturalSpec : ChangeSpec := { name := "fnExactRootNatural", fn := fun _ => fun
  | [d] => { results := [.lit (.bool true)], args := [d] }
  | _ => none }
def fnExactRootNaturalRow : OpenClaim := { program := "ythnfjingkenhgaa", sum := "87d5830b0c9ab460fe77e8e593d4794d0273b1e5ae0edd492f7c8c84e06b3cda", func := "loop.example/g01079/laws.FnExactRootNatural", spec := "fnExactRootNatural", unfollowed := true, recurses := true, apart := false }
def FnExactRootNaturalSaid : Prop := fnExactRootNaturalRow.holds Try.pinned (OpenSpec.ofChange fnExactRootNaturalSpec)

/-- ITS FALSE NEIGHBOUR: 'it returns false'. Refute it at one input. -/
def fnExactRootNaturalWrong : ChangeSpec := { name := "fnExactRootNatural", fn := fun _ => fun
  | [d] => { results := [.lit (.bool false)], args := [d] }
  | _ => none }
def FnExactRootNaturalWrongFalsely : Prop := fnExactRootNaturalRow.holds Try.pinned (OpenSpec.ofChange fnExactRootNaturalWrong)

/-- 'laws.FnExactValuationOf': WHATEVER THE INPUT: true; the input reads as it did. -/
def fnExactValuationOfSpec : ChangeSpec := { name := "fnExactValuationOf", fn := fun _ => fun
  | [d1, d2] => { results := [.lit (.bool true)], args := [d1, d2] }
  | _ => none }
def fnExactValuationOfRow : OpenClaim := { program := "ythnfjingkenhgaa", sum := "87d5830b0c9ab460fe77e8e593d4794d0273b1e5ae0edd492f7c8c84e06b3cda", func := "loop.example/g01079/laws.FnExactValuationOf", spec := "fnExactValuationOf", unfollowed := true, recurses := true, apart := false }
def FnExactValuationOfSaid : Prop := fnExactValuationOfRow.holds Try.pinned (OpenSpec.ofChange fnExactValuationOfSpec)

/-- ITS FALSE NEIGHBOUR: 'it returns false'. Refute it at one input. -/
def fnExactValuationOfWrong : ChangeSpec := { name := "fnExactValuationOf", fn := fun _ => fun
  | [d1, d2] => { results := [.lit (.bool false)], args := [d1, d2] }
  | _ => none }
def FnExactValuationOfWrongFalsely : Prop := fnExactValuationOfRow.holds Try.pinned (OpenSpec.ofChange fnExactValuationOfWrong)

/-- 'laws.FnExactDigitsOf': WHATEVER THE INPUT: true; the input reads as it did. -/
def fnExactDigitsOfSpec : ChangeSpec := { name := "fnExactDigitsOf", fn := fun _ => fun
  | [d1, d2] => { results := [.lit (.bool true)], args := [d1, d2] }
  | _ => none }
def fnExactDigitsOfRow : OpenClaim := { program := "ythnfjingkenhgaa", sum := "87d5830b0c9ab460fe77e8e593d4794d0273b1e5ae0edd492f7c8c84e06b3cda", func := "loop.example/g01079/laws.FnExactDigitsOf", spec := "fnExactDigitsOf", unfollowed := true, recurses := true, apart := false }
def FnExactDigitsOfSaid : Prop := fnExactDigitsOfRow.holds Try.pinned (OpenSpec.ofChange fnExactDigitsOfSpec)

/-- ITS FALSE NEIGHBOUR: 'it returns false'. Refute it at one input. -/
def fnExactDigitsOfWrong : ChangeSpec := { name := "fnExactDigitsOf", fn := fun _ => fun
  | [d1, d2] => { results := [.lit (.bool false)], args := [d1, d2] }
  | _ => none }
def FnExactDigitsOfWrongFalsely : Prop := fnExactDigitsOfRow.holds Try.pinned (OpenSpec.ofChange fnExactDigitsOfWrong)

/-- 'laws.FnExactFromDigits': WHATEVER THE INPUT: true; the input reads as it did. -/
def fnExactFromDigitsSpec : ChangeSpec := { name := "fnExactFromDigits", fn := fun _ => fun
  | [d1, d2] => { results := [.lit (.bool true)], args := [d1, d2] }
  | _ => none }
def fnExactFromDigitsRow : OpenClaim := { program := "ythnfjingkenhgaa", sum := "87d5830b0c9ab460fe77e8e593d4794d0273b1e5ae0edd492f7c8c84e06b3cda", func := "loop.example/g01079/laws.FnExactFromDigits", spec := "fnExactFromDigits", unfollowed := true, recurses := true, apart := false }
def FnExactFromDigitsSaid : Prop := fnExactFromDigitsRow.holds Try.pinned (OpenSpec.ofChange fnExactFromDigitsSpec)

/-- ITS FALSE NEIGHBOUR: 'it returns false'. Refute it at one input. -/
def fnExactFromDigitsWrong : ChangeSpec := { name := "fnExactFromDigits", fn := fun _ => fun
  | [d1, d2] => { results := [.lit (.bool false)], args := [d1, d2] }
  | _ => none }
def FnExactFromDigitsWrongFalsely : Prop := fnExactFromDigitsRow.holds Try.pinned (OpenSpec.ofChange fnExactFromDigitsWrong)

/-- 'laws.FnExactIsName': WHATEVER THE INPUT: true; the input reads as it did. -/
def fnExactIsNameSpec : ChangeSpec := { name := "fnExactIsName", fn := fun _ => fun
  | [d] => { results := [.lit (.bool true)], args := [d] }
  | _ => none }
def fnExactIsNameRow : OpenClaim := { program := "ythnfjingkenhgaa", sum := "87d5830b0c9ab460fe77e8e593d4794d0273b1e5ae0edd492f7c8c84e06b3cda", func := "loop.example/g01079/laws.FnExactIsName", spec := "fnExactIsName", apart := false }
def FnExactIsNameSaid : Prop := fnExactIsNameRow.holds Try.pinned (OpenSpec.ofChange fnExactIsNameSpec)

/-- ITS FALSE NEIGHBOUR: 'it returns false'. Refute it at one input. -/
def fnExactIsNameWrong : ChangeSpec := { name := "fnExactIsName", fn := fun _ => fun
  | [d] => { results := [.lit (.bool false)], args := [d] }
  | _ => none }
def FnExactIsNameWrongFalsely : Prop := fnExactIsNameRow.holds Try.pinned (OpenSpec.ofChange fnExactIsNameWrong)

/-- 'laws.FnExactPrimeAt': WHATEVER THE INPUT: true; the input reads as it did. -/
def fnExactPrimeAtSpec : ChangeSpec := { name := "fnExactPrimeAt", fn := fun _ => fun
  | [d] => { results := [.lit (.bool true)], args := [d] }
  | _ => none }
def fnExactPrimeAtRow : OpenClaim := { program := "ythnfjingkenhgaa", sum := "87d5830b0c9ab460fe77e8e593d4794d0273b1e5ae0edd492f7c8c84e06b3cda", func := "loop.example/g01079/laws.FnExactPrimeAt", spec := "fnExactPrimeAt", apart := false }
def FnExactPrimeAtSaid : Prop := fnExactPrimeAtRow.holds Try.pinned (OpenSpec.ofChange fnExactPrimeAtSpec)

/-- ITS FALSE NEIGHBOUR: 'it returns false'. Refute it at one input. -/
def fnExactPrimeAtWrong : ChangeSpec := { name := "fnExactPrimeAt", fn := fun _ => fun
  | [d] => { results := [.lit (.bool false)], args := [d] }
  | _ => none }
def FnExactPrimeAtWrongFalsely : Prop := fnExactPrimeAtRow.holds Try.pinned (OpenSpec.ofChange fnExactPrimeAtWrong)

/-- 'laws.FnArithmetic': WHATEVER THE INPUT: true; the input reads as it did. -/
def fnArithmeticSpec : ChangeSpec := { name := "fnArithmetic", fn := fun _ => fun
  | [d] => { results := [.lit (.bool true)], args := [d] }
  | _ => none }
def fnArithmeticRow : OpenClaim := { program := "ythnfjingkenhgaa", sum := "87d5830b0c9ab460fe77e8e593d4794d0273b1e5ae0edd492f7c8c84e06b3cda", func := "loop.example/g01079/laws.FnArithmetic", spec := "fnArithmetic", unfollowed := true, recurses := true, apart := false }
def FnArithmeticSaid : Prop := fnArithmeticRow.holds Try.pinned (OpenSpec.ofChange fnArithmeticSpec)

/-- ITS FALSE NEIGHBOUR: 'it returns false'. Refute it at one input. -/
def fnArithmeticWrong : ChangeSpec := { name := "fnArithmetic", fn := fun _ => fun
  | [d] => { results := [.lit (.bool false)], args := [d] }
  | _ => none }
def FnArithmeticWrongFalsely : Prop := fnArithmeticRow.holds Try.pinned (OpenSpec.ofChange fnArithmeticWrong)

/- THE SECOND FORM. 'bulk': how many values and letters a reading holds, each counted each time it is reached (what is shared counts as often as it is met; a slice's spare places count too). A statement '..UptoSaid' is the law's where the arguments, and the package variables that the reading takes, are together of bulk at most 1048576: NARROWER than '..Said'. Prove '..Said' where nothing that the law and all that it calls make is longer than what came in: it says more and counts as full. Else prove '..UptoSaid'. A law counts once. -/
mutual
def uptoBulk {H : Type} : DataW H → Nat
  | .lit (.string bytes) => bytes.length + 1
  | .lit _ => 1
  | .nil => 1
  | .ptr d => uptoBulk d + 1
  | .slice elems spare => uptoBulkAll elems + uptoBulkAll spare + 1
  | .agg parts => uptoBulkAll parts + 1
  | .iface _ d => uptoBulk d + 1
  | .map entries => uptoBulkEntries entries + 1
  | .held _ => 1
def uptoBulkAll {H : Type} : List (DataW H) → Nat
  | [] => 0
  | d :: r => uptoBulk d + uptoBulkAll r
def uptoBulkEntries {H : Type} : List (Lit × DataW H) → Nat
  | [] => 0
  | x :: r => uptoBulkEntry x + uptoBulkEntries r
def uptoBulkEntry {H : Type} : Lit × DataW H → Nat
  | (.string bytes, d) => bytes.length + uptoBulk d + 1
  | (_, d) => uptoBulk d + 1
 end
def uptoSmall : (H : Type) → List (DataW H) → Bool := fun _ ds => decide (uptoBulkAll ds ≤ 1048576)
def OpenSpec.upto (s : _root_.Go.ChangeSpec) : _root_.Go.OpenSpec := { _root_.Go.OpenSpec.ofChange s with cond := some uptoSmall }

/-- 'laws.FnExactSubtractNaturals', WHERE WHAT IT READS IS OF BULK AT MOST 1048576: true; the input reads as it did. -/
def fnExactSubtractNaturalsUptoRow : OpenClaim := { program := "ythnfjingkenhgaa", sum := "87d5830b0c9ab460fe77e8e593d4794d0273b1e5ae0edd492f7c8c84e06b3cda", func := "loop.example/g01079/laws.FnExactSubtractNaturals", spec := "fnExactSubtractNaturals", unfollowed := true, recurses := true, apart := false, narrowed := true }
def FnExactSubtractNaturalsUptoSaid : Prop := fnExactSubtractNaturalsUptoRow.holds Try.pinned (OpenSpec.upto fnExactSubtractNaturalsSpec)

/-- 'laws.FnExactMultiplyNaturals', WHERE WHAT IT READS IS OF BULK AT MOST 1048576: true; the input reads as it did. -/
def fnExactMultiplyNaturalsUptoRow : OpenClaim := { program := "ythnfjingkenhgaa", sum := "87d5830b0c9ab460fe77e8e593d4794d0273b1e5ae0edd492f7c8c84e06b3cda", func := "loop.example/g01079/laws.FnExactMultiplyNaturals", spec := "fnExactMultiplyNaturals", unfollowed := true, recurses := true, apart := false, narrowed := true }
def FnExactMultiplyNaturalsUptoSaid : Prop := fnExactMultiplyNaturalsUptoRow.holds Try.pinned (OpenSpec.upto fnExactMultiplyNaturalsSpec)

/-- 'laws.FnExactDivideNaturals', WHERE WHAT IT READS IS OF BULK AT MOST 1048576: true; the input reads as it did. -/
def fnExactDivideNaturalsUptoRow : OpenClaim := { program := "ythnfjingkenhgaa", sum := "87d5830b0c9ab460fe77e8e593d4794d0273b1e5ae0edd492f7c8c84e06b3cda", func := "loop.example/g01079/laws.FnExactDivideNaturals", spec := "fnExactDivideNaturals", unfollowed := true, recurses := true, apart := false, narrowed := true }
def FnExactDivideNaturalsUptoSaid : Prop := fnExactDivideNaturalsUptoRow.holds Try.pinned (OpenSpec.upto fnExactDivideNaturalsSpec)

/-- 'laws.FnExactPowerNatural', WHERE WHAT IT READS IS OF BULK AT MOST 1048576: true; the input reads as it did. -/
def fnExactPowerNaturalUptoRow : OpenClaim := { program := "ythnfjingkenhgaa", sum := "87d5830b0c9ab460fe77e8e593d4794d0273b1e5ae0edd492f7c8c84e06b3cda", func := "loop.example/g01079/laws.FnExactPowerNatural", spec := "fnExactPowerNatural", unfollowed := true, recurses := true, apart := false, narrowed := true }
def FnExactPowerNaturalUptoSaid : Prop := fnExactPowerNaturalUptoRow.holds Try.pinned (OpenSpec.upto fnExactPowerNaturalSpec)

/-- 'laws.FnExactGcdNaturals', WHERE WHAT IT READS IS OF BULK AT MOST 1048576: true; the input reads as it did. -/
def fnExactGcdNaturalsUptoRow : OpenClaim := { program := "ythnfjingkenhgaa", sum := "87d5830b0c9ab460fe77e8e593d4794d0273b1e5ae0edd492f7c8c84e06b3cda", func := "loop.example/g01079/laws.FnExactGcdNaturals", spec := "fnExactGcdNaturals", unfollowed := true, recurses := true, apart := false, narrowed := true }
def FnExactGcdNaturalsUptoSaid : Prop := fnExactGcdNaturalsUptoRow.holds Try.pinned (OpenSpec.upto fnExactGcdNaturalsSpec)

/-- 'laws.FnExactRootNatural', WHERE WHAT IT READS IS OF BULK AT MOST 1048576: true; the input reads as it did. -/
def fnExactRootNaturalUptoRow : OpenClaim := { program := "ythnfjingkenhgaa", sum := "87d5830b0c9ab460fe77e8e593d4794d0273b1e5ae0edd492f7c8c84e06b3cda", func := "loop.example/g01079/laws.FnExactRootNatural", spec := "fnExactRootNatural", unfollowed := true, recurses := true, apart := false, narrowed := true }
def FnExactRootNaturalUptoSaid : Prop := fnExactRootNaturalUptoRow.holds Try.pinned (OpenSpec.upto fnExactRootNaturalSpec)

/-- 'laws.FnExactValuationOf', WHERE WHAT IT READS IS OF BULK AT MOST 1048576: true; the input reads as it did. -/
def fnExactValuationOfUptoRow : OpenClaim := { program := "ythnfjingkenhgaa", sum := "87d5830b0c9ab460fe77e8e593d4794d0273b1e5ae0edd492f7c8c84e06b3cda", func := "loop.example/g01079/laws.FnExactValuationOf", spec := "fnExactValuationOf", unfollowed := true, recurses := true, apart := false, narrowed := true }
def FnExactValuationOfUptoSaid : Prop := fnExactValuationOfUptoRow.holds Try.pinned (OpenSpec.upto fnExactValuationOfSpec)

/-- 'laws.FnExactDigitsOf', WHERE WHAT IT READS IS OF BULK AT MOST 1048576: true; the input reads as it did. -/
def fnExactDigitsOfUptoRow : OpenClaim := { program := "ythnfjingkenhgaa", sum := "87d5830b0c9ab460fe77e8e593d4794d0273b1e5ae0edd492f7c8c84e06b3cda", func := "loop.example/g01079/laws.FnExactDigitsOf", spec := "fnExactDigitsOf", unfollowed := true, recurses := true, apart := false, narrowed := true }
def FnExactDigitsOfUptoSaid : Prop := fnExactDigitsOfUptoRow.holds Try.pinned (OpenSpec.upto fnExactDigitsOfSpec)

/-- 'laws.FnExactFromDigits', WHERE WHAT IT READS IS OF BULK AT MOST 1048576: true; the input reads as it did. -/
def fnExactFromDigitsUptoRow : OpenClaim := { program := "ythnfjingkenhgaa", sum := "87d5830b0c9ab460fe77e8e593d4794d0273b1e5ae0edd492f7c8c84e06b3cda", func := "loop.example/g01079/laws.FnExactFromDigits", spec := "fnExactFromDigits", unfollowed := true, recurses := true, apart := false, narrowed := true }
def FnExactFromDigitsUptoSaid : Prop := fnExactFromDigitsUptoRow.holds Try.pinned (OpenSpec.upto fnExactFromDigitsSpec)

/-- 'laws.FnExactIsName', WHERE WHAT IT READS IS OF BULK AT MOST 1048576: true; the input reads as it did. -/
def fnExactIsNameUptoRow : OpenClaim := { program := "ythnfjingkenhgaa", sum := "87d5830b0c9ab460fe77e8e593d4794d0273b1e5ae0edd492f7c8c84e06b3cda", func := "loop.example/g01079/laws.FnExactIsName", spec := "fnExactIsName", apart := false, narrowed := true }
def FnExactIsNameUptoSaid : Prop := fnExactIsNameUptoRow.holds Try.pinned (OpenSpec.upto fnExactIsNameSpec)

/-- 'laws.FnExactPrimeAt', WHERE WHAT IT READS IS OF BULK AT MOST 1048576: true; the input reads as it did. -/
def fnExactPrimeAtUptoRow : OpenClaim := { program := "ythnfjingkenhgaa", sum := "87d5830b0c9ab460fe77e8e593d4794d0273b1e5ae0edd492f7c8c84e06b3cda", func := "loop.example/g01079/laws.FnExactPrimeAt", spec := "fnExactPrimeAt", apart := false, narrowed := true }
def FnExactPrimeAtUptoSaid : Prop := fnExactPrimeAtUptoRow.holds Try.pinned (OpenSpec.upto fnExactPrimeAtSpec)

/-- 'laws.FnArithmetic', WHERE WHAT IT READS IS OF BULK AT MOST 1048576: true; the input reads as it did. -/
def fnArithmeticUptoRow : OpenClaim := { program := "ythnfjingkenhgaa", sum := "87d5830b0c9ab460fe77e8e593d4794d0273b1e5ae0edd492f7c8c84e06b3cda", func := "loop.example/g01079/laws.FnArithmetic", spec := "fnArithmetic", unfollowed := true, recurses := true, apart := false, narrowed := true }
def FnArithmeticUptoSaid : Prop := fnArithmeticUptoRow.holds Try.pinned (OpenSpec.upto fnArithmeticSpec)

end Rows
end Go.Proofs.Ythnfjingkenhgaa
