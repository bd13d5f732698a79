/-
  No cell of these rows narrows 'for every input' (looked for: loops, veiled, ifaces, maps, wideKeys, modest, calm, conditions, laid).
  DERIVED. THE GIVEN ROWS OF THIS SEAT. 11 by the template 'for every input the law returns true; each argument reads behind the call as it read before'; 0 by the template 'total and deterministic' (their statements: YtalmlkdihlhpjabTotals.lean).
  GIVEN WITH THE SEED: the statements are not yours to turn. If you find one false, say at which input.
  Laid BY PROGRAM, IN A SANDBOX (cutbox-rows.mjs): the forced cells as the released guide's own fill.sh prints them over the translation 8e87b1ccc4c0e454… (all of the seat's roots in one cut). By AI agents, Wed Nov 11 2026. No macro, syntax, notation, axiom, sorry.
-/
import Derived.Test.YtalmlkdihlhpjabChecked
import GoSem.Claim
import GoSem.ClaimJoined
import GoSem.ClaimMapViews
import Derived.JoinedTies
import Derived.KernelRfl
namespace Go.Proofs.Ytalmlkdihlhpjab
/- THE CELL 'sum', in the pinned program and in every row, IS THE sha256 OF THE DUMP (.gsa) THAT YtalmlkdihlhpjabProg.lean LOADS. Nothing in Lean hashes anything: it is a label: what it is worth is what the hold of that sum in a sandbox is worth. -/
noncomputable def Try.pinned : Pinned := { name := "ytalmlkdihlhpjab", sum := "8e87b1ccc4c0e454976b524266fc0dafd23125400f68e2fbe7ac58ad6921b66c", checked := Try.checked }
namespace Rows
def none {H : Type} : Left H := { results := [], args := [] }

/-- 'laws.FnExactSortList': WHATEVER THE INPUT: true; the input reads as it did. -/
def fnExactSortListSpec : ChangeSpec := { name := "fnExactSortList", fn := fun _ => fun
  | [d] => { results := [.lit (.bool true)], args := [d] }
  | _ => none }
def fnExactSortListRow : OpenClaim := { program := "ytalmlkdihlhpjab", sum := "8e87b1ccc4c0e454976b524266fc0dafd23125400f68e2fbe7ac58ad6921b66c", func := "loop.example/g01079/laws.FnExactSortList", spec := "fnExactSortList", recurses := true, apart := false }
def FnExactSortListSaid : Prop := fnExactSortListRow.holds Try.pinned (OpenSpec.ofChange fnExactSortListSpec)

/-- ITS FALSE NEIGHBOUR: 'it returns false'. Refute it at one input. -/
def fnExactSortListWrong : ChangeSpec := { name := "fnExactSortList", fn := fun _ => fun
  | [d] => { results := [.lit (.bool false)], args := [d] }
  | _ => none }
def FnExactSortListWrongFalsely : Prop := fnExactSortListRow.holds Try.pinned (OpenSpec.ofChange fnExactSortListWrong)

/-- 'laws.FnExactIsPrime': WHATEVER THE INPUT: true; the input reads as it did. -/
def fnExactIsPrimeSpec : ChangeSpec := { name := "fnExactIsPrime", fn := fun _ => fun
  | [d] => { results := [.lit (.bool true)], args := [d] }
  | _ => none }
def fnExactIsPrimeRow : OpenClaim := { program := "ytalmlkdihlhpjab", sum := "8e87b1ccc4c0e454976b524266fc0dafd23125400f68e2fbe7ac58ad6921b66c", func := "loop.example/g01079/laws.FnExactIsPrime", spec := "fnExactIsPrime", apart := false }
def FnExactIsPrimeSaid : Prop := fnExactIsPrimeRow.holds Try.pinned (OpenSpec.ofChange fnExactIsPrimeSpec)

/-- ITS FALSE NEIGHBOUR: 'it returns false'. Refute it at one input. -/
def fnExactIsPrimeWrong : ChangeSpec := { name := "fnExactIsPrime", fn := fun _ => fun
  | [d] => { results := [.lit (.bool false)], args := [d] }
  | _ => none }
def FnExactIsPrimeWrongFalsely : Prop := fnExactIsPrimeRow.holds Try.pinned (OpenSpec.ofChange fnExactIsPrimeWrong)

/-- 'laws.FnExactPrimeAt': WHATEVER THE INPUT: true; the input reads as it did. -/
def fnExactPrimeAtSpec : ChangeSpec := { name := "fnExactPrimeAt", fn := fun _ => fun
  | [d] => { results := [.lit (.bool true)], args := [d] }
  | _ => none }
def fnExactPrimeAtRow : OpenClaim := { program := "ytalmlkdihlhpjab", sum := "8e87b1ccc4c0e454976b524266fc0dafd23125400f68e2fbe7ac58ad6921b66c", func := "loop.example/g01079/laws.FnExactPrimeAt", spec := "fnExactPrimeAt", apart := false }
def FnExactPrimeAtSaid : Prop := fnExactPrimeAtRow.holds Try.pinned (OpenSpec.ofChange fnExactPrimeAtSpec)

/-- ITS FALSE NEIGHBOUR: 'it returns false'. Refute it at one input. -/
def fnExactPrimeAtWrong : ChangeSpec := { name := "fnExactPrimeAt", fn := fun _ => fun
  | [d] => { results := [.lit (.bool false)], args := [d] }
  | _ => none }
def FnExactPrimeAtWrongFalsely : Prop := fnExactPrimeAtRow.holds Try.pinned (OpenSpec.ofChange fnExactPrimeAtWrong)

/-- 'laws.FnExactPowerOf': WHATEVER THE INPUT: true; the input reads as it did. -/
def fnExactPowerOfSpec : ChangeSpec := { name := "fnExactPowerOf", fn := fun _ => fun
  | [d1, d2] => { results := [.lit (.bool true)], args := [d1, d2] }
  | _ => none }
def fnExactPowerOfRow : OpenClaim := { program := "ytalmlkdihlhpjab", sum := "8e87b1ccc4c0e454976b524266fc0dafd23125400f68e2fbe7ac58ad6921b66c", func := "loop.example/g01079/laws.FnExactPowerOf", spec := "fnExactPowerOf", apart := false }
def FnExactPowerOfSaid : Prop := fnExactPowerOfRow.holds Try.pinned (OpenSpec.ofChange fnExactPowerOfSpec)

/-- ITS FALSE NEIGHBOUR: 'it returns false'. Refute it at one input. -/
def fnExactPowerOfWrong : ChangeSpec := { name := "fnExactPowerOf", fn := fun _ => fun
  | [d1, d2] => { results := [.lit (.bool false)], args := [d1, d2] }
  | _ => none }
def FnExactPowerOfWrongFalsely : Prop := fnExactPowerOfRow.holds Try.pinned (OpenSpec.ofChange fnExactPowerOfWrong)

/-- 'laws.FnExactExponentOf': WHATEVER THE INPUT: true; the input reads as it did. -/
def fnExactExponentOfSpec : ChangeSpec := { name := "fnExactExponentOf", fn := fun _ => fun
  | [d1, d2] => { results := [.lit (.bool true)], args := [d1, d2] }
  | _ => none }
def fnExactExponentOfRow : OpenClaim := { program := "ytalmlkdihlhpjab", sum := "8e87b1ccc4c0e454976b524266fc0dafd23125400f68e2fbe7ac58ad6921b66c", func := "loop.example/g01079/laws.FnExactExponentOf", spec := "fnExactExponentOf", apart := false }
def FnExactExponentOfSaid : Prop := fnExactExponentOfRow.holds Try.pinned (OpenSpec.ofChange fnExactExponentOfSpec)

/-- ITS FALSE NEIGHBOUR: 'it returns false'. Refute it at one input. -/
def fnExactExponentOfWrong : ChangeSpec := { name := "fnExactExponentOf", fn := fun _ => fun
  | [d1, d2] => { results := [.lit (.bool false)], args := [d1, d2] }
  | _ => none }
def FnExactExponentOfWrongFalsely : Prop := fnExactExponentOfRow.holds Try.pinned (OpenSpec.ofChange fnExactExponentOfWrong)

/-- 'laws.FnExactIsNatural': WHATEVER THE INPUT: true; the input reads as it did. -/
def fnExactIsNaturalSpec : ChangeSpec := { name := "fnExactIsNatural", fn := fun _ => fun
  | [d] => { results := [.lit (.bool true)], args := [d] }
  | _ => none }
def fnExactIsNaturalRow : OpenClaim := { program := "ytalmlkdihlhpjab", sum := "8e87b1ccc4c0e454976b524266fc0dafd23125400f68e2fbe7ac58ad6921b66c", func := "loop.example/g01079/laws.FnExactIsNatural", spec := "fnExactIsNatural", unfollowed := true, recurses := true, apart := false }
def FnExactIsNaturalSaid : Prop := fnExactIsNaturalRow.holds Try.pinned (OpenSpec.ofChange fnExactIsNaturalSpec)

/-- ITS FALSE NEIGHBOUR: 'it returns false'. Refute it at one input. -/
def fnExactIsNaturalWrong : ChangeSpec := { name := "fnExactIsNatural", fn := fun _ => fun
  | [d] => { results := [.lit (.bool false)], args := [d] }
  | _ => none }
def FnExactIsNaturalWrongFalsely : Prop := fnExactIsNaturalRow.holds Try.pinned (OpenSpec.ofChange fnExactIsNaturalWrong)

/-- 'laws.FnExactNaturalOf': WHATEVER THE INPUT: true; the input reads as it did. -/
def fnExactNaturalOfSpec : ChangeSpec := { name := "fnExactNaturalOf", fn := fun _ => fun
  | [d] => { results := [.lit (.bool true)], args := [d] }
  | _ => none }
def fnExactNaturalOfRow : OpenClaim := { program := "ytalmlkdihlhpjab", sum := "8e87b1ccc4c0e454976b524266fc0dafd23125400f68e2fbe7ac58ad6921b66c", func := "loop.example/g01079/laws.FnExactNaturalOf", spec := "fnExactNaturalOf", apart := false }
def FnExactNaturalOfSaid : Prop := fnExactNaturalOfRow.holds Try.pinned (OpenSpec.ofChange fnExactNaturalOfSpec)

/-- ITS FALSE NEIGHBOUR: 'it returns false'. Refute it at one input. -/
def fnExactNaturalOfWrong : ChangeSpec := { name := "fnExactNaturalOf", fn := fun _ => fun
  | [d] => { results := [.lit (.bool false)], args := [d] }
  | _ => none }
def FnExactNaturalOfWrongFalsely : Prop := fnExactNaturalOfRow.holds Try.pinned (OpenSpec.ofChange fnExactNaturalOfWrong)

/-- 'laws.FnExactSmallOf': WHATEVER THE INPUT: true; the input reads as it did. -/
def fnExactSmallOfSpec : ChangeSpec := { name := "fnExactSmallOf", fn := fun _ => fun
  | [d] => { results := [.lit (.bool true)], args := [d] }
  | _ => none }
def fnExactSmallOfRow : OpenClaim := { program := "ytalmlkdihlhpjab", sum := "8e87b1ccc4c0e454976b524266fc0dafd23125400f68e2fbe7ac58ad6921b66c", func := "loop.example/g01079/laws.FnExactSmallOf", spec := "fnExactSmallOf", unfollowed := true, recurses := true, apart := false }
def FnExactSmallOfSaid : Prop := fnExactSmallOfRow.holds Try.pinned (OpenSpec.ofChange fnExactSmallOfSpec)

/-- ITS FALSE NEIGHBOUR: 'it returns false'. Refute it at one input. -/
def fnExactSmallOfWrong : ChangeSpec := { name := "fnExactSmallOf", fn := fun _ => fun
  | [d] => { results := [.lit (.bool false)], args := [d] }
  | _ => none }
def FnExactSmallOfWrongFalsely : Prop := fnExactSmallOfRow.holds Try.pinned (OpenSpec.ofChange fnExactSmallOfWrong)

/-- 'laws.FnExactReadNatural': WHATEVER THE INPUT: true; the input reads as it did. -/
def fnExactReadNaturalSpec : ChangeSpec := { name := "fnExactReadNatural", fn := fun _ => fun
  | [d] => { results := [.lit (.bool true)], args := [d] }
  | _ => none }
def fnExactReadNaturalRow : OpenClaim := { program := "ytalmlkdihlhpjab", sum := "8e87b1ccc4c0e454976b524266fc0dafd23125400f68e2fbe7ac58ad6921b66c", func := "loop.example/g01079/laws.FnExactReadNatural", spec := "fnExactReadNatural", apart := false }
def FnExactReadNaturalSaid : Prop := fnExactReadNaturalRow.holds Try.pinned (OpenSpec.ofChange fnExactReadNaturalSpec)

/-- ITS FALSE NEIGHBOUR: 'it returns false'. Refute it at one input. -/
def fnExactReadNaturalWrong : ChangeSpec := { name := "fnExactReadNatural", fn := fun _ => fun
  | [d] => { results := [.lit (.bool false)], args := [d] }
  | _ => none }
def FnExactReadNaturalWrongFalsely : Prop := fnExactReadNaturalRow.holds Try.pinned (OpenSpec.ofChange fnExactReadNaturalWrong)

/-- 'laws.FnExactCompareNaturals': WHATEVER THE INPUT: true; the input reads as it did. -/
def fnExactCompareNaturalsSpec : ChangeSpec := { name := "fnExactCompareNaturals", fn := fun _ => fun
  | [d1, d2] => { results := [.lit (.bool true)], args := [d1, d2] }
  | _ => none }
def fnExactCompareNaturalsRow : OpenClaim := { program := "ytalmlkdihlhpjab", sum := "8e87b1ccc4c0e454976b524266fc0dafd23125400f68e2fbe7ac58ad6921b66c", func := "loop.example/g01079/laws.FnExactCompareNaturals", spec := "fnExactCompareNaturals", unfollowed := true, recurses := true, apart := false }
def FnExactCompareNaturalsSaid : Prop := fnExactCompareNaturalsRow.holds Try.pinned (OpenSpec.ofChange fnExactCompareNaturalsSpec)

/-- ITS FALSE NEIGHBOUR: 'it returns false'. Refute it at one input. -/
def fnExactCompareNaturalsWrong : ChangeSpec := { name := "fnExactCompareNaturals", fn := fun _ => fun
  | [d1, d2] => { results := [.lit (.bool false)], args := [d1, d2] }
  | _ => none }
def FnExactCompareNaturalsWrongFalsely : Prop := fnExactCompareNaturalsRow.holds Try.pinned (OpenSpec.ofChange fnExactCompareNaturalsWrong)

/-- 'laws.FnExactAddNaturals': WHATEVER THE INPUT: true; the input reads as it did. -/
def fnExactAddNaturalsSpec : ChangeSpec := { name := "fnExactAddNaturals", fn := fun _ => fun
  | [d1, d2] => { results := [.lit (.bool true)], args := [d1, d2] }
  | _ => none }
def fnExactAddNaturalsRow : OpenClaim := { program := "ytalmlkdihlhpjab", sum := "8e87b1ccc4c0e454976b524266fc0dafd23125400f68e2fbe7ac58ad6921b66c", func := "loop.example/g01079/laws.FnExactAddNaturals", spec := "fnExactAddNaturals", unfollowed := true, recurses := true, apart := false }
def FnExactAddNaturalsSaid : Prop := fnExactAddNaturalsRow.holds Try.pinned (OpenSpec.ofChange fnExactAddNaturalsSpec)

/-- ITS FALSE NEIGHBOUR: 'it returns false'. Refute it at one input. -/
def fnExactAddNaturalsWrong : ChangeSpec := { name := "fnExactAddNaturals", fn := fun _ => fun
  | [d1, d2] => { results := [.lit (.bool false)], args := [d1, d2] }
  | _ => none }
def FnExactAddNaturalsWrongFalsely : Prop := fnExactAddNaturalsRow.holds Try.pinned (OpenSpec.ofChange fnExactAddNaturalsWrong)

/- THE SECOND FORM. 'bulk': how many values and letters a reading holds, each counted each time it is reached (what is shared counts as often as it is met; a slice's spare places count too). A statement '..UptoSaid' is the law's where the arguments, and the package variables that the reading takes, are together of bulk at most 1048576: NARROWER than '..Said'. Prove '..Said' where nothing that the law and all that it calls make is longer than what came in: it says more and counts as full. Else prove '..UptoSaid'. A law counts once. -/
mutual
def uptoBulk {H : Type} : DataW H → Nat
  | .lit (.string bytes) => bytes.length + 1
  | .lit _ => 1
  | .nil => 1
  | .ptr d => uptoBulk d + 1
  | .slice elems spare => uptoBulkAll elems + uptoBulkAll spare + 1
  | .agg parts => uptoBulkAll parts + 1
  | .iface _ d => uptoBulk d + 1
  | .map entries => uptoBulkEntries entries + 1
  | .held _ => 1
def uptoBulkAll {H : Type} : List (DataW H) → Nat
  | [] => 0
  | d :: r => uptoBulk d + uptoBulkAll r
def uptoBulkEntries {H : Type} : List (Lit × DataW H) → Nat
  | [] => 0
  | x :: r => uptoBulkEntry x + uptoBulkEntries r
def uptoBulkEntry {H : Type} : Lit × DataW H → Nat
  | (.string bytes, d) => bytes.length + uptoBulk d + 1
  | (_, d) => uptoBulk d + 1
 end
def uptoSmall : (H : Type) → List (DataW H) → Bool := fun _ ds => decide (uptoBulkAll ds ≤ 1048576)
def OpenSpec.upto (s : _root_.Go.ChangeSpec) : _root_.Go.OpenSpec := { _root_.Go.OpenSpec.ofChange s with cond := some uptoSmall }

/-- 'laws.FnExactSortList', WHERE WHAT IT READS IS OF BULK AT MOST 1048576: true; the input reads as it did. -/
def fnExactSortListUptoRow : OpenClaim := { program := "ytalmlkdihlhpjab", sum := "8e87b1ccc4c0e454976b524266fc0dafd23125400f68e2fbe7ac58ad6921b66c", func := "loop.example/g01079/laws.FnExactSortList", spec := "fnExactSortList", recurses := true, apart := false, narrowed := true }
def FnExactSortListUptoSaid : Prop := fnExactSortListUptoRow.holds Try.pinned (OpenSpec.upto fnExactSortListSpec)

/-- 'laws.FnExactIsPrime', WHERE WHAT IT READS IS OF BULK AT MOST 1048576: true; the input reads as it did. -/
def fnExactIsPrimeUptoRow : OpenClaim := { program := "ytalmlkdihlhpjab", sum := "8e87b1ccc4c0e454976b524266fc0dafd23125400f68e2fbe7ac58ad6921b66c", func := "loop.example/g01079/laws.FnExactIsPrime", spec := "fnExactIsPrime", apart := false, narrowed := true }
def FnExactIsPrimeUptoSaid : Prop := fnExactIsPrimeUptoRow.holds Try.pinned (OpenSpec.upto fnExactIsPrimeSpec)

/-- 'laws.FnExactPrimeAt', WHERE WHAT IT READS IS OF BULK AT MOST 1048576: true; the input reads as it did. -/
def fnExactPrimeAtUptoRow : OpenClaim := { program := "ytalmlkdihlhpjab", sum := "8e87b1ccc4c0e454976b524266fc0dafd23125400f68e2fbe7ac58ad6921b66c", func := "loop.example/g01079/laws.FnExactPrimeAt", spec := "fnExactPrimeAt", apart := false, narrowed := true }
def FnExactPrimeAtUptoSaid : Prop := fnExactPrimeAtUptoRow.holds Try.pinned (OpenSpec.upto fnExactPrimeAtSpec)

/-- 'laws.FnExactPowerOf', WHERE WHAT IT READS IS OF BULK AT MOST 1048576: true; the input reads as it did. -/
def fnExactPowerOfUptoRow : OpenClaim := { program := "ytalmlkdihlhpjab", sum := "8e87b1ccc4c0e454976b524266fc0dafd23125400f68e2fbe7ac58ad6921b66c", func := "loop.example/g01079/laws.FnExactPowerOf", spec := "fnExactPowerOf", apart := false, narrowed := true }
def FnExactPowerOfUptoSaid : Prop := fnExactPowerOfUptoRow.holds Try.pinned (OpenSpec.upto fnExactPowerOfSpec)

/-- 'laws.FnExactExponentOf', WHERE WHAT IT READS IS OF BULK AT MOST 1048576: true; the input reads as it did. -/
def fnExactExponentOfUptoRow : OpenClaim := { program := "ytalmlkdihlhpjab", sum := "8e87b1ccc4c0e454976b524266fc0dafd23125400f68e2fbe7ac58ad6921b66c", func := "loop.example/g01079/laws.FnExactExponentOf", spec := "fnExactExponentOf", apart := false, narrowed := true }
def FnExactExponentOfUptoSaid : Prop := fnExactExponentOfUptoRow.holds Try.pinned (OpenSpec.upto fnExactExponentOfSpec)

/-- 'laws.FnExactIsNatural', WHERE WHAT IT READS IS OF BULK AT MOST 1048576: true; the input reads as it did. -/
def fnExactIsNaturalUptoRow : OpenClaim := { program := "ytalmlkdihlhpjab", sum := "8e87b1ccc4c0e454976b524266fc0dafd23125400f68e2fbe7ac58ad6921b66c", func := "loop.example/g01079/laws.FnExactIsNatural", spec := "fnExactIsNatural", unfollowed := true, recurses := true, apart := false, narrowed := true }
def FnExactIsNaturalUptoSaid : Prop := fnExactIsNaturalUptoRow.holds Try.pinned (OpenSpec.upto fnExactIsNaturalSpec)

/-- 'laws.FnExactNaturalOf', WHERE WHAT IT READS IS OF BULK AT MOST 1048576: true; the input reads as it did. -/
def fnExactNaturalOfUptoRow : OpenClaim := { program := "ytalmlkdihlhpjab", sum := "8e87b1ccc4c0e454976b524266fc0dafd23125400f68e2fbe7ac58ad6921b66c", func := "loop.example/g01079/laws.FnExactNaturalOf", spec := "fnExactNaturalOf", apart := false, narrowed := true }
def FnExactNaturalOfUptoSaid : Prop := fnExactNaturalOfUptoRow.holds Try.pinned (OpenSpec.upto fnExactNaturalOfSpec)

/-- 'laws.FnExactSmallOf', WHERE WHAT IT READS IS OF BULK AT MOST 1048576: true; the input reads as it did. -/
def fnExactSmallOfUptoRow : OpenClaim := { program := "ytalmlkdihlhpjab", sum := "8e87b1ccc4c0e454976b524266fc0dafd23125400f68e2fbe7ac58ad6921b66c", func := "loop.example/g01079/laws.FnExactSmallOf", spec := "fnExactSmallOf", unfollowed := true, recurses := true, apart := false, narrowed := true }
def FnExactSmallOfUptoSaid : Prop := fnExactSmallOfUptoRow.holds Try.pinned (OpenSpec.upto fnExactSmallOfSpec)

/-- 'laws.FnExactReadNatural', WHERE WHAT IT READS IS OF BULK AT MOST 1048576: true; the input reads as it did. -/
def fnExactReadNaturalUptoRow : OpenClaim := { program := "ytalmlkdihlhpjab", sum := "8e87b1ccc4c0e454976b524266fc0dafd23125400f68e2fbe7ac58ad6921b66c", func := "loop.example/g01079/laws.FnExactReadNatural", spec := "fnExactReadNatural", apart := false, narrowed := true }
def FnExactReadNaturalUptoSaid : Prop := fnExactReadNaturalUptoRow.holds Try.pinned (OpenSpec.upto fnExactReadNaturalSpec)

/-- 'laws.FnExactCompareNaturals', WHERE WHAT IT READS IS OF BULK AT MOST 1048576: true; the input reads as it did. -/
def fnExactCompareNaturalsUptoRow : OpenClaim := { program := "ytalmlkdihlhpjab", sum := "8e87b1ccc4c0e454976b524266fc0dafd23125400f68e2fbe7ac58ad6921b66c", func := "loop.example/g01079/laws.FnExactCompareNaturals", spec := "fnExactCompareNaturals", unfollowed := true, recurses := true, apart := false, narrowed := true }
def FnExactCompareNaturalsUptoSaid : Prop := fnExactCompareNaturalsUptoRow.holds Try.pinned (OpenSpec.upto fnExactCompareNaturalsSpec)

/-- 'laws.FnExactAddNaturals', WHERE WHAT IT READS IS OF BULK AT MOST 1048576: true; the input reads as it did. -/
def fnExactAddNaturalsUptoRow : OpenClaim := { program := "ytalmlkdihlhpjab", sum := "8e87b1ccc4c0e454976b524266fc0dafd23125400f68e2fbe7ac58ad6921b66c", func := "loop.example/g01079/laws.FnExactAddNaturals", spec := "fnExactAddNaturals", unfollowed := true, recurses := true, apart := false, narrowed := true }
def FnExactAddNaturalsUptoSaid : Prop := fnExactAddNaturalsUptoRow.holds Try.pinned (OpenSpec.upto fnExactAddNaturalsSpec)

end Rows
end Go.Proofs.Ytalmlkdihlhpjab
