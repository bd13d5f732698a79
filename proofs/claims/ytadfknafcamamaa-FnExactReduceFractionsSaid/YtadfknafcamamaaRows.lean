/-
  No cell of these rows narrows 'for every input' (looked for: loops, veiled, ifaces, maps, wideKeys, modest, calm, conditions, laid).
  DERIVED. THE GIVEN ROWS OF THIS SEAT. 6 by the template 'for every input the law returns true; each argument reads behind the call as it read before'; 0 by the template 'total and deterministic' (their statements: YtadfknafcamamaaTotals.lean).
  GIVEN WITH THE SEED: the statements are not yours to turn. If you find one false, say at which input.
  Laid BY PROGRAM, IN A SANDBOX (cutbox-rows.mjs): the forced cells as the released guide's own fill.sh prints them over the translation 1fac6d4e3b4f9f54… (all of the seat's roots in one cut). By AI agents, Wed Nov 11 2026. No macro, syntax, notation, axiom, sorry.
-/
import Derived.Test.YtadfknafcamamaaChecked
import GoSem.Claim
import GoSem.ClaimJoined
import GoSem.ClaimMapViews
import Derived.JoinedTies
import Derived.KernelRfl
namespace Go.Proofs.Ytadfknafcamamaa
/- THE CELL 'sum', in the pinned program and in every row, IS THE sha256 OF THE DUMP (.gsa) THAT YtadfknafcamamaaProg.lean LOADS. Nothing in Lean hashes anything: it is a label: what it is worth is what the hold of that sum in a sandbox is worth. -/
noncomputable def Try.pinned : Pinned := { name := "ytadfknafcamamaa", sum := "1fac6d4e3b4f9f5425fc8a172e4b9930bdf37d9df84163af755645a503e8d160", checked := Try.checked }
namespace Rows
def none {H : Type} : Left H := { results := [], args := [] }

/-- 'laws.FnExactIsTwoCounter': WHATEVER THE INPUT: true; the input reads as it did. -/
def fnExactIsTwoCounterSpec : ChangeSpec := { name := "fnExactIsTwoCounter", fn := fun _ => fun
  | [d] => { results := [.lit (.bool true)], args := [d] }
  | _ => none }
def fnExactIsTwoCounterRow : OpenClaim := { program := "ytadfknafcamamaa", sum := "1fac6d4e3b4f9f5425fc8a172e4b9930bdf37d9df84163af755645a503e8d160", func := "loop.example/g01079/laws.FnExactIsTwoCounter", spec := "fnExactIsTwoCounter", unfollowed := true, recurses := true, apart := false }
def FnExactIsTwoCounterSaid : Prop := fnExactIsTwoCounterRow.holds Try.pinned (OpenSpec.ofChange fnExactIsTwoCounterSpec)

/-- ITS FALSE NEIGHBOUR: 'it returns false'. Refute it at one input. -/
def fnExactIsTwoCounterWrong : ChangeSpec := { name := "fnExactIsTwoCounter", fn := fun _ => fun
  | [d] => { results := [.lit (.bool false)], args := [d] }
  | _ => none }
def FnExactIsTwoCounterWrongFalsely : Prop := fnExactIsTwoCounterRow.holds Try.pinned (OpenSpec.ofChange fnExactIsTwoCounterWrong)

/-- 'laws.FnExactValidFractions': WHATEVER THE INPUT: true; the input reads as it did. -/
def fnExactValidFractionsSpec : ChangeSpec := { name := "fnExactValidFractions", fn := fun _ => fun
  | [d] => { results := [.lit (.bool true)], args := [d] }
  | _ => none }
def fnExactValidFractionsRow : OpenClaim := { program := "ytadfknafcamamaa", sum := "1fac6d4e3b4f9f5425fc8a172e4b9930bdf37d9df84163af755645a503e8d160", func := "loop.example/g01079/laws.FnExactValidFractions", spec := "fnExactValidFractions", unfollowed := true, recurses := true, apart := false }
def FnExactValidFractionsSaid : Prop := fnExactValidFractionsRow.holds Try.pinned (OpenSpec.ofChange fnExactValidFractionsSpec)

/-- ITS FALSE NEIGHBOUR: 'it returns false'. Refute it at one input. -/
def fnExactValidFractionsWrong : ChangeSpec := { name := "fnExactValidFractions", fn := fun _ => fun
  | [d] => { results := [.lit (.bool false)], args := [d] }
  | _ => none }
def FnExactValidFractionsWrongFalsely : Prop := fnExactValidFractionsRow.holds Try.pinned (OpenSpec.ofChange fnExactValidFractionsWrong)

/-- 'laws.FnExactReduceFractions': WHATEVER THE INPUT: true; the input reads as it did. -/
def fnExactReduceFractionsSpec : ChangeSpec := { name := "fnExactReduceFractions", fn := fun _ => fun
  | [d] => { results := [.lit (.bool true)], args := [d] }
  | _ => none }
def fnExactReduceFractionsRow : OpenClaim := { program := "ytadfknafcamamaa", sum := "1fac6d4e3b4f9f5425fc8a172e4b9930bdf37d9df84163af755645a503e8d160", func := "loop.example/g01079/laws.FnExactReduceFractions", spec := "fnExactReduceFractions", unfollowed := true, recurses := true, apart := false }
def FnExactReduceFractionsSaid : Prop := fnExactReduceFractionsRow.holds Try.pinned (OpenSpec.ofChange fnExactReduceFractionsSpec)

/-- ITS FALSE NEIGHBOUR: 'it returns false'. Refute it at one input. -/
def fnExactReduceFractionsWrong : ChangeSpec := { name := "fnExactReduceFractions", fn := fun _ => fun
  | [d] => { results := [.lit (.bool false)], args := [d] }
  | _ => none }
def FnExactReduceFractionsWrongFalsely : Prop := fnExactReduceFractionsRow.holds Try.pinned (OpenSpec.ofChange fnExactReduceFractionsWrong)

/-- 'laws.FnExactFractionPrimes': WHATEVER THE INPUT: true; the input reads as it did. -/
def fnExactFractionPrimesSpec : ChangeSpec := { name := "fnExactFractionPrimes", fn := fun _ => fun
  | [d] => { results := [.lit (.bool true)], args := [d] }
  | _ => none }
def fnExactFractionPrimesRow : OpenClaim := { program := "ytadfknafcamamaa", sum := "1fac6d4e3b4f9f5425fc8a172e4b9930bdf37d9df84163af755645a503e8d160", func := "loop.example/g01079/laws.FnExactFractionPrimes", spec := "fnExactFractionPrimes", unfollowed := true, recurses := true, apart := false }
def FnExactFractionPrimesSaid : Prop := fnExactFractionPrimesRow.holds Try.pinned (OpenSpec.ofChange fnExactFractionPrimesSpec)

/-- ITS FALSE NEIGHBOUR: 'it returns false'. Refute it at one input. -/
def fnExactFractionPrimesWrong : ChangeSpec := { name := "fnExactFractionPrimes", fn := fun _ => fun
  | [d] => { results := [.lit (.bool false)], args := [d] }
  | _ => none }
def FnExactFractionPrimesWrongFalsely : Prop := fnExactFractionPrimesRow.holds Try.pinned (OpenSpec.ofChange fnExactFractionPrimesWrong)

/-- 'laws.FnExactPruneProgram': WHATEVER THE INPUT: true; the input reads as it did. -/
def fnExactPruneProgramSpec : ChangeSpec := { name := "fnExactPruneProgram", fn := fun _ => fun
  | [d] => { results := [.lit (.bool true)], args := [d] }
  | _ => none }
def fnExactPruneProgramRow : OpenClaim := { program := "ytadfknafcamamaa", sum := "1fac6d4e3b4f9f5425fc8a172e4b9930bdf37d9df84163af755645a503e8d160", func := "loop.example/g01079/laws.FnExactPruneProgram", spec := "fnExactPruneProgram", unfollowed := true, recurses := true, apart := false }
def FnExactPruneProgramSaid : Prop := fnExactPruneProgramRow.holds Try.pinned (OpenSpec.ofChange fnExactPruneProgramSpec)

/-- ITS FALSE NEIGHBOUR: 'it returns false'. Refute it at one input. -/
def fnExactPruneProgramWrong : ChangeSpec := { name := "fnExactPruneProgram", fn := fun _ => fun
  | [d] => { results := [.lit (.bool false)], args := [d] }
  | _ => none }
def FnExactPruneProgramWrongFalsely : Prop := fnExactPruneProgramRow.holds Try.pinned (OpenSpec.ofChange fnExactPruneProgramWrong)

/-- 'laws.FnExactExponentsAt': WHATEVER THE INPUT: true; the input reads as it did. -/
def fnExactExponentsAtSpec : ChangeSpec := { name := "fnExactExponentsAt", fn := fun _ => fun
  | [d1, d2] => { results := [.lit (.bool true)], args := [d1, d2] }
  | _ => none }
def fnExactExponentsAtRow : OpenClaim := { program := "ytadfknafcamamaa", sum := "1fac6d4e3b4f9f5425fc8a172e4b9930bdf37d9df84163af755645a503e8d160", func := "loop.example/g01079/laws.FnExactExponentsAt", spec := "fnExactExponentsAt", unfollowed := true, recurses := true, apart := false }
def FnExactExponentsAtSaid : Prop := fnExactExponentsAtRow.holds Try.pinned (OpenSpec.ofChange fnExactExponentsAtSpec)

/-- ITS FALSE NEIGHBOUR: 'it returns false'. Refute it at one input. -/
def fnExactExponentsAtWrong : ChangeSpec := { name := "fnExactExponentsAt", fn := fun _ => fun
  | [d1, d2] => { results := [.lit (.bool false)], args := [d1, d2] }
  | _ => none }
def FnExactExponentsAtWrongFalsely : Prop := fnExactExponentsAtRow.holds Try.pinned (OpenSpec.ofChange fnExactExponentsAtWrong)

/- THE SECOND FORM. 'bulk': how many values and letters a reading holds, each counted each time it is reached (what is shared counts as often as it is met; a slice's spare places count too). A statement '..UptoSaid' is the law's where the arguments, and the package variables that the reading takes, are together of bulk at most 1048576: NARROWER than '..Said'. Prove '..Said' where nothing that the law and all that it calls make is longer than what came in: it says more and counts as full. Else prove '..UptoSaid'. A law counts once. -/
mutual
def uptoBulk {H : Type} : DataW H → Nat
  | .lit (.string bytes) => bytes.length + 1
  | .lit _ => 1
  | .nil => 1
  | .ptr d => uptoBulk d + 1
  | .slice elems spare => uptoBulkAll elems + uptoBulkAll spare + 1
  | .agg parts => uptoBulkAll parts + 1
  | .iface _ d => uptoBulk d + 1
  | .map entries => uptoBulkEntries entries + 1
  | .held _ => 1
def uptoBulkAll {H : Type} : List (DataW H) → Nat
  | [] => 0
  | d :: r => uptoBulk d + uptoBulkAll r
def uptoBulkEntries {H : Type} : List (Lit × DataW H) → Nat
  | [] => 0
  | x :: r => uptoBulkEntry x + uptoBulkEntries r
def uptoBulkEntry {H : Type} : Lit × DataW H → Nat
  | (.string bytes, d) => bytes.length + uptoBulk d + 1
  | (_, d) => uptoBulk d + 1
 end
def uptoSmall : (H : Type) → List (DataW H) → Bool := fun _ ds => decide (uptoBulkAll ds ≤ 1048576)
def OpenSpec.upto (s : _root_.Go.ChangeSpec) : _root_.Go.OpenSpec := { _root_.Go.OpenSpec.ofChange s with cond := some uptoSmall }

/-- 'laws.FnExactIsTwoCounter', WHERE WHAT IT READS IS OF BULK AT MOST 1048576: true; the input reads as it did. -/
def fnExactIsTwoCounterUptoRow : OpenClaim := { program := "ytadfknafcamamaa", sum := "1fac6d4e3b4f9f5425fc8a172e4b9930bdf37d9df84163af755645a503e8d160", func := "loop.example/g01079/laws.FnExactIsTwoCounter", spec := "fnExactIsTwoCounter", unfollowed := true, recurses := true, apart := false, narrowed := true }
def FnExactIsTwoCounterUptoSaid : Prop := fnExactIsTwoCounterUptoRow.holds Try.pinned (OpenSpec.upto fnExactIsTwoCounterSpec)

/-- 'laws.FnExactValidFractions', WHERE WHAT IT READS IS OF BULK AT MOST 1048576: true; the input reads as it did. -/
def fnExactValidFractionsUptoRow : OpenClaim := { program := "ytadfknafcamamaa", sum := "1fac6d4e3b4f9f5425fc8a172e4b9930bdf37d9df84163af755645a503e8d160", func := "loop.example/g01079/laws.FnExactValidFractions", spec := "fnExactValidFractions", unfollowed := true, recurses := true, apart := false, narrowed := true }
def FnExactValidFractionsUptoSaid : Prop := fnExactValidFractionsUptoRow.holds Try.pinned (OpenSpec.upto fnExactValidFractionsSpec)

/-- 'laws.FnExactReduceFractions', WHERE WHAT IT READS IS OF BULK AT MOST 1048576: true; the input reads as it did. -/
def fnExactReduceFractionsUptoRow : OpenClaim := { program := "ytadfknafcamamaa", sum := "1fac6d4e3b4f9f5425fc8a172e4b9930bdf37d9df84163af755645a503e8d160", func := "loop.example/g01079/laws.FnExactReduceFractions", spec := "fnExactReduceFractions", unfollowed := true, recurses := true, apart := false, narrowed := true }
def FnExactReduceFractionsUptoSaid : Prop := fnExactReduceFractionsUptoRow.holds Try.pinned (OpenSpec.upto fnExactReduceFractionsSpec)

/-- 'laws.FnExactFractionPrimes', WHERE WHAT IT READS IS OF BULK AT MOST 1048576: true; the input reads as it did. -/
def fnExactFractionPrimesUptoRow : OpenClaim := { program := "ytadfknafcamamaa", sum := "1fac6d4e3b4f9f5425fc8a172e4b9930bdf37d9df84163af755645a503e8d160", func := "loop.example/g01079/laws.FnExactFractionPrimes", spec := "fnExactFractionPrimes", unfollowed := true, recurses := true, apart := false, narrowed := true }
def FnExactFractionPrimesUptoSaid : Prop := fnExactFractionPrimesUptoRow.holds Try.pinned (OpenSpec.upto fnExactFractionPrimesSpec)

/-- 'laws.FnExactPruneProgram', WHERE WHAT IT READS IS OF BULK AT MOST 1048576: true; the input reads as it did. -/
def fnExactPruneProgramUptoRow : OpenClaim := { program := "ytadfknafcamamaa", sum := "1fac6d4e3b4f9f5425fc8a172e4b9930bdf37d9df84163af755645a503e8d160", func := "loop.example/g01079/laws.FnExactPruneProgram", spec := "fnExactPruneProgram", unfollowed := true, recurses := true, apart := false, narrowed := true }
def FnExactPruneProgramUptoSaid : Prop := fnExactPruneProgramUptoRow.holds Try.pinned (OpenSpec.upto fnExactPruneProgramSpec)

/-- 'laws.FnExactExponentsAt', WHERE WHAT IT READS IS OF BULK AT MOST 1048576: true; the input reads as it did. -/
def fnExactExponentsAtUptoRow : OpenClaim := { program := "ytadfknafcamamaa", sum := "1fac6d4e3b4f9f5425fc8a172e4b9930bdf37d9df84163af755645a503e8d160", func := "loop.example/g01079/laws.FnExactExponentsAt", spec := "fnExactExponentsAt", unfollowed := true, recurses := true, apart := false, narrowed := true }
def FnExactExponentsAtUptoSaid : Prop := fnExactExponentsAtUptoRow.holds Try.pinned (OpenSpec.upto fnExactExponentsAtSpec)

end Rows
end Go.Proofs.Ytadfknafcamamaa
