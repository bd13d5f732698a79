/-
  No cell of these rows narrows 'for every input' (looked for: loops, veiled, ifaces, maps, wideKeys, modest, calm, conditions, laid).
  DERIVED. THE GIVEN ROWS OF THIS SEAT. 12 by the template 'for every input the law returns true; each argument reads behind the call as it read before'; 0 by the template 'total and deterministic' (their statements: YtepdjlhlcjkdkaaTotals.lean).
  GIVEN WITH THE SEED: the statements are not yours to turn. If you find one false, say at which input.
  Laid BY PROGRAM, IN A SANDBOX (cutbox-rows.mjs): the forced cells as the released guide's own fill.sh prints them over the translation 086094895d78a15f… (all of the seat's roots in one cut). By AI agents, Wed Nov 11 2026. No macro, syntax, notation, axiom, sorry.
-/
import Derived.Test.YtepdjlhlcjkdkaaChecked
import GoSem.Claim
import GoSem.ClaimJoined
import GoSem.ClaimMapViews
import Derived.JoinedTies
import Derived.KernelRfl
namespace Go.Proofs.Ytepdjlhlcjkdkaa
/- THE CELL 'sum', in the pinned program and in every row, IS THE sha256 OF THE DUMP (.gsa) THAT YtepdjlhlcjkdkaaProg.lean LOADS. Nothing in Lean hashes anything: it is a label: what it is worth is what the hold of that sum in a sandbox is worth. -/
noncomputable def Try.pinned : Pinned := { name := "ytepdjlhlcjkdkaa", sum := "086094895d78a15f5ea36fb82cbee947a9749315851430c5d623d61a24adcc06", checked := Try.checked }
namespace Rows
def none {H : Type} : Left H := { results := [], args := [] }

/-- 'laws.FnExactValidMultiConfig': WHATEVER THE INPUT: true; the input reads as it did. -/
def fnExactValidMultiConfigSpec : ChangeSpec := { name := "fnExactValidMultiConfig", fn := fun _ => fun
  | [d1, d2] => { results := [.lit (.bool true)], args := [d1, d2] }
  | _ => none }
def fnExactValidMultiConfigRow : OpenClaim := { program := "ytepdjlhlcjkdkaa", sum := "086094895d78a15f5ea36fb82cbee947a9749315851430c5d623d61a24adcc06", func := "loop.example/g01079/laws.FnExactValidMultiConfig", spec := "fnExactValidMultiConfig", unfollowed := true, recurses := true, plainKeys := false, apart := false }
def FnExactValidMultiConfigSaid : Prop := fnExactValidMultiConfigRow.holds Try.pinned (OpenSpec.ofChange fnExactValidMultiConfigSpec)

/-- ITS FALSE NEIGHBOUR: 'it returns false'. Refute it at one input. -/
def fnExactValidMultiConfigWrong : ChangeSpec := { name := "fnExactValidMultiConfig", fn := fun _ => fun
  | [d1, d2] => { results := [.lit (.bool false)], args := [d1, d2] }
  | _ => none }
def FnExactValidMultiConfigWrongFalsely : Prop := fnExactValidMultiConfigRow.holds Try.pinned (OpenSpec.ofChange fnExactValidMultiConfigWrong)

/-- 'laws.FnExactStartMulti': WHATEVER THE INPUT: true; the input reads as it did. -/
def fnExactStartMultiSpec : ChangeSpec := { name := "fnExactStartMulti", fn := fun _ => fun
  | [d1, d2] => { results := [.lit (.bool true)], args := [d1, d2] }
  | _ => none }
def fnExactStartMultiRow : OpenClaim := { program := "ytepdjlhlcjkdkaa", sum := "086094895d78a15f5ea36fb82cbee947a9749315851430c5d623d61a24adcc06", func := "loop.example/g01079/laws.FnExactStartMulti", spec := "fnExactStartMulti", unfollowed := true, recurses := true, plainKeys := false, apart := false }
def FnExactStartMultiSaid : Prop := fnExactStartMultiRow.holds Try.pinned (OpenSpec.ofChange fnExactStartMultiSpec)

/-- ITS FALSE NEIGHBOUR: 'it returns false'. Refute it at one input. -/
def fnExactStartMultiWrong : ChangeSpec := { name := "fnExactStartMulti", fn := fun _ => fun
  | [d1, d2] => { results := [.lit (.bool false)], args := [d1, d2] }
  | _ => none }
def FnExactStartMultiWrongFalsely : Prop := fnExactStartMultiRow.holds Try.pinned (OpenSpec.ofChange fnExactStartMultiWrong)

/-- 'laws.FnExactHaltingReads': WHATEVER THE INPUT: true; the input reads as it did. -/
def fnExactHaltingReadsSpec : ChangeSpec := { name := "fnExactHaltingReads", fn := fun _ => fun
  | [d1, d2] => { results := [.lit (.bool true)], args := [d1, d2] }
  | _ => none }
def fnExactHaltingReadsRow : OpenClaim := { program := "ytepdjlhlcjkdkaa", sum := "086094895d78a15f5ea36fb82cbee947a9749315851430c5d623d61a24adcc06", func := "loop.example/g01079/laws.FnExactHaltingReads", spec := "fnExactHaltingReads", unfollowed := true, recurses := true, plainKeys := false, apart := false }
def FnExactHaltingReadsSaid : Prop := fnExactHaltingReadsRow.holds Try.pinned (OpenSpec.ofChange fnExactHaltingReadsSpec)

/-- ITS FALSE NEIGHBOUR: 'it returns false'. Refute it at one input. -/
def fnExactHaltingReadsWrong : ChangeSpec := { name := "fnExactHaltingReads", fn := fun _ => fun
  | [d1, d2] => { results := [.lit (.bool false)], args := [d1, d2] }
  | _ => none }
def FnExactHaltingReadsWrongFalsely : Prop := fnExactHaltingReadsRow.holds Try.pinned (OpenSpec.ofChange fnExactHaltingReadsWrong)

/-- 'laws.FnExactCopyMulti': WHATEVER THE INPUT: true; the input reads as it did. -/
def fnExactCopyMultiSpec : ChangeSpec := { name := "fnExactCopyMulti", fn := fun _ => fun
  | [d] => { results := [.lit (.bool true)], args := [d] }
  | _ => none }
def fnExactCopyMultiRow : OpenClaim := { program := "ytepdjlhlcjkdkaa", sum := "086094895d78a15f5ea36fb82cbee947a9749315851430c5d623d61a24adcc06", func := "loop.example/g01079/laws.FnExactCopyMulti", spec := "fnExactCopyMulti", plainKeys := false, apart := false }
def FnExactCopyMultiSaid : Prop := fnExactCopyMultiRow.holds Try.pinned (OpenSpec.ofChange fnExactCopyMultiSpec)

/-- ITS FALSE NEIGHBOUR: 'it returns false'. Refute it at one input. -/
def fnExactCopyMultiWrong : ChangeSpec := { name := "fnExactCopyMulti", fn := fun _ => fun
  | [d] => { results := [.lit (.bool false)], args := [d] }
  | _ => none }
def FnExactCopyMultiWrongFalsely : Prop := fnExactCopyMultiRow.holds Try.pinned (OpenSpec.ofChange fnExactCopyMultiWrong)

/-- 'laws.FnExactPalindromeMulti': WHATEVER THE INPUT: true; the input reads as it did. -/
def fnExactPalindromeMultiSpec : ChangeSpec := { name := "fnExactPalindromeMulti", fn := fun _ => fun
  | [d] => { results := [.lit (.bool true)], args := [d] }
  | _ => none }
def fnExactPalindromeMultiRow : OpenClaim := { program := "ytepdjlhlcjkdkaa", sum := "086094895d78a15f5ea36fb82cbee947a9749315851430c5d623d61a24adcc06", func := "loop.example/g01079/laws.FnExactPalindromeMulti", spec := "fnExactPalindromeMulti", unfollowed := true, recurses := true, plainKeys := false, apart := false }
def FnExactPalindromeMultiSaid : Prop := fnExactPalindromeMultiRow.holds Try.pinned (OpenSpec.ofChange fnExactPalindromeMultiSpec)

/-- ITS FALSE NEIGHBOUR: 'it returns false'. Refute it at one input. -/
def fnExactPalindromeMultiWrong : ChangeSpec := { name := "fnExactPalindromeMulti", fn := fun _ => fun
  | [d] => { results := [.lit (.bool false)], args := [d] }
  | _ => none }
def FnExactPalindromeMultiWrongFalsely : Prop := fnExactPalindromeMultiRow.holds Try.pinned (OpenSpec.ofChange fnExactPalindromeMultiWrong)

/-- 'laws.FnExactMultiRuleAt': WHATEVER THE INPUT: true; the input reads as it did. -/
def fnExactMultiRuleAtSpec : ChangeSpec := { name := "fnExactMultiRuleAt", fn := fun _ => fun
  | [d1, d2] => { results := [.lit (.bool true)], args := [d1, d2] }
  | _ => none }
def fnExactMultiRuleAtRow : OpenClaim := { program := "ytepdjlhlcjkdkaa", sum := "086094895d78a15f5ea36fb82cbee947a9749315851430c5d623d61a24adcc06", func := "loop.example/g01079/laws.FnExactMultiRuleAt", spec := "fnExactMultiRuleAt", unfollowed := true, recurses := true, plainKeys := false, apart := false }
def FnExactMultiRuleAtSaid : Prop := fnExactMultiRuleAtRow.holds Try.pinned (OpenSpec.ofChange fnExactMultiRuleAtSpec)

/-- ITS FALSE NEIGHBOUR: 'it returns false'. Refute it at one input. -/
def fnExactMultiRuleAtWrong : ChangeSpec := { name := "fnExactMultiRuleAt", fn := fun _ => fun
  | [d1, d2] => { results := [.lit (.bool false)], args := [d1, d2] }
  | _ => none }
def FnExactMultiRuleAtWrongFalsely : Prop := fnExactMultiRuleAtRow.holds Try.pinned (OpenSpec.ofChange fnExactMultiRuleAtWrong)

/-- 'laws.FnExactPermuteTapes': WHATEVER THE INPUT: true; the input reads as it did. -/
def fnExactPermuteTapesSpec : ChangeSpec := { name := "fnExactPermuteTapes", fn := fun _ => fun
  | [d1, d2] => { results := [.lit (.bool true)], args := [d1, d2] }
  | _ => none }
def fnExactPermuteTapesRow : OpenClaim := { program := "ytepdjlhlcjkdkaa", sum := "086094895d78a15f5ea36fb82cbee947a9749315851430c5d623d61a24adcc06", func := "loop.example/g01079/laws.FnExactPermuteTapes", spec := "fnExactPermuteTapes", unfollowed := true, recurses := true, plainKeys := false, apart := false }
def FnExactPermuteTapesSaid : Prop := fnExactPermuteTapesRow.holds Try.pinned (OpenSpec.ofChange fnExactPermuteTapesSpec)

/-- ITS FALSE NEIGHBOUR: 'it returns false'. Refute it at one input. -/
def fnExactPermuteTapesWrong : ChangeSpec := { name := "fnExactPermuteTapes", fn := fun _ => fun
  | [d1, d2] => { results := [.lit (.bool false)], args := [d1, d2] }
  | _ => none }
def FnExactPermuteTapesWrongFalsely : Prop := fnExactPermuteTapesRow.holds Try.pinned (OpenSpec.ofChange fnExactPermuteTapesWrong)

/-- 'laws.FnExactSequenceMulti': WHATEVER THE INPUT: true; the input reads as it did. -/
def fnExactSequenceMultiSpec : ChangeSpec := { name := "fnExactSequenceMulti", fn := fun _ => fun
  | [d1, d2] => { results := [.lit (.bool true)], args := [d1, d2] }
  | _ => none }
def fnExactSequenceMultiRow : OpenClaim := { program := "ytepdjlhlcjkdkaa", sum := "086094895d78a15f5ea36fb82cbee947a9749315851430c5d623d61a24adcc06", func := "loop.example/g01079/laws.FnExactSequenceMulti", spec := "fnExactSequenceMulti", unfollowed := true, recurses := true, plainKeys := false, apart := false }
def FnExactSequenceMultiSaid : Prop := fnExactSequenceMultiRow.holds Try.pinned (OpenSpec.ofChange fnExactSequenceMultiSpec)

/-- ITS FALSE NEIGHBOUR: 'it returns false'. Refute it at one input. -/
def fnExactSequenceMultiWrong : ChangeSpec := { name := "fnExactSequenceMulti", fn := fun _ => fun
  | [d1, d2] => { results := [.lit (.bool false)], args := [d1, d2] }
  | _ => none }
def FnExactSequenceMultiWrongFalsely : Prop := fnExactSequenceMultiRow.holds Try.pinned (OpenSpec.ofChange fnExactSequenceMultiWrong)

/-- 'laws.FnExactSortList': WHATEVER THE INPUT: true; the input reads as it did. -/
def fnExactSortListSpec : ChangeSpec := { name := "fnExactSortList", fn := fun _ => fun
  | [d] => { results := [.lit (.bool true)], args := [d] }
  | _ => none }
def fnExactSortListRow : OpenClaim := { program := "ytepdjlhlcjkdkaa", sum := "086094895d78a15f5ea36fb82cbee947a9749315851430c5d623d61a24adcc06", func := "loop.example/g01079/laws.FnExactSortList", spec := "fnExactSortList", recurses := true, plainKeys := false, apart := false }
def FnExactSortListSaid : Prop := fnExactSortListRow.holds Try.pinned (OpenSpec.ofChange fnExactSortListSpec)

/-- ITS FALSE NEIGHBOUR: 'it returns false'. Refute it at one input. -/
def fnExactSortListWrong : ChangeSpec := { name := "fnExactSortList", fn := fun _ => fun
  | [d] => { results := [.lit (.bool false)], args := [d] }
  | _ => none }
def FnExactSortListWrongFalsely : Prop := fnExactSortListRow.holds Try.pinned (OpenSpec.ofChange fnExactSortListWrong)

/-- 'laws.FnExactDivideNaturals': WHATEVER THE INPUT: true; the input reads as it did. -/
def fnExactDivideNaturalsSpec : ChangeSpec := { name := "fnExactDivideNaturals", fn := fun _ => fun
  | [d1, d2] => { results := [.lit (.bool true)], args := [d1, d2] }
  | _ => none }
def fnExactDivideNaturalsRow : OpenClaim := { program := "ytepdjlhlcjkdkaa", sum := "086094895d78a15f5ea36fb82cbee947a9749315851430c5d623d61a24adcc06", func := "loop.example/g01079/laws.FnExactDivideNaturals", spec := "fnExactDivideNaturals", unfollowed := true, recurses := true, plainKeys := false, apart := false }
def FnExactDivideNaturalsSaid : Prop := fnExactDivideNaturalsRow.holds Try.pinned (OpenSpec.ofChange fnExactDivideNaturalsSpec)

/-- ITS FALSE NEIGHBOUR: 'it returns false'. Refute it at one input. -/
def fnExactDivideNaturalsWrong : ChangeSpec := { name := "fnExactDivideNaturals", fn := fun _ => fun
  | [d1, d2] => { results := [.lit (.bool false)], args := [d1, d2] }
  | _ => none }
def FnExactDivideNaturalsWrongFalsely : Prop := fnExactDivideNaturalsRow.holds Try.pinned (OpenSpec.ofChange fnExactDivideNaturalsWrong)

/-- 'laws.FnExactGcdNaturals': WHATEVER THE INPUT: true; the input reads as it did. -/
def fnExactGcdNaturalsSpec : ChangeSpec := { name := "fnExactGcdNaturals", fn := fun _ => fun
  | [d1, d2] => { results := [.lit (.bool true)], args := [d1, d2] }
  | _ => none }
def fnExactGcdNaturalsRow : OpenClaim := { program := "ytepdjlhlcjkdkaa", sum := "086094895d78a15f5ea36fb82cbee947a9749315851430c5d623d61a24adcc06", func := "loop.example/g01079/laws.FnExactGcdNaturals", spec := "fnExactGcdNaturals", unfollowed := true, recurses := true, plainKeys := false, apart := false }
def FnExactGcdNaturalsSaid : Prop := fnExactGcdNaturalsRow.holds Try.pinned (OpenSpec.ofChange fnExactGcdNaturalsSpec)

/-- ITS FALSE NEIGHBOUR: 'it returns false'. Refute it at one input. -/
def fnExactGcdNaturalsWrong : ChangeSpec := { name := "fnExactGcdNaturals", fn := fun _ => fun
  | [d1, d2] => { results := [.lit (.bool false)], args := [d1, d2] }
  | _ => none }
def FnExactGcdNaturalsWrongFalsely : Prop := fnExactGcdNaturalsRow.holds Try.pinned (OpenSpec.ofChange fnExactGcdNaturalsWrong)

/-- 'laws.FnExactRootNatural': WHATEVER THE INPUT: true; the input reads as it did. -/
def fnExactRootNaturalSpec : ChangeSpec := { name := "fnExactRootNatural", fn := fun _ => fun
  | [d] => { results := [.lit (.bool true)], args := [d] }
  | _ => none }
def fnExactRootNaturalRow : OpenClaim := { program := "ytepdjlhlcjkdkaa", sum := "086094895d78a15f5ea36fb82cbee947a9749315851430c5d623d61a24adcc06", func := "loop.example/g01079/laws.FnExactRootNatural", spec := "fnExactRootNatural", unfollowed := true, recurses := true, plainKeys := false, apart := false }
def FnExactRootNaturalSaid : Prop := fnExactRootNaturalRow.holds Try.pinned (OpenSpec.ofChange fnExactRootNaturalSpec)

/-- ITS FALSE NEIGHBOUR: 'it returns false'. Refute it at one input. -/
def fnExactRootNaturalWrong : ChangeSpec := { name := "fnExactRootNatural", fn := fun _ => fun
  | [d] => { results := [.lit (.bool false)], args := [d] }
  | _ => none }
def FnExactRootNaturalWrongFalsely : Prop := fnExactRootNaturalRow.holds Try.pinned (OpenSpec.ofChange fnExactRootNaturalWrong)

/- THE SECOND FORM. 'bulk': how many values and letters a reading holds, each counted each time it is reached (what is shared counts as often as it is met; a slice's spare places count too). A statement '..UptoSaid' is the law's where the arguments, and the package variables that the reading takes, are together of bulk at most 1048576: NARROWER than '..Said'. Prove '..Said' where nothing that the law and all that it calls make is longer than what came in: it says more and counts as full. Else prove '..UptoSaid'. A law counts once. -/
mutual
def uptoBulk {H : Type} : DataW H → Nat
  | .lit (.string bytes) => bytes.length + 1
  | .lit _ => 1
  | .nil => 1
  | .ptr d => uptoBulk d + 1
  | .slice elems spare => uptoBulkAll elems + uptoBulkAll spare + 1
  | .agg parts => uptoBulkAll parts + 1
  | .iface _ d => uptoBulk d + 1
  | .map entries => uptoBulkEntries entries + 1
  | .held _ => 1
def uptoBulkAll {H : Type} : List (DataW H) → Nat
  | [] => 0
  | d :: r => uptoBulk d + uptoBulkAll r
def uptoBulkEntries {H : Type} : List (Lit × DataW H) → Nat
  | [] => 0
  | x :: r => uptoBulkEntry x + uptoBulkEntries r
def uptoBulkEntry {H : Type} : Lit × DataW H → Nat
  | (.string bytes, d) => bytes.length + uptoBulk d + 1
  | (_, d) => uptoBulk d + 1
 end
def uptoSmall : (H : Type) → List (DataW H) → Bool := fun _ ds => decide (uptoBulkAll ds ≤ 1048576)
def OpenSpec.upto (s : _root_.Go.ChangeSpec) : _root_.Go.OpenSpec := { _root_.Go.OpenSpec.ofChange s with cond := some uptoSmall }

/-- 'laws.FnExactValidMultiConfig', WHERE WHAT IT READS IS OF BULK AT MOST 1048576: true; the input reads as it did. -/
def fnExactValidMultiConfigUptoRow : OpenClaim := { program := "ytepdjlhlcjkdkaa", sum := "086094895d78a15f5ea36fb82cbee947a9749315851430c5d623d61a24adcc06", func := "loop.example/g01079/laws.FnExactValidMultiConfig", spec := "fnExactValidMultiConfig", unfollowed := true, recurses := true, plainKeys := false, apart := false, narrowed := true }
def FnExactValidMultiConfigUptoSaid : Prop := fnExactValidMultiConfigUptoRow.holds Try.pinned (OpenSpec.upto fnExactValidMultiConfigSpec)

/-- 'laws.FnExactStartMulti', WHERE WHAT IT READS IS OF BULK AT MOST 1048576: true; the input reads as it did. -/
def fnExactStartMultiUptoRow : OpenClaim := { program := "ytepdjlhlcjkdkaa", sum := "086094895d78a15f5ea36fb82cbee947a9749315851430c5d623d61a24adcc06", func := "loop.example/g01079/laws.FnExactStartMulti", spec := "fnExactStartMulti", unfollowed := true, recurses := true, plainKeys := false, apart := false, narrowed := true }
def FnExactStartMultiUptoSaid : Prop := fnExactStartMultiUptoRow.holds Try.pinned (OpenSpec.upto fnExactStartMultiSpec)

/-- 'laws.FnExactHaltingReads', WHERE WHAT IT READS IS OF BULK AT MOST 1048576: true; the input reads as it did. -/
def fnExactHaltingReadsUptoRow : OpenClaim := { program := "ytepdjlhlcjkdkaa", sum := "086094895d78a15f5ea36fb82cbee947a9749315851430c5d623d61a24adcc06", func := "loop.example/g01079/laws.FnExactHaltingReads", spec := "fnExactHaltingReads", unfollowed := true, recurses := true, plainKeys := false, apart := false, narrowed := true }
def FnExactHaltingReadsUptoSaid : Prop := fnExactHaltingReadsUptoRow.holds Try.pinned (OpenSpec.upto fnExactHaltingReadsSpec)

/-- 'laws.FnExactCopyMulti', WHERE WHAT IT READS IS OF BULK AT MOST 1048576: true; the input reads as it did. -/
def fnExactCopyMultiUptoRow : OpenClaim := { program := "ytepdjlhlcjkdkaa", sum := "086094895d78a15f5ea36fb82cbee947a9749315851430c5d623d61a24adcc06", func := "loop.example/g01079/laws.FnExactCopyMulti", spec := "fnExactCopyMulti", plainKeys := false, apart := false, narrowed := true }
def FnExactCopyMultiUptoSaid : Prop := fnExactCopyMultiUptoRow.holds Try.pinned (OpenSpec.upto fnExactCopyMultiSpec)

/-- 'laws.FnExactPalindromeMulti', WHERE WHAT IT READS IS OF BULK AT MOST 1048576: true; the input reads as it did. -/
def fnExactPalindromeMultiUptoRow : OpenClaim := { program := "ytepdjlhlcjkdkaa", sum := "086094895d78a15f5ea36fb82cbee947a9749315851430c5d623d61a24adcc06", func := "loop.example/g01079/laws.FnExactPalindromeMulti", spec := "fnExactPalindromeMulti", unfollowed := true, recurses := true, plainKeys := false, apart := false, narrowed := true }
def FnExactPalindromeMultiUptoSaid : Prop := fnExactPalindromeMultiUptoRow.holds Try.pinned (OpenSpec.upto fnExactPalindromeMultiSpec)

/-- 'laws.FnExactMultiRuleAt', WHERE WHAT IT READS IS OF BULK AT MOST 1048576: true; the input reads as it did. -/
def fnExactMultiRuleAtUptoRow : OpenClaim := { program := "ytepdjlhlcjkdkaa", sum := "086094895d78a15f5ea36fb82cbee947a9749315851430c5d623d61a24adcc06", func := "loop.example/g01079/laws.FnExactMultiRuleAt", spec := "fnExactMultiRuleAt", unfollowed := true, recurses := true, plainKeys := false, apart := false, narrowed := true }
def FnExactMultiRuleAtUptoSaid : Prop := fnExactMultiRuleAtUptoRow.holds Try.pinned (OpenSpec.upto fnExactMultiRuleAtSpec)

/-- 'laws.FnExactPermuteTapes', WHERE WHAT IT READS IS OF BULK AT MOST 1048576: true; the input reads as it did. -/
def fnExactPermuteTapesUptoRow : OpenClaim := { program := "ytepdjlhlcjkdkaa", sum := "086094895d78a15f5ea36fb82cbee947a9749315851430c5d623d61a24adcc06", func := "loop.example/g01079/laws.FnExactPermuteTapes", spec := "fnExactPermuteTapes", unfollowed := true, recurses := true, plainKeys := false, apart := false, narrowed := true }
def FnExactPermuteTapesUptoSaid : Prop := fnExactPermuteTapesUptoRow.holds Try.pinned (OpenSpec.upto fnExactPermuteTapesSpec)

/-- 'laws.FnExactSequenceMulti', WHERE WHAT IT READS IS OF BULK AT MOST 1048576: true; the input reads as it did. -/
def fnExactSequenceMultiUptoRow : OpenClaim := { program := "ytepdjlhlcjkdkaa", sum := "086094895d78a15f5ea36fb82cbee947a9749315851430c5d623d61a24adcc06", func := "loop.example/g01079/laws.FnExactSequenceMulti", spec := "fnExactSequenceMulti", unfollowed := true, recurses := true, plainKeys := false, apart := false, narrowed := true }
def FnExactSequenceMultiUptoSaid : Prop := fnExactSequenceMultiUptoRow.holds Try.pinned (OpenSpec.upto fnExactSequenceMultiSpec)

/-- 'laws.FnExactSortList', WHERE WHAT IT READS IS OF BULK AT MOST 1048576: true; the input reads as it did. -/
def fnExactSortListUptoRow : OpenClaim := { program := "ytepdjlhlcjkdkaa", sum := "086094895d78a15f5ea36fb82cbee947a9749315851430c5d623d61a24adcc06", func := "loop.example/g01079/laws.FnExactSortList", spec := "fnExactSortList", recurses := true, plainKeys := false, apart := false, narrowed := true }
def FnExactSortListUptoSaid : Prop := fnExactSortListUptoRow.holds Try.pinned (OpenSpec.upto fnExactSortListSpec)

/-- 'laws.FnExactDivideNaturals', WHERE WHAT IT READS IS OF BULK AT MOST 1048576: true; the input reads as it did. -/
def fnExactDivideNaturalsUptoRow : OpenClaim := { program := "ytepdjlhlcjkdkaa", sum := "086094895d78a15f5ea36fb82cbee947a9749315851430c5d623d61a24adcc06", func := "loop.example/g01079/laws.FnExactDivideNaturals", spec := "fnExactDivideNaturals", unfollowed := true, recurses := true, plainKeys := false, apart := false, narrowed := true }
def FnExactDivideNaturalsUptoSaid : Prop := fnExactDivideNaturalsUptoRow.holds Try.pinned (OpenSpec.upto fnExactDivideNaturalsSpec)

/-- 'laws.FnExactGcdNaturals', WHERE WHAT IT READS IS OF BULK AT MOST 1048576: true; the input reads as it did. -/
def fnExactGcdNaturalsUptoRow : OpenClaim := { program := "ytepdjlhlcjkdkaa", sum := "086094895d78a15f5ea36fb82cbee947a9749315851430c5d623d61a24adcc06", func := "loop.example/g01079/laws.FnExactGcdNaturals", spec := "fnExactGcdNaturals", unfollowed := true, recurses := true, plainKeys := false, apart := false, narrowed := true }
def FnExactGcdNaturalsUptoSaid : Prop := fnExactGcdNaturalsUptoRow.holds Try.pinned (OpenSpec.upto fnExactGcdNaturalsSpec)

/-- 'laws.FnExactRootNatural', WHERE WHAT IT READS IS OF BULK AT MOST 1048576: true; the input reads as it did. -/
def fnExactRootNaturalUptoRow : OpenClaim := { program := "ytepdjlhlcjkdkaa", sum := "086094895d78a15f5ea36fb82cbee947a9749315851430c5d623d61a24adcc06", func := "loop.example/g01079/laws.FnExactRootNatural", spec := "fnExactRootNatural", unfollowed := true, recurses := true, plainKeys := false, apart := false, narrowed := true }
def FnExactRootNaturalUptoSaid : Prop := fnExactRootNaturalUptoRow.holds Try.pinned (OpenSpec.upto fnExactRootNaturalSpec)

end Rows
end Go.Proofs.Ytepdjlhlcjkdkaa
