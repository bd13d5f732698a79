/-
  No cell of these rows narrows 'for every input' (looked for: loops, veiled, ifaces, maps, wideKeys, modest, calm, conditions, laid).
  DERIVED. THE GIVEN ROWS OF THIS SEAT. 12 by the template 'for every input the law returns true; each argument reads behind the call as it read before'; 0 by the template 'total and deterministic' (their statements: YtmaapgjgbmefmaaTotals.lean).
  GIVEN WITH THE SEED: the statements are not yours to turn. If you find one false, say at which input.
  Laid BY PROGRAM, IN A SANDBOX (cutbox-rows.mjs): the forced cells as the released guide's own fill.sh prints them over the translation 32161c2f27835b15… (all of the seat's roots in one cut). By AI agents, Wed Nov 11 2026. No macro, syntax, notation, axiom, sorry.
-/
import Derived.Test.YtmaapgjgbmefmaaChecked
import GoSem.Claim
import GoSem.ClaimJoined
import GoSem.ClaimMapViews
import Derived.JoinedTies
import Derived.KernelRfl
namespace Go.Proofs.Ytmaapgjgbmefmaa
/- THE CELL 'sum', in the pinned program and in every row, IS THE sha256 OF THE DUMP (.gsa) THAT YtmaapgjgbmefmaaProg.lean LOADS. Nothing in Lean hashes anything: it is a label: what it is worth is what the hold of that sum in a sandbox is worth. -/
noncomputable def Try.pinned : Pinned := { name := "ytmaapgjgbmefmaa", sum := "32161c2f27835b15c41416d15c8ca43aa008d2719b9fcd12fc34e5dd805d4f90", checked := Try.checked }
namespace Rows
def none {H : Type} : Left H := { results := [], args := [] }

/-- 'laws.FnExactValidMulti': WHATEVER THE INPUT: true; the input reads as it did. -/
def fnExactValidMultiSpec : ChangeSpec := { name := "fnExactValidMulti", fn := fun _ => fun
  | [d] => { results := [.lit (.bool true)], args := [d] }
  | _ => none }
def fnExactValidMultiRow : OpenClaim := { program := "ytmaapgjgbmefmaa", sum := "32161c2f27835b15c41416d15c8ca43aa008d2719b9fcd12fc34e5dd805d4f90", func := "loop.example/g01079/laws.FnExactValidMulti", spec := "fnExactValidMulti", unfollowed := true, recurses := true, plainKeys := false, apart := false }
def FnExactValidMultiSaid : Prop := fnExactValidMultiRow.holds Try.pinned (OpenSpec.ofChange fnExactValidMultiSpec)

/-- ITS FALSE NEIGHBOUR: 'it returns false'. Refute it at one input. -/
def fnExactValidMultiWrong : ChangeSpec := { name := "fnExactValidMulti", fn := fun _ => fun
  | [d] => { results := [.lit (.bool false)], args := [d] }
  | _ => none }
def FnExactValidMultiWrongFalsely : Prop := fnExactValidMultiRow.holds Try.pinned (OpenSpec.ofChange fnExactValidMultiWrong)

/-- 'laws.FnExactValidMultiConfig': WHATEVER THE INPUT: true; the input reads as it did. -/
def fnExactValidMultiConfigSpec : ChangeSpec := { name := "fnExactValidMultiConfig", fn := fun _ => fun
  | [d1, d2] => { results := [.lit (.bool true)], args := [d1, d2] }
  | _ => none }
def fnExactValidMultiConfigRow : OpenClaim := { program := "ytmaapgjgbmefmaa", sum := "32161c2f27835b15c41416d15c8ca43aa008d2719b9fcd12fc34e5dd805d4f90", func := "loop.example/g01079/laws.FnExactValidMultiConfig", spec := "fnExactValidMultiConfig", unfollowed := true, recurses := true, plainKeys := false, apart := false }
def FnExactValidMultiConfigSaid : Prop := fnExactValidMultiConfigRow.holds Try.pinned (OpenSpec.ofChange fnExactValidMultiConfigSpec)

/-- ITS FALSE NEIGHBOUR: 'it returns false'. Refute it at one input. -/
def fnExactValidMultiConfigWrong : ChangeSpec := { name := "fnExactValidMultiConfig", fn := fun _ => fun
  | [d1, d2] => { results := [.lit (.bool false)], args := [d1, d2] }
  | _ => none }
def FnExactValidMultiConfigWrongFalsely : Prop := fnExactValidMultiConfigRow.holds Try.pinned (OpenSpec.ofChange fnExactValidMultiConfigWrong)

/-- 'laws.FnExactSameMultiConfig': WHATEVER THE INPUT: true; the input reads as it did. -/
def fnExactSameMultiConfigSpec : ChangeSpec := { name := "fnExactSameMultiConfig", fn := fun _ => fun
  | [d1, d2] => { results := [.lit (.bool true)], args := [d1, d2] }
  | _ => none }
def fnExactSameMultiConfigRow : OpenClaim := { program := "ytmaapgjgbmefmaa", sum := "32161c2f27835b15c41416d15c8ca43aa008d2719b9fcd12fc34e5dd805d4f90", func := "loop.example/g01079/laws.FnExactSameMultiConfig", spec := "fnExactSameMultiConfig", unfollowed := true, recurses := true, plainKeys := false, apart := false }
def FnExactSameMultiConfigSaid : Prop := fnExactSameMultiConfigRow.holds Try.pinned (OpenSpec.ofChange fnExactSameMultiConfigSpec)

/-- ITS FALSE NEIGHBOUR: 'it returns false'. Refute it at one input. -/
def fnExactSameMultiConfigWrong : ChangeSpec := { name := "fnExactSameMultiConfig", fn := fun _ => fun
  | [d1, d2] => { results := [.lit (.bool false)], args := [d1, d2] }
  | _ => none }
def FnExactSameMultiConfigWrongFalsely : Prop := fnExactSameMultiConfigRow.holds Try.pinned (OpenSpec.ofChange fnExactSameMultiConfigWrong)

/-- 'laws.FnExactTapeWord': WHATEVER THE INPUT: true; the input reads as it did. -/
def fnExactTapeWordSpec : ChangeSpec := { name := "fnExactTapeWord", fn := fun _ => fun
  | [d] => { results := [.lit (.bool true)], args := [d] }
  | _ => none }
def fnExactTapeWordRow : OpenClaim := { program := "ytmaapgjgbmefmaa", sum := "32161c2f27835b15c41416d15c8ca43aa008d2719b9fcd12fc34e5dd805d4f90", func := "loop.example/g01079/laws.FnExactTapeWord", spec := "fnExactTapeWord", unfollowed := true, recurses := true, plainKeys := false, apart := false }
def FnExactTapeWordSaid : Prop := fnExactTapeWordRow.holds Try.pinned (OpenSpec.ofChange fnExactTapeWordSpec)

/-- ITS FALSE NEIGHBOUR: 'it returns false'. Refute it at one input. -/
def fnExactTapeWordWrong : ChangeSpec := { name := "fnExactTapeWord", fn := fun _ => fun
  | [d] => { results := [.lit (.bool false)], args := [d] }
  | _ => none }
def FnExactTapeWordWrongFalsely : Prop := fnExactTapeWordRow.holds Try.pinned (OpenSpec.ofChange fnExactTapeWordWrong)

/-- 'laws.FnExactMultiSpace': WHATEVER THE INPUT: true; the input reads as it did. -/
def fnExactMultiSpaceSpec : ChangeSpec := { name := "fnExactMultiSpace", fn := fun _ => fun
  | [d] => { results := [.lit (.bool true)], args := [d] }
  | _ => none }
def fnExactMultiSpaceRow : OpenClaim := { program := "ytmaapgjgbmefmaa", sum := "32161c2f27835b15c41416d15c8ca43aa008d2719b9fcd12fc34e5dd805d4f90", func := "loop.example/g01079/laws.FnExactMultiSpace", spec := "fnExactMultiSpace", unfollowed := true, recurses := true, plainKeys := false, apart := false }
def FnExactMultiSpaceSaid : Prop := fnExactMultiSpaceRow.holds Try.pinned (OpenSpec.ofChange fnExactMultiSpaceSpec)

/-- ITS FALSE NEIGHBOUR: 'it returns false'. Refute it at one input. -/
def fnExactMultiSpaceWrong : ChangeSpec := { name := "fnExactMultiSpace", fn := fun _ => fun
  | [d] => { results := [.lit (.bool false)], args := [d] }
  | _ => none }
def FnExactMultiSpaceWrongFalsely : Prop := fnExactMultiSpaceRow.holds Try.pinned (OpenSpec.ofChange fnExactMultiSpaceWrong)

/-- 'laws.FnExactStartMulti': WHATEVER THE INPUT: true; the input reads as it did. -/
def fnExactStartMultiSpec : ChangeSpec := { name := "fnExactStartMulti", fn := fun _ => fun
  | [d1, d2] => { results := [.lit (.bool true)], args := [d1, d2] }
  | _ => none }
def fnExactStartMultiRow : OpenClaim := { program := "ytmaapgjgbmefmaa", sum := "32161c2f27835b15c41416d15c8ca43aa008d2719b9fcd12fc34e5dd805d4f90", func := "loop.example/g01079/laws.FnExactStartMulti", spec := "fnExactStartMulti", unfollowed := true, recurses := true, plainKeys := false, apart := false }
def FnExactStartMultiSaid : Prop := fnExactStartMultiRow.holds Try.pinned (OpenSpec.ofChange fnExactStartMultiSpec)

/-- ITS FALSE NEIGHBOUR: 'it returns false'. Refute it at one input. -/
def fnExactStartMultiWrong : ChangeSpec := { name := "fnExactStartMulti", fn := fun _ => fun
  | [d1, d2] => { results := [.lit (.bool false)], args := [d1, d2] }
  | _ => none }
def FnExactStartMultiWrongFalsely : Prop := fnExactStartMultiRow.holds Try.pinned (OpenSpec.ofChange fnExactStartMultiWrong)

/-- 'laws.FnExactHaltingReads': WHATEVER THE INPUT: true; the input reads as it did. -/
def fnExactHaltingReadsSpec : ChangeSpec := { name := "fnExactHaltingReads", fn := fun _ => fun
  | [d1, d2] => { results := [.lit (.bool true)], args := [d1, d2] }
  | _ => none }
def fnExactHaltingReadsRow : OpenClaim := { program := "ytmaapgjgbmefmaa", sum := "32161c2f27835b15c41416d15c8ca43aa008d2719b9fcd12fc34e5dd805d4f90", func := "loop.example/g01079/laws.FnExactHaltingReads", spec := "fnExactHaltingReads", unfollowed := true, recurses := true, plainKeys := false, apart := false }
def FnExactHaltingReadsSaid : Prop := fnExactHaltingReadsRow.holds Try.pinned (OpenSpec.ofChange fnExactHaltingReadsSpec)

/-- ITS FALSE NEIGHBOUR: 'it returns false'. Refute it at one input. -/
def fnExactHaltingReadsWrong : ChangeSpec := { name := "fnExactHaltingReads", fn := fun _ => fun
  | [d1, d2] => { results := [.lit (.bool false)], args := [d1, d2] }
  | _ => none }
def FnExactHaltingReadsWrongFalsely : Prop := fnExactHaltingReadsRow.holds Try.pinned (OpenSpec.ofChange fnExactHaltingReadsWrong)

/-- 'laws.FnExactCopyMulti': WHATEVER THE INPUT: true; the input reads as it did. -/
def fnExactCopyMultiSpec : ChangeSpec := { name := "fnExactCopyMulti", fn := fun _ => fun
  | [d] => { results := [.lit (.bool true)], args := [d] }
  | _ => none }
def fnExactCopyMultiRow : OpenClaim := { program := "ytmaapgjgbmefmaa", sum := "32161c2f27835b15c41416d15c8ca43aa008d2719b9fcd12fc34e5dd805d4f90", func := "loop.example/g01079/laws.FnExactCopyMulti", spec := "fnExactCopyMulti", plainKeys := false, apart := false }
def FnExactCopyMultiSaid : Prop := fnExactCopyMultiRow.holds Try.pinned (OpenSpec.ofChange fnExactCopyMultiSpec)

/-- ITS FALSE NEIGHBOUR: 'it returns false'. Refute it at one input. -/
def fnExactCopyMultiWrong : ChangeSpec := { name := "fnExactCopyMulti", fn := fun _ => fun
  | [d] => { results := [.lit (.bool false)], args := [d] }
  | _ => none }
def FnExactCopyMultiWrongFalsely : Prop := fnExactCopyMultiRow.holds Try.pinned (OpenSpec.ofChange fnExactCopyMultiWrong)

/-- 'laws.FnExactPalindromeMulti': WHATEVER THE INPUT: true; the input reads as it did. -/
def fnExactPalindromeMultiSpec : ChangeSpec := { name := "fnExactPalindromeMulti", fn := fun _ => fun
  | [d] => { results := [.lit (.bool true)], args := [d] }
  | _ => none }
def fnExactPalindromeMultiRow : OpenClaim := { program := "ytmaapgjgbmefmaa", sum := "32161c2f27835b15c41416d15c8ca43aa008d2719b9fcd12fc34e5dd805d4f90", func := "loop.example/g01079/laws.FnExactPalindromeMulti", spec := "fnExactPalindromeMulti", unfollowed := true, recurses := true, plainKeys := false, apart := false }
def FnExactPalindromeMultiSaid : Prop := fnExactPalindromeMultiRow.holds Try.pinned (OpenSpec.ofChange fnExactPalindromeMultiSpec)

/-- ITS FALSE NEIGHBOUR: 'it returns false'. Refute it at one input. -/
def fnExactPalindromeMultiWrong : ChangeSpec := { name := "fnExactPalindromeMulti", fn := fun _ => fun
  | [d] => { results := [.lit (.bool false)], args := [d] }
  | _ => none }
def FnExactPalindromeMultiWrongFalsely : Prop := fnExactPalindromeMultiRow.holds Try.pinned (OpenSpec.ofChange fnExactPalindromeMultiWrong)

/-- 'laws.FnExactMultiRuleAt': WHATEVER THE INPUT: true; the input reads as it did. -/
def fnExactMultiRuleAtSpec : ChangeSpec := { name := "fnExactMultiRuleAt", fn := fun _ => fun
  | [d1, d2] => { results := [.lit (.bool true)], args := [d1, d2] }
  | _ => none }
def fnExactMultiRuleAtRow : OpenClaim := { program := "ytmaapgjgbmefmaa", sum := "32161c2f27835b15c41416d15c8ca43aa008d2719b9fcd12fc34e5dd805d4f90", func := "loop.example/g01079/laws.FnExactMultiRuleAt", spec := "fnExactMultiRuleAt", unfollowed := true, recurses := true, plainKeys := false, apart := false }
def FnExactMultiRuleAtSaid : Prop := fnExactMultiRuleAtRow.holds Try.pinned (OpenSpec.ofChange fnExactMultiRuleAtSpec)

/-- ITS FALSE NEIGHBOUR: 'it returns false'. Refute it at one input. -/
def fnExactMultiRuleAtWrong : ChangeSpec := { name := "fnExactMultiRuleAt", fn := fun _ => fun
  | [d1, d2] => { results := [.lit (.bool false)], args := [d1, d2] }
  | _ => none }
def FnExactMultiRuleAtWrongFalsely : Prop := fnExactMultiRuleAtRow.holds Try.pinned (OpenSpec.ofChange fnExactMultiRuleAtWrong)

/-- 'laws.FnExactPermuteTapes': WHATEVER THE INPUT: true; the input reads as it did. -/
def fnExactPermuteTapesSpec : ChangeSpec := { name := "fnExactPermuteTapes", fn := fun _ => fun
  | [d1, d2] => { results := [.lit (.bool true)], args := [d1, d2] }
  | _ => none }
def fnExactPermuteTapesRow : OpenClaim := { program := "ytmaapgjgbmefmaa", sum := "32161c2f27835b15c41416d15c8ca43aa008d2719b9fcd12fc34e5dd805d4f90", func := "loop.example/g01079/laws.FnExactPermuteTapes", spec := "fnExactPermuteTapes", unfollowed := true, recurses := true, plainKeys := false, apart := false }
def FnExactPermuteTapesSaid : Prop := fnExactPermuteTapesRow.holds Try.pinned (OpenSpec.ofChange fnExactPermuteTapesSpec)

/-- ITS FALSE NEIGHBOUR: 'it returns false'. Refute it at one input. -/
def fnExactPermuteTapesWrong : ChangeSpec := { name := "fnExactPermuteTapes", fn := fun _ => fun
  | [d1, d2] => { results := [.lit (.bool false)], args := [d1, d2] }
  | _ => none }
def FnExactPermuteTapesWrongFalsely : Prop := fnExactPermuteTapesRow.holds Try.pinned (OpenSpec.ofChange fnExactPermuteTapesWrong)

/-- 'laws.FnExactSequenceMulti': WHATEVER THE INPUT: true; the input reads as it did. -/
def fnExactSequenceMultiSpec : ChangeSpec := { name := "fnExactSequenceMulti", fn := fun _ => fun
  | [d1, d2] => { results := [.lit (.bool true)], args := [d1, d2] }
  | _ => none }
def fnExactSequenceMultiRow : OpenClaim := { program := "ytmaapgjgbmefmaa", sum := "32161c2f27835b15c41416d15c8ca43aa008d2719b9fcd12fc34e5dd805d4f90", func := "loop.example/g01079/laws.FnExactSequenceMulti", spec := "fnExactSequenceMulti", unfollowed := true, recurses := true, plainKeys := false, apart := false }
def FnExactSequenceMultiSaid : Prop := fnExactSequenceMultiRow.holds Try.pinned (OpenSpec.ofChange fnExactSequenceMultiSpec)

/-- ITS FALSE NEIGHBOUR: 'it returns false'. Refute it at one input. -/
def fnExactSequenceMultiWrong : ChangeSpec := { name := "fnExactSequenceMulti", fn := fun _ => fun
  | [d1, d2] => { results := [.lit (.bool false)], args := [d1, d2] }
  | _ => none }
def FnExactSequenceMultiWrongFalsely : Prop := fnExactSequenceMultiRow.holds Try.pinned (OpenSpec.ofChange fnExactSequenceMultiWrong)

/- THE SECOND FORM. 'bulk': how many values and letters a reading holds, each counted each time it is reached (what is shared counts as often as it is met; a slice's spare places count too). A statement '..UptoSaid' is the law's where the arguments, and the package variables that the reading takes, are together of bulk at most 1048576: NARROWER than '..Said'. Prove '..Said' where nothing that the law and all that it calls make is longer than what came in: it says more and counts as full. Else prove '..UptoSaid'. A law counts once. -/
mutual
def uptoBulk {H : Type} : DataW H → Nat
  | .lit (.string bytes) => bytes.length + 1
  | .lit _ => 1
  | .nil => 1
  | .ptr d => uptoBulk d + 1
  | .slice elems spare => uptoBulkAll elems + uptoBulkAll spare + 1
  | .agg parts => uptoBulkAll parts + 1
  | .iface _ d => uptoBulk d + 1
  | .map entries => uptoBulkEntries entries + 1
  | .held _ => 1
def uptoBulkAll {H : Type} : List (DataW H) → Nat
  | [] => 0
  | d :: r => uptoBulk d + uptoBulkAll r
def uptoBulkEntries {H : Type} : List (Lit × DataW H) → Nat
  | [] => 0
  | x :: r => uptoBulkEntry x + uptoBulkEntries r
def uptoBulkEntry {H : Type} : Lit × DataW H → Nat
  | (.string bytes, d) => bytes.length + uptoBulk d + 1
  | (_, d) => uptoBulk d + 1
 end
def uptoSmall : (H : Type) → List (DataW H) → Bool := fun _ ds => decide (uptoBulkAll ds ≤ 1048576)
def OpenSpec.upto (s : _root_.Go.ChangeSpec) : _root_.Go.OpenSpec := { _root_.Go.OpenSpec.ofChange s with cond := some uptoSmall }

/-- 'laws.FnExactValidMulti', WHERE WHAT IT READS IS OF BULK AT MOST 1048576: true; the input reads as it did. -/
def fnExactValidMultiUptoRow : OpenClaim := { program := "ytmaapgjgbmefmaa", sum := "32161c2f27835b15c41416d15c8ca43aa008d2719b9fcd12fc34e5dd805d4f90", func := "loop.example/g01079/laws.FnExactValidMulti", spec := "fnExactValidMulti", unfollowed := true, recurses := true, plainKeys := false, apart := false, narrowed := true }
def FnExactValidMultiUptoSaid : Prop := fnExactValidMultiUptoRow.holds Try.pinned (OpenSpec.upto fnExactValidMultiSpec)

/-- 'laws.FnExactValidMultiConfig', WHERE WHAT IT READS IS OF BULK AT MOST 1048576: true; the input reads as it did. -/
def fnExactValidMultiConfigUptoRow : OpenClaim := { program := "ytmaapgjgbmefmaa", sum := "32161c2f27835b15c41416d15c8ca43aa008d2719b9fcd12fc34e5dd805d4f90", func := "loop.example/g01079/laws.FnExactValidMultiConfig", spec := "fnExactValidMultiConfig", unfollowed := true, recurses := true, plainKeys := false, apart := false, narrowed := true }
def FnExactValidMultiConfigUptoSaid : Prop := fnExactValidMultiConfigUptoRow.holds Try.pinned (OpenSpec.upto fnExactValidMultiConfigSpec)

/-- 'laws.FnExactSameMultiConfig', WHERE WHAT IT READS IS OF BULK AT MOST 1048576: true; the input reads as it did. -/
def fnExactSameMultiConfigUptoRow : OpenClaim := { program := "ytmaapgjgbmefmaa", sum := "32161c2f27835b15c41416d15c8ca43aa008d2719b9fcd12fc34e5dd805d4f90", func := "loop.example/g01079/laws.FnExactSameMultiConfig", spec := "fnExactSameMultiConfig", unfollowed := true, recurses := true, plainKeys := false, apart := false, narrowed := true }
def FnExactSameMultiConfigUptoSaid : Prop := fnExactSameMultiConfigUptoRow.holds Try.pinned (OpenSpec.upto fnExactSameMultiConfigSpec)

/-- 'laws.FnExactTapeWord', WHERE WHAT IT READS IS OF BULK AT MOST 1048576: true; the input reads as it did. -/
def fnExactTapeWordUptoRow : OpenClaim := { program := "ytmaapgjgbmefmaa", sum := "32161c2f27835b15c41416d15c8ca43aa008d2719b9fcd12fc34e5dd805d4f90", func := "loop.example/g01079/laws.FnExactTapeWord", spec := "fnExactTapeWord", unfollowed := true, recurses := true, plainKeys := false, apart := false, narrowed := true }
def FnExactTapeWordUptoSaid : Prop := fnExactTapeWordUptoRow.holds Try.pinned (OpenSpec.upto fnExactTapeWordSpec)

/-- 'laws.FnExactMultiSpace', WHERE WHAT IT READS IS OF BULK AT MOST 1048576: true; the input reads as it did. -/
def fnExactMultiSpaceUptoRow : OpenClaim := { program := "ytmaapgjgbmefmaa", sum := "32161c2f27835b15c41416d15c8ca43aa008d2719b9fcd12fc34e5dd805d4f90", func := "loop.example/g01079/laws.FnExactMultiSpace", spec := "fnExactMultiSpace", unfollowed := true, recurses := true, plainKeys := false, apart := false, narrowed := true }
def FnExactMultiSpaceUptoSaid : Prop := fnExactMultiSpaceUptoRow.holds Try.pinned (OpenSpec.upto fnExactMultiSpaceSpec)

/-- 'laws.FnExactStartMulti', WHERE WHAT IT READS IS OF BULK AT MOST 1048576: true; the input reads as it did. -/
def fnExactStartMultiUptoRow : OpenClaim := { program := "ytmaapgjgbmefmaa", sum := "32161c2f27835b15c41416d15c8ca43aa008d2719b9fcd12fc34e5dd805d4f90", func := "loop.example/g01079/laws.FnExactStartMulti", spec := "fnExactStartMulti", unfollowed := true, recurses := true, plainKeys := false, apart := false, narrowed := true }
def FnExactStartMultiUptoSaid : Prop := fnExactStartMultiUptoRow.holds Try.pinned (OpenSpec.upto fnExactStartMultiSpec)

/-- 'laws.FnExactHaltingReads', WHERE WHAT IT READS IS OF BULK AT MOST 1048576: true; the input reads as it did. -/
def fnExactHaltingReadsUptoRow : OpenClaim := { program := "ytmaapgjgbmefmaa", sum := "32161c2f27835b15c41416d15c8ca43aa008d2719b9fcd12fc34e5dd805d4f90", func := "loop.example/g01079/laws.FnExactHaltingReads", spec := "fnExactHaltingReads", unfollowed := true, recurses := true, plainKeys := false, apart := false, narrowed := true }
def FnExactHaltingReadsUptoSaid : Prop := fnExactHaltingReadsUptoRow.holds Try.pinned (OpenSpec.upto fnExactHaltingReadsSpec)

/-- 'laws.FnExactCopyMulti', WHERE WHAT IT READS IS OF BULK AT MOST 1048576: true; the input reads as it did. -/
def fnExactCopyMultiUptoRow : OpenClaim := { program := "ytmaapgjgbmefmaa", sum := "32161c2f27835b15c41416d15c8ca43aa008d2719b9fcd12fc34e5dd805d4f90", func := "loop.example/g01079/laws.FnExactCopyMulti", spec := "fnExactCopyMulti", plainKeys := false, apart := false, narrowed := true }
def FnExactCopyMultiUptoSaid : Prop := fnExactCopyMultiUptoRow.holds Try.pinned (OpenSpec.upto fnExactCopyMultiSpec)

/-- 'laws.FnExactPalindromeMulti', WHERE WHAT IT READS IS OF BULK AT MOST 1048576: true; the input reads as it did. -/
def fnExactPalindromeMultiUptoRow : OpenClaim := { program := "ytmaapgjgbmefmaa", sum := "32161c2f27835b15c41416d15c8ca43aa008d2719b9fcd12fc34e5dd805d4f90", func := "loop.example/g01079/laws.FnExactPalindromeMulti", spec := "fnExactPalindromeMulti", unfollowed := true, recurses := true, plainKeys := false, apart := false, narrowed := true }
def FnExactPalindromeMultiUptoSaid : Prop := fnExactPalindromeMultiUptoRow.holds Try.pinned (OpenSpec.upto fnExactPalindromeMultiSpec)

/-- 'laws.FnExactMultiRuleAt', WHERE WHAT IT READS IS OF BULK AT MOST 1048576: true; the input reads as it did. -/
def fnExactMultiRuleAtUptoRow : OpenClaim := { program := "ytmaapgjgbmefmaa", sum := "32161c2f27835b15c41416d15c8ca43aa008d2719b9fcd12fc34e5dd805d4f90", func := "loop.example/g01079/laws.FnExactMultiRuleAt", spec := "fnExactMultiRuleAt", unfollowed := true, recurses := true, plainKeys := false, apart := false, narrowed := true }
def FnExactMultiRuleAtUptoSaid : Prop := fnExactMultiRuleAtUptoRow.holds Try.pinned (OpenSpec.upto fnExactMultiRuleAtSpec)

/-- 'laws.FnExactPermuteTapes', WHERE WHAT IT READS IS OF BULK AT MOST 1048576: true; the input reads as it did. -/
def fnExactPermuteTapesUptoRow : OpenClaim := { program := "ytmaapgjgbmefmaa", sum := "32161c2f27835b15c41416d15c8ca43aa008d2719b9fcd12fc34e5dd805d4f90", func := "loop.example/g01079/laws.FnExactPermuteTapes", spec := "fnExactPermuteTapes", unfollowed := true, recurses := true, plainKeys := false, apart := false, narrowed := true }
def FnExactPermuteTapesUptoSaid : Prop := fnExactPermuteTapesUptoRow.holds Try.pinned (OpenSpec.upto fnExactPermuteTapesSpec)

/-- 'laws.FnExactSequenceMulti', WHERE WHAT IT READS IS OF BULK AT MOST 1048576: true; the input reads as it did. -/
def fnExactSequenceMultiUptoRow : OpenClaim := { program := "ytmaapgjgbmefmaa", sum := "32161c2f27835b15c41416d15c8ca43aa008d2719b9fcd12fc34e5dd805d4f90", func := "loop.example/g01079/laws.FnExactSequenceMulti", spec := "fnExactSequenceMulti", unfollowed := true, recurses := true, plainKeys := false, apart := false, narrowed := true }
def FnExactSequenceMultiUptoSaid : Prop := fnExactSequenceMultiUptoRow.holds Try.pinned (OpenSpec.upto fnExactSequenceMultiSpec)

end Rows
end Go.Proofs.Ytmaapgjgbmefmaa
