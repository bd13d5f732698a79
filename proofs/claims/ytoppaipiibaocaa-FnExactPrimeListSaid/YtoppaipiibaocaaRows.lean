/-
  No cell of these rows narrows 'for every input' (looked for: loops, veiled, ifaces, maps, wideKeys, modest, calm, conditions, laid).
  DERIVED. THE GIVEN ROWS OF THIS SEAT. 8 by the template 'for every input the law returns true; each argument reads behind the call as it read before'; 0 by the template 'total and deterministic' (their statements: YtoppaipiibaocaaTotals.lean).
  GIVEN WITH THE SEED: the statements are not yours to turn. If you find one false, say at which input.
  Laid BY PROGRAM, IN A SANDBOX (cutbox-rows.mjs): the forced cells as the released guide's own fill.sh prints them over the translation e609546ebd7c0115… (all of the seat's roots in one cut). By AI agents, Wed Nov 11 2026. No macro, syntax, notation, axiom, sorry.
-/
import Derived.Test.YtoppaipiibaocaaChecked
import GoSem.Claim
import GoSem.ClaimJoined
import GoSem.ClaimMapViews
import Derived.JoinedTies
import Derived.KernelRfl
namespace Go.Proofs.Ytoppaipiibaocaa
/- THE CELL 'sum', in the pinned program and in every row, IS THE sha256 OF THE DUMP (.gsa) THAT YtoppaipiibaocaaProg.lean LOADS. Nothing in Lean hashes anything: it is a label: what it is worth is what the hold of that sum in a sandbox is worth. -/
noncomputable def Try.pinned : Pinned := { name := "ytoppaipiibaocaa", sum := "e609546ebd7c011510e6f97ace74c1efd04e1cd2ab413c5999163d379e1fdf42", checked := Try.checked }
namespace Rows
def none {H : Type} : Left H := { results := [], args := [] }

/-- 'laws.FnExactPrimeAt': WHATEVER THE INPUT: true; the input reads as it did. -/
def fnExactPrimeAtSpec : ChangeSpec := { name := "fnExactPrimeAt", fn := fun _ => fun
  | [d] => { results := [.lit (.bool true)], args := [d] }
  | _ => none }
def fnExactPrimeAtRow : OpenClaim := { program := "ytoppaipiibaocaa", sum := "e609546ebd7c011510e6f97ace74c1efd04e1cd2ab413c5999163d379e1fdf42", func := "loop.example/g01079/laws.FnExactPrimeAt", spec := "fnExactPrimeAt", plainKeys := false, apart := false }
def FnExactPrimeAtSaid : Prop := fnExactPrimeAtRow.holds Try.pinned (OpenSpec.ofChange fnExactPrimeAtSpec)

/-- ITS FALSE NEIGHBOUR: 'it returns false'. Refute it at one input. -/
def fnExactPrimeAtWrong : ChangeSpec := { name := "fnExactPrimeAt", fn := fun _ => fun
  | [d] => { results := [.lit (.bool false)], args := [d] }
  | _ => none }
def FnExactPrimeAtWrongFalsely : Prop := fnExactPrimeAtRow.holds Try.pinned (OpenSpec.ofChange fnExactPrimeAtWrong)

/-- 'laws.FnExactPrimeNumber': WHATEVER THE INPUT: true; the input reads as it did. -/
def fnExactPrimeNumberSpec : ChangeSpec := { name := "fnExactPrimeNumber", fn := fun _ => fun
  | [d] => { results := [.lit (.bool true)], args := [d] }
  | _ => none }
def fnExactPrimeNumberRow : OpenClaim := { program := "ytoppaipiibaocaa", sum := "e609546ebd7c011510e6f97ace74c1efd04e1cd2ab413c5999163d379e1fdf42", func := "loop.example/g01079/laws.FnExactPrimeNumber", spec := "fnExactPrimeNumber", unfollowed := true, recurses := true, plainKeys := false, apart := false }
def FnExactPrimeNumberSaid : Prop := fnExactPrimeNumberRow.holds Try.pinned (OpenSpec.ofChange fnExactPrimeNumberSpec)

/-- ITS FALSE NEIGHBOUR: 'it returns false'. Refute it at one input. -/
def fnExactPrimeNumberWrong : ChangeSpec := { name := "fnExactPrimeNumber", fn := fun _ => fun
  | [d] => { results := [.lit (.bool false)], args := [d] }
  | _ => none }
def FnExactPrimeNumberWrongFalsely : Prop := fnExactPrimeNumberRow.holds Try.pinned (OpenSpec.ofChange fnExactPrimeNumberWrong)

/-- 'laws.FnExactPrimeList': WHATEVER THE INPUT: true; the input reads as it did. -/
def fnExactPrimeListSpec : ChangeSpec := { name := "fnExactPrimeList", fn := fun _ => fun
  | [d] => { results := [.lit (.bool true)], args := [d] }
  | _ => none }
def fnExactPrimeListRow : OpenClaim := { program := "ytoppaipiibaocaa", sum := "e609546ebd7c011510e6f97ace74c1efd04e1cd2ab413c5999163d379e1fdf42", func := "loop.example/g01079/laws.FnExactPrimeList", spec := "fnExactPrimeList", unfollowed := true, recurses := true, plainKeys := false, apart := false }
def FnExactPrimeListSaid : Prop := fnExactPrimeListRow.holds Try.pinned (OpenSpec.ofChange fnExactPrimeListSpec)

/-- ITS FALSE NEIGHBOUR: 'it returns false'. Refute it at one input. -/
def fnExactPrimeListWrong : ChangeSpec := { name := "fnExactPrimeList", fn := fun _ => fun
  | [d] => { results := [.lit (.bool false)], args := [d] }
  | _ => none }
def FnExactPrimeListWrongFalsely : Prop := fnExactPrimeListRow.holds Try.pinned (OpenSpec.ofChange fnExactPrimeListWrong)

/-- 'laws.FnExactReadNatural': WHATEVER THE INPUT: true; the input reads as it did. -/
def fnExactReadNaturalSpec : ChangeSpec := { name := "fnExactReadNatural", fn := fun _ => fun
  | [d] => { results := [.lit (.bool true)], args := [d] }
  | _ => none }
def fnExactReadNaturalRow : OpenClaim := { program := "ytoppaipiibaocaa", sum := "e609546ebd7c011510e6f97ace74c1efd04e1cd2ab413c5999163d379e1fdf42", func := "loop.example/g01079/laws.FnExactReadNatural", spec := "fnExactReadNatural", plainKeys := false, apart := false }
def FnExactReadNaturalSaid : Prop := fnExactReadNaturalRow.holds Try.pinned (OpenSpec.ofChange fnExactReadNaturalSpec)

/-- ITS FALSE NEIGHBOUR: 'it returns false'. Refute it at one input. -/
def fnExactReadNaturalWrong : ChangeSpec := { name := "fnExactReadNatural", fn := fun _ => fun
  | [d] => { results := [.lit (.bool false)], args := [d] }
  | _ => none }
def FnExactReadNaturalWrongFalsely : Prop := fnExactReadNaturalRow.holds Try.pinned (OpenSpec.ofChange fnExactReadNaturalWrong)

/-- 'laws.FnExactSplitWords': WHATEVER THE INPUT: true; the input reads as it did. -/
def fnExactSplitWordsSpec : ChangeSpec := { name := "fnExactSplitWords", fn := fun _ => fun
  | [d] => { results := [.lit (.bool true)], args := [d] }
  | _ => none }
def fnExactSplitWordsRow : OpenClaim := { program := "ytoppaipiibaocaa", sum := "e609546ebd7c011510e6f97ace74c1efd04e1cd2ab413c5999163d379e1fdf42", func := "loop.example/g01079/laws.FnExactSplitWords", spec := "fnExactSplitWords", unfollowed := true, recurses := true, plainKeys := false, apart := false }
def FnExactSplitWordsSaid : Prop := fnExactSplitWordsRow.holds Try.pinned (OpenSpec.ofChange fnExactSplitWordsSpec)

/-- ITS FALSE NEIGHBOUR: 'it returns false'. Refute it at one input. -/
def fnExactSplitWordsWrong : ChangeSpec := { name := "fnExactSplitWords", fn := fun _ => fun
  | [d] => { results := [.lit (.bool false)], args := [d] }
  | _ => none }
def FnExactSplitWordsWrongFalsely : Prop := fnExactSplitWordsRow.holds Try.pinned (OpenSpec.ofChange fnExactSplitWordsWrong)

/-- 'laws.FnExactCopyMulti': WHATEVER THE INPUT: true; the input reads as it did. -/
def fnExactCopyMultiSpec : ChangeSpec := { name := "fnExactCopyMulti", fn := fun _ => fun
  | [d] => { results := [.lit (.bool true)], args := [d] }
  | _ => none }
def fnExactCopyMultiRow : OpenClaim := { program := "ytoppaipiibaocaa", sum := "e609546ebd7c011510e6f97ace74c1efd04e1cd2ab413c5999163d379e1fdf42", func := "loop.example/g01079/laws.FnExactCopyMulti", spec := "fnExactCopyMulti", plainKeys := false, apart := false }
def FnExactCopyMultiSaid : Prop := fnExactCopyMultiRow.holds Try.pinned (OpenSpec.ofChange fnExactCopyMultiSpec)

/-- ITS FALSE NEIGHBOUR: 'it returns false'. Refute it at one input. -/
def fnExactCopyMultiWrong : ChangeSpec := { name := "fnExactCopyMulti", fn := fun _ => fun
  | [d] => { results := [.lit (.bool false)], args := [d] }
  | _ => none }
def FnExactCopyMultiWrongFalsely : Prop := fnExactCopyMultiRow.holds Try.pinned (OpenSpec.ofChange fnExactCopyMultiWrong)

/-- 'laws.FnExactStartMulti': WHATEVER THE INPUT: true; the input reads as it did. -/
def fnExactStartMultiSpec : ChangeSpec := { name := "fnExactStartMulti", fn := fun _ => fun
  | [d1, d2] => { results := [.lit (.bool true)], args := [d1, d2] }
  | _ => none }
def fnExactStartMultiRow : OpenClaim := { program := "ytoppaipiibaocaa", sum := "e609546ebd7c011510e6f97ace74c1efd04e1cd2ab413c5999163d379e1fdf42", func := "loop.example/g01079/laws.FnExactStartMulti", spec := "fnExactStartMulti", unfollowed := true, recurses := true, plainKeys := false, apart := false }
def FnExactStartMultiSaid : Prop := fnExactStartMultiRow.holds Try.pinned (OpenSpec.ofChange fnExactStartMultiSpec)

/-- ITS FALSE NEIGHBOUR: 'it returns false'. Refute it at one input. -/
def fnExactStartMultiWrong : ChangeSpec := { name := "fnExactStartMulti", fn := fun _ => fun
  | [d1, d2] => { results := [.lit (.bool false)], args := [d1, d2] }
  | _ => none }
def FnExactStartMultiWrongFalsely : Prop := fnExactStartMultiRow.holds Try.pinned (OpenSpec.ofChange fnExactStartMultiWrong)

/-- 'laws.FnExactHaltingReads': WHATEVER THE INPUT: true; the input reads as it did. -/
def fnExactHaltingReadsSpec : ChangeSpec := { name := "fnExactHaltingReads", fn := fun _ => fun
  | [d1, d2] => { results := [.lit (.bool true)], args := [d1, d2] }
  | _ => none }
def fnExactHaltingReadsRow : OpenClaim := { program := "ytoppaipiibaocaa", sum := "e609546ebd7c011510e6f97ace74c1efd04e1cd2ab413c5999163d379e1fdf42", func := "loop.example/g01079/laws.FnExactHaltingReads", spec := "fnExactHaltingReads", unfollowed := true, recurses := true, plainKeys := false, apart := false }
def FnExactHaltingReadsSaid : Prop := fnExactHaltingReadsRow.holds Try.pinned (OpenSpec.ofChange fnExactHaltingReadsSpec)

/-- ITS FALSE NEIGHBOUR: 'it returns false'. Refute it at one input. -/
def fnExactHaltingReadsWrong : ChangeSpec := { name := "fnExactHaltingReads", fn := fun _ => fun
  | [d1, d2] => { results := [.lit (.bool false)], args := [d1, d2] }
  | _ => none }
def FnExactHaltingReadsWrongFalsely : Prop := fnExactHaltingReadsRow.holds Try.pinned (OpenSpec.ofChange fnExactHaltingReadsWrong)

/- THE SECOND FORM. 'bulk': how many values and letters a reading holds, each counted each time it is reached (what is shared counts as often as it is met; a slice's spare places count too). A statement '..UptoSaid' is the law's where the arguments, and the package variables that the reading takes, are together of bulk at most 1048576: NARROWER than '..Said'. Prove '..Said' where nothing that the law and all that it calls make is longer than what came in: it says more and counts as full. Else prove '..UptoSaid'. A law counts once. -/
mutual
def uptoBulk {H : Type} : DataW H → Nat
  | .lit (.string bytes) => bytes.length + 1
  | .lit _ => 1
  | .nil => 1
  | .ptr d => uptoBulk d + 1
  | .slice elems spare => uptoBulkAll elems + uptoBulkAll spare + 1
  | .agg parts => uptoBulkAll parts + 1
  | .iface _ d => uptoBulk d + 1
  | .map entries => uptoBulkEntries entries + 1
  | .held _ => 1
def uptoBulkAll {H : Type} : List (DataW H) → Nat
  | [] => 0
  | d :: r => uptoBulk d + uptoBulkAll r
def uptoBulkEntries {H : Type} : List (Lit × DataW H) → Nat
  | [] => 0
  | x :: r => uptoBulkEntry x + uptoBulkEntries r
def uptoBulkEntry {H : Type} : Lit × DataW H → Nat
  | (.string bytes, d) => bytes.length + uptoBulk d + 1
  | (_, d) => uptoBulk d + 1
 end
def uptoSmall : (H : Type) → List (DataW H) → Bool := fun _ ds => decide (uptoBulkAll ds ≤ 1048576)
def OpenSpec.upto (s : _root_.Go.ChangeSpec) : _root_.Go.OpenSpec := { _root_.Go.OpenSpec.ofChange s with cond := some uptoSmall }

/-- 'laws.FnExactPrimeAt', WHERE WHAT IT READS IS OF BULK AT MOST 1048576: true; the input reads as it did. -/
def fnExactPrimeAtUptoRow : OpenClaim := { program := "ytoppaipiibaocaa", sum := "e609546ebd7c011510e6f97ace74c1efd04e1cd2ab413c5999163d379e1fdf42", func := "loop.example/g01079/laws.FnExactPrimeAt", spec := "fnExactPrimeAt", plainKeys := false, apart := false, narrowed := true }
def FnExactPrimeAtUptoSaid : Prop := fnExactPrimeAtUptoRow.holds Try.pinned (OpenSpec.upto fnExactPrimeAtSpec)

/-- 'laws.FnExactPrimeNumber', WHERE WHAT IT READS IS OF BULK AT MOST 1048576: true; the input reads as it did. -/
def fnExactPrimeNumberUptoRow : OpenClaim := { program := "ytoppaipiibaocaa", sum := "e609546ebd7c011510e6f97ace74c1efd04e1cd2ab413c5999163d379e1fdf42", func := "loop.example/g01079/laws.FnExactPrimeNumber", spec := "fnExactPrimeNumber", unfollowed := true, recurses := true, plainKeys := false, apart := false, narrowed := true }
def FnExactPrimeNumberUptoSaid : Prop := fnExactPrimeNumberUptoRow.holds Try.pinned (OpenSpec.upto fnExactPrimeNumberSpec)

/-- 'laws.FnExactPrimeList', WHERE WHAT IT READS IS OF BULK AT MOST 1048576: true; the input reads as it did. -/
def fnExactPrimeListUptoRow : OpenClaim := { program := "ytoppaipiibaocaa", sum := "e609546ebd7c011510e6f97ace74c1efd04e1cd2ab413c5999163d379e1fdf42", func := "loop.example/g01079/laws.FnExactPrimeList", spec := "fnExactPrimeList", unfollowed := true, recurses := true, plainKeys := false, apart := false, narrowed := true }
def FnExactPrimeListUptoSaid : Prop := fnExactPrimeListUptoRow.holds Try.pinned (OpenSpec.upto fnExactPrimeListSpec)

/-- 'laws.FnExactReadNatural', WHERE WHAT IT READS IS OF BULK AT MOST 1048576: true; the input reads as it did. -/
def fnExactReadNaturalUptoRow : OpenClaim := { program := "ytoppaipiibaocaa", sum := "e609546ebd7c011510e6f97ace74c1efd04e1cd2ab413c5999163d379e1fdf42", func := "loop.example/g01079/laws.FnExactReadNatural", spec := "fnExactReadNatural", plainKeys := false, apart := false, narrowed := true }
def FnExactReadNaturalUptoSaid : Prop := fnExactReadNaturalUptoRow.holds Try.pinned (OpenSpec.upto fnExactReadNaturalSpec)

/-- 'laws.FnExactSplitWords', WHERE WHAT IT READS IS OF BULK AT MOST 1048576: true; the input reads as it did. -/
def fnExactSplitWordsUptoRow : OpenClaim := { program := "ytoppaipiibaocaa", sum := "e609546ebd7c011510e6f97ace74c1efd04e1cd2ab413c5999163d379e1fdf42", func := "loop.example/g01079/laws.FnExactSplitWords", spec := "fnExactSplitWords", unfollowed := true, recurses := true, plainKeys := false, apart := false, narrowed := true }
def FnExactSplitWordsUptoSaid : Prop := fnExactSplitWordsUptoRow.holds Try.pinned (OpenSpec.upto fnExactSplitWordsSpec)

/-- 'laws.FnExactCopyMulti', WHERE WHAT IT READS IS OF BULK AT MOST 1048576: true; the input reads as it did. -/
def fnExactCopyMultiUptoRow : OpenClaim := { program := "ytoppaipiibaocaa", sum := "e609546ebd7c011510e6f97ace74c1efd04e1cd2ab413c5999163d379e1fdf42", func := "loop.example/g01079/laws.FnExactCopyMulti", spec := "fnExactCopyMulti", plainKeys := false, apart := false, narrowed := true }
def FnExactCopyMultiUptoSaid : Prop := fnExactCopyMultiUptoRow.holds Try.pinned (OpenSpec.upto fnExactCopyMultiSpec)

/-- 'laws.FnExactStartMulti', WHERE WHAT IT READS IS OF BULK AT MOST 1048576: true; the input reads as it did. -/
def fnExactStartMultiUptoRow : OpenClaim := { program := "ytoppaipiibaocaa", sum := "e609546ebd7c011510e6f97ace74c1efd04e1cd2ab413c5999163d379e1fdf42", func := "loop.example/g01079/laws.FnExactStartMulti", spec := "fnExactStartMulti", unfollowed := true, recurses := true, plainKeys := false, apart := false, narrowed := true }
def FnExactStartMultiUptoSaid : Prop := fnExactStartMultiUptoRow.holds Try.pinned (OpenSpec.upto fnExactStartMultiSpec)

/-- 'laws.FnExactHaltingReads', WHERE WHAT IT READS IS OF BULK AT MOST 1048576: true; the input reads as it did. -/
def fnExactHaltingReadsUptoRow : OpenClaim := { program := "ytoppaipiibaocaa", sum := "e609546ebd7c011510e6f97ace74c1efd04e1cd2ab413c5999163d379e1fdf42", func := "loop.example/g01079/laws.FnExactHaltingReads", spec := "fnExactHaltingReads", unfollowed := true, recurses := true, plainKeys := false, apart := false, narrowed := true }
def FnExactHaltingReadsUptoSaid : Prop := fnExactHaltingReadsUptoRow.holds Try.pinned (OpenSpec.upto fnExactHaltingReadsSpec)

end Rows
end Go.Proofs.Ytoppaipiibaocaa
