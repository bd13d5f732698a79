/-
  No cell of these rows narrows 'for every input' (looked for: loops, veiled, ifaces, maps, wideKeys, modest, calm, conditions, laid).
  DERIVED. THE GIVEN ROWS OF THIS SEAT. 12 by the template 'for every input the law returns true; each argument reads behind the call as it read before'; 0 by the template 'total and deterministic' (their statements: YthbnomfaokancabTotals.lean).
  GIVEN WITH THE SEED: the statements are not yours to turn. If you find one false, say at which input.
  Laid BY PROGRAM, IN A SANDBOX (cutbox-rows.mjs): the forced cells as the released guide's own fill.sh prints them over the translation 8600b548d747205b… (all of the seat's roots in one cut). By AI agents, Wed Nov 11 2026. No macro, syntax, notation, axiom, sorry.
-/
import Derived.Test.YthbnomfaokancabChecked
import GoSem.Claim
import GoSem.ClaimJoined
import GoSem.ClaimMapViews
import Derived.JoinedTies
import Derived.KernelRfl
namespace Go.Proofs.Ythbnomfaokancab
/- THE CELL 'sum', in the pinned program and in every row, IS THE sha256 OF THE DUMP (.gsa) THAT YthbnomfaokancabProg.lean LOADS. Nothing in Lean hashes anything: it is a label: what it is worth is what the hold of that sum in a sandbox is worth. -/
noncomputable def Try.pinned : Pinned := { name := "ythbnomfaokancab", sum := "8600b548d747205bf4410c54fb27ef5006671aadbab4a8221d4210254fdd3388", checked := Try.checked }
namespace Rows
def none {H : Type} : Left H := { results := [], args := [] }

/-- 'laws.FnExactRankWord': WHATEVER THE INPUT: true; the input reads as it did. -/
def fnExactRankWordSpec : ChangeSpec := { name := "fnExactRankWord", fn := fun _ => fun
  | [d1, d2] => { results := [.lit (.bool true)], args := [d1, d2] }
  | _ => none }
def fnExactRankWordRow : OpenClaim := { program := "ythbnomfaokancab", sum := "8600b548d747205bf4410c54fb27ef5006671aadbab4a8221d4210254fdd3388", func := "loop.example/g01079/laws.FnExactRankWord", spec := "fnExactRankWord", unfollowed := true, recurses := true, leaving := true, apart := false }
def FnExactRankWordSaid : Prop := fnExactRankWordRow.holds Try.pinned (OpenSpec.ofChange fnExactRankWordSpec)

/-- ITS FALSE NEIGHBOUR: 'it returns false'. Refute it at one input. -/
def fnExactRankWordWrong : ChangeSpec := { name := "fnExactRankWord", fn := fun _ => fun
  | [d1, d2] => { results := [.lit (.bool false)], args := [d1, d2] }
  | _ => none }
def FnExactRankWordWrongFalsely : Prop := fnExactRankWordRow.holds Try.pinned (OpenSpec.ofChange fnExactRankWordWrong)

/-- 'laws.FnExactWordAt': WHATEVER THE INPUT: true; the input reads as it did. -/
def fnExactWordAtSpec : ChangeSpec := { name := "fnExactWordAt", fn := fun _ => fun
  | [d1, d2] => { results := [.lit (.bool true)], args := [d1, d2] }
  | _ => none }
def fnExactWordAtRow : OpenClaim := { program := "ythbnomfaokancab", sum := "8600b548d747205bf4410c54fb27ef5006671aadbab4a8221d4210254fdd3388", func := "loop.example/g01079/laws.FnExactWordAt", spec := "fnExactWordAt", apart := false }
def FnExactWordAtSaid : Prop := fnExactWordAtRow.holds Try.pinned (OpenSpec.ofChange fnExactWordAtSpec)

/-- ITS FALSE NEIGHBOUR: 'it returns false'. Refute it at one input. -/
def fnExactWordAtWrong : ChangeSpec := { name := "fnExactWordAt", fn := fun _ => fun
  | [d1, d2] => { results := [.lit (.bool false)], args := [d1, d2] }
  | _ => none }
def FnExactWordAtWrongFalsely : Prop := fnExactWordAtRow.holds Try.pinned (OpenSpec.ofChange fnExactWordAtWrong)

/-- 'laws.FnExactIsPrefixCode': WHATEVER THE INPUT: true; the input reads as it did. -/
def fnExactIsPrefixCodeSpec : ChangeSpec := { name := "fnExactIsPrefixCode", fn := fun _ => fun
  | [d] => { results := [.lit (.bool true)], args := [d] }
  | _ => none }
def fnExactIsPrefixCodeRow : OpenClaim := { program := "ythbnomfaokancab", sum := "8600b548d747205bf4410c54fb27ef5006671aadbab4a8221d4210254fdd3388", func := "loop.example/g01079/laws.FnExactIsPrefixCode", spec := "fnExactIsPrefixCode", unfollowed := true, recurses := true, leaving := true, apart := false }
def FnExactIsPrefixCodeSaid : Prop := fnExactIsPrefixCodeRow.holds Try.pinned (OpenSpec.ofChange fnExactIsPrefixCodeSpec)

/-- ITS FALSE NEIGHBOUR: 'it returns false'. Refute it at one input. -/
def fnExactIsPrefixCodeWrong : ChangeSpec := { name := "fnExactIsPrefixCode", fn := fun _ => fun
  | [d] => { results := [.lit (.bool false)], args := [d] }
  | _ => none }
def FnExactIsPrefixCodeWrongFalsely : Prop := fnExactIsPrefixCodeRow.holds Try.pinned (OpenSpec.ofChange fnExactIsPrefixCodeWrong)

/-- 'laws.FnExactEncodeWith': WHATEVER THE INPUT: true; the input reads as it did. -/
def fnExactEncodeWithSpec : ChangeSpec := { name := "fnExactEncodeWith", fn := fun _ => fun
  | [d1, d2] => { results := [.lit (.bool true)], args := [d1, d2] }
  | _ => none }
def fnExactEncodeWithRow : OpenClaim := { program := "ythbnomfaokancab", sum := "8600b548d747205bf4410c54fb27ef5006671aadbab4a8221d4210254fdd3388", func := "loop.example/g01079/laws.FnExactEncodeWith", spec := "fnExactEncodeWith", unfollowed := true, recurses := true, leaving := true, apart := false }
def FnExactEncodeWithSaid : Prop := fnExactEncodeWithRow.holds Try.pinned (OpenSpec.ofChange fnExactEncodeWithSpec)

/-- ITS FALSE NEIGHBOUR: 'it returns false'. Refute it at one input. -/
def fnExactEncodeWithWrong : ChangeSpec := { name := "fnExactEncodeWith", fn := fun _ => fun
  | [d1, d2] => { results := [.lit (.bool false)], args := [d1, d2] }
  | _ => none }
def FnExactEncodeWithWrongFalsely : Prop := fnExactEncodeWithRow.holds Try.pinned (OpenSpec.ofChange fnExactEncodeWithWrong)

/-- 'laws.FnExactDecodeWith': WHATEVER THE INPUT: true; the input reads as it did. -/
def fnExactDecodeWithSpec : ChangeSpec := { name := "fnExactDecodeWith", fn := fun _ => fun
  | [d1, d2] => { results := [.lit (.bool true)], args := [d1, d2] }
  | _ => none }
def fnExactDecodeWithRow : OpenClaim := { program := "ythbnomfaokancab", sum := "8600b548d747205bf4410c54fb27ef5006671aadbab4a8221d4210254fdd3388", func := "loop.example/g01079/laws.FnExactDecodeWith", spec := "fnExactDecodeWith", unfollowed := true, recurses := true, leaving := true, apart := false }
def FnExactDecodeWithSaid : Prop := fnExactDecodeWithRow.holds Try.pinned (OpenSpec.ofChange fnExactDecodeWithSpec)

/-- ITS FALSE NEIGHBOUR: 'it returns false'. Refute it at one input. -/
def fnExactDecodeWithWrong : ChangeSpec := { name := "fnExactDecodeWith", fn := fun _ => fun
  | [d1, d2] => { results := [.lit (.bool false)], args := [d1, d2] }
  | _ => none }
def FnExactDecodeWithWrongFalsely : Prop := fnExactDecodeWithRow.holds Try.pinned (OpenSpec.ofChange fnExactDecodeWithWrong)

/-- 'laws.FnExactPairOf': WHATEVER THE INPUT: true; the input reads as it did. -/
def fnExactPairOfSpec : ChangeSpec := { name := "fnExactPairOf", fn := fun _ => fun
  | [d1, d2] => { results := [.lit (.bool true)], args := [d1, d2] }
  | _ => none }
def fnExactPairOfRow : OpenClaim := { program := "ythbnomfaokancab", sum := "8600b548d747205bf4410c54fb27ef5006671aadbab4a8221d4210254fdd3388", func := "loop.example/g01079/laws.FnExactPairOf", spec := "fnExactPairOf", unfollowed := true, recurses := true, leaving := true, apart := false }
def FnExactPairOfSaid : Prop := fnExactPairOfRow.holds Try.pinned (OpenSpec.ofChange fnExactPairOfSpec)

/-- ITS FALSE NEIGHBOUR: 'it returns false'. Refute it at one input. -/
def fnExactPairOfWrong : ChangeSpec := { name := "fnExactPairOf", fn := fun _ => fun
  | [d1, d2] => { results := [.lit (.bool false)], args := [d1, d2] }
  | _ => none }
def FnExactPairOfWrongFalsely : Prop := fnExactPairOfRow.holds Try.pinned (OpenSpec.ofChange fnExactPairOfWrong)

/-- 'laws.FnExactUnpairOf': WHATEVER THE INPUT: true; the input reads as it did. -/
def fnExactUnpairOfSpec : ChangeSpec := { name := "fnExactUnpairOf", fn := fun _ => fun
  | [d] => { results := [.lit (.bool true)], args := [d] }
  | _ => none }
def fnExactUnpairOfRow : OpenClaim := { program := "ythbnomfaokancab", sum := "8600b548d747205bf4410c54fb27ef5006671aadbab4a8221d4210254fdd3388", func := "loop.example/g01079/laws.FnExactUnpairOf", spec := "fnExactUnpairOf", unfollowed := true, recurses := true, leaving := true, apart := false }
def FnExactUnpairOfSaid : Prop := fnExactUnpairOfRow.holds Try.pinned (OpenSpec.ofChange fnExactUnpairOfSpec)

/-- ITS FALSE NEIGHBOUR: 'it returns false'. Refute it at one input. -/
def fnExactUnpairOfWrong : ChangeSpec := { name := "fnExactUnpairOf", fn := fun _ => fun
  | [d] => { results := [.lit (.bool false)], args := [d] }
  | _ => none }
def FnExactUnpairOfWrongFalsely : Prop := fnExactUnpairOfRow.holds Try.pinned (OpenSpec.ofChange fnExactUnpairOfWrong)

/-- 'laws.FnExactTupleNumber': WHATEVER THE INPUT: true; the input reads as it did. -/
def fnExactTupleNumberSpec : ChangeSpec := { name := "fnExactTupleNumber", fn := fun _ => fun
  | [d] => { results := [.lit (.bool true)], args := [d] }
  | _ => none }
def fnExactTupleNumberRow : OpenClaim := { program := "ythbnomfaokancab", sum := "8600b548d747205bf4410c54fb27ef5006671aadbab4a8221d4210254fdd3388", func := "loop.example/g01079/laws.FnExactTupleNumber", spec := "fnExactTupleNumber", unfollowed := true, recurses := true, leaving := true, apart := false }
def FnExactTupleNumberSaid : Prop := fnExactTupleNumberRow.holds Try.pinned (OpenSpec.ofChange fnExactTupleNumberSpec)

/-- ITS FALSE NEIGHBOUR: 'it returns false'. Refute it at one input. -/
def fnExactTupleNumberWrong : ChangeSpec := { name := "fnExactTupleNumber", fn := fun _ => fun
  | [d] => { results := [.lit (.bool false)], args := [d] }
  | _ => none }
def FnExactTupleNumberWrongFalsely : Prop := fnExactTupleNumberRow.holds Try.pinned (OpenSpec.ofChange fnExactTupleNumberWrong)

/-- 'laws.FnExactTupleOf': WHATEVER THE INPUT: true; the input reads as it did. -/
def fnExactTupleOfSpec : ChangeSpec := { name := "fnExactTupleOf", fn := fun _ => fun
  | [d1, d2] => { results := [.lit (.bool true)], args := [d1, d2] }
  | _ => none }
def fnExactTupleOfRow : OpenClaim := { program := "ythbnomfaokancab", sum := "8600b548d747205bf4410c54fb27ef5006671aadbab4a8221d4210254fdd3388", func := "loop.example/g01079/laws.FnExactTupleOf", spec := "fnExactTupleOf", unfollowed := true, recurses := true, leaving := true, apart := false }
def FnExactTupleOfSaid : Prop := fnExactTupleOfRow.holds Try.pinned (OpenSpec.ofChange fnExactTupleOfSpec)

/-- ITS FALSE NEIGHBOUR: 'it returns false'. Refute it at one input. -/
def fnExactTupleOfWrong : ChangeSpec := { name := "fnExactTupleOf", fn := fun _ => fun
  | [d1, d2] => { results := [.lit (.bool false)], args := [d1, d2] }
  | _ => none }
def FnExactTupleOfWrongFalsely : Prop := fnExactTupleOfRow.holds Try.pinned (OpenSpec.ofChange fnExactTupleOfWrong)

/-- 'laws.FnExactSequenceNumber': WHATEVER THE INPUT: true; the input reads as it did. -/
def fnExactSequenceNumberSpec : ChangeSpec := { name := "fnExactSequenceNumber", fn := fun _ => fun
  | [d] => { results := [.lit (.bool true)], args := [d] }
  | _ => none }
def fnExactSequenceNumberRow : OpenClaim := { program := "ythbnomfaokancab", sum := "8600b548d747205bf4410c54fb27ef5006671aadbab4a8221d4210254fdd3388", func := "loop.example/g01079/laws.FnExactSequenceNumber", spec := "fnExactSequenceNumber", unfollowed := true, recurses := true, leaving := true, apart := false }
def FnExactSequenceNumberSaid : Prop := fnExactSequenceNumberRow.holds Try.pinned (OpenSpec.ofChange fnExactSequenceNumberSpec)

/-- ITS FALSE NEIGHBOUR: 'it returns false'. Refute it at one input. -/
def fnExactSequenceNumberWrong : ChangeSpec := { name := "fnExactSequenceNumber", fn := fun _ => fun
  | [d] => { results := [.lit (.bool false)], args := [d] }
  | _ => none }
def FnExactSequenceNumberWrongFalsely : Prop := fnExactSequenceNumberRow.holds Try.pinned (OpenSpec.ofChange fnExactSequenceNumberWrong)

/-- 'laws.FnExactSequenceOf': WHATEVER THE INPUT: true; the input reads as it did. -/
def fnExactSequenceOfSpec : ChangeSpec := { name := "fnExactSequenceOf", fn := fun _ => fun
  | [d] => { results := [.lit (.bool true)], args := [d] }
  | _ => none }
def fnExactSequenceOfRow : OpenClaim := { program := "ythbnomfaokancab", sum := "8600b548d747205bf4410c54fb27ef5006671aadbab4a8221d4210254fdd3388", func := "loop.example/g01079/laws.FnExactSequenceOf", spec := "fnExactSequenceOf", unfollowed := true, recurses := true, leaving := true, apart := false }
def FnExactSequenceOfSaid : Prop := fnExactSequenceOfRow.holds Try.pinned (OpenSpec.ofChange fnExactSequenceOfSpec)

/-- ITS FALSE NEIGHBOUR: 'it returns false'. Refute it at one input. -/
def fnExactSequenceOfWrong : ChangeSpec := { name := "fnExactSequenceOf", fn := fun _ => fun
  | [d] => { results := [.lit (.bool false)], args := [d] }
  | _ => none }
def FnExactSequenceOfWrongFalsely : Prop := fnExactSequenceOfRow.holds Try.pinned (OpenSpec.ofChange fnExactSequenceOfWrong)

/-- 'laws.FnExactPrimeNumber': WHATEVER THE INPUT: true; the input reads as it did. -/
def fnExactPrimeNumberSpec : ChangeSpec := { name := "fnExactPrimeNumber", fn := fun _ => fun
  | [d] => { results := [.lit (.bool true)], args := [d] }
  | _ => none }
def fnExactPrimeNumberRow : OpenClaim := { program := "ythbnomfaokancab", sum := "8600b548d747205bf4410c54fb27ef5006671aadbab4a8221d4210254fdd3388", func := "loop.example/g01079/laws.FnExactPrimeNumber", spec := "fnExactPrimeNumber", unfollowed := true, recurses := true, leaving := true, apart := false }
def FnExactPrimeNumberSaid : Prop := fnExactPrimeNumberRow.holds Try.pinned (OpenSpec.ofChange fnExactPrimeNumberSpec)

/-- ITS FALSE NEIGHBOUR: 'it returns false'. Refute it at one input. -/
def fnExactPrimeNumberWrong : ChangeSpec := { name := "fnExactPrimeNumber", fn := fun _ => fun
  | [d] => { results := [.lit (.bool false)], args := [d] }
  | _ => none }
def FnExactPrimeNumberWrongFalsely : Prop := fnExactPrimeNumberRow.holds Try.pinned (OpenSpec.ofChange fnExactPrimeNumberWrong)

/- THE SECOND FORM. 'bulk': how many values and letters a reading holds, each counted each time it is reached (what is shared counts as often as it is met; a slice's spare places count too). A statement '..UptoSaid' is the law's where the arguments, and the package variables that the reading takes, are together of bulk at most 1048576: NARROWER than '..Said'. Prove '..Said' where nothing that the law and all that it calls make is longer than what came in: it says more and counts as full. Else prove '..UptoSaid'. A law counts once. -/
mutual
def uptoBulk {H : Type} : DataW H → Nat
  | .lit (.string bytes) => bytes.length + 1
  | .lit _ => 1
  | .nil => 1
  | .ptr d => uptoBulk d + 1
  | .slice elems spare => uptoBulkAll elems + uptoBulkAll spare + 1
  | .agg parts => uptoBulkAll parts + 1
  | .iface _ d => uptoBulk d + 1
  | .map entries => uptoBulkEntries entries + 1
  | .held _ => 1
def uptoBulkAll {H : Type} : List (DataW H) → Nat
  | [] => 0
  | d :: r => uptoBulk d + uptoBulkAll r
def uptoBulkEntries {H : Type} : List (Lit × DataW H) → Nat
  | [] => 0
  | x :: r => uptoBulkEntry x + uptoBulkEntries r
def uptoBulkEntry {H : Type} : Lit × DataW H → Nat
  | (.string bytes, d) => bytes.length + uptoBulk d + 1
  | (_, d) => uptoBulk d + 1
 end
def uptoSmall : (H : Type) → List (DataW H) → Bool := fun _ ds => decide (uptoBulkAll ds ≤ 1048576)
def OpenSpec.upto (s : _root_.Go.ChangeSpec) : _root_.Go.OpenSpec := { _root_.Go.OpenSpec.ofChange s with cond := some uptoSmall }

/-- 'laws.FnExactRankWord', WHERE WHAT IT READS IS OF BULK AT MOST 1048576: true; the input reads as it did. -/
def fnExactRankWordUptoRow : OpenClaim := { program := "ythbnomfaokancab", sum := "8600b548d747205bf4410c54fb27ef5006671aadbab4a8221d4210254fdd3388", func := "loop.example/g01079/laws.FnExactRankWord", spec := "fnExactRankWord", unfollowed := true, recurses := true, leaving := true, apart := false, narrowed := true }
def FnExactRankWordUptoSaid : Prop := fnExactRankWordUptoRow.holds Try.pinned (OpenSpec.upto fnExactRankWordSpec)

/-- 'laws.FnExactWordAt', WHERE WHAT IT READS IS OF BULK AT MOST 1048576: true; the input reads as it did. -/
def fnExactWordAtUptoRow : OpenClaim := { program := "ythbnomfaokancab", sum := "8600b548d747205bf4410c54fb27ef5006671aadbab4a8221d4210254fdd3388", func := "loop.example/g01079/laws.FnExactWordAt", spec := "fnExactWordAt", apart := false, narrowed := true }
def FnExactWordAtUptoSaid : Prop := fnExactWordAtUptoRow.holds Try.pinned (OpenSpec.upto fnExactWordAtSpec)

/-- 'laws.FnExactIsPrefixCode', WHERE WHAT IT READS IS OF BULK AT MOST 1048576: true; the input reads as it did. -/
def fnExactIsPrefixCodeUptoRow : OpenClaim := { program := "ythbnomfaokancab", sum := "8600b548d747205bf4410c54fb27ef5006671aadbab4a8221d4210254fdd3388", func := "loop.example/g01079/laws.FnExactIsPrefixCode", spec := "fnExactIsPrefixCode", unfollowed := true, recurses := true, leaving := true, apart := false, narrowed := true }
def FnExactIsPrefixCodeUptoSaid : Prop := fnExactIsPrefixCodeUptoRow.holds Try.pinned (OpenSpec.upto fnExactIsPrefixCodeSpec)

/-- 'laws.FnExactEncodeWith', WHERE WHAT IT READS IS OF BULK AT MOST 1048576: true; the input reads as it did. -/
def fnExactEncodeWithUptoRow : OpenClaim := { program := "ythbnomfaokancab", sum := "8600b548d747205bf4410c54fb27ef5006671aadbab4a8221d4210254fdd3388", func := "loop.example/g01079/laws.FnExactEncodeWith", spec := "fnExactEncodeWith", unfollowed := true, recurses := true, leaving := true, apart := false, narrowed := true }
def FnExactEncodeWithUptoSaid : Prop := fnExactEncodeWithUptoRow.holds Try.pinned (OpenSpec.upto fnExactEncodeWithSpec)

/-- 'laws.FnExactDecodeWith', WHERE WHAT IT READS IS OF BULK AT MOST 1048576: true; the input reads as it did. -/
def fnExactDecodeWithUptoRow : OpenClaim := { program := "ythbnomfaokancab", sum := "8600b548d747205bf4410c54fb27ef5006671aadbab4a8221d4210254fdd3388", func := "loop.example/g01079/laws.FnExactDecodeWith", spec := "fnExactDecodeWith", unfollowed := true, recurses := true, leaving := true, apart := false, narrowed := true }
def FnExactDecodeWithUptoSaid : Prop := fnExactDecodeWithUptoRow.holds Try.pinned (OpenSpec.upto fnExactDecodeWithSpec)

/-- 'laws.FnExactPairOf', WHERE WHAT IT READS IS OF BULK AT MOST 1048576: true; the input reads as it did. -/
def fnExactPairOfUptoRow : OpenClaim := { program := "ythbnomfaokancab", sum := "8600b548d747205bf4410c54fb27ef5006671aadbab4a8221d4210254fdd3388", func := "loop.example/g01079/laws.FnExactPairOf", spec := "fnExactPairOf", unfollowed := true, recurses := true, leaving := true, apart := false, narrowed := true }
def FnExactPairOfUptoSaid : Prop := fnExactPairOfUptoRow.holds Try.pinned (OpenSpec.upto fnExactPairOfSpec)

/-- 'laws.FnExactUnpairOf', WHERE WHAT IT READS IS OF BULK AT MOST 1048576: true; the input reads as it did. -/
def fnExactUnpairOfUptoRow : OpenClaim := { program := "ythbnomfaokancab", sum := "8600b548d747205bf4410c54fb27ef5006671aadbab4a8221d4210254fdd3388", func := "loop.example/g01079/laws.FnExactUnpairOf", spec := "fnExactUnpairOf", unfollowed := true, recurses := true, leaving := true, apart := false, narrowed := true }
def FnExactUnpairOfUptoSaid : Prop := fnExactUnpairOfUptoRow.holds Try.pinned (OpenSpec.upto fnExactUnpairOfSpec)

/-- 'laws.FnExactTupleNumber', WHERE WHAT IT READS IS OF BULK AT MOST 1048576: true; the input reads as it did. -/
def fnExactTupleNumberUptoRow : OpenClaim := { program := "ythbnomfaokancab", sum := "8600b548d747205bf4410c54fb27ef5006671aadbab4a8221d4210254fdd3388", func := "loop.example/g01079/laws.FnExactTupleNumber", spec := "fnExactTupleNumber", unfollowed := true, recurses := true, leaving := true, apart := false, narrowed := true }
def FnExactTupleNumberUptoSaid : Prop := fnExactTupleNumberUptoRow.holds Try.pinned (OpenSpec.upto fnExactTupleNumberSpec)

/-- 'laws.FnExactTupleOf', WHERE WHAT IT READS IS OF BULK AT MOST 1048576: true; the input reads as it did. -/
def fnExactTupleOfUptoRow : OpenClaim := { program := "ythbnomfaokancab", sum := "8600b548d747205bf4410c54fb27ef5006671aadbab4a8221d4210254fdd3388", func := "loop.example/g01079/laws.FnExactTupleOf", spec := "fnExactTupleOf", unfollowed := true, recurses := true, leaving := true, apart := false, narrowed := true }
def FnExactTupleOfUptoSaid : Prop := fnExactTupleOfUptoRow.holds Try.pinned (OpenSpec.upto fnExactTupleOfSpec)

/-- 'laws.FnExactSequenceNumber', WHERE WHAT IT READS IS OF BULK AT MOST 1048576: true; the input reads as it did. -/
def fnExactSequenceNumberUptoRow : OpenClaim := { program := "ythbnomfaokancab", sum := "8600b548d747205bf4410c54fb27ef5006671aadbab4a8221d4210254fdd3388", func := "loop.example/g01079/laws.FnExactSequenceNumber", spec := "fnExactSequenceNumber", unfollowed := true, recurses := true, leaving := true, apart := false, narrowed := true }
def FnExactSequenceNumberUptoSaid : Prop := fnExactSequenceNumberUptoRow.holds Try.pinned (OpenSpec.upto fnExactSequenceNumberSpec)

/-- 'laws.FnExactSequenceOf', WHERE WHAT IT READS IS OF BULK AT MOST 1048576: true; the input reads as it did. -/
def fnExactSequenceOfUptoRow : OpenClaim := { program := "ythbnomfaokancab", sum := "8600b548d747205bf4410c54fb27ef5006671aadbab4a8221d4210254fdd3388", func := "loop.example/g01079/laws.FnExactSequenceOf", spec := "fnExactSequenceOf", unfollowed := true, recurses := true, leaving := true, apart := false, narrowed := true }
def FnExactSequenceOfUptoSaid : Prop := fnExactSequenceOfUptoRow.holds Try.pinned (OpenSpec.upto fnExactSequenceOfSpec)

/-- 'laws.FnExactPrimeNumber', WHERE WHAT IT READS IS OF BULK AT MOST 1048576: true; the input reads as it did. -/
def fnExactPrimeNumberUptoRow : OpenClaim := { program := "ythbnomfaokancab", sum := "8600b548d747205bf4410c54fb27ef5006671aadbab4a8221d4210254fdd3388", func := "loop.example/g01079/laws.FnExactPrimeNumber", spec := "fnExactPrimeNumber", unfollowed := true, recurses := true, leaving := true, apart := false, narrowed := true }
def FnExactPrimeNumberUptoSaid : Prop := fnExactPrimeNumberUptoRow.holds Try.pinned (OpenSpec.upto fnExactPrimeNumberSpec)

end Rows
end Go.Proofs.Ythbnomfaokancab
