/-
  No cell of these rows narrows 'for every input' (looked for: loops, veiled, ifaces, maps, wideKeys, modest, calm, conditions, laid).
  DERIVED. THE GIVEN ROWS OF THIS SEAT. 8 by the template 'for every input the law returns true; each argument reads behind the call as it read before'; 0 by the template 'total and deterministic' (their statements: YthombjcjhnekpaaTotals.lean).
  GIVEN WITH THE SEED: the statements are not yours to turn. If you find one false, say at which input.
  Laid BY PROGRAM, IN A SANDBOX (cutbox-rows.mjs): the forced cells as the released guide's own fill.sh prints them over the translation b8f3f5c93c9b858d… (all of the seat's roots in one cut). By AI agents, Wed Nov 11 2026. No macro, syntax, notation, axiom, sorry.
-/
import Derived.Test.YthombjcjhnekpaaChecked
import GoSem.Claim
import GoSem.ClaimJoined
import GoSem.ClaimMapViews
import Derived.JoinedTies
import Derived.KernelRfl
namespace Go.Proofs.Ythombjcjhnekpaa
/- THE CELL 'sum', in the pinned program and in every row, IS THE sha256 OF THE DUMP (.gsa) THAT YthombjcjhnekpaaProg.lean LOADS. Nothing in Lean hashes anything: it is a label: what it is worth is what the hold of that sum in a sandbox is worth. -/
noncomputable def Try.pinned : Pinned := { name := "ythombjcjhnekpaa", sum := "b8f3f5c93c9b858d238db51ffaaec1a8eac67897fa3327413c089108c797ef89", checked := Try.checked }
namespace Rows
def none {H : Type} : Left H := { results := [], args := [] }

/-- 'laws.FnExactBordersOf': WHATEVER THE INPUT: true; the input reads as it did. -/
def fnExactBordersOfSpec : ChangeSpec := { name := "fnExactBordersOf", fn := fun _ => fun
  | [d] => { results := [.lit (.bool true)], args := [d] }
  | _ => none }
def fnExactBordersOfRow : OpenClaim := { program := "ythombjcjhnekpaa", sum := "b8f3f5c93c9b858d238db51ffaaec1a8eac67897fa3327413c089108c797ef89", func := "loop.example/g01079/laws.FnExactBordersOf", spec := "fnExactBordersOf", unfollowed := true, recurses := true, apart := false }
def FnExactBordersOfSaid : Prop := fnExactBordersOfRow.holds Try.pinned (OpenSpec.ofChange fnExactBordersOfSpec)

/-- ITS FALSE NEIGHBOUR: 'it returns false'. Refute it at one input. -/
def fnExactBordersOfWrong : ChangeSpec := { name := "fnExactBordersOf", fn := fun _ => fun
  | [d] => { results := [.lit (.bool false)], args := [d] }
  | _ => none }
def FnExactBordersOfWrongFalsely : Prop := fnExactBordersOfRow.holds Try.pinned (OpenSpec.ofChange fnExactBordersOfWrong)

/-- 'laws.FnExactValidRewrites': WHATEVER THE INPUT: true; the input reads as it did. -/
def fnExactValidRewritesSpec : ChangeSpec := { name := "fnExactValidRewrites", fn := fun _ => fun
  | [d] => { results := [.lit (.bool true)], args := [d] }
  | _ => none }
def fnExactValidRewritesRow : OpenClaim := { program := "ythombjcjhnekpaa", sum := "b8f3f5c93c9b858d238db51ffaaec1a8eac67897fa3327413c089108c797ef89", func := "loop.example/g01079/laws.FnExactValidRewrites", spec := "fnExactValidRewrites", unfollowed := true, recurses := true, apart := false }
def FnExactValidRewritesSaid : Prop := fnExactValidRewritesRow.holds Try.pinned (OpenSpec.ofChange fnExactValidRewritesSpec)

/-- ITS FALSE NEIGHBOUR: 'it returns false'. Refute it at one input. -/
def fnExactValidRewritesWrong : ChangeSpec := { name := "fnExactValidRewrites", fn := fun _ => fun
  | [d] => { results := [.lit (.bool false)], args := [d] }
  | _ => none }
def FnExactValidRewritesWrongFalsely : Prop := fnExactValidRewritesRow.holds Try.pinned (OpenSpec.ofChange fnExactValidRewritesWrong)

/-- 'laws.FnExactValidMarkov': WHATEVER THE INPUT: true; the input reads as it did. -/
def fnExactValidMarkovSpec : ChangeSpec := { name := "fnExactValidMarkov", fn := fun _ => fun
  | [d] => { results := [.lit (.bool true)], args := [d] }
  | _ => none }
def fnExactValidMarkovRow : OpenClaim := { program := "ythombjcjhnekpaa", sum := "b8f3f5c93c9b858d238db51ffaaec1a8eac67897fa3327413c089108c797ef89", func := "loop.example/g01079/laws.FnExactValidMarkov", spec := "fnExactValidMarkov", unfollowed := true, recurses := true, apart := false }
def FnExactValidMarkovSaid : Prop := fnExactValidMarkovRow.holds Try.pinned (OpenSpec.ofChange fnExactValidMarkovSpec)

/-- ITS FALSE NEIGHBOUR: 'it returns false'. Refute it at one input. -/
def fnExactValidMarkovWrong : ChangeSpec := { name := "fnExactValidMarkov", fn := fun _ => fun
  | [d] => { results := [.lit (.bool false)], args := [d] }
  | _ => none }
def FnExactValidMarkovWrongFalsely : Prop := fnExactValidMarkovRow.holds Try.pinned (OpenSpec.ofChange fnExactValidMarkovWrong)

/-- 'laws.FnExactApplyRewrite': WHATEVER THE INPUT: true; the input reads as it did. -/
def fnExactApplyRewriteSpec : ChangeSpec := { name := "fnExactApplyRewrite", fn := fun _ => fun
  | [d1, d2, d3, d4] => { results := [.lit (.bool true)], args := [d1, d2, d3, d4] }
  | _ => none }
def fnExactApplyRewriteRow : OpenClaim := { program := "ythombjcjhnekpaa", sum := "b8f3f5c93c9b858d238db51ffaaec1a8eac67897fa3327413c089108c797ef89", func := "loop.example/g01079/laws.FnExactApplyRewrite", spec := "fnExactApplyRewrite", unfollowed := true, recurses := true, apart := false }
def FnExactApplyRewriteSaid : Prop := fnExactApplyRewriteRow.holds Try.pinned (OpenSpec.ofChange fnExactApplyRewriteSpec)

/-- ITS FALSE NEIGHBOUR: 'it returns false'. Refute it at one input. -/
def fnExactApplyRewriteWrong : ChangeSpec := { name := "fnExactApplyRewrite", fn := fun _ => fun
  | [d1, d2, d3, d4] => { results := [.lit (.bool false)], args := [d1, d2, d3, d4] }
  | _ => none }
def FnExactApplyRewriteWrongFalsely : Prop := fnExactApplyRewriteRow.holds Try.pinned (OpenSpec.ofChange fnExactApplyRewriteWrong)

/-- 'laws.FnExactCheckDerivation': WHATEVER THE INPUT: true; the input reads as it did. -/
def fnExactCheckDerivationSpec : ChangeSpec := { name := "fnExactCheckDerivation", fn := fun _ => fun
  | [d1, d2, d3] => { results := [.lit (.bool true)], args := [d1, d2, d3] }
  | _ => none }
def fnExactCheckDerivationRow : OpenClaim := { program := "ythombjcjhnekpaa", sum := "b8f3f5c93c9b858d238db51ffaaec1a8eac67897fa3327413c089108c797ef89", func := "loop.example/g01079/laws.FnExactCheckDerivation", spec := "fnExactCheckDerivation", unfollowed := true, recurses := true, apart := false }
def FnExactCheckDerivationSaid : Prop := fnExactCheckDerivationRow.holds Try.pinned (OpenSpec.ofChange fnExactCheckDerivationSpec)

/-- ITS FALSE NEIGHBOUR: 'it returns false'. Refute it at one input. -/
def fnExactCheckDerivationWrong : ChangeSpec := { name := "fnExactCheckDerivation", fn := fun _ => fun
  | [d1, d2, d3] => { results := [.lit (.bool false)], args := [d1, d2, d3] }
  | _ => none }
def FnExactCheckDerivationWrongFalsely : Prop := fnExactCheckDerivationRow.holds Try.pinned (OpenSpec.ofChange fnExactCheckDerivationWrong)

/-- 'laws.FnExactRewritesText': WHATEVER THE INPUT: true; the input reads as it did. -/
def fnExactRewritesTextSpec : ChangeSpec := { name := "fnExactRewritesText", fn := fun _ => fun
  | [d] => { results := [.lit (.bool true)], args := [d] }
  | _ => none }
def fnExactRewritesTextRow : OpenClaim := { program := "ythombjcjhnekpaa", sum := "b8f3f5c93c9b858d238db51ffaaec1a8eac67897fa3327413c089108c797ef89", func := "loop.example/g01079/laws.FnExactRewritesText", spec := "fnExactRewritesText", inPlace := ["internal/abi.NoEscape", "internal/bytealg.MakeNoZero"], unfollowed := true, recurses := true, apart := false }
def FnExactRewritesTextSaid : Prop := fnExactRewritesTextRow.holds Try.pinned (OpenSpec.ofChange fnExactRewritesTextSpec)

/-- ITS FALSE NEIGHBOUR: 'it returns false'. Refute it at one input. -/
def fnExactRewritesTextWrong : ChangeSpec := { name := "fnExactRewritesText", fn := fun _ => fun
  | [d] => { results := [.lit (.bool false)], args := [d] }
  | _ => none }
def FnExactRewritesTextWrongFalsely : Prop := fnExactRewritesTextRow.holds Try.pinned (OpenSpec.ofChange fnExactRewritesTextWrong)

/-- 'laws.FnExactMarkovText': WHATEVER THE INPUT: true; the input reads as it did. -/
def fnExactMarkovTextSpec : ChangeSpec := { name := "fnExactMarkovText", fn := fun _ => fun
  | [d] => { results := [.lit (.bool true)], args := [d] }
  | _ => none }
def fnExactMarkovTextRow : OpenClaim := { program := "ythombjcjhnekpaa", sum := "b8f3f5c93c9b858d238db51ffaaec1a8eac67897fa3327413c089108c797ef89", func := "loop.example/g01079/laws.FnExactMarkovText", spec := "fnExactMarkovText", inPlace := ["internal/abi.NoEscape", "internal/bytealg.MakeNoZero"], unfollowed := true, recurses := true, apart := false }
def FnExactMarkovTextSaid : Prop := fnExactMarkovTextRow.holds Try.pinned (OpenSpec.ofChange fnExactMarkovTextSpec)

/-- ITS FALSE NEIGHBOUR: 'it returns false'. Refute it at one input. -/
def fnExactMarkovTextWrong : ChangeSpec := { name := "fnExactMarkovText", fn := fun _ => fun
  | [d] => { results := [.lit (.bool false)], args := [d] }
  | _ => none }
def FnExactMarkovTextWrongFalsely : Prop := fnExactMarkovTextRow.holds Try.pinned (OpenSpec.ofChange fnExactMarkovTextWrong)

/-- 'laws.FnExactReverseRewrites': WHATEVER THE INPUT: true; the input reads as it did. -/
def fnExactReverseRewritesSpec : ChangeSpec := { name := "fnExactReverseRewrites", fn := fun _ => fun
  | [d] => { results := [.lit (.bool true)], args := [d] }
  | _ => none }
def fnExactReverseRewritesRow : OpenClaim := { program := "ythombjcjhnekpaa", sum := "b8f3f5c93c9b858d238db51ffaaec1a8eac67897fa3327413c089108c797ef89", func := "loop.example/g01079/laws.FnExactReverseRewrites", spec := "fnExactReverseRewrites", unfollowed := true, recurses := true, apart := false }
def FnExactReverseRewritesSaid : Prop := fnExactReverseRewritesRow.holds Try.pinned (OpenSpec.ofChange fnExactReverseRewritesSpec)

/-- ITS FALSE NEIGHBOUR: 'it returns false'. Refute it at one input. -/
def fnExactReverseRewritesWrong : ChangeSpec := { name := "fnExactReverseRewrites", fn := fun _ => fun
  | [d] => { results := [.lit (.bool false)], args := [d] }
  | _ => none }
def FnExactReverseRewritesWrongFalsely : Prop := fnExactReverseRewritesRow.holds Try.pinned (OpenSpec.ofChange fnExactReverseRewritesWrong)

/- THE SECOND FORM. 'bulk': how many values and letters a reading holds, each counted each time it is reached (what is shared counts as often as it is met; a slice's spare places count too). A statement '..UptoSaid' is the law's where the arguments, and the package variables that the reading takes, are together of bulk at most 1048576: NARROWER than '..Said'. Prove '..Said' where nothing that the law and all that it calls make is longer than what came in: it says more and counts as full. Else prove '..UptoSaid'. A law counts once. -/
mutual
def uptoBulk {H : Type} : DataW H → Nat
  | .lit (.string bytes) => bytes.length + 1
  | .lit _ => 1
  | .nil => 1
  | .ptr d => uptoBulk d + 1
  | .slice elems spare => uptoBulkAll elems + uptoBulkAll spare + 1
  | .agg parts => uptoBulkAll parts + 1
  | .iface _ d => uptoBulk d + 1
  | .map entries => uptoBulkEntries entries + 1
  | .held _ => 1
def uptoBulkAll {H : Type} : List (DataW H) → Nat
  | [] => 0
  | d :: r => uptoBulk d + uptoBulkAll r
def uptoBulkEntries {H : Type} : List (Lit × DataW H) → Nat
  | [] => 0
  | x :: r => uptoBulkEntry x + uptoBulkEntries r
def uptoBulkEntry {H : Type} : Lit × DataW H → Nat
  | (.string bytes, d) => bytes.length + uptoBulk d + 1
  | (_, d) => uptoBulk d + 1
 end
def uptoSmall : (H : Type) → List (DataW H) → Bool := fun _ ds => decide (uptoBulkAll ds ≤ 1048576)
def OpenSpec.upto (s : _root_.Go.ChangeSpec) : _root_.Go.OpenSpec := { _root_.Go.OpenSpec.ofChange s with cond := some uptoSmall }

/-- 'laws.FnExactBordersOf', WHERE WHAT IT READS IS OF BULK AT MOST 1048576: true; the input reads as it did. -/
def fnExactBordersOfUptoRow : OpenClaim := { program := "ythombjcjhnekpaa", sum := "b8f3f5c93c9b858d238db51ffaaec1a8eac67897fa3327413c089108c797ef89", func := "loop.example/g01079/laws.FnExactBordersOf", spec := "fnExactBordersOf", unfollowed := true, recurses := true, apart := false, narrowed := true }
def FnExactBordersOfUptoSaid : Prop := fnExactBordersOfUptoRow.holds Try.pinned (OpenSpec.upto fnExactBordersOfSpec)

/-- 'laws.FnExactValidRewrites', WHERE WHAT IT READS IS OF BULK AT MOST 1048576: true; the input reads as it did. -/
def fnExactValidRewritesUptoRow : OpenClaim := { program := "ythombjcjhnekpaa", sum := "b8f3f5c93c9b858d238db51ffaaec1a8eac67897fa3327413c089108c797ef89", func := "loop.example/g01079/laws.FnExactValidRewrites", spec := "fnExactValidRewrites", unfollowed := true, recurses := true, apart := false, narrowed := true }
def FnExactValidRewritesUptoSaid : Prop := fnExactValidRewritesUptoRow.holds Try.pinned (OpenSpec.upto fnExactValidRewritesSpec)

/-- 'laws.FnExactValidMarkov', WHERE WHAT IT READS IS OF BULK AT MOST 1048576: true; the input reads as it did. -/
def fnExactValidMarkovUptoRow : OpenClaim := { program := "ythombjcjhnekpaa", sum := "b8f3f5c93c9b858d238db51ffaaec1a8eac67897fa3327413c089108c797ef89", func := "loop.example/g01079/laws.FnExactValidMarkov", spec := "fnExactValidMarkov", unfollowed := true, recurses := true, apart := false, narrowed := true }
def FnExactValidMarkovUptoSaid : Prop := fnExactValidMarkovUptoRow.holds Try.pinned (OpenSpec.upto fnExactValidMarkovSpec)

/-- 'laws.FnExactApplyRewrite', WHERE WHAT IT READS IS OF BULK AT MOST 1048576: true; the input reads as it did. -/
def fnExactApplyRewriteUptoRow : OpenClaim := { program := "ythombjcjhnekpaa", sum := "b8f3f5c93c9b858d238db51ffaaec1a8eac67897fa3327413c089108c797ef89", func := "loop.example/g01079/laws.FnExactApplyRewrite", spec := "fnExactApplyRewrite", unfollowed := true, recurses := true, apart := false, narrowed := true }
def FnExactApplyRewriteUptoSaid : Prop := fnExactApplyRewriteUptoRow.holds Try.pinned (OpenSpec.upto fnExactApplyRewriteSpec)

/-- 'laws.FnExactCheckDerivation', WHERE WHAT IT READS IS OF BULK AT MOST 1048576: true; the input reads as it did. -/
def fnExactCheckDerivationUptoRow : OpenClaim := { program := "ythombjcjhnekpaa", sum := "b8f3f5c93c9b858d238db51ffaaec1a8eac67897fa3327413c089108c797ef89", func := "loop.example/g01079/laws.FnExactCheckDerivation", spec := "fnExactCheckDerivation", unfollowed := true, recurses := true, apart := false, narrowed := true }
def FnExactCheckDerivationUptoSaid : Prop := fnExactCheckDerivationUptoRow.holds Try.pinned (OpenSpec.upto fnExactCheckDerivationSpec)

/-- 'laws.FnExactRewritesText', WHERE WHAT IT READS IS OF BULK AT MOST 1048576: true; the input reads as it did. -/
def fnExactRewritesTextUptoRow : OpenClaim := { program := "ythombjcjhnekpaa", sum := "b8f3f5c93c9b858d238db51ffaaec1a8eac67897fa3327413c089108c797ef89", func := "loop.example/g01079/laws.FnExactRewritesText", spec := "fnExactRewritesText", inPlace := ["internal/abi.NoEscape", "internal/bytealg.MakeNoZero"], unfollowed := true, recurses := true, apart := false, narrowed := true }
def FnExactRewritesTextUptoSaid : Prop := fnExactRewritesTextUptoRow.holds Try.pinned (OpenSpec.upto fnExactRewritesTextSpec)

/-- 'laws.FnExactMarkovText', WHERE WHAT IT READS IS OF BULK AT MOST 1048576: true; the input reads as it did. -/
def fnExactMarkovTextUptoRow : OpenClaim := { program := "ythombjcjhnekpaa", sum := "b8f3f5c93c9b858d238db51ffaaec1a8eac67897fa3327413c089108c797ef89", func := "loop.example/g01079/laws.FnExactMarkovText", spec := "fnExactMarkovText", inPlace := ["internal/abi.NoEscape", "internal/bytealg.MakeNoZero"], unfollowed := true, recurses := true, apart := false, narrowed := true }
def FnExactMarkovTextUptoSaid : Prop := fnExactMarkovTextUptoRow.holds Try.pinned (OpenSpec.upto fnExactMarkovTextSpec)

/-- 'laws.FnExactReverseRewrites', WHERE WHAT IT READS IS OF BULK AT MOST 1048576: true; the input reads as it did. -/
def fnExactReverseRewritesUptoRow : OpenClaim := { program := "ythombjcjhnekpaa", sum := "b8f3f5c93c9b858d238db51ffaaec1a8eac67897fa3327413c089108c797ef89", func := "loop.example/g01079/laws.FnExactReverseRewrites", spec := "fnExactReverseRewrites", unfollowed := true, recurses := true, apart := false, narrowed := true }
def FnExactReverseRewritesUptoSaid : Prop := fnExactReverseRewritesUptoRow.holds Try.pinned (OpenSpec.upto fnExactReverseRewritesSpec)

end Rows
end Go.Proofs.Ythombjcjhnekpaa
