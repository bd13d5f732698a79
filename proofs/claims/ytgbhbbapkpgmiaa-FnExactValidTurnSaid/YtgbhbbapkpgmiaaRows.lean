/-
  No cell of these rows narrows 'for every input' (looked for: loops, veiled, ifaces, maps, wideKeys, modest, calm, conditions, laid).
  DERIVED. THE GIVEN ROWS OF THIS SEAT. 3 by the template 'for every input the law returns true; each argument reads behind the call as it read before'; 0 by the template 'total and deterministic' (their statements: YtgbhbbapkpgmiaaTotals.lean).
  GIVEN WITH THE SEED: the statements are not yours to turn. If you find one false, say at which input.
  Laid BY PROGRAM, IN A SANDBOX (cutbox-rows.mjs): the forced cells as the released guide's own fill.sh prints them over the translation 544fc5b74678fde2… (all of the seat's roots in one cut). By AI agents, Wed Nov 11 2026. No macro, syntax, notation, axiom, sorry.
-/
import Derived.Test.YtgbhbbapkpgmiaaChecked
import GoSem.Claim
import GoSem.ClaimJoined
import GoSem.ClaimMapViews
import Derived.JoinedTies
import Derived.KernelRfl
namespace Go.Proofs.Ytgbhbbapkpgmiaa
/- THE CELL 'sum', in the pinned program and in every row, IS THE sha256 OF THE DUMP (.gsa) THAT YtgbhbbapkpgmiaaProg.lean LOADS. Nothing in Lean hashes anything: it is a label: what it is worth is what the hold of that sum in a sandbox is worth. -/
noncomputable def Try.pinned : Pinned := { name := "ytgbhbbapkpgmiaa", sum := "544fc5b74678fde2a4354b2566527b6f69602a6770ef145456d8c41bca462448", checked := Try.checked }
namespace Rows
def none {H : Type} : Left H := { results := [], args := [] }

/-- 'laws.FnExactValidTag': WHATEVER THE INPUT: true; the input reads as it did. -/
def fnExactValidTagSpec : ChangeSpec := { name := "fnExactValidTag", fn := fun _ => fun
  | [d] => { results := [.lit (.bool true)], args := [d] }
  | _ => none }
def fnExactValidTagRow : OpenClaim := { program := "ytgbhbbapkpgmiaa", sum := "544fc5b74678fde2a4354b2566527b6f69602a6770ef145456d8c41bca462448", func := "loop.example/g01079/laws.FnExactValidTag", spec := "fnExactValidTag", unfollowed := true, recurses := true, apart := false }
def FnExactValidTagSaid : Prop := fnExactValidTagRow.holds Try.pinned (OpenSpec.ofChange fnExactValidTagSpec)

/-- ITS FALSE NEIGHBOUR: 'it returns false'. Refute it at one input. -/
def fnExactValidTagWrong : ChangeSpec := { name := "fnExactValidTag", fn := fun _ => fun
  | [d] => { results := [.lit (.bool false)], args := [d] }
  | _ => none }
def FnExactValidTagWrongFalsely : Prop := fnExactValidTagRow.holds Try.pinned (OpenSpec.ofChange fnExactValidTagWrong)

/-- 'laws.FnExactValidCyclic': WHATEVER THE INPUT: true; the input reads as it did. -/
def fnExactValidCyclicSpec : ChangeSpec := { name := "fnExactValidCyclic", fn := fun _ => fun
  | [d] => { results := [.lit (.bool true)], args := [d] }
  | _ => none }
def fnExactValidCyclicRow : OpenClaim := { program := "ytgbhbbapkpgmiaa", sum := "544fc5b74678fde2a4354b2566527b6f69602a6770ef145456d8c41bca462448", func := "loop.example/g01079/laws.FnExactValidCyclic", spec := "fnExactValidCyclic", unfollowed := true, recurses := true, apart := false }
def FnExactValidCyclicSaid : Prop := fnExactValidCyclicRow.holds Try.pinned (OpenSpec.ofChange fnExactValidCyclicSpec)

/-- ITS FALSE NEIGHBOUR: 'it returns false'. Refute it at one input. -/
def fnExactValidCyclicWrong : ChangeSpec := { name := "fnExactValidCyclic", fn := fun _ => fun
  | [d] => { results := [.lit (.bool false)], args := [d] }
  | _ => none }
def FnExactValidCyclicWrongFalsely : Prop := fnExactValidCyclicRow.holds Try.pinned (OpenSpec.ofChange fnExactValidCyclicWrong)

/-- 'laws.FnExactValidTurn': WHATEVER THE INPUT: true; the input reads as it did. -/
def fnExactValidTurnSpec : ChangeSpec := { name := "fnExactValidTurn", fn := fun _ => fun
  | [d1, d2] => { results := [.lit (.bool true)], args := [d1, d2] }
  | _ => none }
def fnExactValidTurnRow : OpenClaim := { program := "ytgbhbbapkpgmiaa", sum := "544fc5b74678fde2a4354b2566527b6f69602a6770ef145456d8c41bca462448", func := "loop.example/g01079/laws.FnExactValidTurn", spec := "fnExactValidTurn", unfollowed := true, recurses := true, apart := false }
def FnExactValidTurnSaid : Prop := fnExactValidTurnRow.holds Try.pinned (OpenSpec.ofChange fnExactValidTurnSpec)

/-- ITS FALSE NEIGHBOUR: 'it returns false'. Refute it at one input. -/
def fnExactValidTurnWrong : ChangeSpec := { name := "fnExactValidTurn", fn := fun _ => fun
  | [d1, d2] => { results := [.lit (.bool false)], args := [d1, d2] }
  | _ => none }
def FnExactValidTurnWrongFalsely : Prop := fnExactValidTurnRow.holds Try.pinned (OpenSpec.ofChange fnExactValidTurnWrong)

/- THE SECOND FORM. 'bulk': how many values and letters a reading holds, each counted each time it is reached (what is shared counts as often as it is met; a slice's spare places count too). A statement '..UptoSaid' is the law's where the arguments, and the package variables that the reading takes, are together of bulk at most 1048576: NARROWER than '..Said'. Prove '..Said' where nothing that the law and all that it calls make is longer than what came in: it says more and counts as full. Else prove '..UptoSaid'. A law counts once. -/
mutual
def uptoBulk {H : Type} : DataW H → Nat
  | .lit (.string bytes) => bytes.length + 1
  | .lit _ => 1
  | .nil => 1
  | .ptr d => uptoBulk d + 1
  | .slice elems spare => uptoBulkAll elems + uptoBulkAll spare + 1
  | .agg parts => uptoBulkAll parts + 1
  | .iface _ d => uptoBulk d + 1
  | .map entries => uptoBulkEntries entries + 1
  | .held _ => 1
def uptoBulkAll {H : Type} : List (DataW H) → Nat
  | [] => 0
  | d :: r => uptoBulk d + uptoBulkAll r
def uptoBulkEntries {H : Type} : List (Lit × DataW H) → Nat
  | [] => 0
  | x :: r => uptoBulkEntry x + uptoBulkEntries r
def uptoBulkEntry {H : Type} : Lit × DataW H → Nat
  | (.string bytes, d) => bytes.length + uptoBulk d + 1
  | (_, d) => uptoBulk d + 1
 end
def uptoSmall : (H : Type) → List (DataW H) → Bool := fun _ ds => decide (uptoBulkAll ds ≤ 1048576)
def OpenSpec.upto (s : _root_.Go.ChangeSpec) : _root_.Go.OpenSpec := { _root_.Go.OpenSpec.ofChange s with cond := some uptoSmall }

/-- 'laws.FnExactValidTag', WHERE WHAT IT READS IS OF BULK AT MOST 1048576: true; the input reads as it did. -/
def fnExactValidTagUptoRow : OpenClaim := { program := "ytgbhbbapkpgmiaa", sum := "544fc5b74678fde2a4354b2566527b6f69602a6770ef145456d8c41bca462448", func := "loop.example/g01079/laws.FnExactValidTag", spec := "fnExactValidTag", unfollowed := true, recurses := true, apart := false, narrowed := true }
def FnExactValidTagUptoSaid : Prop := fnExactValidTagUptoRow.holds Try.pinned (OpenSpec.upto fnExactValidTagSpec)

/-- 'laws.FnExactValidCyclic', WHERE WHAT IT READS IS OF BULK AT MOST 1048576: true; the input reads as it did. -/
def fnExactValidCyclicUptoRow : OpenClaim := { program := "ytgbhbbapkpgmiaa", sum := "544fc5b74678fde2a4354b2566527b6f69602a6770ef145456d8c41bca462448", func := "loop.example/g01079/laws.FnExactValidCyclic", spec := "fnExactValidCyclic", unfollowed := true, recurses := true, apart := false, narrowed := true }
def FnExactValidCyclicUptoSaid : Prop := fnExactValidCyclicUptoRow.holds Try.pinned (OpenSpec.upto fnExactValidCyclicSpec)

/-- 'laws.FnExactValidTurn', WHERE WHAT IT READS IS OF BULK AT MOST 1048576: true; the input reads as it did. -/
def fnExactValidTurnUptoRow : OpenClaim := { program := "ytgbhbbapkpgmiaa", sum := "544fc5b74678fde2a4354b2566527b6f69602a6770ef145456d8c41bca462448", func := "loop.example/g01079/laws.FnExactValidTurn", spec := "fnExactValidTurn", unfollowed := true, recurses := true, apart := false, narrowed := true }
def FnExactValidTurnUptoSaid : Prop := fnExactValidTurnUptoRow.holds Try.pinned (OpenSpec.upto fnExactValidTurnSpec)

end Rows
end Go.Proofs.Ytgbhbbapkpgmiaa
