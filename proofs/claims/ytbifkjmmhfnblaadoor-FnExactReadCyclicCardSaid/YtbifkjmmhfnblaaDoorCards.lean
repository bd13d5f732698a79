/-
  DERIVED. GIVEN WITH THE SEED: THE CARDS: each row of YtbifkjmmhfnblaaDoorRows.lean that lists a variable, with what it lists TIED to the program's text (the seventh form; the later family's looks); each row that meets fmt, with fmt's text TOLD by the authors' own Lean function (tested against real Go, not proved from fmt's source: count such statements apart). THE CARD IS WHAT COUNTS. Prove the row's statement (the work); the ties are given (YtbifkjmmhfnblaaDoorTie.lean); close each card by the builder's one call (the guide's Derived/Test/ToyasCard.lean, 'card_holds'). Laid BY PROGRAM, IN A SANDBOX (cutbox-door.mjs). By AI agents, Wed Nov 11 2026. No macro, syntax, notation, axiom, sorry.
-/
import Derived.Test.YtbifkjmmhfnblaaDoorRows
import GoSem.ClaimSeven
namespace Go.Proofs.YtbifkjmmhfnblaaDoor
namespace Rows

/-- THE TIED CARD OF 'laws.FnExactReadList'. -/
def fnExactReadListCard : Claim7 := { stood := { row := fnExactReadListRow, standIns := [], harness := (true, "4e2cf49c081ec64d5ea40387efbaee9a4b7f99038ace6021cb6d1316c2683e05"), looks := true }, kinds := [], alts := [], laidByText := true, laidKinds := [.data, .data, .data, .data, .sentinel, .sentinel, .pinned], laidTests := true, laidLooks := .later }
def FnExactReadListCardSaid : Prop := Claim7.holds Tryd.pinned (.plain (OpenSpec.ofChange fnExactReadListSpec)) fnExactReadListCard

/-- THE TIED CARD OF 'laws.FnExactReadCounters'. -/
def fnExactReadCountersCard : Claim7 := { stood := { row := fnExactReadCountersRow, standIns := [], harness := (true, "4e2cf49c081ec64d5ea40387efbaee9a4b7f99038ace6021cb6d1316c2683e05"), looks := true }, kinds := [], alts := [], laidByText := true, laidKinds := [.data, .data, .data, .data, .sentinel, .sentinel, .pinned], laidTests := true, laidLooks := .later }
def FnExactReadCountersCardSaid : Prop := Claim7.holds Tryd.pinned (.plain (OpenSpec.ofChange fnExactReadCountersSpec)) fnExactReadCountersCard

/-- THE TIED CARD OF 'laws.FnExactReadStore'. -/
def fnExactReadStoreCard : Claim7 := { stood := { row := fnExactReadStoreRow, standIns := [], harness := (true, "4e2cf49c081ec64d5ea40387efbaee9a4b7f99038ace6021cb6d1316c2683e05"), looks := true }, kinds := [], alts := [], laidByText := true, laidKinds := [.data, .data, .data, .data, .sentinel, .sentinel, .pinned], laidTests := true, laidLooks := .later }
def FnExactReadStoreCardSaid : Prop := Claim7.holds Tryd.pinned (.plain (OpenSpec.ofChange fnExactReadStoreSpec)) fnExactReadStoreCard

/-- THE TIED CARD OF 'laws.FnExactReadFractions'. -/
def fnExactReadFractionsCard : Claim7 := { stood := { row := fnExactReadFractionsRow, standIns := [], harness := (true, "4e2cf49c081ec64d5ea40387efbaee9a4b7f99038ace6021cb6d1316c2683e05"), looks := true }, kinds := [], alts := [], laidByText := true, laidKinds := [.data, .data, .data, .data, .sentinel, .sentinel, .pinned], laidTests := true, laidLooks := .later }
def FnExactReadFractionsCardSaid : Prop := Claim7.holds Tryd.pinned (.plain (OpenSpec.ofChange fnExactReadFractionsSpec)) fnExactReadFractionsCard

/-- THE TIED CARD OF 'laws.FnExactReadCyclic'. -/
def fnExactReadCyclicCard : Claim7 := { stood := { row := fnExactReadCyclicRow, standIns := [], harness := (true, "4e2cf49c081ec64d5ea40387efbaee9a4b7f99038ace6021cb6d1316c2683e05"), looks := true }, kinds := [], alts := [], laidByText := true, laidKinds := [.data, .data, .data, .data, .sentinel, .sentinel, .pinned], laidTests := true, laidLooks := .later }
def FnExactReadCyclicCardSaid : Prop := Claim7.holds Tryd.pinned (.plain (OpenSpec.ofChange fnExactReadCyclicSpec)) fnExactReadCyclicCard

/-- THE TIED CARD OF 'laws.FnExactReadTag'. -/
def fnExactReadTagCard : Claim7 := { stood := { row := fnExactReadTagRow, standIns := [], harness := (true, "4e2cf49c081ec64d5ea40387efbaee9a4b7f99038ace6021cb6d1316c2683e05"), looks := true }, kinds := [], alts := [], laidByText := true, laidKinds := [.data, .data, .data, .data, .sentinel, .sentinel, .pinned], laidTests := true, laidLooks := .later }
def FnExactReadTagCardSaid : Prop := Claim7.holds Tryd.pinned (.plain (OpenSpec.ofChange fnExactReadTagSpec)) fnExactReadTagCard

/-- THE SECOND FORM's CARD OF 'laws.FnExactReadList'. -/
def fnExactReadListUptoCard : Claim7 := { stood := { row := fnExactReadListUptoRow, standIns := [], harness := (true, "4e2cf49c081ec64d5ea40387efbaee9a4b7f99038ace6021cb6d1316c2683e05"), looks := true }, kinds := [], alts := [], laidByText := true, laidKinds := [.data, .data, .data, .data, .sentinel, .sentinel, .pinned], laidTests := true, laidLooks := .later }
def FnExactReadListUptoCardSaid : Prop := Claim7.holds Tryd.pinned (.plain (OpenSpec.upto fnExactReadListSpec)) fnExactReadListUptoCard

/-- THE SECOND FORM's CARD OF 'laws.FnExactReadCounters'. -/
def fnExactReadCountersUptoCard : Claim7 := { stood := { row := fnExactReadCountersUptoRow, standIns := [], harness := (true, "4e2cf49c081ec64d5ea40387efbaee9a4b7f99038ace6021cb6d1316c2683e05"), looks := true }, kinds := [], alts := [], laidByText := true, laidKinds := [.data, .data, .data, .data, .sentinel, .sentinel, .pinned], laidTests := true, laidLooks := .later }
def FnExactReadCountersUptoCardSaid : Prop := Claim7.holds Tryd.pinned (.plain (OpenSpec.upto fnExactReadCountersSpec)) fnExactReadCountersUptoCard

/-- THE SECOND FORM's CARD OF 'laws.FnExactReadStore'. -/
def fnExactReadStoreUptoCard : Claim7 := { stood := { row := fnExactReadStoreUptoRow, standIns := [], harness := (true, "4e2cf49c081ec64d5ea40387efbaee9a4b7f99038ace6021cb6d1316c2683e05"), looks := true }, kinds := [], alts := [], laidByText := true, laidKinds := [.data, .data, .data, .data, .sentinel, .sentinel, .pinned], laidTests := true, laidLooks := .later }
def FnExactReadStoreUptoCardSaid : Prop := Claim7.holds Tryd.pinned (.plain (OpenSpec.upto fnExactReadStoreSpec)) fnExactReadStoreUptoCard

/-- THE SECOND FORM's CARD OF 'laws.FnExactReadFractions'. -/
def fnExactReadFractionsUptoCard : Claim7 := { stood := { row := fnExactReadFractionsUptoRow, standIns := [], harness := (true, "4e2cf49c081ec64d5ea40387efbaee9a4b7f99038ace6021cb6d1316c2683e05"), looks := true }, kinds := [], alts := [], laidByText := true, laidKinds := [.data, .data, .data, .data, .sentinel, .sentinel, .pinned], laidTests := true, laidLooks := .later }
def FnExactReadFractionsUptoCardSaid : Prop := Claim7.holds Tryd.pinned (.plain (OpenSpec.upto fnExactReadFractionsSpec)) fnExactReadFractionsUptoCard

/-- THE SECOND FORM's CARD OF 'laws.FnExactReadCyclic'. -/
def fnExactReadCyclicUptoCard : Claim7 := { stood := { row := fnExactReadCyclicUptoRow, standIns := [], harness := (true, "4e2cf49c081ec64d5ea40387efbaee9a4b7f99038ace6021cb6d1316c2683e05"), looks := true }, kinds := [], alts := [], laidByText := true, laidKinds := [.data, .data, .data, .data, .sentinel, .sentinel, .pinned], laidTests := true, laidLooks := .later }
def FnExactReadCyclicUptoCardSaid : Prop := Claim7.holds Tryd.pinned (.plain (OpenSpec.upto fnExactReadCyclicSpec)) fnExactReadCyclicUptoCard

/-- THE SECOND FORM's CARD OF 'laws.FnExactReadTag'. -/
def fnExactReadTagUptoCard : Claim7 := { stood := { row := fnExactReadTagUptoRow, standIns := [], harness := (true, "4e2cf49c081ec64d5ea40387efbaee9a4b7f99038ace6021cb6d1316c2683e05"), looks := true }, kinds := [], alts := [], laidByText := true, laidKinds := [.data, .data, .data, .data, .sentinel, .sentinel, .pinned], laidTests := true, laidLooks := .later }
def FnExactReadTagUptoCardSaid : Prop := Claim7.holds Tryd.pinned (.plain (OpenSpec.upto fnExactReadTagSpec)) fnExactReadTagUptoCard
end Rows
end Go.Proofs.YtbifkjmmhfnblaaDoor
