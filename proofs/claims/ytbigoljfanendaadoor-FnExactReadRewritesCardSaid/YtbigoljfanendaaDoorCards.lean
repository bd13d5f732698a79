/-
  DERIVED. GIVEN WITH THE SEED: THE CARDS: each row of YtbigoljfanendaaDoorRows.lean that lists a variable, with what it lists TIED to the program's text (the seventh form; the later family's looks); each row that meets fmt, with fmt's text TOLD by the authors' own Lean function (tested against real Go, not proved from fmt's source: count such statements apart). THE CARD IS WHAT COUNTS. Prove the row's statement (the work); the ties are given (YtbigoljfanendaaDoorTie.lean); close each card by the builder's one call (the guide's Derived/Test/ToyasCard.lean, 'card_holds'). Laid BY PROGRAM, IN A SANDBOX (cutbox-door.mjs). By AI agents, Wed Nov 11 2026. No macro, syntax, notation, axiom, sorry.
-/
import Derived.Test.YtbigoljfanendaaDoorRows
import GoSem.ClaimSeven
namespace Go.Proofs.YtbigoljfanendaaDoor
namespace Rows

/-- THE TIED CARD OF 'laws.FnExactReadProgram'. -/
def fnExactReadProgramCard : Claim7 := { stood := { row := fnExactReadProgramRow, standIns := [], harness := (true, "716f679c798c9b1dc0eb9ff511ca53e7eb14c6f7d8dd2cbdb7ab99ca6d63ad42"), looks := true }, kinds := [], alts := [], laidByText := true, laidKinds := [.data, .data, .data, .data, .sentinel, .sentinel, .pinned], laidTests := true, laidLooks := .later }
def FnExactReadProgramCardSaid : Prop := Claim7.holds Tryd.pinned (.plain (OpenSpec.ofChange fnExactReadProgramSpec)) fnExactReadProgramCard

/-- THE TIED CARD OF 'laws.FnExactReadConfig'. -/
def fnExactReadConfigCard : Claim7 := { stood := { row := fnExactReadConfigRow, standIns := [], harness := (true, "716f679c798c9b1dc0eb9ff511ca53e7eb14c6f7d8dd2cbdb7ab99ca6d63ad42"), looks := true }, kinds := [], alts := [], laidByText := true, laidKinds := [.data, .data, .data, .sentinel, .sentinel, .data], laidTests := true, laidLooks := .later }
def FnExactReadConfigCardSaid : Prop := Claim7.holds Tryd.pinned (.plain (OpenSpec.ofChange fnExactReadConfigSpec)) fnExactReadConfigCard

/-- THE TIED CARD OF 'laws.FnExactReadRewrites'. -/
def fnExactReadRewritesCard : Claim7 := { stood := { row := fnExactReadRewritesRow, standIns := [], harness := (true, "716f679c798c9b1dc0eb9ff511ca53e7eb14c6f7d8dd2cbdb7ab99ca6d63ad42"), looks := true }, kinds := [], alts := [], laidByText := true, laidKinds := [.data, .pinned], laidTests := true, laidLooks := .later }
def FnExactReadRewritesCardSaid : Prop := Claim7.holds Tryd.pinned (.plain (OpenSpec.ofChange fnExactReadRewritesSpec)) fnExactReadRewritesCard

/-- THE TIED CARD OF 'laws.FnBasics'. -/
def fnBasicsCard : Claim7 := { stood := { row := fnBasicsRow, standIns := [], harness := (true, "716f679c798c9b1dc0eb9ff511ca53e7eb14c6f7d8dd2cbdb7ab99ca6d63ad42"), looks := true }, kinds := [], alts := [], laidByText := true, laidKinds := [.data, .data, .data, .data, .sentinel, .sentinel, .pinned], laidTests := true, laidLooks := .later }
def FnBasicsCardSaid : Prop := Claim7.holds Tryd.pinned (.plain (OpenSpec.ofChange fnBasicsSpec)) fnBasicsCard

/-- THE SECOND FORM's CARD OF 'laws.FnExactReadProgram'. -/
def fnExactReadProgramUptoCard : Claim7 := { stood := { row := fnExactReadProgramUptoRow, standIns := [], harness := (true, "716f679c798c9b1dc0eb9ff511ca53e7eb14c6f7d8dd2cbdb7ab99ca6d63ad42"), looks := true }, kinds := [], alts := [], laidByText := true, laidKinds := [.data, .data, .data, .data, .sentinel, .sentinel, .pinned], laidTests := true, laidLooks := .later }
def FnExactReadProgramUptoCardSaid : Prop := Claim7.holds Tryd.pinned (.plain (OpenSpec.upto fnExactReadProgramSpec)) fnExactReadProgramUptoCard

/-- THE SECOND FORM's CARD OF 'laws.FnExactReadConfig'. -/
def fnExactReadConfigUptoCard : Claim7 := { stood := { row := fnExactReadConfigUptoRow, standIns := [], harness := (true, "716f679c798c9b1dc0eb9ff511ca53e7eb14c6f7d8dd2cbdb7ab99ca6d63ad42"), looks := true }, kinds := [], alts := [], laidByText := true, laidKinds := [.data, .data, .data, .sentinel, .sentinel, .data], laidTests := true, laidLooks := .later }
def FnExactReadConfigUptoCardSaid : Prop := Claim7.holds Tryd.pinned (.plain (OpenSpec.upto fnExactReadConfigSpec)) fnExactReadConfigUptoCard

/-- THE SECOND FORM's CARD OF 'laws.FnExactReadRewrites'. -/
def fnExactReadRewritesUptoCard : Claim7 := { stood := { row := fnExactReadRewritesUptoRow, standIns := [], harness := (true, "716f679c798c9b1dc0eb9ff511ca53e7eb14c6f7d8dd2cbdb7ab99ca6d63ad42"), looks := true }, kinds := [], alts := [], laidByText := true, laidKinds := [.data, .pinned], laidTests := true, laidLooks := .later }
def FnExactReadRewritesUptoCardSaid : Prop := Claim7.holds Tryd.pinned (.plain (OpenSpec.upto fnExactReadRewritesSpec)) fnExactReadRewritesUptoCard

/-- THE SECOND FORM's CARD OF 'laws.FnBasics'. -/
def fnBasicsUptoCard : Claim7 := { stood := { row := fnBasicsUptoRow, standIns := [], harness := (true, "716f679c798c9b1dc0eb9ff511ca53e7eb14c6f7d8dd2cbdb7ab99ca6d63ad42"), looks := true }, kinds := [], alts := [], laidByText := true, laidKinds := [.data, .data, .data, .data, .sentinel, .sentinel, .pinned], laidTests := true, laidLooks := .later }
def FnBasicsUptoCardSaid : Prop := Claim7.holds Tryd.pinned (.plain (OpenSpec.upto fnBasicsSpec)) fnBasicsUptoCard
end Rows
end Go.Proofs.YtbigoljfanendaaDoor
