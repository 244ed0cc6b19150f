/-
  DERIVED. GIVEN WITH THE SEED: THE CARDS: each row of YtlamjfhhefcohaaGreatDoorRows.lean that lists a variable, with what it lists TIED to the program's text (the seventh form; the later family's looks); each row that meets fmt, with fmt's text TOLD by the authors' own Lean function (tested against real Go, not proved from fmt's source: count such statements apart). THE CARD IS WHAT COUNTS. Prove the row's statement (the work); the ties are given (YtlamjfhhefcohaaGreatDoorTie.lean); close each card by the builder's one call (the guide's Derived/Test/ToyasCard.lean, 'card_holds'). Laid BY PROGRAM, IN A SANDBOX (cutbox-door.mjs). By AI agents, Wed Nov 11 2026. No macro, syntax, notation, axiom, sorry.
-/
import Derived.Test.YtlamjfhhefcohaaGreatDoorRows
import GoSem.ClaimSeven
namespace Go.Proofs.YtlamjfhhefcohaaGreatDoor
namespace Rows

/-- THE TIED CARD OF 'laws.FnExactParseC'. -/
def fnExactParseCCard : Claim7 := { stood := { row := fnExactParseCRow, standIns := [], harness := (true, "af7bb2985ae3225dc33420d780e1b070fda05f73a324499c2fc080144654af8a"), looks := true }, kinds := [], alts := [], laidByText := true, laidKinds := [.data, .data, .data, .sentinel, .sentinel, .data, .data, .data], laidTests := true, laidLooks := .later }
def FnExactParseCCardSaid : Prop := Claim7.holds Tryz.pinned (.plain (OpenSpec.ofChange fnExactParseCSpec)) fnExactParseCCard

/-- THE TIED CARD OF 'laws.FnReparse'. -/
def fnReparseCard : Claim7 := { stood := { row := fnReparseRow, standIns := [], harness := (true, "af7bb2985ae3225dc33420d780e1b070fda05f73a324499c2fc080144654af8a"), looks := true }, kinds := [], alts := [], laidByText := true, laidKinds := [.data, .data, .data, .sentinel, .sentinel, .data, .data, .data], laidTests := true, laidLooks := .later }
def FnReparseCardSaid : Prop := Claim7.holds Tryz.pinned (.plain (OpenSpec.ofChange fnReparseSpec)) fnReparseCard

/-- THE TIED CARD OF 'laws.FnPrintParse'. -/
def fnPrintParseCard : Claim7 := { stood := { row := fnPrintParseRow, standIns := [], harness := (true, "af7bb2985ae3225dc33420d780e1b070fda05f73a324499c2fc080144654af8a"), looks := true }, kinds := [], alts := [], laidByText := true, laidKinds := [.data, .data, .data, .sentinel, .sentinel, .data, .data, .data], laidTests := true, laidLooks := .later }
def FnPrintParseCardSaid : Prop := Claim7.holds Tryz.pinned (.plain (OpenSpec.ofChange fnPrintParseSpec)) fnPrintParseCard

/-- THE SECOND FORM's CARD OF 'laws.FnExactParseC'. -/
def fnExactParseCUptoCard : Claim7 := { stood := { row := fnExactParseCUptoRow, standIns := [], harness := (true, "af7bb2985ae3225dc33420d780e1b070fda05f73a324499c2fc080144654af8a"), looks := true }, kinds := [], alts := [], laidByText := true, laidKinds := [.data, .data, .data, .sentinel, .sentinel, .data, .data, .data], laidTests := true, laidLooks := .later }
def FnExactParseCUptoCardSaid : Prop := Claim7.holds Tryz.pinned (.plain (OpenSpec.upto fnExactParseCSpec)) fnExactParseCUptoCard

/-- THE SECOND FORM's CARD OF 'laws.FnReparse'. -/
def fnReparseUptoCard : Claim7 := { stood := { row := fnReparseUptoRow, standIns := [], harness := (true, "af7bb2985ae3225dc33420d780e1b070fda05f73a324499c2fc080144654af8a"), looks := true }, kinds := [], alts := [], laidByText := true, laidKinds := [.data, .data, .data, .sentinel, .sentinel, .data, .data, .data], laidTests := true, laidLooks := .later }
def FnReparseUptoCardSaid : Prop := Claim7.holds Tryz.pinned (.plain (OpenSpec.upto fnReparseSpec)) fnReparseUptoCard

/-- THE SECOND FORM's CARD OF 'laws.FnPrintParse'. -/
def fnPrintParseUptoCard : Claim7 := { stood := { row := fnPrintParseUptoRow, standIns := [], harness := (true, "af7bb2985ae3225dc33420d780e1b070fda05f73a324499c2fc080144654af8a"), looks := true }, kinds := [], alts := [], laidByText := true, laidKinds := [.data, .data, .data, .sentinel, .sentinel, .data, .data, .data], laidTests := true, laidLooks := .later }
def FnPrintParseUptoCardSaid : Prop := Claim7.holds Tryz.pinned (.plain (OpenSpec.upto fnPrintParseSpec)) fnPrintParseUptoCard
end Rows
end Go.Proofs.YtlamjfhhefcohaaGreatDoor
