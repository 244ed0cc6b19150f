/-
  DERIVED. GIVEN WITH THE SEED: THE CARDS: each row of YtjnnepkoeloekaaGreatDoorRows.lean that lists a variable, with what it lists TIED to the program's text (the seventh form; the later family's looks); each row that meets fmt, with fmt's text TOLD by the authors' own Lean function (tested against real Go, not proved from fmt's source: count such statements apart). THE CARD IS WHAT COUNTS. Prove the row's statement (the work); the ties are given (YtjnnepkoeloekaaGreatDoorTie.lean); close each card by the builder's one call (the guide's Derived/Test/ToyasCard.lean, 'card_holds'). Laid BY PROGRAM, IN A SANDBOX (cutbox-door.mjs). By AI agents, Wed Nov 11 2026. No macro, syntax, notation, axiom, sorry.
-/
import Derived.Test.YtjnnepkoeloekaaGreatDoorRows
import GoSem.ClaimSeven
namespace Go.Proofs.YtjnnepkoeloekaaGreatDoor
namespace Rows

/-- THE TIED CARD OF 'laws.FnExactPrintC'. -/
def fnExactPrintCCard : Claim7 := { stood := { row := fnExactPrintCRow, standIns := [], harness := (true, "bba1e33d28ecac8f34e5da5ccaf25053ec126c40dd68fae74589def6bed8adba"), looks := false }, kinds := [], alts := [], laidByText := true, laidKinds := [.data, .data, .data, .data, .data, .data], laidTests := true, laidLooks := .later }
def FnExactPrintCCardSaid : Prop := Claim7.holds Tryz.pinned (.plain (OpenSpec.ofChange fnExactPrintCSpec)) fnExactPrintCCard

/-- THE SECOND FORM's CARD OF 'laws.FnExactPrintC'. -/
def fnExactPrintCUptoCard : Claim7 := { stood := { row := fnExactPrintCUptoRow, standIns := [], harness := (true, "bba1e33d28ecac8f34e5da5ccaf25053ec126c40dd68fae74589def6bed8adba"), looks := false }, kinds := [], alts := [], laidByText := true, laidKinds := [.data, .data, .data, .data, .data, .data], laidTests := true, laidLooks := .later }
def FnExactPrintCUptoCardSaid : Prop := Claim7.holds Tryz.pinned (.plain (OpenSpec.upto fnExactPrintCSpec)) fnExactPrintCUptoCard
end Rows
end Go.Proofs.YtjnnepkoeloekaaGreatDoor
