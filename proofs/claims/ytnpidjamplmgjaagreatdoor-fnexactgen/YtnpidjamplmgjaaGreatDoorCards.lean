/-
  DERIVED. GIVEN WITH THE SEED: THE CARDS: each row of YtnpidjamplmgjaaGreatDoorRows.lean that lists a variable, with what it lists TIED to the program's text (the seventh form; the later family's looks); each row that meets fmt, with fmt's text TOLD by the authors' own Lean function (tested against real Go, not proved from fmt's source: count such statements apart). THE CARD IS WHAT COUNTS. Prove the row's statement (the work); the ties are given (YtnpidjamplmgjaaGreatDoorTie.lean); close each card by the builder's one call (the guide's Derived/Test/ToyasCard.lean, 'card_holds'). Laid BY PROGRAM, IN A SANDBOX (cutbox-door.mjs). By AI agents, Wed Nov 11 2026. No macro, syntax, notation, axiom, sorry.
-/
import Derived.Test.YtnpidjamplmgjaaGreatDoorRows
import GoSem.ClaimSeven
namespace Go.Proofs.YtnpidjamplmgjaaGreatDoor
namespace Rows

/-- THE TIED CARD OF 'laws.FnExactGen'. -/
def fnExactGenCard : Claim7 := { stood := { row := fnExactGenRow, standIns := [], harness := (true, "c939c03eb3d526391c947bf4baf79054a36bdb5779262c2877a9b414d79931b5"), looks := true }, kinds := [], alts := [], laidByText := true, laidKinds := [.data, .data, .data, .data], laidTests := true, laidLooks := .later }
def FnExactGenCardSaid : Prop := Claim7.holds Tryz.pinned (.plain (OpenSpec.ofChange fnExactGenSpec)) fnExactGenCard

/-- THE SECOND FORM's CARD OF 'laws.FnExactGen'. -/
def fnExactGenUptoCard : Claim7 := { stood := { row := fnExactGenUptoRow, standIns := [], harness := (true, "c939c03eb3d526391c947bf4baf79054a36bdb5779262c2877a9b414d79931b5"), looks := true }, kinds := [], alts := [], laidByText := true, laidKinds := [.data, .data, .data, .data], laidTests := true, laidLooks := .later }
def FnExactGenUptoCardSaid : Prop := Claim7.holds Tryz.pinned (.plain (OpenSpec.upto fnExactGenSpec)) fnExactGenUptoCard
end Rows
end Go.Proofs.YtnpidjamplmgjaaGreatDoor
