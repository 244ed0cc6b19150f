/-
  DERIVED. GIVEN WITH THE SEED: THE CARDS: each row of YtjfmapphpijneaaGreatDoorRows.lean that lists a variable, with what it lists TIED to the program's text (the seventh form; the later family's looks); each row that meets fmt, with fmt's text TOLD by the authors' own Lean function (tested against real Go, not proved from fmt's source: count such statements apart). THE CARD IS WHAT COUNTS. Prove the row's statement (the work); the ties are given (YtjfmapphpijneaaGreatDoorTie.lean); close each card by the builder's one call (the guide's Derived/Test/ToyasCard.lean, 'card_holds'). Laid BY PROGRAM, IN A SANDBOX (cutbox-door.mjs). By AI agents, Wed Nov 11 2026. No macro, syntax, notation, axiom, sorry.
-/
import Derived.Test.YtjfmapphpijneaaGreatDoorRows
import GoSem.ClaimSeven
namespace Go.Proofs.YtjfmapphpijneaaGreatDoor
namespace Rows

/-- THE TIED CARD OF 'laws.FnSimplify'. -/
def fnSimplifyCard : Claim7 := { stood := { row := fnSimplifyRow, standIns := [], harness := (true, "7303c296f68d52312da073e17792a325d3de17944af9d9e58fa0db31b803f470"), looks := true }, kinds := [], alts := [], laidByText := true, laidKinds := [.data, .data], laidTests := true, laidLooks := .later }
def FnSimplifyCardSaid : Prop := Claim7.holds Tryz.pinned (.plain (OpenSpec.ofChange fnSimplifySpec)) fnSimplifyCard

/-- THE SECOND FORM's CARD OF 'laws.FnSimplify'. -/
def fnSimplifyUptoCard : Claim7 := { stood := { row := fnSimplifyUptoRow, standIns := [], harness := (true, "7303c296f68d52312da073e17792a325d3de17944af9d9e58fa0db31b803f470"), looks := true }, kinds := [], alts := [], laidByText := true, laidKinds := [.data, .data], laidTests := true, laidLooks := .later }
def FnSimplifyUptoCardSaid : Prop := Claim7.holds Tryz.pinned (.plain (OpenSpec.upto fnSimplifySpec)) fnSimplifyUptoCard
end Rows
end Go.Proofs.YtjfmapphpijneaaGreatDoor
