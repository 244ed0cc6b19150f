/-
  DERIVED. GIVEN WITH THE SEED: THE CARDS: each row of YtmbfkmmfneeleaaGreatDoorRows.lean that lists a variable, with what it lists TIED to the program's text (the seventh form; the later family's looks); each row that meets fmt, with fmt's text TOLD by the authors' own Lean function (tested against real Go, not proved from fmt's source: count such statements apart). THE CARD IS WHAT COUNTS. Prove the row's statement (the work); the ties are given (YtmbfkmmfneeleaaGreatDoorTie.lean); close each card by the builder's one call (the guide's Derived/Test/ToyasCard.lean, 'card_holds'). Laid BY PROGRAM, IN A SANDBOX (cutbox-door.mjs). By AI agents, Wed Nov 11 2026. No macro, syntax, notation, axiom, sorry.
-/
import Derived.Test.YtmbfkmmfneeleaaGreatDoorRows
import GoSem.ClaimSeven
namespace Go.Proofs.YtmbfkmmfneeleaaGreatDoor
namespace Rows

/-- THE TIED CARD OF 'laws.FnExactCheckC'. -/
def fnExactCheckCCard : Claim7 := { stood := { row := fnExactCheckCRow, standIns := [], harness := (true, "137bd362d0d0381696b738e85ef6a8e21aad17a476c132e3b78c31f318c141fe"), looks := true }, kinds := [], alts := [], laidByText := true, laidKinds := [.handle, .data, .data], laidTests := true, laidLooks := .later }
def FnExactCheckCCardSaid : Prop := Claim7.holds Tryz.pinned (.plain (OpenSpec.ofChange fnExactCheckCSpec)) fnExactCheckCCard

/-- THE SECOND FORM's CARD OF 'laws.FnExactCheckC'. -/
def fnExactCheckCUptoCard : Claim7 := { stood := { row := fnExactCheckCUptoRow, standIns := [], harness := (true, "137bd362d0d0381696b738e85ef6a8e21aad17a476c132e3b78c31f318c141fe"), looks := true }, kinds := [], alts := [], laidByText := true, laidKinds := [.handle, .data, .data], laidTests := true, laidLooks := .later }
def FnExactCheckCUptoCardSaid : Prop := Claim7.holds Tryz.pinned (.plain (OpenSpec.upto fnExactCheckCSpec)) fnExactCheckCUptoCard
end Rows
end Go.Proofs.YtmbfkmmfneeleaaGreatDoor
