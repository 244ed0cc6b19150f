/-
  DERIVED. GIVEN WITH THE SEED: THE CARDS: each row of YtmddmgpijpjpbaaGreatDoorRows.lean that lists a variable, with what it lists TIED to the program's text (the seventh form; the later family's looks); each row that meets fmt, with fmt's text TOLD by the authors' own Lean function (tested against real Go, not proved from fmt's source: count such statements apart). THE CARD IS WHAT COUNTS. Prove the row's statement (the work); the ties are given (YtmddmgpijpjpbaaGreatDoorTie.lean); close each card by the builder's one call (the guide's Derived/Test/ToyasCard.lean, 'card_holds'). Laid BY PROGRAM, IN A SANDBOX (cutbox-door.mjs). By AI agents, Wed Nov 11 2026. No macro, syntax, notation, axiom, sorry.
-/
import Derived.Test.YtmddmgpijpjpbaaGreatDoorRows
import GoSem.ClaimSeven
namespace Go.Proofs.YtmddmgpijpjpbaaGreatDoor
namespace Rows

/-- THE TIED CARD OF 'laws.FnExactEvalC'. -/
def fnExactEvalCCard : Claim7 := { stood := { row := fnExactEvalCRow, standIns := [], harness := (true, "a5cebfbe880d6abb78344d05e889cca8f8a967a3fce93e386eb8ce9839d6b54a"), looks := true }, kinds := [], alts := [], laidByText := true, laidKinds := [.data, .data], laidTests := true, laidLooks := .later }
def FnExactEvalCCardSaid : Prop := Claim7.holds Tryz.pinned (.plain (OpenSpec.ofChange fnExactEvalCSpec)) fnExactEvalCCard

/-- THE TIED CARD OF 'laws.FnExactSimplify'. -/
def fnExactSimplifyCard : Claim7 := { stood := { row := fnExactSimplifyRow, standIns := [], harness := (true, "a5cebfbe880d6abb78344d05e889cca8f8a967a3fce93e386eb8ce9839d6b54a"), looks := true }, kinds := [], alts := [], laidByText := true, laidKinds := [.data, .data], laidTests := true, laidLooks := .later }
def FnExactSimplifyCardSaid : Prop := Claim7.holds Tryz.pinned (.plain (OpenSpec.ofChange fnExactSimplifySpec)) fnExactSimplifyCard

/-- THE SECOND FORM's CARD OF 'laws.FnExactEvalC'. -/
def fnExactEvalCUptoCard : Claim7 := { stood := { row := fnExactEvalCUptoRow, standIns := [], harness := (true, "a5cebfbe880d6abb78344d05e889cca8f8a967a3fce93e386eb8ce9839d6b54a"), looks := true }, kinds := [], alts := [], laidByText := true, laidKinds := [.data, .data], laidTests := true, laidLooks := .later }
def FnExactEvalCUptoCardSaid : Prop := Claim7.holds Tryz.pinned (.plain (OpenSpec.upto fnExactEvalCSpec)) fnExactEvalCUptoCard

/-- THE SECOND FORM's CARD OF 'laws.FnExactSimplify'. -/
def fnExactSimplifyUptoCard : Claim7 := { stood := { row := fnExactSimplifyUptoRow, standIns := [], harness := (true, "a5cebfbe880d6abb78344d05e889cca8f8a967a3fce93e386eb8ce9839d6b54a"), looks := true }, kinds := [], alts := [], laidByText := true, laidKinds := [.data, .data], laidTests := true, laidLooks := .later }
def FnExactSimplifyUptoCardSaid : Prop := Claim7.holds Tryz.pinned (.plain (OpenSpec.upto fnExactSimplifySpec)) fnExactSimplifyUptoCard
end Rows
end Go.Proofs.YtmddmgpijpjpbaaGreatDoor
