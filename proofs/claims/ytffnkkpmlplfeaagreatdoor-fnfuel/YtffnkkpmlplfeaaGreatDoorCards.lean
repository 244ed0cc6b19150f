/-
  DERIVED. GIVEN WITH THE SEED: THE CARDS: each row of YtffnkkpmlplfeaaGreatDoorRows.lean that lists a variable, with what it lists TIED to the program's text (the seventh form; the later family's looks); each row that meets fmt, with fmt's text TOLD by the authors' own Lean function (tested against real Go, not proved from fmt's source: count such statements apart). THE CARD IS WHAT COUNTS. Prove the row's statement (the work); the ties are given (YtffnkkpmlplfeaaGreatDoorTie.lean); close each card by the builder's one call (the guide's Derived/Test/ToyasCard.lean, 'card_holds'). Laid BY PROGRAM, IN A SANDBOX (cutbox-door.mjs). By AI agents, Wed Nov 11 2026. No macro, syntax, notation, axiom, sorry.
-/
import Derived.Test.YtffnkkpmlplfeaaGreatDoorRows
import GoSem.ClaimSeven
namespace Go.Proofs.YtffnkkpmlplfeaaGreatDoor
namespace Rows

/-- THE TIED CARD OF 'laws.FnExactEvalC'. -/
def fnExactEvalCCard : Claim7 := { stood := { row := fnExactEvalCRow, standIns := [], harness := (true, "d08c2041b6884ae60bd89fc35236b5656f26cec70b5bbdde40805528d6129378"), looks := true }, kinds := [], alts := [], laidByText := true, laidKinds := [.data, .data], laidTests := true, laidLooks := .later }
def FnExactEvalCCardSaid : Prop := Claim7.holds Tryz.pinned (.plain (OpenSpec.ofChange fnExactEvalCSpec)) fnExactEvalCCard

/-- THE TIED CARD OF 'laws.FnFuel'. -/
def fnFuelCard : Claim7 := { stood := { row := fnFuelRow, standIns := [], harness := (true, "d08c2041b6884ae60bd89fc35236b5656f26cec70b5bbdde40805528d6129378"), looks := true }, kinds := [], alts := [], laidByText := true, laidKinds := [.data, .data], laidTests := true, laidLooks := .later }
def FnFuelCardSaid : Prop := Claim7.holds Tryz.pinned (.plain (OpenSpec.ofChange fnFuelSpec)) fnFuelCard

/-- THE TIED CARD OF 'laws.FnSimplify'. -/
def fnSimplifyCard : Claim7 := { stood := { row := fnSimplifyRow, standIns := [], harness := (true, "d08c2041b6884ae60bd89fc35236b5656f26cec70b5bbdde40805528d6129378"), looks := true }, kinds := [], alts := [], laidByText := true, laidKinds := [.data, .data], laidTests := true, laidLooks := .later }
def FnSimplifyCardSaid : Prop := Claim7.holds Tryz.pinned (.plain (OpenSpec.ofChange fnSimplifySpec)) fnSimplifyCard

/-- THE SECOND FORM's CARD OF 'laws.FnExactEvalC'. -/
def fnExactEvalCUptoCard : Claim7 := { stood := { row := fnExactEvalCUptoRow, standIns := [], harness := (true, "d08c2041b6884ae60bd89fc35236b5656f26cec70b5bbdde40805528d6129378"), looks := true }, kinds := [], alts := [], laidByText := true, laidKinds := [.data, .data], laidTests := true, laidLooks := .later }
def FnExactEvalCUptoCardSaid : Prop := Claim7.holds Tryz.pinned (.plain (OpenSpec.upto fnExactEvalCSpec)) fnExactEvalCUptoCard

/-- THE SECOND FORM's CARD OF 'laws.FnFuel'. -/
def fnFuelUptoCard : Claim7 := { stood := { row := fnFuelUptoRow, standIns := [], harness := (true, "d08c2041b6884ae60bd89fc35236b5656f26cec70b5bbdde40805528d6129378"), looks := true }, kinds := [], alts := [], laidByText := true, laidKinds := [.data, .data], laidTests := true, laidLooks := .later }
def FnFuelUptoCardSaid : Prop := Claim7.holds Tryz.pinned (.plain (OpenSpec.upto fnFuelSpec)) fnFuelUptoCard

/-- THE SECOND FORM's CARD OF 'laws.FnSimplify'. -/
def fnSimplifyUptoCard : Claim7 := { stood := { row := fnSimplifyUptoRow, standIns := [], harness := (true, "d08c2041b6884ae60bd89fc35236b5656f26cec70b5bbdde40805528d6129378"), looks := true }, kinds := [], alts := [], laidByText := true, laidKinds := [.data, .data], laidTests := true, laidLooks := .later }
def FnSimplifyUptoCardSaid : Prop := Claim7.holds Tryz.pinned (.plain (OpenSpec.upto fnSimplifySpec)) fnSimplifyUptoCard
end Rows
end Go.Proofs.YtffnkkpmlplfeaaGreatDoor
