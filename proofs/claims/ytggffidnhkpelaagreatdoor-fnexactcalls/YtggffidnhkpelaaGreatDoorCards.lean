/-
  DERIVED. GIVEN WITH THE SEED: THE CARDS: each row of YtggffidnhkpelaaGreatDoorRows.lean that lists a variable, with what it lists TIED to the program's text (the seventh form; the later family's looks); each row that meets fmt, with fmt's text TOLD by the authors' own Lean function (tested against real Go, not proved from fmt's source: count such statements apart). THE CARD IS WHAT COUNTS. Prove the row's statement (the work); the ties are given (YtggffidnhkpelaaGreatDoorTie.lean); close each card by the builder's one call (the guide's Derived/Test/ToyasCard.lean, 'card_holds'). Laid BY PROGRAM, IN A SANDBOX (cutbox-door.mjs). By AI agents, Wed Nov 11 2026. No macro, syntax, notation, axiom, sorry.
-/
import Derived.Test.YtggffidnhkpelaaGreatDoorRows
import GoSem.ClaimSeven
namespace Go.Proofs.YtggffidnhkpelaaGreatDoor
namespace Rows

/-- THE TIED CARD OF 'laws.FnExactCalls'. -/
def fnExactCallsCard : Claim7 := { stood := { row := fnExactCallsRow, standIns := [], harness := (true, "c0636af3aa31e176442e7b203363ea08eef119a5e27f869cee46164827a5acf8"), looks := false }, kinds := [], alts := [], laidByText := true, laidKinds := [.data, .data], laidTests := true, laidLooks := .later }
def FnExactCallsCardSaid : Prop := Claim7.holds Tryz.pinned (.plain (OpenSpec.ofChange fnExactCallsSpec)) fnExactCallsCard

/-- THE SECOND FORM's CARD OF 'laws.FnExactCalls'. -/
def fnExactCallsUptoCard : Claim7 := { stood := { row := fnExactCallsUptoRow, standIns := [], harness := (true, "c0636af3aa31e176442e7b203363ea08eef119a5e27f869cee46164827a5acf8"), looks := false }, kinds := [], alts := [], laidByText := true, laidKinds := [.data, .data], laidTests := true, laidLooks := .later }
def FnExactCallsUptoCardSaid : Prop := Claim7.holds Tryz.pinned (.plain (OpenSpec.upto fnExactCallsSpec)) fnExactCallsUptoCard
end Rows
end Go.Proofs.YtggffidnhkpelaaGreatDoor
