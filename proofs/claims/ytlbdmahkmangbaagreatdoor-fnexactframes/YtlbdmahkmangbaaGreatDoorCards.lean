/-
  DERIVED. GIVEN WITH THE SEED: THE CARDS: each row of YtlbdmahkmangbaaGreatDoorRows.lean that lists a variable, with what it lists TIED to the program's text (the seventh form; the later family's looks); each row that meets fmt, with fmt's text TOLD by the authors' own Lean function (tested against real Go, not proved from fmt's source: count such statements apart). THE CARD IS WHAT COUNTS. Prove the row's statement (the work); the ties are given (YtlbdmahkmangbaaGreatDoorTie.lean); close each card by the builder's one call (the guide's Derived/Test/ToyasCard.lean, 'card_holds'). Laid BY PROGRAM, IN A SANDBOX (cutbox-door.mjs). By AI agents, Wed Nov 11 2026. No macro, syntax, notation, axiom, sorry.
-/
import Derived.Test.YtlbdmahkmangbaaGreatDoorRows
import GoSem.ClaimSeven
namespace Go.Proofs.YtlbdmahkmangbaaGreatDoor
namespace Rows

/-- THE TIED CARD OF 'laws.FnExactFrames'. -/
def fnExactFramesCard : Claim7 := { stood := { row := fnExactFramesRow, standIns := [], harness := (true, "4aaf8f61971ce930afac4f0c5a1e1b781f8f193c39e164f6debefcf653ac0ff9"), looks := true }, kinds := [], alts := [], laidByText := true, laidKinds := [.data, .data], laidTests := true, laidLooks := .later }
def FnExactFramesCardSaid : Prop := Claim7.holds Tryz.pinned (.plain (OpenSpec.ofChange fnExactFramesSpec)) fnExactFramesCard

/-- THE SECOND FORM's CARD OF 'laws.FnExactFrames'. -/
def fnExactFramesUptoCard : Claim7 := { stood := { row := fnExactFramesUptoRow, standIns := [], harness := (true, "4aaf8f61971ce930afac4f0c5a1e1b781f8f193c39e164f6debefcf653ac0ff9"), looks := true }, kinds := [], alts := [], laidByText := true, laidKinds := [.data, .data], laidTests := true, laidLooks := .later }
def FnExactFramesUptoCardSaid : Prop := Claim7.holds Tryz.pinned (.plain (OpenSpec.upto fnExactFramesSpec)) fnExactFramesUptoCard
end Rows
end Go.Proofs.YtlbdmahkmangbaaGreatDoor
