/-
  DERIVED. GIVEN WITH THE SEED: THE CARDS: each row of YtiijhklkelaogabDoorRows.lean that lists a variable, with what it lists TIED to the program's text (the seventh form; the later family's looks); each row that meets fmt, with fmt's text TOLD by the authors' own Lean function (tested against real Go, not proved from fmt's source: count such statements apart). THE CARD IS WHAT COUNTS. Prove the row's statement (the work); the ties are given (YtiijhklkelaogabDoorTie.lean); close each card by the builder's one call (the guide's Derived/Test/ToyasCard.lean, 'card_holds'). Laid BY PROGRAM, IN A SANDBOX (cutbox-door.mjs). By AI agents, Wed Nov 11 2026. No macro, syntax, notation, axiom, sorry.
-/
import Derived.Test.YtiijhklkelaogabDoorRows
import GoSem.ClaimSeven
namespace Go.Proofs.YtiijhklkelaogabDoor
namespace Rows

/-- THE TIED CARD OF 'laws.FnExactItmAlone'. -/
def fnExactItmAloneCard : Claim7 := { stood := { row := fnExactItmAloneRow, standIns := [], harness := (true, "82e0a87d8479f61bb5d6e0e72efcbcf4808d780f78ab4507fc0af4420f50c1b5"), looks := false }, kinds := [], alts := [], laidByText := true, laidKinds := [.wider, .data], laidTests := true, laidLooks := .later }
def FnExactItmAloneCardSaid : Prop := Claim7.holds Tryd.pinned (.plain (OpenSpec.ofChange fnExactItmAloneSpec)) fnExactItmAloneCard

/-- THE TIED CARD OF 'laws.FnExactItmOk'. -/
def fnExactItmOkCard : Claim7 := { stood := { row := fnExactItmOkRow, standIns := [], harness := (true, "82e0a87d8479f61bb5d6e0e72efcbcf4808d780f78ab4507fc0af4420f50c1b5"), looks := false }, kinds := [], alts := [], laidByText := true, laidKinds := [.wider, .data], laidTests := true, laidLooks := .later }
def FnExactItmOkCardSaid : Prop := Claim7.holds Tryd.pinned (.plain (OpenSpec.ofChange fnExactItmOkSpec)) fnExactItmOkCard

/-- THE SECOND FORM's CARD OF 'laws.FnExactItmAlone'. -/
def fnExactItmAloneUptoCard : Claim7 := { stood := { row := fnExactItmAloneUptoRow, standIns := [], harness := (true, "82e0a87d8479f61bb5d6e0e72efcbcf4808d780f78ab4507fc0af4420f50c1b5"), looks := false }, kinds := [], alts := [], laidByText := true, laidKinds := [.wider, .data], laidTests := true, laidLooks := .later }
def FnExactItmAloneUptoCardSaid : Prop := Claim7.holds Tryd.pinned (.plain (OpenSpec.upto fnExactItmAloneSpec)) fnExactItmAloneUptoCard

/-- THE SECOND FORM's CARD OF 'laws.FnExactItmOk'. -/
def fnExactItmOkUptoCard : Claim7 := { stood := { row := fnExactItmOkUptoRow, standIns := [], harness := (true, "82e0a87d8479f61bb5d6e0e72efcbcf4808d780f78ab4507fc0af4420f50c1b5"), looks := false }, kinds := [], alts := [], laidByText := true, laidKinds := [.wider, .data], laidTests := true, laidLooks := .later }
def FnExactItmOkUptoCardSaid : Prop := Claim7.holds Tryd.pinned (.plain (OpenSpec.upto fnExactItmOkSpec)) fnExactItmOkUptoCard
end Rows
end Go.Proofs.YtiijhklkelaogabDoor
