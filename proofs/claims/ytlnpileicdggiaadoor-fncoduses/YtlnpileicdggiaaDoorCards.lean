/-
  DERIVED. GIVEN WITH THE SEED: THE CARDS: each row of YtlnpileicdggiaaDoorRows.lean that lists a variable, with what it lists TIED to the program's text (the seventh form; the later family's looks); each row that meets fmt, with fmt's text TOLD by the authors' own Lean function (tested against real Go, not proved from fmt's source: count such statements apart). THE CARD IS WHAT COUNTS. Prove the row's statement (the work); the ties are given (YtlnpileicdggiaaDoorTie.lean); close each card by the builder's one call (the guide's Derived/Test/ToyasCard.lean, 'card_holds'). Laid BY PROGRAM, IN A SANDBOX (cutbox-door.mjs). By AI agents, Wed Nov 11 2026. No macro, syntax, notation, axiom, sorry.
-/
import Derived.Test.YtlnpileicdggiaaDoorRows
import GoSem.ClaimSeven
namespace Go.Proofs.YtlnpileicdggiaaDoor
namespace Rows

/-- THE TIED CARD OF 'laws.FnCodOk'. -/
def fnCodOkCard : Claim7 := { stood := { row := fnCodOkRow, standIns := [], harness := (true, "756414037e381c4a4d4b5db854b326f9094ec1dc1a8250e609331890c4ee4a44"), looks := false }, kinds := [], alts := [], laidByText := true, laidKinds := [.wider, .data], laidTests := true, laidLooks := .later }
def FnCodOkCardSaid : Prop := Claim7.holds Tryd.pinned (.plain (OpenSpec.ofChange fnCodOkSpec)) fnCodOkCard

/-- THE TIED CARD OF 'laws.FnCodWord'. -/
def fnCodWordCard : Claim7 := { stood := { row := fnCodWordRow, standIns := [], harness := (true, "756414037e381c4a4d4b5db854b326f9094ec1dc1a8250e609331890c4ee4a44"), looks := false }, kinds := [], alts := [], laidByText := true, laidKinds := [.wider, .data], laidTests := true, laidLooks := .later }
def FnCodWordCardSaid : Prop := Claim7.holds Tryd.pinned (.plain (OpenSpec.ofChange fnCodWordSpec)) fnCodWordCard

/-- THE TIED CARD OF 'laws.FnCodUses'. -/
def fnCodUsesCard : Claim7 := { stood := { row := fnCodUsesRow, standIns := [], harness := (true, "756414037e381c4a4d4b5db854b326f9094ec1dc1a8250e609331890c4ee4a44"), looks := false }, kinds := [], alts := [], laidByText := true, laidKinds := [.wider, .data], laidTests := true, laidLooks := .later }
def FnCodUsesCardSaid : Prop := Claim7.holds Tryd.pinned (.plain (OpenSpec.ofChange fnCodUsesSpec)) fnCodUsesCard

/-- THE TIED CARD OF 'laws.FnExactCodOk'. -/
def fnExactCodOkCard : Claim7 := { stood := { row := fnExactCodOkRow, standIns := [], harness := (true, "756414037e381c4a4d4b5db854b326f9094ec1dc1a8250e609331890c4ee4a44"), looks := false }, kinds := [], alts := [], laidByText := true, laidKinds := [.wider, .data], laidTests := true, laidLooks := .later }
def FnExactCodOkCardSaid : Prop := Claim7.holds Tryd.pinned (.plain (OpenSpec.ofChange fnExactCodOkSpec)) fnExactCodOkCard

/-- THE TIED CARD OF 'laws.FnExactCodWord'. -/
def fnExactCodWordCard : Claim7 := { stood := { row := fnExactCodWordRow, standIns := [], harness := (true, "756414037e381c4a4d4b5db854b326f9094ec1dc1a8250e609331890c4ee4a44"), looks := false }, kinds := [], alts := [], laidByText := true, laidKinds := [.wider, .data], laidTests := true, laidLooks := .later }
def FnExactCodWordCardSaid : Prop := Claim7.holds Tryd.pinned (.plain (OpenSpec.ofChange fnExactCodWordSpec)) fnExactCodWordCard

/-- THE TIED CARD OF 'laws.FnExactCodRead'. -/
def fnExactCodReadCard : Claim7 := { stood := { row := fnExactCodReadRow, standIns := [], harness := (true, "756414037e381c4a4d4b5db854b326f9094ec1dc1a8250e609331890c4ee4a44"), looks := false }, kinds := [], alts := [], laidByText := true, laidKinds := [.wider, .data], laidTests := true, laidLooks := .later }
def FnExactCodReadCardSaid : Prop := Claim7.holds Tryd.pinned (.plain (OpenSpec.ofChange fnExactCodReadSpec)) fnExactCodReadCard

/-- THE TIED CARD OF 'laws.FnExactCodUses'. -/
def fnExactCodUsesCard : Claim7 := { stood := { row := fnExactCodUsesRow, standIns := [], harness := (true, "756414037e381c4a4d4b5db854b326f9094ec1dc1a8250e609331890c4ee4a44"), looks := false }, kinds := [], alts := [], laidByText := true, laidKinds := [.wider, .data], laidTests := true, laidLooks := .later }
def FnExactCodUsesCardSaid : Prop := Claim7.holds Tryd.pinned (.plain (OpenSpec.ofChange fnExactCodUsesSpec)) fnExactCodUsesCard

/-- THE TIED CARD OF 'laws.FnExactCodGives'. -/
def fnExactCodGivesCard : Claim7 := { stood := { row := fnExactCodGivesRow, standIns := [], harness := (true, "756414037e381c4a4d4b5db854b326f9094ec1dc1a8250e609331890c4ee4a44"), looks := false }, kinds := [], alts := [], laidByText := true, laidKinds := [.wider, .data], laidTests := true, laidLooks := .later }
def FnExactCodGivesCardSaid : Prop := Claim7.holds Tryd.pinned (.plain (OpenSpec.ofChange fnExactCodGivesSpec)) fnExactCodGivesCard

/-- THE SECOND FORM's CARD OF 'laws.FnCodOk'. -/
def fnCodOkUptoCard : Claim7 := { stood := { row := fnCodOkUptoRow, standIns := [], harness := (true, "756414037e381c4a4d4b5db854b326f9094ec1dc1a8250e609331890c4ee4a44"), looks := false }, kinds := [], alts := [], laidByText := true, laidKinds := [.wider, .data], laidTests := true, laidLooks := .later }
def FnCodOkUptoCardSaid : Prop := Claim7.holds Tryd.pinned (.plain (OpenSpec.upto fnCodOkSpec)) fnCodOkUptoCard

/-- THE SECOND FORM's CARD OF 'laws.FnCodWord'. -/
def fnCodWordUptoCard : Claim7 := { stood := { row := fnCodWordUptoRow, standIns := [], harness := (true, "756414037e381c4a4d4b5db854b326f9094ec1dc1a8250e609331890c4ee4a44"), looks := false }, kinds := [], alts := [], laidByText := true, laidKinds := [.wider, .data], laidTests := true, laidLooks := .later }
def FnCodWordUptoCardSaid : Prop := Claim7.holds Tryd.pinned (.plain (OpenSpec.upto fnCodWordSpec)) fnCodWordUptoCard

/-- THE SECOND FORM's CARD OF 'laws.FnCodUses'. -/
def fnCodUsesUptoCard : Claim7 := { stood := { row := fnCodUsesUptoRow, standIns := [], harness := (true, "756414037e381c4a4d4b5db854b326f9094ec1dc1a8250e609331890c4ee4a44"), looks := false }, kinds := [], alts := [], laidByText := true, laidKinds := [.wider, .data], laidTests := true, laidLooks := .later }
def FnCodUsesUptoCardSaid : Prop := Claim7.holds Tryd.pinned (.plain (OpenSpec.upto fnCodUsesSpec)) fnCodUsesUptoCard

/-- THE SECOND FORM's CARD OF 'laws.FnExactCodOk'. -/
def fnExactCodOkUptoCard : Claim7 := { stood := { row := fnExactCodOkUptoRow, standIns := [], harness := (true, "756414037e381c4a4d4b5db854b326f9094ec1dc1a8250e609331890c4ee4a44"), looks := false }, kinds := [], alts := [], laidByText := true, laidKinds := [.wider, .data], laidTests := true, laidLooks := .later }
def FnExactCodOkUptoCardSaid : Prop := Claim7.holds Tryd.pinned (.plain (OpenSpec.upto fnExactCodOkSpec)) fnExactCodOkUptoCard

/-- THE SECOND FORM's CARD OF 'laws.FnExactCodWord'. -/
def fnExactCodWordUptoCard : Claim7 := { stood := { row := fnExactCodWordUptoRow, standIns := [], harness := (true, "756414037e381c4a4d4b5db854b326f9094ec1dc1a8250e609331890c4ee4a44"), looks := false }, kinds := [], alts := [], laidByText := true, laidKinds := [.wider, .data], laidTests := true, laidLooks := .later }
def FnExactCodWordUptoCardSaid : Prop := Claim7.holds Tryd.pinned (.plain (OpenSpec.upto fnExactCodWordSpec)) fnExactCodWordUptoCard

/-- THE SECOND FORM's CARD OF 'laws.FnExactCodRead'. -/
def fnExactCodReadUptoCard : Claim7 := { stood := { row := fnExactCodReadUptoRow, standIns := [], harness := (true, "756414037e381c4a4d4b5db854b326f9094ec1dc1a8250e609331890c4ee4a44"), looks := false }, kinds := [], alts := [], laidByText := true, laidKinds := [.wider, .data], laidTests := true, laidLooks := .later }
def FnExactCodReadUptoCardSaid : Prop := Claim7.holds Tryd.pinned (.plain (OpenSpec.upto fnExactCodReadSpec)) fnExactCodReadUptoCard

/-- THE SECOND FORM's CARD OF 'laws.FnExactCodUses'. -/
def fnExactCodUsesUptoCard : Claim7 := { stood := { row := fnExactCodUsesUptoRow, standIns := [], harness := (true, "756414037e381c4a4d4b5db854b326f9094ec1dc1a8250e609331890c4ee4a44"), looks := false }, kinds := [], alts := [], laidByText := true, laidKinds := [.wider, .data], laidTests := true, laidLooks := .later }
def FnExactCodUsesUptoCardSaid : Prop := Claim7.holds Tryd.pinned (.plain (OpenSpec.upto fnExactCodUsesSpec)) fnExactCodUsesUptoCard

/-- THE SECOND FORM's CARD OF 'laws.FnExactCodGives'. -/
def fnExactCodGivesUptoCard : Claim7 := { stood := { row := fnExactCodGivesUptoRow, standIns := [], harness := (true, "756414037e381c4a4d4b5db854b326f9094ec1dc1a8250e609331890c4ee4a44"), looks := false }, kinds := [], alts := [], laidByText := true, laidKinds := [.wider, .data], laidTests := true, laidLooks := .later }
def FnExactCodGivesUptoCardSaid : Prop := Claim7.holds Tryd.pinned (.plain (OpenSpec.upto fnExactCodGivesSpec)) fnExactCodGivesUptoCard
end Rows
end Go.Proofs.YtlnpileicdggiaaDoor
