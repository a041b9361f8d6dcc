/-
  DERIVED. GIVEN WITH THE SEED: THE CARDS: each row of YtecdmafhjfnloaaGreatDoorRows.lean that lists a variable, with what it lists TIED to the program's text (the seventh form; the later family's looks); each row that meets fmt, with fmt's text TOLD by the authors' own Lean function (tested against real Go, not proved from fmt's source: count such statements apart). THE CARD IS WHAT COUNTS. Prove the row's statement (the work); the ties are given (YtecdmafhjfnloaaGreatDoorTie.lean); close each card by the builder's one call (the guide's Derived/Test/ToyasCard.lean, 'card_holds'). Laid BY PROGRAM, IN A SANDBOX (cutbox-door.mjs). By AI agents, Wed Nov 11 2026. No macro, syntax, notation, axiom, sorry.
-/
import Derived.Test.YtecdmafhjfnloaaGreatDoorRows
import GoSem.ClaimSeven
namespace Go.Proofs.YtecdmafhjfnloaaGreatDoor
namespace Rows

/-- THE TIED CARD OF 'laws.FnTxtWrite'. -/
def fnTxtWriteCard : Claim7 := { stood := { row := fnTxtWriteRow, standIns := [], harness := (true, "b6d9eca05f39d815bf8bca09b51b97f7150abd1fdf4904d954476c74461fad5b"), looks := true }, kinds := [], alts := [], laidByText := true, laidKinds := [.data, .data, .data, .data, .sentinel, .sentinel, .wider, .data, .data, .sentinel, .sentinel, .sentinel, .sentinel, .sentinel, .sentinel, .sentinel, .pinned], laidTests := true, laidLooks := .later }
def FnTxtWriteCardSaid : Prop := Claim7.holds Tryz.pinned (.plain (OpenSpec.ofChange fnTxtWriteSpec)) fnTxtWriteCard

/-- THE TIED CARD OF 'laws.FnTxtRead'. -/
def fnTxtReadCard : Claim7 := { stood := { row := fnTxtReadRow, standIns := [], harness := (true, "b6d9eca05f39d815bf8bca09b51b97f7150abd1fdf4904d954476c74461fad5b"), looks := true }, kinds := [], alts := [], laidByText := true, laidKinds := [.data, .data, .data, .data, .sentinel, .sentinel, .wider, .data, .data, .sentinel, .sentinel, .sentinel, .sentinel, .sentinel, .sentinel, .sentinel, .pinned], laidTests := true, laidLooks := .later }
def FnTxtReadCardSaid : Prop := Claim7.holds Tryz.pinned (.plain (OpenSpec.ofChange fnTxtReadSpec)) fnTxtReadCard

/-- THE TIED CARD OF 'laws.FnExactTxtRead'. -/
def fnExactTxtReadCard : Claim7 := { stood := { row := fnExactTxtReadRow, standIns := [], harness := (true, "b6d9eca05f39d815bf8bca09b51b97f7150abd1fdf4904d954476c74461fad5b"), looks := true }, kinds := [], alts := [], laidByText := true, laidKinds := [.data, .data, .data, .data, .sentinel, .sentinel, .wider, .data, .data, .sentinel, .sentinel, .sentinel, .sentinel, .sentinel, .sentinel, .sentinel, .pinned], laidTests := true, laidLooks := .later }
def FnExactTxtReadCardSaid : Prop := Claim7.holds Tryz.pinned (.plain (OpenSpec.ofChange fnExactTxtReadSpec)) fnExactTxtReadCard

/-- THE SECOND FORM's CARD OF 'laws.FnTxtWrite'. -/
def fnTxtWriteUptoCard : Claim7 := { stood := { row := fnTxtWriteUptoRow, standIns := [], harness := (true, "b6d9eca05f39d815bf8bca09b51b97f7150abd1fdf4904d954476c74461fad5b"), looks := true }, kinds := [], alts := [], laidByText := true, laidKinds := [.data, .data, .data, .data, .sentinel, .sentinel, .wider, .data, .data, .sentinel, .sentinel, .sentinel, .sentinel, .sentinel, .sentinel, .sentinel, .pinned], laidTests := true, laidLooks := .later }
def FnTxtWriteUptoCardSaid : Prop := Claim7.holds Tryz.pinned (.plain (OpenSpec.upto fnTxtWriteSpec)) fnTxtWriteUptoCard

/-- THE SECOND FORM's CARD OF 'laws.FnTxtRead'. -/
def fnTxtReadUptoCard : Claim7 := { stood := { row := fnTxtReadUptoRow, standIns := [], harness := (true, "b6d9eca05f39d815bf8bca09b51b97f7150abd1fdf4904d954476c74461fad5b"), looks := true }, kinds := [], alts := [], laidByText := true, laidKinds := [.data, .data, .data, .data, .sentinel, .sentinel, .wider, .data, .data, .sentinel, .sentinel, .sentinel, .sentinel, .sentinel, .sentinel, .sentinel, .pinned], laidTests := true, laidLooks := .later }
def FnTxtReadUptoCardSaid : Prop := Claim7.holds Tryz.pinned (.plain (OpenSpec.upto fnTxtReadSpec)) fnTxtReadUptoCard

/-- THE SECOND FORM's CARD OF 'laws.FnExactTxtRead'. -/
def fnExactTxtReadUptoCard : Claim7 := { stood := { row := fnExactTxtReadUptoRow, standIns := [], harness := (true, "b6d9eca05f39d815bf8bca09b51b97f7150abd1fdf4904d954476c74461fad5b"), looks := true }, kinds := [], alts := [], laidByText := true, laidKinds := [.data, .data, .data, .data, .sentinel, .sentinel, .wider, .data, .data, .sentinel, .sentinel, .sentinel, .sentinel, .sentinel, .sentinel, .sentinel, .pinned], laidTests := true, laidLooks := .later }
def FnExactTxtReadUptoCardSaid : Prop := Claim7.holds Tryz.pinned (.plain (OpenSpec.upto fnExactTxtReadSpec)) fnExactTxtReadUptoCard
end Rows
end Go.Proofs.YtecdmafhjfnloaaGreatDoor
