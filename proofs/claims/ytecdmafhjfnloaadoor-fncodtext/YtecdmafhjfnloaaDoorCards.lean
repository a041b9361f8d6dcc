/-
  DERIVED. GIVEN WITH THE SEED: THE CARDS: each row of YtecdmafhjfnloaaDoorRows.lean that lists a variable, with what it lists TIED to the program's text (the seventh form; the later family's looks); each row that meets fmt, with fmt's text TOLD by the authors' own Lean function (tested against real Go, not proved from fmt's source: count such statements apart). THE CARD IS WHAT COUNTS. Prove the row's statement (the work); the ties are given (YtecdmafhjfnloaaDoorTie.lean); close each card by the builder's one call (the guide's Derived/Test/ToyasCard.lean, 'card_holds'). Laid BY PROGRAM, IN A SANDBOX (cutbox-door.mjs). By AI agents, Wed Nov 11 2026. No macro, syntax, notation, axiom, sorry.
-/
import Derived.Test.YtecdmafhjfnloaaDoorRows
import GoSem.ClaimSeven
namespace Go.Proofs.YtecdmafhjfnloaaDoor
namespace Rows

/-- THE TIED CARD OF 'laws.FnCodWord'. -/
def fnCodWordCard : Claim7 := { stood := { row := fnCodWordRow, standIns := [], harness := (true, "b52127b27052be8e1379b4928e638b8b16f290584df6f950925e06d10987c8aa"), looks := true }, kinds := [], alts := [], laidByText := true, laidKinds := [.wider, .data], laidTests := true, laidLooks := .later }
def FnCodWordCardSaid : Prop := Claim7.holds Tryd.pinned (.plain (OpenSpec.ofChange fnCodWordSpec)) fnCodWordCard

/-- THE TIED CARD OF 'laws.FnCodText'. -/
def fnCodTextCard : Claim7 := { stood := { row := fnCodTextRow, standIns := [], harness := (true, "b52127b27052be8e1379b4928e638b8b16f290584df6f950925e06d10987c8aa"), looks := true }, kinds := [], alts := [], laidByText := true, laidKinds := [.data, .data, .data, .data, .sentinel, .sentinel, .wider, .data, .data, .sentinel, .sentinel, .sentinel, .sentinel, .sentinel, .sentinel, .sentinel, .pinned], laidTests := true, laidLooks := .later }
def FnCodTextCardSaid : Prop := Claim7.holds Tryd.pinned (.plain (OpenSpec.ofChange fnCodTextSpec)) fnCodTextCard

/-- THE TIED CARD OF 'laws.FnCodApart'. -/
def fnCodApartCard : Claim7 := { stood := { row := fnCodApartRow, standIns := [], harness := (true, "b52127b27052be8e1379b4928e638b8b16f290584df6f950925e06d10987c8aa"), looks := true }, kinds := [], alts := [], laidByText := true, laidKinds := [.data, .data, .data, .wider, .data, .data], laidTests := true, laidLooks := .later }
def FnCodApartCardSaid : Prop := Claim7.holds Tryd.pinned (.plain (OpenSpec.ofChange fnCodApartSpec)) fnCodApartCard

/-- THE TIED CARD OF 'laws.FnTxtLabel'. -/
def fnTxtLabelCard : Claim7 := { stood := { row := fnTxtLabelRow, standIns := [], harness := (true, "b52127b27052be8e1379b4928e638b8b16f290584df6f950925e06d10987c8aa"), looks := true }, kinds := [], alts := [], laidByText := true, laidKinds := [.data, .data, .data, .data, .sentinel, .sentinel, .wider, .data, .data, .sentinel, .sentinel, .sentinel, .sentinel, .sentinel, .sentinel, .sentinel, .pinned], laidTests := true, laidLooks := .later }
def FnTxtLabelCardSaid : Prop := Claim7.holds Tryd.pinned (.plain (OpenSpec.ofChange fnTxtLabelSpec)) fnTxtLabelCard

/-- THE TIED CARD OF 'laws.FnExactCodRead'. -/
def fnExactCodReadCard : Claim7 := { stood := { row := fnExactCodReadRow, standIns := [], harness := (true, "b52127b27052be8e1379b4928e638b8b16f290584df6f950925e06d10987c8aa"), looks := true }, kinds := [], alts := [], laidByText := true, laidKinds := [.wider, .data], laidTests := true, laidLooks := .later }
def FnExactCodReadCardSaid : Prop := Claim7.holds Tryd.pinned (.plain (OpenSpec.ofChange fnExactCodReadSpec)) fnExactCodReadCard

/-- THE TIED CARD OF 'laws.FnExactCodText'. -/
def fnExactCodTextCard : Claim7 := { stood := { row := fnExactCodTextRow, standIns := [], harness := (true, "b52127b27052be8e1379b4928e638b8b16f290584df6f950925e06d10987c8aa"), looks := true }, kinds := [], alts := [], laidByText := true, laidKinds := [.data, .data, .data, .wider, .data, .data], laidTests := true, laidLooks := .later }
def FnExactCodTextCardSaid : Prop := Claim7.holds Tryd.pinned (.plain (OpenSpec.ofChange fnExactCodTextSpec)) fnExactCodTextCard

/-- THE TIED CARD OF 'laws.FnExactCodParse'. -/
def fnExactCodParseCard : Claim7 := { stood := { row := fnExactCodParseRow, standIns := [], harness := (true, "b52127b27052be8e1379b4928e638b8b16f290584df6f950925e06d10987c8aa"), looks := true }, kinds := [], alts := [], laidByText := true, laidKinds := [.data, .data, .data, .data, .sentinel, .sentinel, .wider, .data, .data, .sentinel, .sentinel, .sentinel, .sentinel, .sentinel, .sentinel, .sentinel, .pinned], laidTests := true, laidLooks := .later }
def FnExactCodParseCardSaid : Prop := Claim7.holds Tryd.pinned (.plain (OpenSpec.ofChange fnExactCodParseSpec)) fnExactCodParseCard

/-- THE TIED CARD OF 'laws.FnExactTxtWrite'. -/
def fnExactTxtWriteCard : Claim7 := { stood := { row := fnExactTxtWriteRow, standIns := [], harness := (true, "b52127b27052be8e1379b4928e638b8b16f290584df6f950925e06d10987c8aa"), looks := true }, kinds := [], alts := [], laidByText := true, laidKinds := [.data, .data, .data, .wider, .data, .data], laidTests := true, laidLooks := .later }
def FnExactTxtWriteCardSaid : Prop := Claim7.holds Tryd.pinned (.plain (OpenSpec.ofChange fnExactTxtWriteSpec)) fnExactTxtWriteCard

/-- THE SECOND FORM's CARD OF 'laws.FnCodWord'. -/
def fnCodWordUptoCard : Claim7 := { stood := { row := fnCodWordUptoRow, standIns := [], harness := (true, "b52127b27052be8e1379b4928e638b8b16f290584df6f950925e06d10987c8aa"), looks := true }, kinds := [], alts := [], laidByText := true, laidKinds := [.wider, .data], laidTests := true, laidLooks := .later }
def FnCodWordUptoCardSaid : Prop := Claim7.holds Tryd.pinned (.plain (OpenSpec.upto fnCodWordSpec)) fnCodWordUptoCard

/-- THE SECOND FORM's CARD OF 'laws.FnCodText'. -/
def fnCodTextUptoCard : Claim7 := { stood := { row := fnCodTextUptoRow, standIns := [], harness := (true, "b52127b27052be8e1379b4928e638b8b16f290584df6f950925e06d10987c8aa"), looks := true }, kinds := [], alts := [], laidByText := true, laidKinds := [.data, .data, .data, .data, .sentinel, .sentinel, .wider, .data, .data, .sentinel, .sentinel, .sentinel, .sentinel, .sentinel, .sentinel, .sentinel, .pinned], laidTests := true, laidLooks := .later }
def FnCodTextUptoCardSaid : Prop := Claim7.holds Tryd.pinned (.plain (OpenSpec.upto fnCodTextSpec)) fnCodTextUptoCard

/-- THE SECOND FORM's CARD OF 'laws.FnCodApart'. -/
def fnCodApartUptoCard : Claim7 := { stood := { row := fnCodApartUptoRow, standIns := [], harness := (true, "b52127b27052be8e1379b4928e638b8b16f290584df6f950925e06d10987c8aa"), looks := true }, kinds := [], alts := [], laidByText := true, laidKinds := [.data, .data, .data, .wider, .data, .data], laidTests := true, laidLooks := .later }
def FnCodApartUptoCardSaid : Prop := Claim7.holds Tryd.pinned (.plain (OpenSpec.upto fnCodApartSpec)) fnCodApartUptoCard

/-- THE SECOND FORM's CARD OF 'laws.FnTxtLabel'. -/
def fnTxtLabelUptoCard : Claim7 := { stood := { row := fnTxtLabelUptoRow, standIns := [], harness := (true, "b52127b27052be8e1379b4928e638b8b16f290584df6f950925e06d10987c8aa"), looks := true }, kinds := [], alts := [], laidByText := true, laidKinds := [.data, .data, .data, .data, .sentinel, .sentinel, .wider, .data, .data, .sentinel, .sentinel, .sentinel, .sentinel, .sentinel, .sentinel, .sentinel, .pinned], laidTests := true, laidLooks := .later }
def FnTxtLabelUptoCardSaid : Prop := Claim7.holds Tryd.pinned (.plain (OpenSpec.upto fnTxtLabelSpec)) fnTxtLabelUptoCard

/-- THE SECOND FORM's CARD OF 'laws.FnExactCodRead'. -/
def fnExactCodReadUptoCard : Claim7 := { stood := { row := fnExactCodReadUptoRow, standIns := [], harness := (true, "b52127b27052be8e1379b4928e638b8b16f290584df6f950925e06d10987c8aa"), looks := true }, kinds := [], alts := [], laidByText := true, laidKinds := [.wider, .data], laidTests := true, laidLooks := .later }
def FnExactCodReadUptoCardSaid : Prop := Claim7.holds Tryd.pinned (.plain (OpenSpec.upto fnExactCodReadSpec)) fnExactCodReadUptoCard

/-- THE SECOND FORM's CARD OF 'laws.FnExactCodText'. -/
def fnExactCodTextUptoCard : Claim7 := { stood := { row := fnExactCodTextUptoRow, standIns := [], harness := (true, "b52127b27052be8e1379b4928e638b8b16f290584df6f950925e06d10987c8aa"), looks := true }, kinds := [], alts := [], laidByText := true, laidKinds := [.data, .data, .data, .wider, .data, .data], laidTests := true, laidLooks := .later }
def FnExactCodTextUptoCardSaid : Prop := Claim7.holds Tryd.pinned (.plain (OpenSpec.upto fnExactCodTextSpec)) fnExactCodTextUptoCard

/-- THE SECOND FORM's CARD OF 'laws.FnExactCodParse'. -/
def fnExactCodParseUptoCard : Claim7 := { stood := { row := fnExactCodParseUptoRow, standIns := [], harness := (true, "b52127b27052be8e1379b4928e638b8b16f290584df6f950925e06d10987c8aa"), looks := true }, kinds := [], alts := [], laidByText := true, laidKinds := [.data, .data, .data, .data, .sentinel, .sentinel, .wider, .data, .data, .sentinel, .sentinel, .sentinel, .sentinel, .sentinel, .sentinel, .sentinel, .pinned], laidTests := true, laidLooks := .later }
def FnExactCodParseUptoCardSaid : Prop := Claim7.holds Tryd.pinned (.plain (OpenSpec.upto fnExactCodParseSpec)) fnExactCodParseUptoCard

/-- THE SECOND FORM's CARD OF 'laws.FnExactTxtWrite'. -/
def fnExactTxtWriteUptoCard : Claim7 := { stood := { row := fnExactTxtWriteUptoRow, standIns := [], harness := (true, "b52127b27052be8e1379b4928e638b8b16f290584df6f950925e06d10987c8aa"), looks := true }, kinds := [], alts := [], laidByText := true, laidKinds := [.data, .data, .data, .wider, .data, .data], laidTests := true, laidLooks := .later }
def FnExactTxtWriteUptoCardSaid : Prop := Claim7.holds Tryd.pinned (.plain (OpenSpec.upto fnExactTxtWriteSpec)) fnExactTxtWriteUptoCard
end Rows
end Go.Proofs.YtecdmafhjfnloaaDoor
