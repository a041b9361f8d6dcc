/-
  DERIVED. GIVEN WITH THE SEED: THE CARDS: each row of YtbjapncfgancoaaDoorRows.lean that lists a variable, with what it lists TIED to the program's text (the seventh form; the later family's looks); each row that meets fmt, with fmt's text TOLD by the authors' own Lean function (tested against real Go, not proved from fmt's source: count such statements apart). THE CARD IS WHAT COUNTS. Prove the row's statement (the work); the ties are given (YtbjapncfgancoaaDoorTie.lean); close each card by the builder's one call (the guide's Derived/Test/ToyasCard.lean, 'card_holds'). Laid BY PROGRAM, IN A SANDBOX (cutbox-door.mjs). By AI agents, Wed Nov 11 2026. No macro, syntax, notation, axiom, sorry.
-/
import Derived.Test.YtbjapncfgancoaaDoorRows
import GoSem.ClaimSeven
namespace Go.Proofs.YtbjapncfgancoaaDoor
namespace Rows

/-- THE TIED CARD OF 'laws.FnExactPlnStep'. -/
def fnExactPlnStepCard : Claim7 := { stood := { row := fnExactPlnStepRow, standIns := [], harness := (true, "9dc2e115a97561e3249269897313e148c9c7960c406c87ea32a23191d0e08754"), looks := true }, kinds := [], alts := [], laidByText := true, laidKinds := [.wider, .data], laidTests := true, laidLooks := .later }
def FnExactPlnStepCardSaid : Prop := Claim7.holds Tryd.pinned (.plain (OpenSpec.ofChange fnExactPlnStepSpec)) fnExactPlnStepCard

/-- THE TIED CARD OF 'laws.FnExactPlnRun'. -/
def fnExactPlnRunCard : Claim7 := { stood := { row := fnExactPlnRunRow, standIns := [], harness := (true, "9dc2e115a97561e3249269897313e148c9c7960c406c87ea32a23191d0e08754"), looks := true }, kinds := [], alts := [], laidByText := true, laidKinds := [.wider, .data], laidTests := true, laidLooks := .later }
def FnExactPlnRunCardSaid : Prop := Claim7.holds Tryd.pinned (.plain (OpenSpec.ofChange fnExactPlnRunSpec)) fnExactPlnRunCard

/-- THE TIED CARD OF 'laws.FnDoAlu'. -/
def fnDoAluCard : Claim7 := { stood := { row := fnDoAluRow, standIns := [], harness := (true, "9dc2e115a97561e3249269897313e148c9c7960c406c87ea32a23191d0e08754"), looks := true }, kinds := [], alts := [], laidByText := true, laidKinds := [.wider, .data], laidTests := true, laidLooks := .later }
def FnDoAluCardSaid : Prop := Claim7.holds Tryd.pinned (.plain (OpenSpec.ofChange fnDoAluSpec)) fnDoAluCard

/-- THE TIED CARD OF 'laws.FnDoImm'. -/
def fnDoImmCard : Claim7 := { stood := { row := fnDoImmRow, standIns := [], harness := (true, "9dc2e115a97561e3249269897313e148c9c7960c406c87ea32a23191d0e08754"), looks := true }, kinds := [], alts := [], laidByText := true, laidKinds := [.wider, .data], laidTests := true, laidLooks := .later }
def FnDoImmCardSaid : Prop := Claim7.holds Tryd.pinned (.plain (OpenSpec.ofChange fnDoImmSpec)) fnDoImmCard

/-- THE TIED CARD OF 'laws.FnDoMul'. -/
def fnDoMulCard : Claim7 := { stood := { row := fnDoMulRow, standIns := [], harness := (true, "9dc2e115a97561e3249269897313e148c9c7960c406c87ea32a23191d0e08754"), looks := true }, kinds := [], alts := [], laidByText := true, laidKinds := [.wider, .data], laidTests := true, laidLooks := .later }
def FnDoMulCardSaid : Prop := Claim7.holds Tryd.pinned (.plain (OpenSpec.ofChange fnDoMulSpec)) fnDoMulCard

/-- THE TIED CARD OF 'laws.FnDoEq'. -/
def fnDoEqCard : Claim7 := { stood := { row := fnDoEqRow, standIns := [], harness := (true, "9dc2e115a97561e3249269897313e148c9c7960c406c87ea32a23191d0e08754"), looks := true }, kinds := [], alts := [], laidByText := true, laidKinds := [.wider, .data], laidTests := true, laidLooks := .later }
def FnDoEqCardSaid : Prop := Claim7.holds Tryd.pinned (.plain (OpenSpec.ofChange fnDoEqSpec)) fnDoEqCard

/-- THE TIED CARD OF 'laws.FnDoLt'. -/
def fnDoLtCard : Claim7 := { stood := { row := fnDoLtRow, standIns := [], harness := (true, "9dc2e115a97561e3249269897313e148c9c7960c406c87ea32a23191d0e08754"), looks := true }, kinds := [], alts := [], laidByText := true, laidKinds := [.wider, .data], laidTests := true, laidLooks := .later }
def FnDoLtCardSaid : Prop := Claim7.holds Tryd.pinned (.plain (OpenSpec.ofChange fnDoLtSpec)) fnDoLtCard

/-- THE TIED CARD OF 'laws.FnDoJump'. -/
def fnDoJumpCard : Claim7 := { stood := { row := fnDoJumpRow, standIns := [], harness := (true, "9dc2e115a97561e3249269897313e148c9c7960c406c87ea32a23191d0e08754"), looks := true }, kinds := [], alts := [], laidByText := true, laidKinds := [.wider, .data], laidTests := true, laidLooks := .later }
def FnDoJumpCardSaid : Prop := Claim7.holds Tryd.pinned (.plain (OpenSpec.ofChange fnDoJumpSpec)) fnDoJumpCard

/-- THE TIED CARD OF 'laws.FnDoMem'. -/
def fnDoMemCard : Claim7 := { stood := { row := fnDoMemRow, standIns := [], harness := (true, "9dc2e115a97561e3249269897313e148c9c7960c406c87ea32a23191d0e08754"), looks := true }, kinds := [], alts := [], laidByText := true, laidKinds := [.wider, .data], laidTests := true, laidLooks := .later }
def FnDoMemCardSaid : Prop := Claim7.holds Tryd.pinned (.plain (OpenSpec.ofChange fnDoMemSpec)) fnDoMemCard

/-- THE TIED CARD OF 'laws.FnDoSwap'. -/
def fnDoSwapCard : Claim7 := { stood := { row := fnDoSwapRow, standIns := [], harness := (true, "9dc2e115a97561e3249269897313e148c9c7960c406c87ea32a23191d0e08754"), looks := true }, kinds := [], alts := [], laidByText := true, laidKinds := [.wider, .data], laidTests := true, laidLooks := .later }
def FnDoSwapCardSaid : Prop := Claim7.holds Tryd.pinned (.plain (OpenSpec.ofChange fnDoSwapSpec)) fnDoSwapCard

/-- THE TIED CARD OF 'laws.FnDoSys'. -/
def fnDoSysCard : Claim7 := { stood := { row := fnDoSysRow, standIns := [], harness := (true, "9dc2e115a97561e3249269897313e148c9c7960c406c87ea32a23191d0e08754"), looks := true }, kinds := [], alts := [], laidByText := true, laidKinds := [.wider, .data], laidTests := true, laidLooks := .later }
def FnDoSysCardSaid : Prop := Claim7.holds Tryd.pinned (.plain (OpenSpec.ofChange fnDoSysSpec)) fnDoSysCard

/-- THE TIED CARD OF 'laws.FnDoOwn'. -/
def fnDoOwnCard : Claim7 := { stood := { row := fnDoOwnRow, standIns := [], harness := (true, "9dc2e115a97561e3249269897313e148c9c7960c406c87ea32a23191d0e08754"), looks := true }, kinds := [], alts := [], laidByText := true, laidKinds := [.wider, .data], laidTests := true, laidLooks := .later }
def FnDoOwnCardSaid : Prop := Claim7.holds Tryd.pinned (.plain (OpenSpec.ofChange fnDoOwnSpec)) fnDoOwnCard

/-- THE TIED CARD OF 'laws.FnDoWait'. -/
def fnDoWaitCard : Claim7 := { stood := { row := fnDoWaitRow, standIns := [], harness := (true, "9dc2e115a97561e3249269897313e148c9c7960c406c87ea32a23191d0e08754"), looks := true }, kinds := [], alts := [], laidByText := true, laidKinds := [.wider, .data], laidTests := true, laidLooks := .later }
def FnDoWaitCardSaid : Prop := Claim7.holds Tryd.pinned (.plain (OpenSpec.ofChange fnDoWaitSpec)) fnDoWaitCard

/-- THE TIED CARD OF 'laws.FnDoZero'. -/
def fnDoZeroCard : Claim7 := { stood := { row := fnDoZeroRow, standIns := [], harness := (true, "9dc2e115a97561e3249269897313e148c9c7960c406c87ea32a23191d0e08754"), looks := true }, kinds := [], alts := [], laidByText := true, laidKinds := [.wider, .data], laidTests := true, laidLooks := .later }
def FnDoZeroCardSaid : Prop := Claim7.holds Tryd.pinned (.plain (OpenSpec.ofChange fnDoZeroSpec)) fnDoZeroCard

/-- THE TIED CARD OF 'laws.FnDoFar'. -/
def fnDoFarCard : Claim7 := { stood := { row := fnDoFarRow, standIns := [], harness := (true, "9dc2e115a97561e3249269897313e148c9c7960c406c87ea32a23191d0e08754"), looks := true }, kinds := [], alts := [], laidByText := true, laidKinds := [.wider, .data], laidTests := true, laidLooks := .later }
def FnDoFarCardSaid : Prop := Claim7.holds Tryd.pinned (.plain (OpenSpec.ofChange fnDoFarSpec)) fnDoFarCard

/-- THE TIED CARD OF 'laws.FnDoPage'. -/
def fnDoPageCard : Claim7 := { stood := { row := fnDoPageRow, standIns := [], harness := (true, "9dc2e115a97561e3249269897313e148c9c7960c406c87ea32a23191d0e08754"), looks := true }, kinds := [], alts := [], laidByText := true, laidKinds := [.wider, .data], laidTests := true, laidLooks := .later }
def FnDoPageCardSaid : Prop := Claim7.holds Tryd.pinned (.plain (OpenSpec.ofChange fnDoPageSpec)) fnDoPageCard

/-- THE SECOND FORM's CARD OF 'laws.FnExactPlnStep'. -/
def fnExactPlnStepUptoCard : Claim7 := { stood := { row := fnExactPlnStepUptoRow, standIns := [], harness := (true, "9dc2e115a97561e3249269897313e148c9c7960c406c87ea32a23191d0e08754"), looks := true }, kinds := [], alts := [], laidByText := true, laidKinds := [.wider, .data], laidTests := true, laidLooks := .later }
def FnExactPlnStepUptoCardSaid : Prop := Claim7.holds Tryd.pinned (.plain (OpenSpec.upto fnExactPlnStepSpec)) fnExactPlnStepUptoCard

/-- THE SECOND FORM's CARD OF 'laws.FnExactPlnRun'. -/
def fnExactPlnRunUptoCard : Claim7 := { stood := { row := fnExactPlnRunUptoRow, standIns := [], harness := (true, "9dc2e115a97561e3249269897313e148c9c7960c406c87ea32a23191d0e08754"), looks := true }, kinds := [], alts := [], laidByText := true, laidKinds := [.wider, .data], laidTests := true, laidLooks := .later }
def FnExactPlnRunUptoCardSaid : Prop := Claim7.holds Tryd.pinned (.plain (OpenSpec.upto fnExactPlnRunSpec)) fnExactPlnRunUptoCard

/-- THE SECOND FORM's CARD OF 'laws.FnDoAlu'. -/
def fnDoAluUptoCard : Claim7 := { stood := { row := fnDoAluUptoRow, standIns := [], harness := (true, "9dc2e115a97561e3249269897313e148c9c7960c406c87ea32a23191d0e08754"), looks := true }, kinds := [], alts := [], laidByText := true, laidKinds := [.wider, .data], laidTests := true, laidLooks := .later }
def FnDoAluUptoCardSaid : Prop := Claim7.holds Tryd.pinned (.plain (OpenSpec.upto fnDoAluSpec)) fnDoAluUptoCard

/-- THE SECOND FORM's CARD OF 'laws.FnDoImm'. -/
def fnDoImmUptoCard : Claim7 := { stood := { row := fnDoImmUptoRow, standIns := [], harness := (true, "9dc2e115a97561e3249269897313e148c9c7960c406c87ea32a23191d0e08754"), looks := true }, kinds := [], alts := [], laidByText := true, laidKinds := [.wider, .data], laidTests := true, laidLooks := .later }
def FnDoImmUptoCardSaid : Prop := Claim7.holds Tryd.pinned (.plain (OpenSpec.upto fnDoImmSpec)) fnDoImmUptoCard

/-- THE SECOND FORM's CARD OF 'laws.FnDoMul'. -/
def fnDoMulUptoCard : Claim7 := { stood := { row := fnDoMulUptoRow, standIns := [], harness := (true, "9dc2e115a97561e3249269897313e148c9c7960c406c87ea32a23191d0e08754"), looks := true }, kinds := [], alts := [], laidByText := true, laidKinds := [.wider, .data], laidTests := true, laidLooks := .later }
def FnDoMulUptoCardSaid : Prop := Claim7.holds Tryd.pinned (.plain (OpenSpec.upto fnDoMulSpec)) fnDoMulUptoCard

/-- THE SECOND FORM's CARD OF 'laws.FnDoEq'. -/
def fnDoEqUptoCard : Claim7 := { stood := { row := fnDoEqUptoRow, standIns := [], harness := (true, "9dc2e115a97561e3249269897313e148c9c7960c406c87ea32a23191d0e08754"), looks := true }, kinds := [], alts := [], laidByText := true, laidKinds := [.wider, .data], laidTests := true, laidLooks := .later }
def FnDoEqUptoCardSaid : Prop := Claim7.holds Tryd.pinned (.plain (OpenSpec.upto fnDoEqSpec)) fnDoEqUptoCard

/-- THE SECOND FORM's CARD OF 'laws.FnDoLt'. -/
def fnDoLtUptoCard : Claim7 := { stood := { row := fnDoLtUptoRow, standIns := [], harness := (true, "9dc2e115a97561e3249269897313e148c9c7960c406c87ea32a23191d0e08754"), looks := true }, kinds := [], alts := [], laidByText := true, laidKinds := [.wider, .data], laidTests := true, laidLooks := .later }
def FnDoLtUptoCardSaid : Prop := Claim7.holds Tryd.pinned (.plain (OpenSpec.upto fnDoLtSpec)) fnDoLtUptoCard

/-- THE SECOND FORM's CARD OF 'laws.FnDoJump'. -/
def fnDoJumpUptoCard : Claim7 := { stood := { row := fnDoJumpUptoRow, standIns := [], harness := (true, "9dc2e115a97561e3249269897313e148c9c7960c406c87ea32a23191d0e08754"), looks := true }, kinds := [], alts := [], laidByText := true, laidKinds := [.wider, .data], laidTests := true, laidLooks := .later }
def FnDoJumpUptoCardSaid : Prop := Claim7.holds Tryd.pinned (.plain (OpenSpec.upto fnDoJumpSpec)) fnDoJumpUptoCard

/-- THE SECOND FORM's CARD OF 'laws.FnDoMem'. -/
def fnDoMemUptoCard : Claim7 := { stood := { row := fnDoMemUptoRow, standIns := [], harness := (true, "9dc2e115a97561e3249269897313e148c9c7960c406c87ea32a23191d0e08754"), looks := true }, kinds := [], alts := [], laidByText := true, laidKinds := [.wider, .data], laidTests := true, laidLooks := .later }
def FnDoMemUptoCardSaid : Prop := Claim7.holds Tryd.pinned (.plain (OpenSpec.upto fnDoMemSpec)) fnDoMemUptoCard

/-- THE SECOND FORM's CARD OF 'laws.FnDoSwap'. -/
def fnDoSwapUptoCard : Claim7 := { stood := { row := fnDoSwapUptoRow, standIns := [], harness := (true, "9dc2e115a97561e3249269897313e148c9c7960c406c87ea32a23191d0e08754"), looks := true }, kinds := [], alts := [], laidByText := true, laidKinds := [.wider, .data], laidTests := true, laidLooks := .later }
def FnDoSwapUptoCardSaid : Prop := Claim7.holds Tryd.pinned (.plain (OpenSpec.upto fnDoSwapSpec)) fnDoSwapUptoCard

/-- THE SECOND FORM's CARD OF 'laws.FnDoSys'. -/
def fnDoSysUptoCard : Claim7 := { stood := { row := fnDoSysUptoRow, standIns := [], harness := (true, "9dc2e115a97561e3249269897313e148c9c7960c406c87ea32a23191d0e08754"), looks := true }, kinds := [], alts := [], laidByText := true, laidKinds := [.wider, .data], laidTests := true, laidLooks := .later }
def FnDoSysUptoCardSaid : Prop := Claim7.holds Tryd.pinned (.plain (OpenSpec.upto fnDoSysSpec)) fnDoSysUptoCard

/-- THE SECOND FORM's CARD OF 'laws.FnDoOwn'. -/
def fnDoOwnUptoCard : Claim7 := { stood := { row := fnDoOwnUptoRow, standIns := [], harness := (true, "9dc2e115a97561e3249269897313e148c9c7960c406c87ea32a23191d0e08754"), looks := true }, kinds := [], alts := [], laidByText := true, laidKinds := [.wider, .data], laidTests := true, laidLooks := .later }
def FnDoOwnUptoCardSaid : Prop := Claim7.holds Tryd.pinned (.plain (OpenSpec.upto fnDoOwnSpec)) fnDoOwnUptoCard

/-- THE SECOND FORM's CARD OF 'laws.FnDoWait'. -/
def fnDoWaitUptoCard : Claim7 := { stood := { row := fnDoWaitUptoRow, standIns := [], harness := (true, "9dc2e115a97561e3249269897313e148c9c7960c406c87ea32a23191d0e08754"), looks := true }, kinds := [], alts := [], laidByText := true, laidKinds := [.wider, .data], laidTests := true, laidLooks := .later }
def FnDoWaitUptoCardSaid : Prop := Claim7.holds Tryd.pinned (.plain (OpenSpec.upto fnDoWaitSpec)) fnDoWaitUptoCard

/-- THE SECOND FORM's CARD OF 'laws.FnDoZero'. -/
def fnDoZeroUptoCard : Claim7 := { stood := { row := fnDoZeroUptoRow, standIns := [], harness := (true, "9dc2e115a97561e3249269897313e148c9c7960c406c87ea32a23191d0e08754"), looks := true }, kinds := [], alts := [], laidByText := true, laidKinds := [.wider, .data], laidTests := true, laidLooks := .later }
def FnDoZeroUptoCardSaid : Prop := Claim7.holds Tryd.pinned (.plain (OpenSpec.upto fnDoZeroSpec)) fnDoZeroUptoCard

/-- THE SECOND FORM's CARD OF 'laws.FnDoFar'. -/
def fnDoFarUptoCard : Claim7 := { stood := { row := fnDoFarUptoRow, standIns := [], harness := (true, "9dc2e115a97561e3249269897313e148c9c7960c406c87ea32a23191d0e08754"), looks := true }, kinds := [], alts := [], laidByText := true, laidKinds := [.wider, .data], laidTests := true, laidLooks := .later }
def FnDoFarUptoCardSaid : Prop := Claim7.holds Tryd.pinned (.plain (OpenSpec.upto fnDoFarSpec)) fnDoFarUptoCard

/-- THE SECOND FORM's CARD OF 'laws.FnDoPage'. -/
def fnDoPageUptoCard : Claim7 := { stood := { row := fnDoPageUptoRow, standIns := [], harness := (true, "9dc2e115a97561e3249269897313e148c9c7960c406c87ea32a23191d0e08754"), looks := true }, kinds := [], alts := [], laidByText := true, laidKinds := [.wider, .data], laidTests := true, laidLooks := .later }
def FnDoPageUptoCardSaid : Prop := Claim7.holds Tryd.pinned (.plain (OpenSpec.upto fnDoPageSpec)) fnDoPageUptoCard
end Rows
end Go.Proofs.YtbjapncfgancoaaDoor
