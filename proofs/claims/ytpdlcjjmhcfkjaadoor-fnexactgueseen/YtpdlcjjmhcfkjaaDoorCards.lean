/-
  DERIVED. GIVEN WITH THE SEED: THE CARDS: each row of YtpdlcjjmhcfkjaaDoorRows.lean that lists a variable, with what it lists TIED to the program's text (the seventh form; the later family's looks); each row that meets fmt, with fmt's text TOLD by the authors' own Lean function (tested against real Go, not proved from fmt's source: count such statements apart). THE CARD IS WHAT COUNTS. Prove the row's statement (the work); the ties are given (YtpdlcjjmhcfkjaaDoorTie.lean); close each card by the builder's one call (the guide's Derived/Test/ToyasCard.lean, 'card_holds'). Laid BY PROGRAM, IN A SANDBOX (cutbox-door.mjs). By AI agents, Wed Nov 11 2026. No macro, syntax, notation, axiom, sorry.
-/
import Derived.Test.YtpdlcjjmhcfkjaaDoorRows
import GoSem.ClaimSeven
namespace Go.Proofs.YtpdlcjjmhcfkjaaDoor
namespace Rows

/-- THE TIED CARD OF 'laws.FnExactGueNext'. -/
def fnExactGueNextCard : Claim7 := { stood := { row := fnExactGueNextRow, standIns := [], harness := (true, "28d99e4bb5833289285c2c429367b0fb1fb952ebfb3705a8c1c83c2f0ebee928"), looks := false }, kinds := [], alts := [], laidByText := true, laidKinds := [.wider, .data], laidTests := true, laidLooks := .later }
def FnExactGueNextCardSaid : Prop := Claim7.holds Tryd.pinned (.plain (OpenSpec.ofChange fnExactGueNextSpec)) fnExactGueNextCard

/-- THE TIED CARD OF 'laws.FnExactGueSeen'. -/
def fnExactGueSeenCard : Claim7 := { stood := { row := fnExactGueSeenRow, standIns := [], harness := (true, "28d99e4bb5833289285c2c429367b0fb1fb952ebfb3705a8c1c83c2f0ebee928"), looks := false }, kinds := [], alts := [], laidByText := true, laidKinds := [.wider, .data], laidTests := true, laidLooks := .later }
def FnExactGueSeenCardSaid : Prop := Claim7.holds Tryd.pinned (.plain (OpenSpec.ofChange fnExactGueSeenSpec)) fnExactGueSeenCard

/-- THE TIED CARD OF 'laws.FnGueNext'. -/
def fnGueNextCard : Claim7 := { stood := { row := fnGueNextRow, standIns := [], harness := (true, "28d99e4bb5833289285c2c429367b0fb1fb952ebfb3705a8c1c83c2f0ebee928"), looks := false }, kinds := [], alts := [], laidByText := true, laidKinds := [.wider, .data], laidTests := true, laidLooks := .later }
def FnGueNextCardSaid : Prop := Claim7.holds Tryd.pinned (.plain (OpenSpec.ofChange fnGueNextSpec)) fnGueNextCard

/-- THE TIED CARD OF 'laws.FnGueSeen'. -/
def fnGueSeenCard : Claim7 := { stood := { row := fnGueSeenRow, standIns := [], harness := (true, "28d99e4bb5833289285c2c429367b0fb1fb952ebfb3705a8c1c83c2f0ebee928"), looks := false }, kinds := [], alts := [], laidByText := true, laidKinds := [.wider, .data], laidTests := true, laidLooks := .later }
def FnGueSeenCardSaid : Prop := Claim7.holds Tryd.pinned (.plain (OpenSpec.ofChange fnGueSeenSpec)) fnGueSeenCard

/-- THE TIED CARD OF 'laws.FnGueLearn'. -/
def fnGueLearnCard : Claim7 := { stood := { row := fnGueLearnRow, standIns := [], harness := (true, "28d99e4bb5833289285c2c429367b0fb1fb952ebfb3705a8c1c83c2f0ebee928"), looks := false }, kinds := [], alts := [], laidByText := true, laidKinds := [.wider, .data], laidTests := true, laidLooks := .later }
def FnGueLearnCardSaid : Prop := Claim7.holds Tryd.pinned (.plain (OpenSpec.ofChange fnGueLearnSpec)) fnGueLearnCard

/-- THE SECOND FORM's CARD OF 'laws.FnExactGueNext'. -/
def fnExactGueNextUptoCard : Claim7 := { stood := { row := fnExactGueNextUptoRow, standIns := [], harness := (true, "28d99e4bb5833289285c2c429367b0fb1fb952ebfb3705a8c1c83c2f0ebee928"), looks := false }, kinds := [], alts := [], laidByText := true, laidKinds := [.wider, .data], laidTests := true, laidLooks := .later }
def FnExactGueNextUptoCardSaid : Prop := Claim7.holds Tryd.pinned (.plain (OpenSpec.upto fnExactGueNextSpec)) fnExactGueNextUptoCard

/-- THE SECOND FORM's CARD OF 'laws.FnExactGueSeen'. -/
def fnExactGueSeenUptoCard : Claim7 := { stood := { row := fnExactGueSeenUptoRow, standIns := [], harness := (true, "28d99e4bb5833289285c2c429367b0fb1fb952ebfb3705a8c1c83c2f0ebee928"), looks := false }, kinds := [], alts := [], laidByText := true, laidKinds := [.wider, .data], laidTests := true, laidLooks := .later }
def FnExactGueSeenUptoCardSaid : Prop := Claim7.holds Tryd.pinned (.plain (OpenSpec.upto fnExactGueSeenSpec)) fnExactGueSeenUptoCard

/-- THE SECOND FORM's CARD OF 'laws.FnGueNext'. -/
def fnGueNextUptoCard : Claim7 := { stood := { row := fnGueNextUptoRow, standIns := [], harness := (true, "28d99e4bb5833289285c2c429367b0fb1fb952ebfb3705a8c1c83c2f0ebee928"), looks := false }, kinds := [], alts := [], laidByText := true, laidKinds := [.wider, .data], laidTests := true, laidLooks := .later }
def FnGueNextUptoCardSaid : Prop := Claim7.holds Tryd.pinned (.plain (OpenSpec.upto fnGueNextSpec)) fnGueNextUptoCard

/-- THE SECOND FORM's CARD OF 'laws.FnGueSeen'. -/
def fnGueSeenUptoCard : Claim7 := { stood := { row := fnGueSeenUptoRow, standIns := [], harness := (true, "28d99e4bb5833289285c2c429367b0fb1fb952ebfb3705a8c1c83c2f0ebee928"), looks := false }, kinds := [], alts := [], laidByText := true, laidKinds := [.wider, .data], laidTests := true, laidLooks := .later }
def FnGueSeenUptoCardSaid : Prop := Claim7.holds Tryd.pinned (.plain (OpenSpec.upto fnGueSeenSpec)) fnGueSeenUptoCard

/-- THE SECOND FORM's CARD OF 'laws.FnGueLearn'. -/
def fnGueLearnUptoCard : Claim7 := { stood := { row := fnGueLearnUptoRow, standIns := [], harness := (true, "28d99e4bb5833289285c2c429367b0fb1fb952ebfb3705a8c1c83c2f0ebee928"), looks := false }, kinds := [], alts := [], laidByText := true, laidKinds := [.wider, .data], laidTests := true, laidLooks := .later }
def FnGueLearnUptoCardSaid : Prop := Claim7.holds Tryd.pinned (.plain (OpenSpec.upto fnGueLearnSpec)) fnGueLearnUptoCard
end Rows
end Go.Proofs.YtpdlcjjmhcfkjaaDoor
