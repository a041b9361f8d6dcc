/- Answers that are machines: in new rows, or none. -/
import Derived.Test.YtbjapncfgancoaaDoorPh
namespace Go.Proofs.YtbjapncfgancoaaDoor
open Go.RowKit
set_option linter.unusedVariables false
set_option linter.unusedSimpArgs false
abbrev noS : St := ⟨0, [], [], []⟩
end Go.Proofs.YtbjapncfgancoaaDoor
