/- A word that is laid: of the program and of the model. -/
import Derived.Test.YtddmkicpmegnoaaPl6
import Derived.Test.YtddmkicpmegnoaaPl5
namespace Go.Proofs.Ytddmkicpmegnoaa
open Go.RowKit
set_option linter.unusedVariables false
set_option linter.unusedSimpArgs false
end Go.Proofs.Ytddmkicpmegnoaa
