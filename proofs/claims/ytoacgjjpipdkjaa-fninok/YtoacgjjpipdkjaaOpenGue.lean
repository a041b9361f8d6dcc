/- A guesser that came in: a row of slots, and a row of numbers. -/
import Derived.Deep.SlicePairs
import Derived.Test.YtoacgjjpipdkjaaGh3
import Derived.ProofKit
import Derived.OpenShut
import Derived.ChangeOld
import Derived.Test.YtoacgjjpipdkjaaPh
namespace Go.Proofs.Ytoacgjjpipdkjaa
open Go.ChangeShapes Go.WideShapes Go.ChangeAt Go.RowKit
set_option linter.unusedVariables false
instance : Inhabited Sl := ⟨sl0⟩
end Go.Proofs.Ytoacgjjpipdkjaa
