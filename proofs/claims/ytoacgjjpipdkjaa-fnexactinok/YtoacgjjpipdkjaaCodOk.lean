/- The contract of spec.CodOk. The contracts of CodWord, of the program and of the model. -/
import Derived.Deep.DeepCutAuto
import Derived.Test.YtoacgjjpipdkjaaCod
namespace Go.Proofs.Ytoacgjjpipdkjaa
open Go.RowKit
set_option linter.unusedVariables false
theorem Below.drewN {B : Nat} {a w : World} (h : Below B a w) (m : Nat) : Below B a (w.drewN m) := ⟨h.os, h.tape, h.output, h.size, h.block⟩
end Go.Proofs.Ytoacgjjpipdkjaa
