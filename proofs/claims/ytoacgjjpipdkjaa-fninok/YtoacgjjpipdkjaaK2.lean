/- Of caches: which line, which block; what is ok, of the program and of the model. What is ok, of caches: the program's. What is ok, of caches: the program's ChcOk, the model's ChcOk. What is ok, of caches: the model's ChcOk. -/
import Derived.StillTailTactics
import Derived.IntWalk
import Derived.Test.YtoacgjjpipdkjaaK0
namespace Go.Proofs.Ytoacgjjpipdkjaa
open Go.RowKit
set_option linter.unusedVariables false
set_option linter.unusedSimpArgs false
abbrev caV (aM aL : Option Addr) (M : List Int) (X : List La) (cM cL : Nat) : Value := .agg #[.slice aM M.length cM, .slice aL X.length cL]
end Go.Proofs.Ytoacgjjpipdkjaa
