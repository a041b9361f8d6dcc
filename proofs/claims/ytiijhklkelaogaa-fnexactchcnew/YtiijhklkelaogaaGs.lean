/- What a guesser has seen, of the model. -/
import Derived.Test.YtiijhklkelaogaaGu5
import Derived.Test.YtiijhklkelaogaaCodSd
import Derived.Test.YtiijhklkelaogaaCod
namespace Go.Proofs.Ytiijhklkelaogaa
open Go.RowKit
set_option linter.unusedVariables false
set_option linter.unusedSimpArgs false
theorem Rc.src {B : Nat} {u : World} {xs : List Int} {ao : Option Addr} {c : Nat} (h : Rc B u xs ao c) : Src u xs.length (ivl xs) ao := h.vc.src
end Go.Proofs.Ytiijhklkelaogaa
