/- What a guesser has seen, of the model. -/
import Derived.Test.YtddllgjieccikaaGu5
import Derived.Test.YtddllgjieccikaaCodSd
import Derived.Test.YtddllgjieccikaaCod
namespace Go.Proofs.Ytddllgjieccikaa
open Go.RowKit
set_option linter.unusedVariables false
set_option linter.unusedSimpArgs false
theorem Rc.src {B : Nat} {u : World} {xs : List Int} {ao : Option Addr} {c : Nat} (h : Rc B u xs ao c) : Src u xs.length (ivl xs) ao := h.vc.src
end Go.Proofs.Ytddllgjieccikaa
