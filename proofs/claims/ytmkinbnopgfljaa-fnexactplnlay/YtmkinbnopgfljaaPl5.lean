/- A machine at the beginning of words. -/
import Derived.StillTailTactics
import Derived.Test.YtmkinbnopgfljaaPl4
namespace Go.Proofs.Ytmkinbnopgfljaa
open Go.RowKit
set_option linter.unusedVariables false
set_option linter.unusedSimpArgs false
abbrev noSt : Value := .agg #[.int .i64 0, .slice none 0 0, .slice none 0 0, .slice none 0 0]
end Go.Proofs.Ytmkinbnopgfljaa
