/- The draws of chapter 7 that answer a cache. Caches that are the same. -/
import Derived.Test.YtoacgjjpipdkjaaK41
import Derived.Test.YtoacgjjpipdkjaaK20
import Derived.Test.YtoacgjjpipdkjaaGh3
namespace Go.Proofs.Ytoacgjjpipdkjaa
open Go.RowKit
set_option linter.unusedVariables false
set_option linter.unusedSimpArgs false
theorem grown_below7 {w0 w1 w2 : World} {b : Nat} (e : w0.heap.size = b) (b1 : Below w0.heap.size w0 w1) (g2 : w1.grownBy w2 (some b)) : Fr w0 w2 := by
  subst e
  exact Below.trans b1 (grown_below g2 (Nat.le_refl _) b1.size)
end Go.Proofs.Ytoacgjjpipdkjaa
