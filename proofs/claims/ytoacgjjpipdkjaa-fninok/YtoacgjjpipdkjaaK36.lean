/- The program's cache, back into a state. The program's ChcRead, ChcWrite, ChcLay, ChcLook. The program's ChcAll. -/
import Derived.Deep.RegionLaw
import Derived.Test.YtoacgjjpipdkjaaK34
import Derived.Test.YtoacgjjpipdkjaaK23
namespace Go.Proofs.Ytoacgjjpipdkjaa
open Go.RowKit
set_option linter.unusedVariables false
set_option linter.unusedSimpArgs false
def z256 : Array Value := ((List.replicate 256 (0 : Int)).map (Value.int .i64)).toArray
theorem z256_ro (w : World) : Ro (w.alloc (.cells z256 3)) w.heap.size (List.replicate 256 (0 : Int)) := by
  have := ro_new w (List.replicate 256 (0 : Int)) #[] 3
  rwa [Array.append_empty] at this
end Go.Proofs.Ytoacgjjpipdkjaa
