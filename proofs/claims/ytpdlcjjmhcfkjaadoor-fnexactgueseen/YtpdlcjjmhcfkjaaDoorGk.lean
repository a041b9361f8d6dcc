/- An instruction's box stays. -/
import Derived.Test.YtpdlcjjmhcfkjaaDoorCodSd
import Derived.Test.YtpdlcjjmhcfkjaaDoorCod
namespace Go.Proofs.YtpdlcjjmhcfkjaaDoor
open Go.RowKit
theorem Box.frk {w w' : World} {g : Nat} {k d a b f n : Int} (h : Box w g k d a b f n) (hb : Fr w w') : Box w' g k d a b f n := h.below hb h.lt

end Go.Proofs.YtpdlcjjmhcfkjaaDoor
