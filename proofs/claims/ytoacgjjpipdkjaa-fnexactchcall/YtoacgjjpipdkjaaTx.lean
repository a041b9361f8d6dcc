/- Chapter 3: the table of names; numbers' texts; the name of an instruction. Chapter 3: the model's texts: a number, the names, an instruction. Small laws for regions told slot by slot; two words, two texts. -/
import Derived.Deep.MidRow
import Derived.Laws.BytesArg
import Derived.Test.YtoacgjjpipdkjaaTxt
import Derived.Test.YtoacgjjpipdkjaaCod
import Derived.Test.YtoacgjjpipdkjaaCodSd
import Derived.Test.YtoacgjjpipdkjaaDrawInst
import Derived.Test.YtoacgjjpipdkjaaRegion
namespace Go.Proofs.Ytoacgjjpipdkjaa
open Go.RowKit
set_option linter.unusedVariables false

abbrev bs (l : List UInt8) : ByteArray := ⟨l.toArray⟩
def nmK : List (List UInt8) := [[], [97, 100, 100, 105], [108, 117, 105], [108, 111, 97, 100], [115, 97, 118, 101], [101, 113], [108, 116], [106, 117, 109, 112], [99, 97, 108, 108], [109, 117, 108], [115, 119, 97, 112], [119, 97, 105, 116], [115, 121, 115], [98, 97, 99, 107], [103, 101, 116], [115, 101, 116]]
/-- The names, as the model lays them: by kinds in block g, by operations in block g + 1. -/
structure NamesAt (g : Nat) (u : World) : Prop where
  ks : ∀ i, i < 16 → u.cell? ⟨g, i, none⟩ = some (.string (bs (nmK.getD i [])))
  al : ∀ i, i < 8 → u.cell? ⟨g + 1, i, none⟩ = some (.string (bs (nmL.getD i [])))
theorem NamesAt.fr {g : Nat} {u u' : World} (h : NamesAt g u) (f : Fr u u') : NamesAt g u' :=
  ⟨fun i hi => by rw [f.cell (show g < u.heap.size from lt_of_cell (h.ks 0 (by decide)))]; exact h.ks i hi, fun i hi => by rw [f.cell (show g + 1 < u.heap.size from lt_of_cell (h.al 0 (by decide)))]; exact h.al i hi⟩
end Go.Proofs.Ytoacgjjpipdkjaa
