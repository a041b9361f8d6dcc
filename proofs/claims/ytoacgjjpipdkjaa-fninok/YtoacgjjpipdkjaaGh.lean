/- What the laws of chapter 5 call: rows of slots copied, compared, marked, held. What the laws of chapter 5 call: slots marked and held. -/
import Derived.Test.YtoacgjjpipdkjaaGu1
import Derived.Test.YtoacgjjpipdkjaaTx
namespace Go.Proofs.Ytoacgjjpipdkjaa
open Go.RowKit
set_option linter.unusedVariables false
set_option linter.unusedSimpArgs false
/-- Marked slots. -/
def mkL (k : Int) (i : Nat) : Sl := ⟨(k + 4 * i) % 3 == 0, k + 4 * i + 1, k + 4 * i + 1 + 1, k + 4 * i + 1 + 1 + 1⟩
def mkS (k : Int) (n : Nat) : List Sl := (List.range n).map (mkL k)
theorem mkS_len (k : Int) (n : Nat) : (mkS k n).length = n := by simp [mkS]
end Go.Proofs.Ytoacgjjpipdkjaa
