/- A guesser that came in: a row of slots, and a row of numbers. -/
import Derived.Deep.SlicePairs
import Derived.Test.YtoacgjjpipdkjaaGh3
import Derived.Test.YtoacgjjpipdkjaaOpenPln
namespace Go.Proofs.Ytoacgjjpipdkjaa
open Go.ChangeShapes Go.WideShapes Go.ChangeAt Go.RowKit
set_option linter.unusedVariables false
theorem array2 {α : Type} {cs : Array α} (h : cs.size = 2) : ∃ c0 c1, cs = #[c0, c1] := by
  obtain ⟨l⟩ := cs
  match l, h with
  | [c0, c1], _ => exact ⟨c0, c1, rfl⟩
instance : Inhabited Sl := ⟨sl0⟩
end Go.Proofs.Ytoacgjjpipdkjaa
