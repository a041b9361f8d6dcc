/- Answers that are guessers are not too long. -/
import Derived.Test.YtpdlcjjmhcfkjaaGh3
import Derived.Test.YtpdlcjjmhcfkjaaGu4
namespace Go.Proofs.Ytpdlcjjmhcfkjaa
open Go.RowKit
set_option linter.unusedVariables false
theorem few_learn (x : Gu) (pc tt : Int) (h : Few5 x) : Few5 (learnA x pc tt) := by
  unfold learnA
  split
  · exact ⟨by simpa [learnG] using h.S, h.C⟩
  · exact ⟨by simp, by simp⟩

end Go.Proofs.Ytpdlcjjmhcfkjaa
