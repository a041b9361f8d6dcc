/- A region that draws its order: each operation turns listed blocks alone, the world keeps a fact that falls with each operation. No program is named here. -/
import Derived.Test.YtoacgjjpipdkjaaRegion3
namespace Go.Proofs.Ytoacgjjpipdkjaa
open Go.RowKit
set_option linter.unusedVariables false
section
variable {P : Program} {ops : Array Oper} {Q : Exit → Act → World → Prop}
theorem SK.but {b : Nat} {k : SK} {v : Value} {w w' : World} {L : List Nat} (h : k.holds b v w) (hg : But L w w') (hL : ∀ x, x ∈ L → x ≤ b) : k.holds b v w' := by
  cases k with
  | ptr => exact h
  | int p => exact h
  | row len p =>
    obtain ⟨g, h1, h2, h3, h4⟩ := h
    exact ⟨g, h1, Nat.lt_of_lt_of_le h2 hg.size, h3, fun i hi => by rw [hg.cell h2 (fun m => by have := hL g m; omega)]; exact h4 i hi⟩
  | cell p =>
    obtain ⟨g, o, h1, h2, h3, n, h4, h5⟩ := h
    exact ⟨g, o, h1, Nat.lt_of_lt_of_le h2 hg.size, h3, n, h4, by rw [hg.cell h2 (fun m => by have := hL g m; omega)]; exact h5⟩
end

end Go.Proofs.Ytoacgjjpipdkjaa
