/- Guessers copied, of the model. What slots learn, of the model. The model's GueLearn. -/
import Derived.Test.YtoacgjjpipdkjaaGu1
namespace Go.Proofs.Ytoacgjjpipdkjaa
open Go.RowKit
set_option linter.unusedVariables false
set_option linter.unusedSimpArgs false
def Nrow4 (B : Nat) (S : List Sl) (v : Value) (u : World) : Prop := ∃ g c, v = .slice (some ⟨g, 0, none⟩) S.length c ∧ B ≤ g ∧ Ro4 u g S
theorem Nrow4.but {B : Nat} {S : List Sl} {v : Value} {u u' : World} {L : List Nat} (h : Nrow4 B S v u) (f : But L u u') (hL : ∀ k, k ∈ L → k < B) : Nrow4 B S v u' := by
  obtain ⟨g, c, e, hB, r⟩ := h
  exact ⟨g, c, e, hB, r.but f (fun hm => by have := hL g hm; omega)⟩
end Go.Proofs.Ytoacgjjpipdkjaa
