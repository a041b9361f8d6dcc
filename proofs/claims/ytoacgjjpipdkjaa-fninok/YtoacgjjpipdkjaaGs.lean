/- What a guesser has seen, of the model. A call that is seen, of the model. -/
import Derived.Maps.AppendAt
import Derived.Test.YtoacgjjpipdkjaaGu5
import Derived.Test.YtoacgjjpipdkjaaCodSd
import Derived.Test.YtoacgjjpipdkjaaCod
namespace Go.Proofs.Ytoacgjjpipdkjaa
open Go.RowKit
set_option linter.unusedVariables false
set_option linter.unusedSimpArgs false
theorem Rc.src {B : Nat} {u : World} {xs : List Int} {ao : Option Addr} {c : Nat} (h : Rc B u xs ao c) : Src u xs.length (ivl xs) ao := h.vc.src
section
variable {P : Program} (w : World)
end
theorem Rc.but' {B : Nat} {u u' : World} {xs : List Int} {ao : Option Addr} {c : Nat} {L : List Nat} (h : Rc B u xs ao c) (f : But L u u') (hL : ∀ k, k ∈ L → ∀ g, ao = some ⟨g, 0, none⟩ → g ≠ k) : Rc B u' xs ao c := by
  rcases h with h | ⟨g, e, hB, r, k, h0⟩
  · exact .inl h
  · exact .inr ⟨g, e, hB, r.but f (fun hm => hL g hm g e rfl), k.but f (fun hm => hL g hm g e rfl), h0⟩
end Go.Proofs.Ytoacgjjpipdkjaa
