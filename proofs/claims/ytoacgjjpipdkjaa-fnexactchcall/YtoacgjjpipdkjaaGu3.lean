/- Arrays of slots that learn; the program's GueLearn. -/
import Derived.Test.YtoacgjjpipdkjaaGu2
namespace Go.Proofs.Ytoacgjjpipdkjaa
open Go.RowKit
set_option linter.unusedVariables false
set_option linter.unusedSimpArgs false
theorem But.setCells {L : List Nat} {w : World} (g : Nat) (hg : g ∈ L ∨ w.heap.size ≤ g) : ∀ (vs : List Value) (o : Nat) (w' : World), But L w w' → But L w (w'.setCells g o vs)
  | [], _, _, h => h
  | v :: r, o, w', h => by
    rw [World.setCells]
    exact But.setCells g hg r (o + 1) _ (h.set g o v hg)
theorem Ro4.slot {u : World} {g : Nat} {S : List Sl} (h : Ro4 u g S) (i : Nat) (hi : i < S.length) : u.cell? ⟨g, i * 4, none⟩ = some (.bool (S.getD i sl0).u) ∧ u.cell? ⟨g, i * 4 + 1, none⟩ = some (.int .i64 (S.getD i sl0).p) ∧ u.cell? ⟨g, i * 4 + 2, none⟩ = some (.int .i64 (S.getD i sl0).t) ∧ u.cell? ⟨g, i * 4 + 3, none⟩ = some (.int .i64 (S.getD i sl0).s) := by
  have := slot_at h.rng i hi
  simpa using this
theorem Ro4.there4 {u : World} {g : Nat} {S : List Sl} (h : Ro4 u g S) (i : Nat) (hi : i < S.length) : u.there g (i * 4) 4 := fun j hj => by
  have := h.thr (i * 4 + j) (by omega)
  rwa [Nat.zero_add] at this
section
variable {Q : Exit → Act → World → Prop}
end
end Go.Proofs.Ytoacgjjpipdkjaa
