/- Guessers copied, of the model. What slots learn, of the model. The model's GueLearn. -/
import Derived.Test.YtoacgjjpipdkjaaGu1
namespace Go.Proofs.Ytoacgjjpipdkjaa
open Go.RowKit
set_option linter.unusedVariables false
set_option linter.unusedSimpArgs false
theorem range_add {u : World} {g o : Nat} {cs : List Value} (h : u.rangeAt g o cs) : ∀ j v, cs[j]? = some v → u.cell? ((⟨g, o, none⟩ : Addr).add j) = some v := fun j v hv => by rw [Addr.add_mid]; exact h j v hv
def Nrow4 (B : Nat) (S : List Sl) (v : Value) (u : World) : Prop := ∃ g c, v = .slice (some ⟨g, 0, none⟩) S.length c ∧ B ≤ g ∧ Ro4 u g S
theorem Nrow4.but {B : Nat} {S : List Sl} {v : Value} {u u' : World} {L : List Nat} (h : Nrow4 B S v u) (f : But L u u') (hL : ∀ k, k ∈ L → k < B) : Nrow4 B S v u' := by
  obtain ⟨g, c, e, hB, r⟩ := h
  exact ⟨g, c, e, hB, r.but f (fun hm => by have := hL g hm; omega)⟩
theorem Box4.s3 {u : World} {g : Nat} {a b c d : Value} (h : Box4 u g a b c d) (d' : Value) : Box4 (u.setCell ⟨g, 3, none⟩ d') g a b c d' := by
  refine ⟨by have := h.lt; simpa [World.setCell] using this, by rw [World.cell?_setCell_other _ _ _ _ (by simp)]; exact h.c0, by rw [World.cell?_setCell_other _ _ _ _ (by simp)]; exact h.c1, by rw [World.cell?_setCell_other _ _ _ _ (by simp)]; exact h.c2, World.cell?_setCell_same _ _ _ h.c3, ?_, ?_, ?_, ?_⟩
  all_goals rw [World.frozen?_setCell]
  · exact h.f0
  · exact h.f1
  · exact h.f2
  · exact h.f3
theorem Box4.s2 {u : World} {g : Nat} {a b c d : Value} (h : Box4 u g a b c d) (c' : Value) : Box4 (u.setCell ⟨g, 2, none⟩ c') g a b c' d := by
  refine ⟨by have := h.lt; simpa [World.setCell] using this, by rw [World.cell?_setCell_other _ _ _ _ (by simp)]; exact h.c0, by rw [World.cell?_setCell_other _ _ _ _ (by simp)]; exact h.c1, World.cell?_setCell_same _ _ _ h.c2, by rw [World.cell?_setCell_other _ _ _ _ (by simp)]; exact h.c3, ?_, ?_, ?_, ?_⟩
  all_goals rw [World.frozen?_setCell]
  · exact h.f0
  · exact h.f1
  · exact h.f2
  · exact h.f3
end Go.Proofs.Ytoacgjjpipdkjaa
