/- What the laws of chapter 7 call: caches measured, and copied. Caches copied by the laws, and compared. Whole caches copied by the laws, and compared. -/
import Derived.Test.YtoacgjjpipdkjaaK13
import Derived.Test.YtoacgjjpipdkjaaGh
namespace Go.Proofs.Ytoacgjjpipdkjaa
open Go.RowKit
set_option linter.unusedVariables false
set_option linter.unusedSimpArgs false
/-- How many words the first i lines have. -/
def sumW (X : List La) : Nat → Nat
  | 0 => 0
  | i + 1 => sumW X i + (X.getD i la0).n.W.length
theorem sumW_le (X : List La) {i j : Nat} (h : i ≤ j) : sumW X i ≤ sumW X j := by
  induction j with
  | zero => rw [Nat.le_zero.1 h]; exact Nat.le_refl _
  | succ j ih =>
    rcases Nat.lt_or_eq_of_le h with h | h
    · exact Nat.le_trans (ih (by omega)) (by simp [sumW])
    · rw [h]; exact Nat.le_refl _
theorem sumW_one (X : List La) {i n : Nat} (h : i < n) : (X.getD i la0).n.W.length ≤ sumW X n := by
  have := sumW_le X (show i + 1 ≤ n from h)
  simp only [sumW] at this
  omega
structure FewT (M : List Int) (X : List La) : Prop where
  T : M.length + X.length + sumW X X.length ≤ 1048576
theorem FewT.few {M : List Int} {X : List La} (h : FewT M X) : FewC M X := by
  have := h.T
  exact ⟨by omega, by omega, fun i hi => by have := sumW_one X hi; omega⟩
theorem VcH7.but {B : Nat} {L : List Nat} {u u' : World} {M : List Int} {X : List La} {aM aL : Option Addr} (h : VcH7 B u M X aM aL) (f : But L u u') (hL : ∀ m, m ∈ L → m < B ∨ u.heap.size ≤ m) : VcH7 B u' M X aM aL := by
  refine ⟨h.rM.but' f (fun k hk hm => ?_), fun h0 => ?_, h.w.but f (fun i hi k hk hm => ?_), h.pL, h.pM⟩
  · have h1 := h.rM.bk k hk
    have h2 := hL k hm
    omega
  · obtain ⟨g, e, hb, r⟩ := h.rL h0
    have := r.lt
    exact ⟨g, e, hb, r.but f (fun hm => by have := hL g hm; omega)⟩
  · have h1 := h.w.bk i hi k hk
    have h2 := hL k hm
    omega
theorem VcH7.fr {B : Nat} {u u' : World} {M : List Int} {X : List La} {aM aL : Option Addr} (h : VcH7 B u M X aM aL) (f : Fr u u') : VcH7 B u' M X aM aL := h.but (L := []) (But.of f) (fun m hm => by cases hm)
end Go.Proofs.Ytoacgjjpipdkjaa
