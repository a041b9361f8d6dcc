/- A machine, copied: of the program and of the model. -/
import Derived.Test.YtoacgjjpipdkjaaPl3
namespace Go.Proofs.Ytoacgjjpipdkjaa
open Go.RowKit
set_option linter.unusedVariables false
set_option linter.unusedSimpArgs false
/-- A new row. -/
def Nrow (B : Nat) (xs : List Int) (v : Value) (u : World) : Prop := ∃ g c, v = .slice (some ⟨g, 0, none⟩) xs.length c ∧ B ≤ g ∧ Ro u g xs
theorem Nrow.but {B : Nat} {xs : List Int} {v : Value} {u u' : World} {L : List Nat} (h : Nrow B xs v u) (f : But L u u') (hL : ∀ k, k ∈ L → k < B) : Nrow B xs v u' := by
  obtain ⟨g, c, e, hB, r⟩ := h
  exact ⟨g, c, e, hB, r.but f (fun hm => by have := hL g hm; omega)⟩
/-- Four cells of a block that may be written. -/
structure Box4 (u : World) (g : Nat) (a b c d : Value) : Prop where
  lt : g < u.heap.size
  c0 : u.cell? ⟨g, 0, none⟩ = some a
  c1 : u.cell? ⟨g, 1, none⟩ = some b
  c2 : u.cell? ⟨g, 2, none⟩ = some c
  c3 : u.cell? ⟨g, 3, none⟩ = some d
  f0 : u.frozen? ⟨g, 0, none⟩ = false
  f1 : u.frozen? ⟨g, 1, none⟩ = false
  f2 : u.frozen? ⟨g, 2, none⟩ = false
  f3 : u.frozen? ⟨g, 3, none⟩ = false
theorem Box4.but {L : List Nat} {u u' : World} {g : Nat} {a b c d : Value} (h : Box4 u g a b c d) (f : But L u u') (hn : g ∉ L) : Box4 u' g a b c d :=
  ⟨Nat.lt_of_lt_of_le h.lt f.size, by rw [f.cell h.lt hn]; exact h.c0, by rw [f.cell h.lt hn]; exact h.c1, by rw [f.cell h.lt hn]; exact h.c2, by rw [f.cell h.lt hn]; exact h.c3, by rw [f.frozen h.lt hn]; exact h.f0, by rw [f.frozen h.lt hn]; exact h.f1, by rw [f.frozen h.lt hn]; exact h.f2, by rw [f.frozen h.lt hn]; exact h.f3⟩
theorem Box4.fr {u u' : World} {g : Nat} {a b c d : Value} (h : Box4 u g a b c d) (f : Fr u u') : Box4 u' g a b c d := h.but (L := []) (But.of f) (by simp)
theorem Box4.below {B : Nat} {u u' : World} {g : Nat} {a b c d : Value} (h : Box4 u g a b c d) (f : Below B u u') (hn : g < B) : Box4 u' g a b c d :=
  ⟨Nat.lt_of_lt_of_le h.lt f.size, by rw [f.cell (show g < B from hn)]; exact h.c0, by rw [f.cell (show g < B from hn)]; exact h.c1, by rw [f.cell (show g < B from hn)]; exact h.c2, by rw [f.cell (show g < B from hn)]; exact h.c3, by rw [f.frozen (show g < B from hn)]; exact h.f0, by rw [f.frozen (show g < B from hn)]; exact h.f1, by rw [f.frozen (show g < B from hn)]; exact h.f2, by rw [f.frozen (show g < B from hn)]; exact h.f3⟩
theorem Box4.new (w : World) (a b c d : Value) (t : TypeId) (n : Nat) (hn : w.heap.size = n) : Box4 (w.alloc (.cells #[a, b, c, d] t)) n a b c d := by
  subst hn
  exact ⟨by simp, (alloc_at w _ t _ rfl 0).1, (alloc_at w _ t _ rfl 1).1, (alloc_at w _ t _ rfl 2).1, (alloc_at w _ t _ rfl 3).1, (alloc_at w _ t _ rfl 0).2, (alloc_at w _ t _ rfl 1).2, (alloc_at w _ t _ rfl 2).2, (alloc_at w _ t _ rfl 3).2⟩
/-- Four stores into a block. -/
theorem Box4.set {u : World} {g : Nat} {a b c d : Value} (h : Box4 u g a b c d) (a' b' c' d' : Value) : Box4 ((((u.setCell ⟨g, 0, none⟩ a').setCell ⟨g, 1, none⟩ b').setCell ⟨g, 2, none⟩ c').setCell ⟨g, 3, none⟩ d') g a' b' c' d' := by
  have c0 := h.c0
  have c1 := h.c1
  have c2 := h.c2
  have c3 := h.c3
  have f0 := h.f0
  have f1 := h.f1
  have f2 := h.f2
  have f3 := h.f3
  have hl := h.lt
  refine ⟨by simpa [World.setCell] using hl, ?_, ?_, ?_, ?_, ?_, ?_, ?_, ?_⟩
  all_goals simp [World.frozen?_setCell, World.cell?_setCell_other, World.cell?_setCell_same, c0, c1, c2, c3, f0, f1, f2, f3]
theorem But.set4 {L : List Nat} {w w' : World} (h : But L w w') (g : Nat) (a b c d : Value) (hg : g ∈ L ∨ w.heap.size ≤ g) : But L w ((((w'.setCell ⟨g, 0, none⟩ a).setCell ⟨g, 1, none⟩ b).setCell ⟨g, 2, none⟩ c).setCell ⟨g, 3, none⟩ d) :=
  (((h.set g 0 a hg).set g 1 b hg).set g 2 c hg).set g 3 d hg
def NrowC (B : Nat) (xs : List Int) (v : Value) (u : World) : Prop := ∃ g c, v = .slice (some ⟨g, 0, none⟩) xs.length c ∧ B ≤ g ∧ Ro u g xs ∧ Ca u g xs.length c
theorem NrowC.but {B : Nat} {xs : List Int} {v : Value} {u u' : World} {L : List Nat} (h : NrowC B xs v u) (f : But L u u') (hL : ∀ k, k ∈ L → k < B) : NrowC B xs v u' := by
  obtain ⟨g, c, e, hB, r, k⟩ := h
  exact ⟨g, c, e, hB, r.but f (fun hm => by have := hL g hm; omega), k.but f (fun hm => by have := hL g hm; omega)⟩
end Go.Proofs.Ytoacgjjpipdkjaa
