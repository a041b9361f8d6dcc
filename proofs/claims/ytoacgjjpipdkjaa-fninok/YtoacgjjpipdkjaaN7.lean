/- The program's places, from rows into arrays. The program's places, out of arrays; what is taken, put, undone in them. What is taken, put, undone in the program's arrays of places. -/
import Derived.Laws.CopyOwn
import Derived.Test.YtoacgjjpipdkjaaN4
import Derived.Test.YtoacgjjpipdkjaaGu1
import Derived.Test.YtoacgjjpipdkjaaPl0
namespace Go.Proofs.Ytoacgjjpipdkjaa
open Go.RowKit
set_option linter.unusedVariables false
set_option linter.unusedSimpArgs false
/-- Three cells of a block that may be written. -/
structure Box3 (u : World) (g : Nat) (a b c : Value) : Prop where
  lt : g < u.heap.size
  c0 : u.cell? ⟨g, 0, none⟩ = some a
  c1 : u.cell? ⟨g, 1, none⟩ = some b
  c2 : u.cell? ⟨g, 2, none⟩ = some c
  f0 : u.frozen? ⟨g, 0, none⟩ = false
  f1 : u.frozen? ⟨g, 1, none⟩ = false
  f2 : u.frozen? ⟨g, 2, none⟩ = false
theorem Box3.but {L : List Nat} {u u' : World} {g : Nat} {a b c : Value} (h : Box3 u g a b c) (f : But L u u') (hn : g ∉ L) : Box3 u' g a b c :=
  ⟨Nat.lt_of_lt_of_le h.lt f.size, by rw [f.cell h.lt hn]; exact h.c0, by rw [f.cell h.lt hn]; exact h.c1, by rw [f.cell h.lt hn]; exact h.c2, by rw [f.frozen h.lt hn]; exact h.f0, by rw [f.frozen h.lt hn]; exact h.f1, by rw [f.frozen h.lt hn]; exact h.f2⟩
theorem Box3.new (w : World) (a b c : Value) (t : TypeId) (n : Nat) (hn : w.heap.size = n) : Box3 (w.alloc (.cells #[a, b, c] t)) n a b c := by
  subst hn
  exact ⟨by simp, (alloc_at w _ t _ rfl 0).1, (alloc_at w _ t _ rfl 1).1, (alloc_at w _ t _ rfl 2).1, (alloc_at w _ t _ rfl 0).2, (alloc_at w _ t _ rfl 1).2, (alloc_at w _ t _ rfl 2).2⟩
end Go.Proofs.Ytoacgjjpipdkjaa
