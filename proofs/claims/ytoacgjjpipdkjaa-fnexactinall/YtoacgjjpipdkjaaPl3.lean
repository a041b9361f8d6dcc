/- New rows: copies of rows and machines, of the program and of the model. -/
import Derived.Deep.AppendSrc
import Derived.Laws.CopyOwn
import Derived.Test.YtoacgjjpipdkjaaPl1
namespace Go.Proofs.Ytoacgjjpipdkjaa
open Go.RowKit
set_option linter.unusedVariables false
set_option linter.unusedSimpArgs false
section
variable {P : Program} {Q : Exit → Act → World → Prop}
end
theorem ro_new (w : World) (xs : List Int) (zs : Array Value) (e : TypeId) : Ro (w.alloc (.cells ((xs.map (Value.int .i64)).toArray ++ zs) e)) w.heap.size xs := by
  refine ⟨by simp, fun i hi => ?_, fun i hi => (alloc_at w _ e _ rfl i).2⟩
  rw [(alloc_at w _ e _ rfl i).1, Array.getElem?_append_left (by simpa using hi)]
  simp [hi]
/-- A row of numbers has just as much room as its slice says. -/
def Ca (u : World) (g n c : Nat) : Prop := ∃ cur, u.heap[g]? = some (.cells cur 3 (0, 0)) ∧ cur.size = c ∧ n ≤ c ∧ c ≤ maxLen
theorem Ca.but {L : List Nat} {u u' : World} {g n c : Nat} (h : Ca u g n c) (f : But L u u') (hn : g ∉ L) : Ca u' g n c := by
  obtain ⟨cur, h1, h2⟩ := h
  have hg : g < u.heap.size := by
    by_cases hh : g < u.heap.size
    · exact hh
    · rw [Array.getElem?_eq_none (by omega)] at h1; cases h1
  exact ⟨cur, by rw [f.block g hg hn]; exact h1, h2⟩
theorem Ca.set {u : World} {g n c : Nat} (h : Ca u g n c) (Z j : Nat) (v : Value) : Ca (u.setCell ⟨Z, j, none⟩ v) g n c := by
  obtain ⟨cur, h1, h2, h3⟩ := h
  by_cases e : Z = g
  · subst e
    refine ⟨cur.setIfInBounds j v, ?_, by simpa using h2, h3⟩
    simp [World.setCell, Array.getElem?_modify, h1]
  · exact ⟨cur, by rw [Below.heap_setCell _ _ _ _ (by show g ≠ Z; omega)]; exact h1, h2, h3⟩
end Go.Proofs.Ytoacgjjpipdkjaa
