/- Arrays of slots that learn; the program's GueLearn. -/
import Derived.Test.YtddllgjieccikaaGu2
namespace Go.Proofs.Ytddllgjieccikaa
open Go.RowKit
set_option linter.unusedVariables false
set_option linter.unusedSimpArgs false
theorem Ro4.slot {u : World} {g : Nat} {S : List Sl} (h : Ro4 u g S) (i : Nat) (hi : i < S.length) : u.cell? ⟨g, i * 4, none⟩ = some (.bool (S.getD i sl0).u) ∧ u.cell? ⟨g, i * 4 + 1, none⟩ = some (.int .i64 (S.getD i sl0).p) ∧ u.cell? ⟨g, i * 4 + 2, none⟩ = some (.int .i64 (S.getD i sl0).t) ∧ u.cell? ⟨g, i * 4 + 3, none⟩ = some (.int .i64 (S.getD i sl0).s) := by
  have := slot_at h.rng i hi
  simpa using this
section
variable {Q : Exit → Act → World → Prop}
end
theorem Fr.setRow {w u : World} (h : Fr w u) {g : Nat} (hg : w.heap.size ≤ g) (cs : Array Value) : Fr w (u.setRow g cs) :=
  ⟨h.os, h.tape, h.output, by simpa using h.size, fun k hk => by rw [setRow_other u g k cs (by omega)]; exact h.block k hk⟩
end Go.Proofs.Ytddllgjieccikaa
