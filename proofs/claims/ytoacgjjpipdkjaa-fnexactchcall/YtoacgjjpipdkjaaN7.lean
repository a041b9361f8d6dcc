/- The program's places, from rows into arrays. -/
import Derived.Laws.CopyOwn
import Derived.Test.YtoacgjjpipdkjaaN5
import Derived.Test.YtoacgjjpipdkjaaPl3
import Derived.Test.YtoacgjjpipdkjaaGu3
namespace Go.Proofs.Ytoacgjjpipdkjaa
open Go.RowKit
set_option linter.unusedVariables false
set_option linter.unusedSimpArgs false
theorem wp_build_eq {P : Program} {o : Oper} {a : Act} {w : World} {K : Act → World → Prop} {Q : Exit → Act → World → Prop} (t : TypeId) (parts : Array (Nat × Operand)) (ho : o.op = .build t parts) (L : List (Nat × Value)) (cells : Array Value)
    (hL : (parts.map fun (i, x) => (i, a.eval x)).toList = L) (hb : P.built t L = some cells) (h : K (a.put o.dst (.agg cells)) w) : o.wp P a w K Q := by
  refine wp_build t parts ho (by rw [hL, hb]; rfl) ?_
  rw [hL, hb]
  exact h
theorem src_range {u : World} {xs : List Int} {g o : Nat} (hc : ∀ i, i < xs.length → u.cell? ⟨g, o + i, none⟩ = some (ivl xs i)) : u.rangeAt g o (xs.map (Value.int .i64)) := fun j v hj => by
  have := cells_of xs hc j v hj
  rwa [Addr.add_mid] at this
end Go.Proofs.Ytoacgjjpipdkjaa
