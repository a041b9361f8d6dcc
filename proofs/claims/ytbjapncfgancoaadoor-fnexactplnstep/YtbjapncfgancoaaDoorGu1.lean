/- What is ok, of guessers: the program's and the model's. -/
import Derived.Laws.Cover3
import Derived.Test.YtbjapncfgancoaaDoorGu0
namespace Go.Proofs.YtbjapncfgancoaaDoor
open Go.RowKit
set_option linter.unusedVariables false
set_option linter.unusedSimpArgs false
theorem setRow_new (u : World) (c c' : Array Value) (t : TypeId) : (u.alloc (.cells c t)).setRow u.heap.size c' = u.alloc (.cells c' t) := by
  simp only [World.setRow, World.alloc]
  congr 1
  apply Array.ext_getElem?
  intro i
  rw [Array.getElem?_modify]
  by_cases h : u.heap.size = i
  · subst h
    simp
  · have h' : ¬ i = u.heap.size := fun e => h e.symm
    simp [h, h', Array.getElem?_push]
section
variable {P : Program} {Q : Exit → Act → World → Prop}
/-- A whole array into the block that was made last. -/
theorem wpList_store_new {ops : Array Oper} {rest : List Oper} {op : Oper} {a : Act} (hgd : op.guard = none) (ty : TypeId) (x y : Operand) (ho : op.op = .store ty x y)
    (u : World) (g : Nat) (hgu : g = u.heap.size) (c cells : Array Value) (hx : a.eval x = .pointer (some ⟨g, 0, none⟩)) (hy : a.eval y = .agg cells)
    (hi : (P.info? ty).map (·.size) = some cells.size) (hold : c.size = cells.size) (h1 : cells.all (·.oneCell') = true)
    (h : wpList P ops Q rest (a.put op.dst undef) (u.alloc (.cells cells ty))) : wpList P ops Q (op :: rest) a (u.alloc (.cells c ty)) := by
  subst hgu
  refine wpList_store_row hgd ty x y ho _ cells hx hy ty c (heap_alloc_new u _) hi hold h1 ?_
  rw [setRow_new]
  exact h
end
end Go.Proofs.YtbjapncfgancoaaDoor
