/- A region that draws its order, by an invariant: each operation leaves in its slot what 'SF' says, whatever came ahead of it; the world grows but for one block. No program is named here. -/
import Derived.WalkKit
import Derived.RegionTactic
import Derived.Laws.AppendOwn
namespace Go.Proofs.Ytoacgjjpipdkjaa
open Go.RowKit
set_option linter.unusedVariables false

section
variable {P : Program} {ops : Array Oper} {Q : Exit → Act → World → Prop} {md : Region.Mode}

/-- The frame is as it was, but for the slots that the region writes. -/
def Like (ops : Array Oper) (a0 a : Act) : Prop := a.defers = a0.defers ∧ a.tmps.size = a0.tmps.size ∧ ∀ k : Nat, (∀ (i : Nat) (o : Oper), ops[i]? = some o → o.dst ≠ some k) → a.tmps.getD k undef = a0.tmps.getD k undef
/-- What a slot of a draw holds: the reader; a number; a short row of numbers, or a cell of one, in a block behind the reader's. -/
inductive SK where
  | ptr
  | int (p : Int → Prop)
  | row (len : Nat) (p : Int → Prop)
  | cell (p : Int → Prop)
def SK.holds (b : Nat) : SK → Value → World → Prop
  | .ptr, v, _ => v = .pointer (some ⟨b, 0, none⟩)
  | .int p, v, _ => ∃ x : Int, p x ∧ v = .int .i64 x
  | .row len p, v, u => ∃ g, b < g ∧ g < u.heap.size ∧ v = .slice (some ⟨g, 0, none⟩) len len ∧ ∀ i, i < len → ∃ n, p n ∧ u.cell? ⟨g, i, none⟩ = some (.int .i64 n)
  | .cell p, v, u => ∃ g o, b < g ∧ g < u.heap.size ∧ v = .pointer (some ⟨g, o, none⟩) ∧ ∃ n, p n ∧ u.cell? ⟨g, o, none⟩ = some (.int .i64 n)
theorem cell_kept {w w1 : World} {b : Nat} (hg : w.grownBy w1 (some b)) (k o : Nat) (hk : k < w.heap.size) (hne : b < k) : w1.cell? ⟨k, o, none⟩ = w.cell? ⟨k, o, none⟩ :=
  World.cell?_of_block (w := w) (hg.block k hk (fun e => by injection e; omega))
theorem SK.mono {b : Nat} {k : SK} {v : Value} {w w' : World} (h : k.holds b v w) (hg : w.grownBy w' (some b)) : k.holds b v w' := by
  cases k with
  | ptr => exact h
  | int p => exact h
  | row len p =>
    obtain ⟨g, h1, h2, h3, h4⟩ := h
    exact ⟨g, h1, Nat.lt_of_lt_of_le h2 hg.size, h3, fun i hi => by rw [cell_kept hg g i h2 h1]; exact h4 i hi⟩
  | cell p =>
    obtain ⟨g, o, h1, h2, h3, n, h4, h5⟩ := h
    exact ⟨g, o, h1, Nat.lt_of_lt_of_le h2 hg.size, h3, n, h4, by rw [cell_kept hg g o h2 h1]; exact h5⟩

/-- No operation writes this slot. -/
def freeSlot (ops : Array Oper) (k : Nat) : Bool := (List.range ops.size).all fun i => ((ops[i]?).map fun o => !(o.dst == some k)).getD true
theorem Like.slot {a0 a : Act} (hL : Like ops a0 a) (k : Nat) (h : freeSlot ops k = true) : a.tmps.getD k undef = a0.tmps.getD k undef := by
  refine hL.2.2 k fun i o ho => ?_
  have hi : i < ops.size := by
    by_cases hh : i < ops.size
    · exact hh
    · rw [Array.getElem?_eq_none (by omega)] at ho; cases ho
  have h1 := List.all_eq_true.mp h i (List.mem_range.mpr hi)
  rw [ho] at h1
  simpa using h1
end

end Go.Proofs.Ytoacgjjpipdkjaa
