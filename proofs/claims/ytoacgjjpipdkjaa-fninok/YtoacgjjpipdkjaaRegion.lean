/- A region that draws its order, by an invariant: each operation leaves in its slot what 'SF' says, whatever came ahead of it; the world grows but for one block. No program is named here. A region that draws its order, by an invariant on all slots together; new rows lie apart. No program is named here. A region that draws its order: each operation turns listed blocks alone, the world keeps a fact that falls with each operation. No program is named here. -/
import Derived.WalkKit
import Derived.RegionTactic
import Derived.Laws.AppendOwn
import Derived.Below
import Derived.Deep.QuietTactic
namespace Go.Proofs.Ytoacgjjpipdkjaa
open Go.RowKit
set_option linter.unusedVariables false

section
variable {P : Program} {ops : Array Oper} {Q : Exit → Act → World → Prop} {md : Region.Mode}

/-- The frame is as it was, but for the slots that the region writes. -/
def Like (ops : Array Oper) (a0 a : Act) : Prop := a.defers = a0.defers ∧ a.tmps.size = a0.tmps.size ∧ ∀ k : Nat, (∀ (i : Nat) (o : Oper), ops[i]? = some o → o.dst ≠ some k) → a.tmps.getD k undef = a0.tmps.getD k undef
/-- What a slot of a draw holds: the reader; a number; a short row of numbers, or a cell of one, in a block behind the reader's. -/
inductive SK where
  | ptr
  | int (p : Int → Prop)
  | row (len : Nat) (p : Int → Prop)
  | cell (p : Int → Prop)
def SK.holds (b : Nat) : SK → Value → World → Prop
  | .ptr, v, _ => v = .pointer (some ⟨b, 0, none⟩)
  | .int p, v, _ => ∃ x : Int, p x ∧ v = .int .i64 x
  | .row len p, v, u => ∃ g, b < g ∧ g < u.heap.size ∧ v = .slice (some ⟨g, 0, none⟩) len len ∧ ∀ i, i < len → ∃ n, p n ∧ u.cell? ⟨g, i, none⟩ = some (.int .i64 n)
  | .cell p, v, u => ∃ g o, b < g ∧ g < u.heap.size ∧ v = .pointer (some ⟨g, o, none⟩) ∧ ∃ n, p n ∧ u.cell? ⟨g, o, none⟩ = some (.int .i64 n)
theorem cell_kept {w w1 : World} {b : Nat} (hg : w.grownBy w1 (some b)) (k o : Nat) (hk : k < w.heap.size) (hne : b < k) : w1.cell? ⟨k, o, none⟩ = w.cell? ⟨k, o, none⟩ :=
  World.cell?_of_block (w := w) (hg.block k hk (fun e => by injection e; omega))
theorem SK.mono {b : Nat} {k : SK} {v : Value} {w w' : World} (h : k.holds b v w) (hg : w.grownBy w' (some b)) : k.holds b v w' := by
  cases k with
  | ptr => exact h
  | int p => exact h
  | row len p =>
    obtain ⟨g, h1, h2, h3, h4⟩ := h
    exact ⟨g, h1, Nat.lt_of_lt_of_le h2 hg.size, h3, fun i hi => by rw [cell_kept hg g i h2 h1]; exact h4 i hi⟩
  | cell p =>
    obtain ⟨g, o, h1, h2, h3, n, h4, h5⟩ := h
    exact ⟨g, o, h1, Nat.lt_of_lt_of_le h2 hg.size, h3, n, h4, by rw [cell_kept hg g o h2 h1]; exact h5⟩

/-- No operation writes this slot. -/
def freeSlot (ops : Array Oper) (k : Nat) : Bool := (List.range ops.size).all fun i => ((ops[i]?).map fun o => !(o.dst == some k)).getD true
theorem Like.slot {a0 a : Act} (hL : Like ops a0 a) (k : Nat) (h : freeSlot ops k = true) : a.tmps.getD k undef = a0.tmps.getD k undef := by
  refine hL.2.2 k fun i o ho => ?_
  have hi : i < ops.size := by
    by_cases hh : i < ops.size
    · exact hh
    · rw [Array.getElem?_eq_none (by omega)] at ho; cases ho
  have h1 := List.all_eq_true.mp h i (List.mem_range.mpr hi)
  rw [ho] at h1
  simpa using h1
end

/-- Nothing that was there has turned, but the listed blocks. -/
structure But (L : List Nat) (w w' : World) : Prop where
  os : w'.os = w.os
  tape : w'.tape = w.tape
  output : w'.output = w.output
  size : w.heap.size ≤ w'.heap.size
  block : ∀ k, k < w.heap.size → k ∉ L → w'.heap[k]? = w.heap[k]?
theorem But.refl (L : List Nat) (w : World) : But L w w := ⟨rfl, rfl, rfl, Nat.le_refl _, fun _ _ _ => rfl⟩
theorem But.trans {L : List Nat} {a b c : World} (h : But L a b) (k : But L b c) : But L a c :=
  ⟨k.os.trans h.os, k.tape.trans h.tape, k.output.trans h.output, Nat.le_trans h.size k.size, fun i hi hn => (k.block i (Nat.lt_of_lt_of_le hi h.size) hn).trans (h.block i hi hn)⟩
theorem But.of {L : List Nat} {w w' : World} (f : Below w.heap.size w w') : But L w w' := ⟨f.os, f.tape, f.output, f.size, fun k hk _ => f.block k hk⟩
theorem But.mono {L L' : List Nat} {w w' : World} (h : But L w w') (hs : ∀ k, k ∈ L → k < w.heap.size → k ∈ L') : But L' w w' :=
  ⟨h.os, h.tape, h.output, h.size, fun k hk hn => h.block k hk (fun hm => hn (hs k hm hk))⟩
theorem But.set {L : List Nat} {w w' : World} (h : But L w w') (g j : Nat) (v : Value) (hg : g ∈ L ∨ w.heap.size ≤ g) : But L w (w'.setCell ⟨g, j, none⟩ v) :=
  ⟨h.os, h.tape, h.output, Nat.le_trans h.size (by simp [World.setCell]), fun k hk hn => by
    rw [Below.heap_setCell _ _ _ _ (by show k ≠ g; intro e; subst e; rcases hg with hg | hg; exact hn hg; omega)]; exact h.block k hk hn⟩
theorem But.alloc {L : List Nat} {w w' : World} (h : But L w w') (o : Obj) : But L w (w'.alloc o) := h.trans (But.of ((Below.refl _ _).alloc (Nat.le_refl _) _))
theorem But.drew {L : List Nat} {w w' : World} (h : But L w w') : But L w w'.drew := ⟨h.os, h.tape, h.output, h.size, h.block⟩
theorem But.below {L : List Nat} {w w' : World} {B : Nat} (h : But L w w') (hB : B ≤ w.heap.size) (hL : ∀ k, k ∈ L → B ≤ k) : Below B w w' :=
  ⟨h.os, h.tape, h.output, h.size, fun k hk => h.block k (by omega) (fun hm => by have := hL k hm; omega)⟩
theorem But.cell {L : List Nat} {w w' : World} (h : But L w w') {g i : Nat} (hg : g < w.heap.size) (hn : g ∉ L) : w'.cell? ⟨g, i, none⟩ = w.cell? ⟨g, i, none⟩ := World.cell?_of_block (h.block g hg hn)
theorem But.frozen {L : List Nat} {w w' : World} (h : But L w w') {g i : Nat} (hg : g < w.heap.size) (hn : g ∉ L) : w'.frozen? ⟨g, i, none⟩ = w.frozen? ⟨g, i, none⟩ := World.frozen?_of_block (h.block g hg hn)

theorem fr_but {w u0 u : World} {L : List Nat} (f : Below w.heap.size w u0) (h : But L u0 u) (hL : ∀ k, k ∈ L → w.heap.size ≤ k) : Below w.heap.size w u := Below.trans f (h.below f.size hL)
section
variable {P : Program} {ops : Array Oper} {Q : Exit → Act → World → Prop}
end

section
variable {P : Program} {ops : Array Oper} {Q : Exit → Act → World → Prop}
theorem SK.but {b : Nat} {k : SK} {v : Value} {w w' : World} {L : List Nat} (h : k.holds b v w) (hg : But L w w') (hL : ∀ x, x ∈ L → x ≤ b) : k.holds b v w' := by
  cases k with
  | ptr => exact h
  | int p => exact h
  | row len p =>
    obtain ⟨g, h1, h2, h3, h4⟩ := h
    exact ⟨g, h1, Nat.lt_of_lt_of_le h2 hg.size, h3, fun i hi => by rw [hg.cell h2 (fun m => by have := hL g m; omega)]; exact h4 i hi⟩
  | cell p =>
    obtain ⟨g, o, h1, h2, h3, n, h4, h5⟩ := h
    exact ⟨g, o, h1, Nat.lt_of_lt_of_le h2 hg.size, h3, n, h4, by rw [hg.cell h2 (fun m => by have := hL g m; omega)]; exact h5⟩
end

end Go.Proofs.Ytoacgjjpipdkjaa
