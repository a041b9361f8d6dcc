/- A region that draws its order, by an invariant on all slots together; new rows lie apart. No program is named here. -/
import Derived.Below
import Derived.Deep.QuietTactic
import Derived.Test.YtoacgjjpipdkjaaRegion
namespace Go.Proofs.Ytoacgjjpipdkjaa
open Go.RowKit
set_option linter.unusedVariables false

/-- Nothing that was there has turned, but the listed blocks. -/
structure But (L : List Nat) (w w' : World) : Prop where
  os : w'.os = w.os
  tape : w'.tape = w.tape
  output : w'.output = w.output
  size : w.heap.size ≤ w'.heap.size
  block : ∀ k, k < w.heap.size → k ∉ L → w'.heap[k]? = w.heap[k]?
theorem But.refl (L : List Nat) (w : World) : But L w w := ⟨rfl, rfl, rfl, Nat.le_refl _, fun _ _ _ => rfl⟩
theorem But.trans {L : List Nat} {a b c : World} (h : But L a b) (k : But L b c) : But L a c :=
  ⟨k.os.trans h.os, k.tape.trans h.tape, k.output.trans h.output, Nat.le_trans h.size k.size, fun i hi hn => (k.block i (Nat.lt_of_lt_of_le hi h.size) hn).trans (h.block i hi hn)⟩
theorem But.of {L : List Nat} {w w' : World} (f : Below w.heap.size w w') : But L w w' := ⟨f.os, f.tape, f.output, f.size, fun k hk _ => f.block k hk⟩
theorem But.mono {L L' : List Nat} {w w' : World} (h : But L w w') (hs : ∀ k, k ∈ L → k < w.heap.size → k ∈ L') : But L' w w' :=
  ⟨h.os, h.tape, h.output, h.size, fun k hk hn => h.block k hk (fun hm => hn (hs k hm hk))⟩
theorem But.set {L : List Nat} {w w' : World} (h : But L w w') (g j : Nat) (v : Value) (hg : g ∈ L ∨ w.heap.size ≤ g) : But L w (w'.setCell ⟨g, j, none⟩ v) :=
  ⟨h.os, h.tape, h.output, Nat.le_trans h.size (by simp [World.setCell]), fun k hk hn => by
    rw [Below.heap_setCell _ _ _ _ (by show k ≠ g; intro e; subst e; rcases hg with hg | hg; exact hn hg; omega)]; exact h.block k hk hn⟩
theorem But.alloc {L : List Nat} {w w' : World} (h : But L w w') (o : Obj) : But L w (w'.alloc o) := h.trans (But.of ((Below.refl _ _).alloc (Nat.le_refl _) _))
theorem But.drew {L : List Nat} {w w' : World} (h : But L w w') : But L w w'.drew := ⟨h.os, h.tape, h.output, h.size, h.block⟩
theorem But.drewN {L : List Nat} {w w' : World} (h : But L w w') (n : Nat) : But L w (w'.drewN n) := ⟨h.os, h.tape, h.output, h.size, h.block⟩
theorem But.below {L : List Nat} {w w' : World} {B : Nat} (h : But L w w') (hB : B ≤ w.heap.size) (hL : ∀ k, k ∈ L → B ≤ k) : Below B w w' :=
  ⟨h.os, h.tape, h.output, h.size, fun k hk => h.block k (by omega) (fun hm => by have := hL k hm; omega)⟩
theorem But.cell {L : List Nat} {w w' : World} (h : But L w w') {g i : Nat} (hg : g < w.heap.size) (hn : g ∉ L) : w'.cell? ⟨g, i, none⟩ = w.cell? ⟨g, i, none⟩ := World.cell?_of_block (h.block g hg hn)
theorem But.frozen {L : List Nat} {w w' : World} (h : But L w w') {g i : Nat} (hg : g < w.heap.size) (hn : g ∉ L) : w'.frozen? ⟨g, i, none⟩ = w.frozen? ⟨g, i, none⟩ := World.frozen?_of_block (h.block g hg hn)

theorem fr_but {w u0 u : World} {L : List Nat} (f : Below w.heap.size w u0) (h : But L u0 u) (hL : ∀ k, k ∈ L → w.heap.size ≤ k) : Below w.heap.size w u := Below.trans f (h.below f.size hL)
section
variable {P : Program} {ops : Array Oper} {Q : Exit → Act → World → Prop}
end

end Go.Proofs.Ytoacgjjpipdkjaa
