/- l20Inst: some instruction; the reader has read on; nothing else has turned. l20Inst: some instruction; the reader has read on; nothing else has turned. The draws of chapter 2. A code that came in, seen from a later world. -/
import Derived.Deep.DeepCutAuto
import Derived.Test.YtoacgjjpipdkjaaReader
import Derived.Test.YtoacgjjpipdkjaaCod
import Derived.Test.YtoacgjjpipdkjaaCodOk
namespace Go.Proofs.Ytoacgjjpipdkjaa
open Go.RowKit
set_option linter.unusedVariables false
/-- Within l20Inst: the reader in block b; the instruction in block C; the result in the block that was next when the call began. -/
structure IW (B : Nat) (w : World) (b C M : Nat) (u : World) : Prop where
  rd : Rd B M u b
  gr : w.grownBy u (some b)
  lt : C < u.heap.size
  bz : b < w.heap.size
  zc : w.heap.size < C
  cs : ∀ j, j < 6 → ∃ v : Int, u.cell? ⟨C, j, none⟩ = some (.int .i64 v)
  cf : ∀ j, j < 6 → u.frozen? ⟨C, j, none⟩ = false
  zs : ∀ j, j < 6 → ∃ v : Int, u.cell? ⟨w.heap.size, j, none⟩ = some (.int .i64 v)
  zf : ∀ j, j < 6 → u.frozen? ⟨w.heap.size, j, none⟩ = false
theorem frozen_kept {w w1 : World} {b : Nat} (hg : w.grownBy w1 (some b)) (k o : Nat) (hk : k < w.heap.size) (hne : b < k) : w1.frozen? ⟨k, o, none⟩ = w.frozen? ⟨k, o, none⟩ :=
  World.frozen?_of_block (w := w) (hg.block k hk (fun e => by injection e; omega))
theorem cell_kept' {w w1 : World} {b : Nat} (hg : w.grownBy w1 (some b)) (k o : Nat) (hk : k < w.heap.size) (hne : b < k) : w1.cell? ⟨k, o, none⟩ = w.cell? ⟨k, o, none⟩ :=
  World.cell?_of_block (w := w) (hg.block k hk (fun e => by injection e; omega))
theorem IW.step {B : Nat} {w : World} {b C M M' : Nat} {u u' : World} (h : IW B w b C M u) (r : Rd B M' u' b) (g : u.grownBy u' (some b)) : IW B w b C M' u' := by
  have hz := h.zc
  have hb := h.bz
  have hl := h.lt
  refine ⟨r, grown_trans h.gr g, Nat.lt_of_lt_of_le h.lt g.size, hb, hz, fun j hj => ?_, fun j hj => ?_, fun j hj => ?_, fun j hj => ?_⟩
  · rw [cell_kept' g C j hl (by omega)]; exact h.cs j hj
  · rw [frozen_kept g C j hl (by omega)]; exact h.cf j hj
  · rw [cell_kept' g w.heap.size j (by omega) hb]; exact h.zs j hj
  · rw [frozen_kept g w.heap.size j (by omega) hb]; exact h.zf j hj
theorem IW.mono {B : Nat} {w : World} {b C M M' : Nat} {u : World} (h : IW B w b C M u) (hM : M ≤ M') : IW B w b C M' u := h.step (h.rd.mono hM) (grown_refl _ _)
theorem IW.alloc {B : Nat} {w : World} {b C M : Nat} {u : World} (h : IW B w b C M u) (o : Obj) : IW B w b C M (u.alloc o) := h.step (h.rd.alloc o) (World.grownBy_alloc _ _ _)
end Go.Proofs.Ytoacgjjpipdkjaa
