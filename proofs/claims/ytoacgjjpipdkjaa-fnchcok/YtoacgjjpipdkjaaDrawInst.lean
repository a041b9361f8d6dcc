/- l20Inst: some instruction; the reader has read on; nothing else has turned. l20Inst: some instruction; the reader has read on; nothing else has turned. The draws of chapter 2. A code that came in, seen from a later world. -/
import Derived.Deep.DeepCutAuto
import Derived.Test.YtoacgjjpipdkjaaReader
import Derived.Test.YtoacgjjpipdkjaaCod
import Derived.Test.YtoacgjjpipdkjaaCodOk
namespace Go.Proofs.Ytoacgjjpipdkjaa
open Go.RowKit
set_option linter.unusedVariables false
/-- Within l20Inst: the reader in block b; the instruction in block C; the result in the block that was next when the call began. -/
structure IW (B : Nat) (w : World) (b C M : Nat) (u : World) : Prop where
  rd : Rd B M u b
  gr : w.grownBy u (some b)
  lt : C < u.heap.size
  bz : b < w.heap.size
  zc : w.heap.size < C
  cs : ∀ j, j < 6 → ∃ v : Int, u.cell? ⟨C, j, none⟩ = some (.int .i64 v)
  cf : ∀ j, j < 6 → u.frozen? ⟨C, j, none⟩ = false
  zs : ∀ j, j < 6 → ∃ v : Int, u.cell? ⟨w.heap.size, j, none⟩ = some (.int .i64 v)
  zf : ∀ j, j < 6 → u.frozen? ⟨w.heap.size, j, none⟩ = false
theorem frozen_kept {w w1 : World} {b : Nat} (hg : w.grownBy w1 (some b)) (k o : Nat) (hk : k < w.heap.size) (hne : b < k) : w1.frozen? ⟨k, o, none⟩ = w.frozen? ⟨k, o, none⟩ :=
  World.frozen?_of_block (w := w) (hg.block k hk (fun e => by injection e; omega))
theorem cell_kept' {w w1 : World} {b : Nat} (hg : w.grownBy w1 (some b)) (k o : Nat) (hk : k < w.heap.size) (hne : b < k) : w1.cell? ⟨k, o, none⟩ = w.cell? ⟨k, o, none⟩ :=
  World.cell?_of_block (w := w) (hg.block k hk (fun e => by injection e; omega))
theorem IW.step {B : Nat} {w : World} {b C M M' : Nat} {u u' : World} (h : IW B w b C M u) (r : Rd B M' u' b) (g : u.grownBy u' (some b)) : IW B w b C M' u' := by
  have hz := h.zc
  have hb := h.bz
  have hl := h.lt
  refine ⟨r, grown_trans h.gr g, Nat.lt_of_lt_of_le h.lt g.size, hb, hz, fun j hj => ?_, fun j hj => ?_, fun j hj => ?_, fun j hj => ?_⟩
  · rw [cell_kept' g C j hl (by omega)]; exact h.cs j hj
  · rw [frozen_kept g C j hl (by omega)]; exact h.cf j hj
  · rw [cell_kept' g w.heap.size j (by omega) hb]; exact h.zs j hj
  · rw [frozen_kept g w.heap.size j (by omega) hb]; exact h.zf j hj
theorem IW.mono {B : Nat} {w : World} {b C M M' : Nat} {u : World} (h : IW B w b C M u) (hM : M ≤ M') : IW B w b C M' u := h.step (h.rd.mono hM) (grown_refl _ _)
theorem IW.alloc {B : Nat} {w : World} {b C M : Nat} {u : World} (h : IW B w b C M u) (o : Obj) : IW B w b C M (u.alloc o) := h.step (h.rd.alloc o) (World.grownBy_alloc _ _ _)
theorem Rd.setOther {B N b : Nat} {w : World} (h : Rd B N w b) (C j : Nat) (v : Value) (hC : b < C) : Rd B N (w.setCell ⟨C, j, none⟩ v) b := by
  obtain ⟨h1, h2, s, len, cap, p, h3, h4, h5, h6, h7, h8⟩ := h
  have hb : Below C w (w.setCell ⟨C, j, none⟩ v) := Below.setCell (Below.refl _ _) (show C ≤ C from Nat.le_refl _) _
  exact ⟨h1, Nat.lt_of_lt_of_le h2 hb.size, s, len, cap, p, by rw [hb.cell (show b < C from hC)]; exact h3, by rw [hb.cell (show b < C from hC)]; exact h4, by rw [hb.frozen (show b < C from hC)]; exact h5, h6, h7, h8.below (hb.mono (by omega))⟩
theorem IW.store {B : Nat} {w : World} {b C M : Nat} {u : World} (h : IW B w b C M u) (j : Nat) (hj : j < 6) (v : Int) : IW B w b C M (u.setCell ⟨C, j, none⟩ (.int .i64 v)) := by
  have hz := h.zc
  have hb := h.bz
  have hbel : Below C u (u.setCell ⟨C, j, none⟩ (.int .i64 v)) := Below.setCell (Below.refl _ _) (show C ≤ C from Nat.le_refl _) _
  refine ⟨h.rd.setOther C j _ (by omega), ⟨hbel.os.trans h.gr.os, hbel.tape.trans h.gr.tape, hbel.output.trans h.gr.output, Nat.le_trans h.gr.size hbel.size, fun k hk hne => (hbel.block k (by omega)).trans (h.gr.block k hk hne)⟩, Nat.lt_of_lt_of_le h.lt hbel.size, hb, hz, fun i hi => ?_, fun i hi => ?_, fun i hi => ?_, fun i hi => ?_⟩
  · by_cases e : i = j
    · subst e
      obtain ⟨x, hx⟩ := h.cs i hi
      exact ⟨v, by rw [World.cell?_setCell_same _ _ _ hx]⟩
    · obtain ⟨x, hx⟩ := h.cs i hi
      exact ⟨x, by rw [World.cell?_setCell_other _ _ _ _ (by simp; try omega)]; exact hx⟩
  · rw [World.frozen?_setCell]; exact h.cf i hi
  · rw [hbel.cell (show w.heap.size < C by omega)]; exact h.zs i hi
  · rw [hbel.frozen (show w.heap.size < C by omega)]; exact h.zf i hi
theorem Code1.up {w u : World} {s : Option Addr} {len cap : Nat} (h : Code1 w.heap.size w s len cap) (f : Fr w u) : Code1 u.heap.size u s len cap := by
  obtain ⟨h1, h2, h3, h4, h5⟩ := h.below f
  refine ⟨Nat.le_refl _, h2, h3, ?_, h5⟩
  rcases h4 with h4 | ⟨sb, so, z, e, hlt, hc, hz⟩
  · exact .inl h4
  · exact .inr ⟨sb, so, z, e, Nat.lt_of_lt_of_le hlt f.size, hc, hz⟩

end Go.Proofs.Ytoacgjjpipdkjaa
