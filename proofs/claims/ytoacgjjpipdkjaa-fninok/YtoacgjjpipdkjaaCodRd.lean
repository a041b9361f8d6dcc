/- CodRead of the program. A word as an instruction: the program's reading and the model's are one. -/
import Derived.Test.YtoacgjjpipdkjaaCod
import Derived.Test.YtoacgjjpipdkjaaRegion
import Derived.Test.YtoacgjjpipdkjaaCodOk
namespace Go.Proofs.Ytoacgjjpipdkjaa
open Go.RowKit
set_option linter.unusedVariables false
/-- What is left behind p places; the value of place p. -/
def rdx (x : Int) : Nat → Int
  | 0 => rested x 4
  | p + 1 => rested (rdx x p) (eB (layN (x / 4096) p))
def rdv (x : Int) (p : Nat) : Int := valD (eB (layN (x / 4096) p)) (eL (layN (x / 4096) p)) (taken (rdx x p) (eB (layN (x / 4096) p)))
/-- What the reading holds behind p places. Blocks: Z the result, Z + 1 the reader, Z + 2 the fields. -/
structure RdW (Z : Nat) (w : World) (x : Int) (p : Nat) (u : World) : Prop where
  bel : Below Z w u
  siz : Z + 3 ≤ u.heap.size
  rd : u.cell? ⟨Z + 1, 0, none⟩ = some (.int .u16 (rdx x p))
  rdf : u.frozen? ⟨Z + 1, 0, none⟩ = false
  fs : ∀ j, j < 5 → u.cell? ⟨Z + 2, j, none⟩ = some (.int .i64 (if j < p then rdv x j else 0))
  fsf : ∀ j, j < 5 → u.frozen? ⟨Z + 2, j, none⟩ = false
  zs : ∀ j, j < 6 → u.cell? ⟨Z, j, none⟩ = some (.int .i64 0)
  zsf : ∀ j, j < 6 → u.frozen? ⟨Z, j, none⟩ = false
/-- Two worlds that part in the reader's and the fields' blocks alone. -/
structure Apart2 (Z : Nat) (w u : World) : Prop where
  os : u.os = w.os
  tape : u.tape = w.tape
  output : u.output = w.output
  size : w.heap.size ≤ u.heap.size
  block : ∀ k, k < w.heap.size → k ≠ Z + 1 → k ≠ Z + 2 → u.heap[k]? = w.heap[k]?
theorem Apart2.refl (Z : Nat) (w : World) : Apart2 Z w w := ⟨rfl, rfl, rfl, Nat.le_refl _, fun _ _ _ _ => rfl⟩
theorem Apart2.drew {Z : Nat} {w u : World} (h : Apart2 Z w u) : Apart2 Z w u.drew := ⟨h.os, h.tape, h.output, h.size, h.block⟩
theorem Apart2.fr {Z : Nat} {w u u' : World} (h : Apart2 Z w u) (k : Fr u u') : Apart2 Z w u' :=
  ⟨k.os.trans h.os, k.tape.trans h.tape, k.output.trans h.output, Nat.le_trans h.size k.size, fun i hi h1 h2 => (k.block i (Nat.lt_of_lt_of_le hi h.size)).trans (h.block i hi h1 h2)⟩
theorem Apart2.set {Z : Nat} {w u : World} (h : Apart2 Z w u) (p : Addr) (hp : p.block = Z + 1 ∨ p.block = Z + 2) (v : Value) : Apart2 Z w (u.setCell p v) :=
  ⟨h.os, h.tape, h.output, Nat.le_trans h.size (by simp [World.setCell]), fun i hi h1 h2 => by rw [Below.heap_setCell _ _ _ _ (by omega)]; exact h.block i hi h1 h2⟩
theorem Apart2.cell {Z : Nat} {w u : World} (h : Apart2 Z w u) {p : Addr} (hp : p.block < w.heap.size) (h1 : p.block ≠ Z + 1) (h2 : p.block ≠ Z + 2) : u.cell? p = w.cell? p := World.cell?_of_block (w := w) (h.block p.block hp h1 h2)
theorem Apart2.frozen {Z : Nat} {w u : World} (h : Apart2 Z w u) {p : Addr} (hp : p.block < w.heap.size) (h1 : p.block ≠ Z + 1) (h2 : p.block ≠ Z + 2) : u.frozen? p = w.frozen? p := World.frozen?_of_block (w := w) (h.block p.block hp h1 h2)
/-- The worlds within the region that reads one place: L 4: the reader has been read; L 7: the field is stored. -/
structure RdM (Z : Nat) (u0 : World) (x : Int) (p : Nat) (L : Nat → Bool) (u : World) : Prop where
  ap : Apart2 Z u0 u
  rd : u.cell? ⟨Z + 1, 0, none⟩ = some (.int .u16 (if L 4 = true then rdx x (p + 1) else rdx x p))
  rdf : u.frozen? ⟨Z + 1, 0, none⟩ = false
  fs : ∀ j, j < 5 → u.cell? ⟨Z + 2, j, none⟩ = some (.int .i64 (if j < p ∨ j = p ∧ L 7 = true then rdv x j else 0))
  fsf : ∀ j, j < 5 → u.frozen? ⟨Z + 2, j, none⟩ = false
theorem RdM.fr {Z : Nat} {u0 u u' : World} {x : Int} {p : Nat} {L : Nat → Bool} (h : RdM Z u0 x p L u) (hz : Z + 2 < u.heap.size) (k : Fr u u') : RdM Z u0 x p L u' :=
  ⟨h.ap.fr k, by rw [k.cell (by exact Nat.lt_of_succ_lt hz)]; exact h.rd, by rw [k.frozen (by exact Nat.lt_of_succ_lt hz)]; exact h.rdf, fun j hj => by rw [k.cell (by exact hz)]; exact h.fs j hj, fun j hj => by rw [k.frozen (by exact hz)]; exact h.fsf j hj⟩
theorem RdM.taken {Z : Nat} {u0 u : World} {x : Int} {p : Nat} {L : Nat → Bool} (h : RdM Z u0 x p L u) : RdM Z u0 x p (fun j => if j = 4 then true else L j) (u.setCell ⟨Z + 1, 0, none⟩ (.int .u16 (rdx x (p + 1)))) := by
  refine ⟨h.ap.set _ (.inl rfl) _, ?_, ?_, fun j hj => ?_, fun j hj => ?_⟩
  · rw [World.cell?_setCell_same _ _ _ h.rd]; rfl
  · rw [World.frozen?_setCell]; exact h.rdf
  · rw [World.cell?_setCell_other _ _ _ _ (by simp)]; simpa using h.fs j hj
  · rw [World.frozen?_setCell]; exact h.fsf j hj
theorem RdM.stored {Z : Nat} {u0 u : World} {x : Int} {p : Nat} {L : Nat → Bool} (h : RdM Z u0 x p L u) (hp : p < 5) : RdM Z u0 x p (fun j => if j = 7 then true else L j) (u.setCell ⟨Z + 2, p, none⟩ (.int .i64 (rdv x p))) := by
  refine ⟨h.ap.set _ (.inr rfl) _, ?_, ?_, fun j hj => ?_, fun j hj => ?_⟩
  · rw [World.cell?_setCell_other _ _ _ _ (by simp)]; simpa using h.rd
  · rw [World.frozen?_setCell]; exact h.rdf
  · by_cases e : j = p
    · subst e
      rw [World.cell?_setCell_same _ _ _ (h.fs j hj)]
      simp
    · rw [World.cell?_setCell_other _ _ _ _ (by simp; try omega), h.fs j hj]
      have e1 : (j < p ∨ j = p ∧ L 7 = true) ↔ (j < p ∨ j = p ∧ (if (7 : Nat) = 7 then true else L 7) = true) := by simp [e]
      simp only [e1]
  · rw [World.frozen?_setCell]; exact h.fsf j hj
theorem RdW.fr {Z : Nat} {w u u' : World} {x : Int} {p : Nat} (h : RdW Z w x p u) (f : Fr u u') : RdW Z w x p u' := by
  have hs := h.siz
  have hz := f.size
  exact ⟨h.bel.trans (f.mono (by omega)), by omega, by rw [f.cell (show Z + 1 < u.heap.size by omega)]; exact h.rd, by rw [f.frozen (show Z + 1 < u.heap.size by omega)]; exact h.rdf,
    fun j hj => by rw [f.cell (show Z + 2 < u.heap.size by omega)]; exact h.fs j hj, fun j hj => by rw [f.frozen (show Z + 2 < u.heap.size by omega)]; exact h.fsf j hj,
    fun j hj => by rw [f.cell (show Z < u.heap.size by omega)]; exact h.zs j hj, fun j hj => by rw [f.frozen (show Z < u.heap.size by omega)]; exact h.zsf j hj⟩
theorem RdW.next {Z : Nat} {w wr u : World} {x : Int} {p : Nat} {o : Obj} {L : Nat → Bool} (h : RdW Z w x p wr) (hm : RdM Z (wr.alloc o) x p L u) (h4 : L 4 = true) (h7 : L 7 = true) : RdW Z w x (p + 1) u := by
  have f := Fr.alloc wr o
  have hs := h.siz
  have hz := hm.ap.size
  simp at hz
  refine ⟨?_, by omega, ?_, hm.rdf, fun j hj => ?_, hm.fsf, fun j hj => ?_, fun j hj => ?_⟩
  · refine h.bel.trans (Below.trans (f.mono (by omega)) ⟨hm.ap.os, hm.ap.tape, hm.ap.output, by simp; omega, fun k hk => hm.ap.block k (by simp; omega) (by omega) (by omega)⟩)
  · have := hm.rd
    rw [h4] at this
    exact this
  · have := hm.fs j hj
    rw [this]
    have e1 : (j < p ∨ j = p ∧ L 7 = true) ↔ j < p + 1 := by rw [h7]; simp; omega
    simp only [e1]
  · rw [hm.ap.cell (by simp; omega) (by simp) (by simp), f.cell (show Z < wr.heap.size by omega)]
    exact h.zs j hj
  · rw [hm.ap.frozen (by simp; omega) (by simp) (by simp), f.frozen (show Z < wr.heap.size by omega)]
    exact h.zsf j hj
/-- The model's field p of a word of kind k; its number. -/
def slv (k x : Int) (p : Nat) : Int := if (hasL k).getD p false = true then x / 2 ^ (sl k (p + 1)).toNat % 8 else 0
end Go.Proofs.Ytoacgjjpipdkjaa
