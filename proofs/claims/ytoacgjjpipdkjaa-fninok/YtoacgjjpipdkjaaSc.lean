/- Chapter 3: the scanner of a line: what it holds; fail, field, end. Chapter 3: the scanner of a line: numbers, registers, labels, names. Chapter 3: the scanner of a line: an instruction. Chapter 3: a line's scanner begins; CodParse of the program. -/
import Derived.Lib.AtoiAll
import Derived.Lib.AtoiErrMem
import Derived.Test.YtoacgjjpipdkjaaTx
import Derived.Test.YtoacgjjpipdkjaaTxt
import Derived.Test.YtoacgjjpipdkjaaCodRd
namespace Go.Proofs.Ytoacgjjpipdkjaa
open Go.RowKit
set_option linter.unusedVariables false

/-- Nothing turned but block p. -/
abbrev Ap (p : Nat) (u u' : World) : Prop := u.grownBy u' (some p)
theorem Ap.refl (p : Nat) (u : World) : Ap p u u := ⟨rfl, rfl, rfl, Nat.le_refl _, fun _ _ _ => rfl⟩
theorem Ap.trans {p : Nat} {a b c : World} (h : Ap p a b) (k : Ap p b c) : Ap p a c :=
  ⟨k.os.trans h.os, k.tape.trans h.tape, k.output.trans h.output, Nat.le_trans h.size k.size, fun i hi hn => (k.block i (Nat.lt_of_lt_of_le hi h.size) hn).trans (h.block i hi hn)⟩
theorem Ap.of {p : Nat} {a b : World} (h : Fr a b) : Ap p a b := ⟨h.os, h.tape, h.output, h.size, fun i hi _ => h.block i hi⟩
theorem Ap.set (p j : Nat) (u : World) (v : Value) : Ap p u (u.setCell ⟨p, j, none⟩ v) :=
  ⟨rfl, rfl, rfl, by simp [World.setCell], fun i hi hn => Below.heap_setCell _ _ _ _ (fun e => hn (by rw [e]))⟩
theorem Ap.cell {p : Nat} {u u' : World} (h : Ap p u u') {g i : Nat} (hg : g < u.heap.size) (hn : g ≠ p) : u'.cell? ⟨g, i, none⟩ = u.cell? ⟨g, i, none⟩ := World.cell?_of_block (w := u) (h.block g hg (fun e => hn (by injection e)))
theorem Ap.frozen {p : Nat} {u u' : World} (h : Ap p u u') {g i : Nat} (hg : g < u.heap.size) (hn : g ≠ p) : u'.frozen? ⟨g, i, none⟩ = u.frozen? ⟨g, i, none⟩ := World.frozen?_of_block (w := u) (h.block g hg (fun e => hn (by injection e)))
theorem Ap.fr {p : Nat} {w u u' : World} (h : Fr w u) (k : Ap p u u') (hp : w.heap.size ≤ p) : Fr w u' :=
  ⟨k.os.trans h.os, k.tape.trans h.tape, k.output.trans h.output, Nat.le_trans h.size k.size, fun i hi => (k.block i (Nat.lt_of_lt_of_le hi h.size) (fun e => by injection e; omega)).trans (h.block i hi)⟩
/-- The first blocks are as they were. -/
def Low18 (u u' : World) : Prop := ∀ k, k < 18 → k < u.heap.size → u'.heap[k]? = u.heap[k]?
theorem Low18.cell {u u' : World} (f : Low18 u u') {g i : Nat} (hg : g < 18) (hl : g < u.heap.size) : u'.cell? ⟨g, i, none⟩ = u.cell? ⟨g, i, none⟩ := World.cell?_of_block (w := u) (f g hg hl)
theorem Ap.below {p : Nat} {u u' : World} (h : Ap p u u') (hp : p ≤ u.heap.size) : Below p u u' := ⟨h.os, h.tape, h.output, h.size, fun k hk => h.block k (by omega) (fun e => by injection e; omega)⟩
/-- What is read so far, and whether there was an error. -/
def RdInv (kk ff at' : Int) (L : List UInt8 → Option Int) (r : List (List UInt8)) (b0 : Bool) (q : Nat) (fs : List Int) (r' : List (List UInt8)) (b : Bool) : Prop :=
  fs.length = 5 ∧ (b0 = true → b = true) ∧ (b0 = false → (b = false ∧ rdTo kk ff at' L r q = some (fs, r')) ∨ (b = true ∧ rdTo kk ff at' L r q = none))
theorem RdInv.skip {kk ff at' : Int} {L : List UInt8 → Option Int} {r r' : List (List UInt8)} {b0 b : Bool} {q : Nat} {fs : List Int} (h : RdInv kk ff at' L r b0 q fs r' b) (hl : layN kk q = 0 ∨ layN kk q = 2) : RdInv kk ff at' L r b0 (q + 1) fs r' b := by
  refine ⟨h.1, h.2.1, fun hb => ?_⟩
  rcases h.2.2 hb with ⟨h1, h2⟩ | ⟨h1, h2⟩
  · exact .inl ⟨h1, by simp only [rdTo, h2, hl, if_true]⟩
  · exact .inr ⟨h1, by simp only [rdTo, h2]⟩
/-- The blocks of a call of 'instruction': Z the result, M the name's row, Fb the fields. -/
structure InsW (p Z M Fb : Nat) (kk : Int) (fs : List Int) (w : World) : Prop where
  m1 : w.cell? ⟨M, 1, none⟩ = some (.int .i64 kk)
  fc : ∀ j, j < 5 → w.cell? ⟨Fb, j, none⟩ = some (.int .i64 (fs.getD j 0))
  fz : ∀ j, j < 5 → w.frozen? ⟨Fb, j, none⟩ = false
  zc : ∀ j, j < 6 → w.cell? ⟨Z, j, none⟩ = some (.int .i64 0)
  zz : ∀ j, j < 6 → w.frozen? ⟨Z, j, none⟩ = false
  nz : p < Z
  nm : Z < M
  nf : M < Fb
theorem InsW.ap {p Z M Fb : Nat} {kk : Int} {fs : List Int} {w w' : World} (h : InsW p Z M Fb kk fs w) (a : Ap p w w') : InsW p Z M Fb kk fs w' := by
  obtain ⟨h1, h2, h3, h4, h5, h6, h7, h8⟩ := h
  have l1 : M < w.heap.size := lt_of_cell h1
  have l2 : Fb < w.heap.size := lt_of_cell (h2 0 (by decide))
  have l3 : Z < w.heap.size := lt_of_cell (h4 0 (by decide))
  exact ⟨by rw [a.cell (g := M) l1 (by omega)]; exact h1, fun j hj => by rw [a.cell (g := Fb) l2 (by omega)]; exact h2 j hj, fun j hj => by rw [a.frozen (g := Fb) l2 (by omega)]; exact h3 j hj, fun j hj => by rw [a.cell (g := Z) l3 (by omega)]; exact h4 j hj, fun j hj => by rw [a.frozen (g := Z) l3 (by omega)]; exact h5 j hj, h6, h7, h8⟩
theorem InsW.set {p Z M Fb : Nat} {kk v : Int} {fs : List Int} {w : World} {q : Nat} (h : InsW p Z M Fb kk fs w) (hq : q < 5) (hl : fs.length = 5) : InsW p Z M Fb kk (fs.set q v) (w.setCell ⟨Fb, q, none⟩ (.int .i64 v)) := by
  obtain ⟨h1, h2, h3, h4, h5, h6, h7, h8⟩ := h
  refine ⟨?_, fun j hj => ?_, fun j hj => ?_, fun j hj => ?_, fun j hj => ?_, h6, h7, h8⟩
  · rw [World.cell?_setCell_other _ _ _ _ (by first | (simp; done) | (simp; omega))]; exact h1
  · by_cases e : j = q
    · subst e
      rw [World.cell?_setCell_same _ _ _ (h2 j hj)]
      simp [List.getD_eq_getElem?_getD, hl, hj]
    · rw [World.cell?_setCell_other _ _ _ _ (by first | (simp; done) | (simp; omega)), h2 j hj, List.getD_eq_getElem?_getD, List.getD_eq_getElem?_getD, List.getElem?_set_ne (by omega)]
  · rw [World.frozen?_setCell]; exact h3 j hj
  · rw [World.cell?_setCell_other _ _ _ _ (by first | (simp; done) | (simp; omega))]; exact h4 j hj
  · rw [World.frozen?_setCell]; exact h5 j hj
end Go.Proofs.Ytoacgjjpipdkjaa
