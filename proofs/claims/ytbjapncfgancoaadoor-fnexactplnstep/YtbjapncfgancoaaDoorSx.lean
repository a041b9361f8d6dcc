/- Cells of a block, and what the calls of a law about one instruction leave behind, as the laws' texts use them. More of what the laws about one instruction lean on: rows that are the same, the C row behind a stop. -/
import Derived.Test.YtbjapncfgancoaaDoorPmd
import Derived.StillTailTactics
import Derived.Test.YtbjapncfgancoaaDoorPl4
import Derived.Test.YtbjapncfgancoaaDoorDrawInst
import Derived.Test.YtbjapncfgancoaaDoorPl6
import Derived.Test.YtbjapncfgancoaaDoorSlim
namespace Go.Proofs.YtbjapncfgancoaaDoor
open Go.RowKit
set_option linter.unusedVariables false
set_option linter.unusedSimpArgs false
/-- Values lie in block g, and may be written. -/
structure Cel (u : World) (g : Nat) (vs : List Value) : Prop where
  lt : g < u.heap.size
  cel : ∀ i, i < vs.length → u.cell? ⟨g, i, none⟩ = some (vs.getD i undef)
  fro : ∀ i, i < vs.length → u.frozen? ⟨g, i, none⟩ = false
theorem Cel.but {L : List Nat} {u u' : World} {g : Nat} {vs : List Value} (h : Cel u g vs) (f : But L u u') (hn : g ∉ L) : Cel u' g vs :=
  ⟨Nat.lt_of_lt_of_le h.lt f.size, fun i hi => by rw [f.cell h.lt hn]; exact h.cel i hi, fun i hi => by rw [f.frozen h.lt hn]; exact h.fro i hi⟩
theorem Cel.fr {u u' : World} {g : Nat} {vs : List Value} (h : Cel u g vs) (f : Fr u u') : Cel u' g vs := h.but (L := []) (But.of f) (by simp)
theorem Cel.other {u : World} {g : Nat} {vs : List Value} (h : Cel u g vs) (Z j : Nat) (v : Value) (hz : ¬ Z = g) : Cel (u.setCell ⟨Z, j, none⟩ v) g vs :=
  h.but (L := [Z]) ((But.refl _ _).set Z j v (.inl (by simp))) (by simp; try omega)
theorem Cel.alloc {u : World} {g : Nat} {vs : List Value} (h : Cel u g vs) (o : Obj) : Cel (u.alloc o) g vs := h.fr (Fr.alloc _ _)
theorem Cel.drew {u : World} {g : Nat} {vs : List Value} (h : Cel u g vs) : Cel u.drew g vs := ⟨h.lt, h.cel, h.fro⟩
theorem Cel.drewN {u : World} {g : Nat} {vs : List Value} (h : Cel u g vs) (n : Nat) : Cel (u.drewN n) g vs := h.but (L := []) ((But.refl _ _).drewN n) (by simp)
theorem Cel.set {u : World} {g : Nat} {vs : List Value} (h : Cel u g vs) (i : Nat) (v : Value) (hi : i < vs.length) : Cel (u.setCell ⟨g, i, none⟩ v) g (vs.set i v) := by
  refine ⟨by have := h.lt; simpa [World.setCell] using this, fun j hj => ?_, fun j hj => by rw [World.frozen?_setCell]; exact h.fro j (by simpa using hj)⟩
  rw [List.length_set] at hj
  by_cases e : i = j
  · subst e
    rw [World.cell?_setCell_same _ _ _ (h.cel i hi)]
    simp [List.getD_eq_getElem?_getD, hi]
  · rw [World.cell?_setCell_other _ _ _ _ (by simp; try omega), h.cel j hj]
    simp [List.getD_eq_getElem?_getD, List.getElem?_set_ne e]
theorem Cel.new (w : World) (vs : List Value) (t : TypeId) (g : Nat) (hg : w.heap.size = g) : Cel (w.alloc (.cells vs.toArray t)) g vs := by
  subst hg
  refine ⟨by simp, fun i hi => ?_, fun i hi => (alloc_at w _ t _ rfl i).2⟩
  rw [(alloc_at w _ t _ rfl i).1]
  simp [List.getD_eq_getElem?_getD, hi]
/-- A machine that sees all, at a word of its memory. -/
structure Sup (s : St) (wd : Int) : Prop where
  p0 : 0 ≤ s.pc
  p1 : s.pc < 256
  c : s.C.getD 3 0 % 2 = 0
  m : s.M.getD s.pc.toNat 0 = wd
theorem Sup.usr {s : St} {wd : Int} (h : Sup s wd) : usr s.C = false := usr_f h.c
end Go.Proofs.YtbjapncfgancoaaDoor
