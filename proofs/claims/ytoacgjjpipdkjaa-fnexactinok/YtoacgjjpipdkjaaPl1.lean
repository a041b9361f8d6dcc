/- Rows of numbers in memory; machines in memory; what is ok, of the program and of the model. -/
import Derived.Deep.QuietTactic
import Derived.BigQuiet
import Derived.OwnWalk
import Derived.Test.YtoacgjjpipdkjaaPl0
import Derived.Test.YtoacgjjpipdkjaaRegion3
import Derived.Test.YtoacgjjpipdkjaaVec
namespace Go.Proofs.Ytoacgjjpipdkjaa
open Go.RowKit
set_option linter.unusedVariables false
set_option linter.unusedSimpArgs false

/-- Numbers lie in block g, and may be written. -/
structure Ro (u : World) (g : Nat) (xs : List Int) : Prop where
  lt : g < u.heap.size
  cel : ∀ i, i < xs.length → u.cell? ⟨g, i, none⟩ = some (.int .i64 (xs.getD i 0))
  fro : ∀ i, i < xs.length → u.frozen? ⟨g, i, none⟩ = false
theorem Ro.but {L : List Nat} {u u' : World} {g : Nat} {xs : List Int} (h : Ro u g xs) (f : But L u u') (hn : g ∉ L) : Ro u' g xs :=
  ⟨Nat.lt_of_lt_of_le h.lt f.size, fun i hi => by rw [f.cell h.lt hn]; exact h.cel i hi, fun i hi => by rw [f.frozen h.lt hn]; exact h.fro i hi⟩
theorem Ro.fr {u u' : World} {g : Nat} {xs : List Int} (h : Ro u g xs) (f : Fr u u') : Ro u' g xs := h.but (L := []) (But.of f) (by simp)
theorem Ro.set {u : World} {g : Nat} {xs : List Int} (h : Ro u g xs) (i : Nat) (v : Int) (hi : i < xs.length) : Ro (u.setCell ⟨g, i, none⟩ (.int .i64 v)) g (xs.set i v) := by
  refine ⟨by have := h.lt; simpa [World.setCell] using this, fun j hj => ?_, fun j hj => by rw [World.frozen?_setCell]; exact h.fro j (by simpa using hj)⟩
  rw [List.length_set] at hj
  rw [getD_set]
  by_cases e : i = j
  · subst e
    rw [World.cell?_setCell_same _ _ _ (h.cel i hi), if_pos ⟨rfl, hi⟩]
  · rw [World.cell?_setCell_other _ _ _ _ (by simp; try omega), if_neg (fun h => e h.1)]
    exact h.cel j hj
theorem Ro.alloc {u : World} {g : Nat} {xs : List Int} (h : Ro u g xs) (o : Obj) : Ro (u.alloc o) g xs := h.fr (Fr.alloc _ _)
theorem Ro.drew {u : World} {g : Nat} {xs : List Int} (h : Ro u g xs) : Ro u.drew g xs := ⟨h.lt, h.cel, h.fro⟩
theorem Ro.drewN {u : World} {g : Nat} {xs : List Int} (h : Ro u g xs) (n : Nat) : Ro (u.drewN n) g xs := h.but (L := []) ((But.refl _ _).drewN n) (by simp)
/-- A machine's rows, three blocks apart. -/
structure Own (u : World) (gr gc gm : Nat) (s : St) : Prop where
  R : Ro u gr s.R
  C : Ro u gc s.C
  M : Ro u gm s.M
  rc : gr ≠ gc
  rm : gr ≠ gm
  cm : gc ≠ gm
theorem Own.but {L : List Nat} {u u' : World} {gr gc gm : Nat} {s : St} (h : Own u gr gc gm s) (f : But L u u') (h1 : gr ∉ L) (h2 : gc ∉ L) (h3 : gm ∉ L) : Own u' gr gc gm s :=
  ⟨h.R.but f h1, h.C.but f h2, h.M.but f h3, h.rc, h.rm, h.cm⟩
theorem Own.fr {u u' : World} {gr gc gm : Nat} {s : St} (h : Own u gr gc gm s) (f : Fr u u') : Own u' gr gc gm s := h.but (L := []) (But.of f) (by simp) (by simp) (by simp)
theorem Own.alloc {u : World} {gr gc gm : Nat} {s : St} (h : Own u gr gc gm s) (o : Obj) : Own (u.alloc o) gr gc gm s := h.fr (Fr.alloc _ _)
theorem Own.drew {u : World} {gr gc gm : Nat} {s : St} (h : Own u gr gc gm s) : Own u.drew gr gc gm s := h.but (L := []) (But.refl _ _).drew (by simp) (by simp) (by simp)
theorem Own.drewN {u : World} {gr gc gm : Nat} {s : St} (h : Own u gr gc gm s) (n : Nat) : Own (u.drewN n) gr gc gm s := h.but (L := []) ((But.refl _ _).drewN n) (by simp) (by simp) (by simp)
theorem Own.pc {u : World} {gr gc gm : Nat} {s : St} (h : Own u gr gc gm s) (pc : Int) : Own u gr gc gm { s with pc := pc } := ⟨h.R, h.C, h.M, h.rc, h.rm, h.cm⟩
/-- A list as the values of a row. -/
abbrev ivl (l : List Int) : Nat → Value := fun i => .int .i64 (l.getD i 0)
/-- A machine, as it is read somewhere. -/
structure SrcS (u : World) (s : St) (aR aC aM : Option Addr) : Prop where
  R : Src u s.R.length (ivl s.R) aR
  C : Src u s.C.length (ivl s.C) aC
  M : Src u s.M.length (ivl s.M) aM
theorem SrcS.fr {u u' : World} {s : St} {aR aC aM : Option Addr} (h : SrcS u s aR aC aM) (f : Fr u u') : SrcS u' s aR aC aM := ⟨h.R.fr f, h.C.fr f, h.M.fr f⟩
theorem Ro.src {u : World} {g : Nat} {xs : List Int} (h : Ro u g xs) : Src u xs.length (ivl xs) (some ⟨g, 0, none⟩) := fun _ => ⟨g, 0, rfl, h.lt, fun i hi => by rw [Nat.zero_add]; exact h.cel i hi⟩
theorem Own.src {u : World} {gr gc gm : Nat} {s : St} (h : Own u gr gc gm s) : SrcS u s (some ⟨gr, 0, none⟩) (some ⟨gc, 0, none⟩) (some ⟨gm, 0, none⟩) := ⟨h.R.src, h.C.src, h.M.src⟩
end Go.Proofs.Ytoacgjjpipdkjaa
