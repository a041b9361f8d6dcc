/- The program's NamOk. The program's arrays of places, and its ring. The program's places: from rows into arrays, and back. -/
import Derived.Test.YtoacgjjpipdkjaaN0
import Derived.Test.YtoacgjjpipdkjaaRegion
import Derived.Test.YtoacgjjpipdkjaaCod
import Derived.Maps.AppendAt
import Derived.Test.YtoacgjjpipdkjaaGs
import Derived.Test.YtoacgjjpipdkjaaGu1
import Derived.Test.YtoacgjjpipdkjaaPl0
namespace Go.Proofs.Ytoacgjjpipdkjaa
open Go.RowKit
set_option linter.unusedVariables false
set_option linter.unusedSimpArgs false
/-- Arrays of places, in one block that may be written: what holds the registers; a ring: where its first is, how many; words; whether they are there. -/
structure Nb (u : World) (g : Nat) (M P : List Int) (f m : Nat) (V : List Int) (H : List Bool) : Prop where
  lt : g < u.heap.size
  Ml : M.length = 8
  Pl : P.length = 12
  Vl : V.length = 20
  Hl : H.length = 20
  f12 : f < 12
  m12 : m ≤ 12
  cM : ∀ i, i < 8 → u.cell? ⟨g, i, none⟩ = some (.int .i64 (M.getD i 0))
  cP : ∀ i, i < 12 → u.cell? ⟨g, 8 + i, none⟩ = some (.int .i64 (P.getD i 0))
  cf : u.cell? ⟨g, 20, none⟩ = some (.int .i64 f)
  cm : u.cell? ⟨g, 21, none⟩ = some (.int .i64 m)
  cV : ∀ i, i < 20 → u.cell? ⟨g, 22 + i, none⟩ = some (.int .i64 (V.getD i 0))
  cH : ∀ i, i < 20 → u.cell? ⟨g, 42 + i, none⟩ = some (.bool (H.getD i false))
  fz : ∀ i, i < 62 → u.frozen? ⟨g, i, none⟩ = false
theorem Nb.but {L : List Nat} {u u' : World} {g : Nat} {M P : List Int} {f m : Nat} {V : List Int} {H : List Bool} (h : Nb u g M P f m V H) (k : But L u u') (hn : g ∉ L) : Nb u' g M P f m V H :=
  ⟨Nat.lt_of_lt_of_le h.lt k.size, h.Ml, h.Pl, h.Vl, h.Hl, h.f12, h.m12, fun i hi => by rw [k.cell h.lt hn]; exact h.cM i hi, fun i hi => by rw [k.cell h.lt hn]; exact h.cP i hi, by rw [k.cell h.lt hn]; exact h.cf, by rw [k.cell h.lt hn]; exact h.cm,
   fun i hi => by rw [k.cell h.lt hn]; exact h.cV i hi, fun i hi => by rw [k.cell h.lt hn]; exact h.cH i hi, fun i hi => by rw [k.frozen h.lt hn]; exact h.fz i hi⟩
theorem Nb.fr {u u' : World} {g : Nat} {M P : List Int} {f m : Nat} {V : List Int} {H : List Bool} (h : Nb u g M P f m V H) (k : Fr u u') : Nb u' g M P f m V H := h.but (L := []) (But.of k) (by simp)
theorem oth {u : World} {g i j : Nat} {v : Value} (h : i ≠ j) : (u.setCell ⟨g, j, none⟩ v).cell? ⟨g, i, none⟩ = u.cell? ⟨g, i, none⟩ := World.cell?_setCell_other _ _ _ _ (by simp; try omega)
theorem Nb.setP {u : World} {g : Nat} {M P : List Int} {f m : Nat} {V : List Int} {H : List Bool} (h : Nb u g M P f m V H) (k : Nat) (v : Int) (hk : k < 12) : Nb (u.setCell ⟨g, 8 + k, none⟩ (.int .i64 v)) g M (P.set k v) f m V H := by
  exact ⟨by have := h.lt; simpa [World.setCell] using this, h.Ml, by rw [List.length_set]; exact h.Pl, h.Vl, h.Hl, h.f12, h.m12, fun i hi => by rw [oth (by omega)]; exact h.cM i hi, fun i hi => by
    rw [getD_set]
    by_cases e : k = i
    · subst e
      rw [World.cell?_setCell_same _ _ _ (h.cP k hk), if_pos ⟨rfl, by rw [h.Pl]; exact hk⟩]
    · rw [oth (by omega), if_neg (fun h => e h.1)]
      exact h.cP i hi, by rw [oth (by omega)]; exact h.cf, by rw [oth (by omega)]; exact h.cm, fun i hi => by rw [oth (by omega)]; exact h.cV i hi, fun i hi => by rw [oth (by omega)]; exact h.cH i hi, fun i hi => by rw [World.frozen?_setCell]; exact h.fz i hi⟩
section
variable {P : Program} {Q : Exit → Act → World → Prop}
end
end Go.Proofs.Ytoacgjjpipdkjaa
