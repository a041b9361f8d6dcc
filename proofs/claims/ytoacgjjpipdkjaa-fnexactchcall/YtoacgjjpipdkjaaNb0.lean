/- Rows of bools: in memory, copied, compared, marked, held. -/
import Derived.Test.YtoacgjjpipdkjaaVo
namespace Go.Proofs.Ytoacgjjpipdkjaa
open Go.RowKit
set_option linter.unusedVariables false
set_option linter.unusedSimpArgs false
theorem getD_setB {l : List Bool} {i j : Nat} {v : Bool} : (l.set i v).getD j false = if i = j ∧ j < l.length then v else l.getD j false := by
  simp only [List.getD_eq_getElem?_getD, List.getElem?_set]
  by_cases h : i = j
  · subst h
    by_cases h2 : i < l.length
    · simp [h2]
    · simp [h2]
  · simp [h]
/-- A list as the values of a row. -/
abbrev bvl (l : List Bool) : Nat → Value := fun i => .bool (l.getD i false)
/-- Bools lie in block g, and may be written. -/
structure RoB (u : World) (g : Nat) (xs : List Bool) : Prop where
  lt : g < u.heap.size
  cel : ∀ i, i < xs.length → u.cell? ⟨g, i, none⟩ = some (.bool (xs.getD i false))
  fro : ∀ i, i < xs.length → u.frozen? ⟨g, i, none⟩ = false
theorem RoB.but {L : List Nat} {u u' : World} {g : Nat} {xs : List Bool} (h : RoB u g xs) (f : But L u u') (hn : g ∉ L) : RoB u' g xs :=
  ⟨Nat.lt_of_lt_of_le h.lt f.size, fun i hi => by rw [f.cell h.lt hn]; exact h.cel i hi, fun i hi => by rw [f.frozen h.lt hn]; exact h.fro i hi⟩
theorem RoB.fr {u u' : World} {g : Nat} {xs : List Bool} (h : RoB u g xs) (f : Fr u u') : RoB u' g xs := h.but (L := []) (But.of f) (by simp)
theorem RoB.other {u : World} {g : Nat} {xs : List Bool} (h : RoB u g xs) (Z j : Nat) (v : Value) (hz : ¬ Z = g) : RoB (u.setCell ⟨Z, j, none⟩ v) g xs :=
  h.but (L := [Z]) ((But.refl _ _).set Z j v (.inl (by simp))) (by simp; try omega)
theorem RoB.set {u : World} {g : Nat} {xs : List Bool} (h : RoB u g xs) (i : Nat) (v : Bool) (hi : i < xs.length) : RoB (u.setCell ⟨g, i, none⟩ (.bool v)) g (xs.set i v) := by
  refine ⟨by have := h.lt; simpa [World.setCell] using this, fun j hj => ?_, fun j hj => by rw [World.frozen?_setCell]; exact h.fro j (by simpa using hj)⟩
  rw [List.length_set] at hj
  rw [getD_setB]
  by_cases e : i = j
  · subst e
    rw [World.cell?_setCell_same _ _ _ (h.cel i hi), if_pos ⟨rfl, hi⟩]
  · rw [World.cell?_setCell_other _ _ _ _ (by simp; try omega), if_neg (fun h => e h.1)]
    exact h.cel j hj
theorem RoB.alloc {u : World} {g : Nat} {xs : List Bool} (h : RoB u g xs) (o : Obj) : RoB (u.alloc o) g xs := h.fr (Fr.alloc _ _)
theorem RoB.drew {u : World} {g : Nat} {xs : List Bool} (h : RoB u g xs) : RoB u.drew g xs := ⟨h.lt, h.cel, h.fro⟩
theorem RoB.drewN {u : World} {g : Nat} {xs : List Bool} (h : RoB u g xs) (n : Nat) : RoB (u.drewN n) g xs := h.but (L := []) ((But.refl _ _).drewN n) (by simp)
theorem RoB.src {u : World} {g : Nat} {xs : List Bool} (h : RoB u g xs) : Src u xs.length (bvl xs) (some ⟨g, 0, none⟩) := fun _ => ⟨g, 0, rfl, h.lt, fun i hi => by rw [Nat.zero_add]; exact h.cel i hi⟩
theorem RoB.vc {B : Nat} {u : World} {g : Nat} {xs : List Bool} (h : RoB u g xs) (hB : B ≤ g) : Vc B u xs.length (bvl xs) (some ⟨g, 0, none⟩) := ⟨fun _ => ⟨g, rfl, hB, h.lt, h.cel, h.fro⟩⟩
end Go.Proofs.Ytoacgjjpipdkjaa
