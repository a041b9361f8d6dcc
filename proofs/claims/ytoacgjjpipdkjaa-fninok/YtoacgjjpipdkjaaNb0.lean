/- Rows of bools: in memory, copied, compared, marked, held. Several rows of values, in blocks apart from each other. No program is named here. One field of a box of four turns. -/
import Derived.Test.YtoacgjjpipdkjaaGh3
import Derived.Test.YtoacgjjpipdkjaaPl0
namespace Go.Proofs.Ytoacgjjpipdkjaa
open Go.RowKit
set_option linter.unusedVariables false
set_option linter.unusedSimpArgs false
theorem getD_setB {l : List Bool} {i j : Nat} {v : Bool} : (l.set i v).getD j false = if i = j ∧ j < l.length then v else l.getD j false := by
  simp only [List.getD_eq_getElem?_getD, List.getElem?_set]
  by_cases h : i = j
  · subst h
    by_cases h2 : i < l.length
    · simp [h2]
    · simp [h2]
  · simp [h]
/-- A list as the values of a row. -/
abbrev bvl (l : List Bool) : Nat → Value := fun i => .bool (l.getD i false)
/-- Bools lie in block g, and may be written. -/
structure RoB (u : World) (g : Nat) (xs : List Bool) : Prop where
  lt : g < u.heap.size
  cel : ∀ i, i < xs.length → u.cell? ⟨g, i, none⟩ = some (.bool (xs.getD i false))
  fro : ∀ i, i < xs.length → u.frozen? ⟨g, i, none⟩ = false
theorem RoB.but {L : List Nat} {u u' : World} {g : Nat} {xs : List Bool} (h : RoB u g xs) (f : But L u u') (hn : g ∉ L) : RoB u' g xs :=
  ⟨Nat.lt_of_lt_of_le h.lt f.size, fun i hi => by rw [f.cell h.lt hn]; exact h.cel i hi, fun i hi => by rw [f.frozen h.lt hn]; exact h.fro i hi⟩
theorem RoB.fr {u u' : World} {g : Nat} {xs : List Bool} (h : RoB u g xs) (f : Fr u u') : RoB u' g xs := h.but (L := []) (But.of f) (by simp)
theorem RoB.other {u : World} {g : Nat} {xs : List Bool} (h : RoB u g xs) (Z j : Nat) (v : Value) (hz : ¬ Z = g) : RoB (u.setCell ⟨Z, j, none⟩ v) g xs :=
  h.but (L := [Z]) ((But.refl _ _).set Z j v (.inl (by simp))) (by simp; try omega)
theorem RoB.set {u : World} {g : Nat} {xs : List Bool} (h : RoB u g xs) (i : Nat) (v : Bool) (hi : i < xs.length) : RoB (u.setCell ⟨g, i, none⟩ (.bool v)) g (xs.set i v) := by
  refine ⟨by have := h.lt; simpa [World.setCell] using this, fun j hj => ?_, fun j hj => by rw [World.frozen?_setCell]; exact h.fro j (by simpa using hj)⟩
  rw [List.length_set] at hj
  rw [getD_setB]
  by_cases e : i = j
  · subst e
    rw [World.cell?_setCell_same _ _ _ (h.cel i hi), if_pos ⟨rfl, hi⟩]
  · rw [World.cell?_setCell_other _ _ _ _ (by simp; try omega), if_neg (fun h => e h.1)]
    exact h.cel j hj
theorem RoB.alloc {u : World} {g : Nat} {xs : List Bool} (h : RoB u g xs) (o : Obj) : RoB (u.alloc o) g xs := h.fr (Fr.alloc _ _)
theorem RoB.drew {u : World} {g : Nat} {xs : List Bool} (h : RoB u g xs) : RoB u.drew g xs := ⟨h.lt, h.cel, h.fro⟩
theorem RoB.src {u : World} {g : Nat} {xs : List Bool} (h : RoB u g xs) : Src u xs.length (bvl xs) (some ⟨g, 0, none⟩) := fun _ => ⟨g, 0, rfl, h.lt, fun i hi => by rw [Nat.zero_add]; exact h.cel i hi⟩
theorem RoB.vc {B : Nat} {u : World} {g : Nat} {xs : List Bool} (h : RoB u g xs) (hB : B ≤ g) : Vc B u xs.length (bvl xs) (some ⟨g, 0, none⟩) := ⟨fun _ => ⟨g, rfl, hB, h.lt, h.cel, h.fro⟩⟩
/-- A row: how many values, which, where. -/
structure Rw where
  n : Nat
  c : Nat → Value
  ao : Option Addr
def Rw.b (r : Rw) : List Nat := bkS r.n r.ao
def blkR (rs : List Rw) : List Nat := rs.flatMap Rw.b
/-- Rows lie in blocks from B on, apart, and may be written. -/
structure Rws (B : Nat) (u : World) (rs : List Rw) : Prop where
  all : ∀ r, r ∈ rs → Vo B u r.n r.c r.ao
  ap : (blkR rs).Nodup
theorem Rws.but {B : Nat} {L : List Nat} {u u' : World} {rs : List Rw} (h : Rws B u rs) (f : But L u u') (hn : ∀ k, k ∈ blkR rs → k ∉ L) : Rws B u' rs :=
  ⟨fun r hr => (h.all r hr).but' f (fun k hk => hn k (List.mem_flatMap.2 ⟨r, hr, hk⟩)), h.ap⟩
theorem Rws.fr {B : Nat} {u u' : World} {rs : List Rw} (h : Rws B u rs) (f : Fr u u') : Rws B u' rs := h.but (L := []) (But.of f) (fun k _ => by simp)
theorem Rws.mono {B B' : Nat} {u : World} {rs : List Rw} (h : Rws B u rs) (hB : B' ≤ B) : Rws B' u rs := ⟨fun r hr => (h.all r hr).mono hB, h.ap⟩
theorem Rws.nil (B : Nat) (u : World) : Rws B u [] := ⟨fun r h => (by cases h), List.nodup_nil⟩
theorem blkR_cons (r : Rw) (rs : List Rw) : blkR (r :: rs) = r.b ++ blkR rs := rfl
theorem blkR_app (a b : List Rw) : blkR (a ++ b) = blkR a ++ blkR b := List.flatMap_append
/-- A row more, in a block that none of the others has. -/
theorem Rws.cons {B : Nat} {u : World} {r : Rw} {rs : List Rw} (h : Rws B u rs) (hr : Vo B u r.n r.c r.ao) (hn : ∀ k, k ∈ r.b → k ∉ blkR rs) : Rws B u (r :: rs) := by
  refine ⟨fun q hq => ?_, ?_⟩
  · rcases List.mem_cons.1 hq with rfl | hq
    · exact hr
    · exact h.all q hq
  · rw [blkR_cons, List.nodup_append]
    refine ⟨?_, h.ap, fun a ha b hb e => hn a ha (e ▸ hb)⟩
    unfold Rw.b bkS
    split
    · cases r.ao <;> simp
    · simp
/-- The blocks of two different rows differ. -/
theorem Rws.apart {B : Nat} {u : World} {a b : List Rw} {r q : Rw} (h : Rws B u (a ++ r :: b)) (hq : q ∈ a ∨ q ∈ b) : ∀ k, k ∈ q.b → k ∉ r.b := fun k hk hr => by
  have hd := h.ap
  rw [blkR_app, blkR_cons, List.nodup_append] at hd
  obtain ⟨_, h2, h3⟩ := hd
  rw [List.nodup_append] at h2
  rcases hq with hq | hq
  · exact h3 k (List.mem_flatMap.2 ⟨q, hq, hk⟩) k (List.mem_append_left _ hr) rfl
  · exact h2.2.2 k hr k (List.mem_flatMap.2 ⟨q, hq, hk⟩) rfl
/-- One row's values turn; the others stand. -/
theorem Rws.turn {B : Nat} {u u' : World} {a b : List Rw} {r : Rw} {c' : Nat → Value} (h : Rws B u (a ++ r :: b)) (f : But r.b u u') (hv : Vo B u' r.n c' r.ao) : Rws B u' (a ++ ⟨r.n, c', r.ao⟩ :: b) := by
  refine ⟨fun q hq => ?_, ?_⟩
  · rcases List.mem_append.1 hq with hq | hq
    · exact (h.all q (List.mem_append_left _ hq)).but' f (h.apart (.inl hq))
    · rcases List.mem_cons.1 hq with rfl | hq
      · exact hv
      · exact (h.all q (List.mem_append_right _ (List.mem_cons_of_mem _ hq))).but' f (h.apart (.inr hq))
  · have := h.ap
    rw [blkR_app, blkR_cons] at this ⊢
    exact this
end Go.Proofs.Ytoacgjjpipdkjaa
