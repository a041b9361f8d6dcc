/- Rows of rows of three numbers. -/
import Derived.Test.YtoacgjjpipdkjaaN12
namespace Go.Proofs.Ytoacgjjpipdkjaa
open Go.RowKit
set_option linter.unusedVariables false
set_option linter.unusedSimpArgs false
/-- A row of three, as a value. -/
def tk (g : Nat) : Value := .slice (some ⟨g, 0, none⟩) 3 3
structure RoS (u : World) (g : Nat) (xs : List Nat) : Prop where
  lt : g < u.heap.size
  cel : ∀ i, i < xs.length → u.cell? ⟨g, i, none⟩ = some (tk (xs.getD i 0))
  fro : ∀ i, i < xs.length → u.frozen? ⟨g, i, none⟩ = false
theorem RoS.but {L : List Nat} {u u' : World} {g : Nat} {xs : List Nat} (h : RoS u g xs) (f : But L u u') (hn : g ∉ L) : RoS u' g xs :=
  ⟨Nat.lt_of_lt_of_le h.lt f.size, fun i hi => by rw [f.cell h.lt hn]; exact h.cel i hi, fun i hi => by rw [f.frozen h.lt hn]; exact h.fro i hi⟩
theorem RoS.fr {u u' : World} {g : Nat} {xs : List Nat} (h : RoS u g xs) (f : Fr u u') : RoS u' g xs := h.but (L := []) (But.of f) (by simp)
theorem RoS.alloc {u : World} {g : Nat} {xs : List Nat} (h : RoS u g xs) (o : Obj) : RoS (u.alloc o) g xs := h.fr (Fr.alloc _ _)
theorem RoS.drew {u : World} {g : Nat} {xs : List Nat} (h : RoS u g xs) : RoS u.drew g xs := ⟨h.lt, h.cel, h.fro⟩
def CaS (u : World) (g n c : Nat) : Prop := ∃ cur, u.heap[g]? = some (.cells cur 22 (0, 0)) ∧ cur.size = c ∧ n ≤ c ∧ c ≤ maxLen
theorem CaS.but {L : List Nat} {u u' : World} {g n c : Nat} (h : CaS u g n c) (f : But L u u') (hn : g ∉ L) : CaS u' g n c := by
  obtain ⟨cur, h1, h2⟩ := h
  have hg : g < u.heap.size := by
    by_cases hh : g < u.heap.size
    · exact hh
    · rw [Array.getElem?_eq_none (by omega)] at h1; cases h1
  exact ⟨cur, by rw [f.block g hg hn]; exact h1, h2⟩
theorem CaS.set {u : World} {g n c : Nat} (h : CaS u g n c) (Z j : Nat) (v : Value) : CaS (u.setCell ⟨Z, j, none⟩ v) g n c := by
  obtain ⟨cur, h1, h2, h3⟩ := h
  by_cases e : Z = g
  · subst e
    refine ⟨cur.setIfInBounds j v, ?_, by simpa using h2, h3⟩
    simp [World.setCell, Array.getElem?_modify, h1]
  · exact ⟨cur, by rw [Below.heap_setCell _ _ _ _ (by show g ≠ Z; omega)]; exact h1, h2, h3⟩
section
variable {P : Program} {Q : Exit → Act → World → Prop}
end
def RcS (B : Nat) (u : World) (xs : List Nat) (ao : Option Addr) (c : Nat) : Prop := (xs.length = 0 ∧ c = 0) ∨ ∃ g, ao = some ⟨g, 0, none⟩ ∧ B ≤ g ∧ RoS u g xs ∧ CaS u g xs.length c ∧ 0 < xs.length
theorem RcS.low {B : Nat} {u u' : World} {xs : List Nat} {ao : Option Addr} {c : Nat} {L : List Nat} (h : RcS B u xs ao c) (f : But L u u') (hn : ∀ g, ao = some ⟨g, 0, none⟩ → 0 < xs.length → g ∉ L) : RcS B u' xs ao c := by
  rcases h with h | ⟨g, e, hB, r, k, h0⟩
  · exact .inl h
  · exact .inr ⟨g, e, hB, r.but f (hn g e h0), k.but f (hn g e h0), h0⟩
/-- What was taken, in rows of three of its own: each row's block with what it holds. -/
structure Tk (B : Nat) (u : World) (L : List (Nat × List Int)) (ao : Option Addr) (c : Nat) : Prop where
  row : RcS B u (L.map (·.1)) ao c
  ele : ∀ q, q ∈ L → B ≤ q.1 ∧ Ro u q.1 q.2 ∧ q.2.length = 3
  ap : ∀ q, q ∈ L → ∀ g, ao = some ⟨g, 0, none⟩ → q.1 ≠ g
theorem Tk.low {B : Nat} {u u' : World} {L : List (Nat × List Int)} {ao : Option Addr} {c : Nat} {X : List Nat} (h : Tk B u L ao c) (f : But X u u') (hX : ∀ k, k ∈ X → k < B) : Tk B u' L ao c := by
  refine ⟨h.row.low f (fun g e h0 hm => ?_), fun q hq => ⟨(h.ele q hq).1, (h.ele q hq).2.1.but f (fun hm => by have := hX _ hm; have := (h.ele q hq).1; omega), (h.ele q hq).2.2⟩, h.ap⟩
  rcases h.row with ⟨hz, _⟩ | ⟨g', e', hB, _⟩
  · omega
  · rw [e] at e'
    cases e'
    have := hX _ hm
    omega
theorem Tk.fr {B : Nat} {u u' : World} {L : List (Nat × List Int)} {ao : Option Addr} {c : Nat} (h : Tk B u L ao c) (f : Fr u u') : Tk B u' L ao c := h.low (X := []) (But.of f) (by simp)
theorem Tk.nil (B : Nat) (u : World) (ao : Option Addr) : Tk B u [] ao 0 := ⟨.inl ⟨rfl, rfl⟩, by simp, by simp⟩
theorem Tk.lt {B : Nat} {u : World} {L : List (Nat × List Int)} {ao : Option Addr} {c : Nat} (h : Tk B u L ao c) : ∀ q, q ∈ L → q.1 < u.heap.size := fun q hq => (h.ele q hq).2.1.lt
end Go.Proofs.Ytoacgjjpipdkjaa
