/- Slices of values: copied, compared, marked, held. -/
import Derived.Deep.QuietTactic
import Derived.BigQuiet
import Derived.OwnWalk
import Derived.Test.YtoacgjjpipdkjaaTx
namespace Go.Proofs.Ytoacgjjpipdkjaa
open Go.RowKit
set_option linter.unusedVariables false
set_option linter.unusedSimpArgs false

/-- n values, told by c, lie at ao, in a block from B on. -/
structure Vc (B : Nat) (u : World) (n : Nat) (c : Nat → Value) (ao : Option Addr) : Prop where
  at0 : 0 < n → ∃ g, ao = some ⟨g, 0, none⟩ ∧ B ≤ g ∧ g < u.heap.size ∧ (∀ i, i < n → u.cell? ⟨g, i, none⟩ = some (c i)) ∧ ∀ i, i < n → u.frozen? ⟨g, i, none⟩ = false
/-- n values, told by c, are read at ao. -/
def Src (u : World) (n : Nat) (c : Nat → Value) (ao : Option Addr) : Prop :=
  0 < n → ∃ g o, ao = some ⟨g, o, none⟩ ∧ g < u.heap.size ∧ ∀ i, i < n → u.cell? ⟨g, o + i, none⟩ = some (c i)
theorem Vc.src {B : Nat} {u : World} {n : Nat} {c : Nat → Value} {ao : Option Addr} (h : Vc B u n c ao) : Src u n c ao := fun h0 => by
  obtain ⟨g, e, _, hl, hc, _⟩ := h.at0 h0
  exact ⟨g, 0, e, hl, fun i hi => by rw [Nat.zero_add]; exact hc i hi⟩
theorem Src.fr {u u' : World} {n : Nat} {c : Nat → Value} {ao : Option Addr} (h : Src u n c ao) (f : Fr u u') : Src u' n c ao := fun h0 => by
  obtain ⟨g, o, e, hl, hc⟩ := h h0
  exact ⟨g, o, e, Nat.lt_of_lt_of_le hl f.size, fun i hi => by rw [f.cell hl]; exact hc i hi⟩
theorem Vc.nil (B : Nat) (u : World) (c : Nat → Value) (ao : Option Addr) : Vc B u 0 c ao := ⟨fun h => absurd h (Nat.lt_irrefl 0)⟩
theorem Vc.fr {B : Nat} {u u' : World} {n : Nat} {c : Nat → Value} {ao : Option Addr} (h : Vc B u n c ao) (f : Fr u u') : Vc B u' n c ao := by
  refine ⟨fun h0 => ?_⟩
  obtain ⟨g, e, hB, hlt, hc, hf⟩ := h.at0 h0
  exact ⟨g, e, hB, Nat.lt_of_lt_of_le hlt f.size, fun i hi => by rw [f.cell (show g < u.heap.size by omega)]; exact hc i hi, fun i hi => by rw [f.frozen (show g < u.heap.size by omega)]; exact hf i hi⟩
/-- What lies below B' stays where only what lies from B' on turned. -/
theorem Vc.low {B B' : Nat} {u u' : World} {n : Nat} {c : Nat → Value} {ao : Option Addr} (h : Vc B u n c ao) (f : Below B' u u') (hlt : 0 < n → ∀ g, ao = some ⟨g, 0, none⟩ → g < B') : Vc B u' n c ao := by
  refine ⟨fun h0 => ?_⟩
  obtain ⟨g, e, hB, hl, hc, hf⟩ := h.at0 h0
  have := f.size
  have hg := hlt h0 g e
  exact ⟨g, e, hB, by omega, fun i hi => by rw [f.cell (show g < B' by omega)]; exact hc i hi, fun i hi => by rw [f.frozen (show g < B' by omega)]; exact hf i hi⟩
theorem Vc.mono {B B' : Nat} {u : World} {n : Nat} {c : Nat → Value} {ao : Option Addr} (h : Vc B u n c ao) (hB : B' ≤ B) : Vc B' u n c ao := by
  refine ⟨fun h0 => ?_⟩
  obtain ⟨g, e, h1, r⟩ := h.at0 h0
  exact ⟨g, e, by omega, r⟩
theorem fr_row {u u' : World} (f : Fr u u') (row : Option Nat) : u.grownBy u' row := ⟨f.os, f.tape, f.output, f.size, fun k hk _ => f.block k hk⟩
/-- The row behind p stores. -/
structure Put (g n : Nat) (c c' : Nat → Value) (u : World) (p : Nat) (wr : World) : Prop where
  grw : u.grownBy wr (some g)
  cel : ∀ i, i < n → wr.cell? ⟨g, i, none⟩ = some (if i < p then c' i else c i)
  fro : ∀ i, i < n → wr.frozen? ⟨g, i, none⟩ = false
theorem Put.next {g n : Nat} {c c' : Nat → Value} {u wr : World} {p : Nat} (h : Put g n c c' u p wr) (hp : p < n) (z : Value) (hz : z = c' p) : Put g n c c' u (p + 1) (wr.setCell ⟨g, p, none⟩ z) := by
  refine ⟨grown_trans h.grw (grown_set _ _ _ _), fun i hi => ?_, fun i hi => by rw [World.frozen?_setCell]; exact h.fro i hi⟩
  by_cases e : i = p
  · subst e
    rw [World.cell?_setCell_same _ _ _ (h.cel i hi), hz]
    simp
  · rw [World.cell?_setCell_other _ _ _ _ (by simp; try omega), h.cel i hi]
    have e1 : i < p ↔ i < p + 1 := by omega
    simp only [e1]
theorem Put.fr {g n : Nat} {c c' : Nat → Value} {u wr wr' : World} {p : Nat} (h : Put g n c c' u p wr) (f : Fr wr wr') (hg : g < wr.heap.size) : Put g n c c' u p wr' :=
  ⟨grown_trans h.grw (fr_row f _), fun i hi => by rw [f.cell (show g < wr.heap.size from hg)]; exact h.cel i hi, fun i hi => by rw [f.frozen (show g < wr.heap.size from hg)]; exact h.fro i hi⟩
end Go.Proofs.Ytoacgjjpipdkjaa
