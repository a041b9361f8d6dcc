/- What is seen at a place: the model's l7Look, ChcLook. Rows copied by append; rows of lines that grow by append. -/
import Derived.Test.YtoacgjjpipdkjaaK2
import Derived.Test.YtoacgjjpipdkjaaNt
import Derived.Test.YtoacgjjpipdkjaaGs
import Derived.Test.YtoacgjjpipdkjaaPl5
namespace Go.Proofs.Ytoacgjjpipdkjaa
open Go.RowKit
set_option linter.unusedVariables false
set_option linter.unusedSimpArgs false
/-- A row of lines has just as much room as its slice says. -/
def CaL (u : World) (g n c : Nat) : Prop := ∃ cur, u.heap[g]? = some (.cells cur 59 (0, 0)) ∧ cur.size = c * 4 ∧ n ≤ c ∧ c ≤ maxLen
theorem CaL.but {L : List Nat} {u u' : World} {g n c : Nat} (h : CaL u g n c) (f : But L u u') (hn : g ∉ L) : CaL u' g n c := by
  obtain ⟨cur, h1, h2⟩ := h
  have hg : g < u.heap.size := by
    by_cases hh : g < u.heap.size
    · exact hh
    · rw [Array.getElem?_eq_none (by omega)] at h1; cases h1
  exact ⟨cur, by rw [f.block g hg hn]; exact h1, h2⟩
/-- A row of lines that the call owns, with the room that its slice says; or an empty one. -/
def RcL (B : Nat) (u : World) (X : List La) (ao : Option Addr) (c : Nat) : Prop := (X.length = 0 ∧ c = 0 ∧ ao = none) ∨ ∃ g, ao = some ⟨g, 0, none⟩ ∧ B ≤ g ∧ RoL u g X ∧ CaL u g X.length c ∧ 0 < X.length
theorem RcL.but {B : Nat} {u u' : World} {X : List La} {ao : Option Addr} {c : Nat} {L : List Nat} (h : RcL B u X ao c) (f : But L u u') (hL : ∀ g, ao = some ⟨g, 0, none⟩ → g ∉ L) : RcL B u' X ao c := by
  rcases h with h | ⟨g, e, hB, r, k, h0⟩
  · exact .inl h
  · exact .inr ⟨g, e, hB, r.but f (hL g e), k.but f (hL g e), h0⟩
theorem RcL.fr {B : Nat} {u u' : World} {X : List La} {ao : Option Addr} {c : Nat} (h : RcL B u X ao c) (f : Fr u u') : RcL B u' X ao c := h.but (L := []) (But.of f) (by simp)
end Go.Proofs.Ytoacgjjpipdkjaa
