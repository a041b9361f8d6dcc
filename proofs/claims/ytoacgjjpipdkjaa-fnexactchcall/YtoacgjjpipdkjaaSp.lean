/- Chapter 3: the model reads registers, numbers and names. Chapter 3: the model reads names, labels, words. Chapter 3: the model cuts a line into words. -/
import Derived.BigRegion
import Derived.Test.YtoacgjjpipdkjaaTx
import Derived.Test.YtoacgjjpipdkjaaTxt
namespace Go.Proofs.Ytoacgjjpipdkjaa
open Go.RowKit
set_option linter.unusedVariables false

/-- Labels in memory. -/
def Labs (u : World) (v : Value) (ls : List (List UInt8 × Int)) : Prop :=
  ∃ ao cap, v = .slice ao ls.length cap ∧ (0 < ls.length → ∃ g, ao = some ⟨g, 0, none⟩ ∧ g < u.heap.size ∧ ∀ i, i < ls.length → u.cell? ⟨g, i * 2, none⟩ = some (.string (bs (ls.getD i ([], 0)).1)) ∧ u.cell? ⟨g, i * 2 + 1, none⟩ = some (.int .i64 (ls.getD i ([], 0)).2))
theorem Labs.fr {u u' : World} {v : Value} {ls : List (List UInt8 × Int)} (h : Labs u v ls) (f : Fr u u') : Labs u' v ls := by
  obtain ⟨ao, cap, e, h⟩ := h
  refine ⟨ao, cap, e, fun h0 => ?_⟩
  obtain ⟨g, e2, hg, hc⟩ := h h0
  exact ⟨g, e2, Nat.lt_of_lt_of_le hg f.size, fun i hi => by rw [f.cell (show g < u.heap.size from hg), f.cell (show g < u.heap.size from hg)]; exact hc i hi⟩
/-- A slice that the call made, of texts. -/
def OwnsT (B : Nat) (u : World) (v : Value) (L : List (List UInt8)) : Prop := u.ownsRow B 9 1 v L.length (L.map (fun x => Value.string (bs x)))
theorem OwnsT.fr {B : Nat} {u u' : World} {v : Value} {L : List (List UInt8)} (h : OwnsT B u v L) (f : Fr u u') : OwnsT B u' v L := by
  obtain ⟨h1, h2⟩ := h
  refine ⟨h1, ?_⟩
  rcases h2 with h2 | ⟨g, cap, cur, hv, hB, hg, h3⟩
  · exact .inl h2
  · refine .inr ⟨g, cap, cur, hv, hB, ?_, h3⟩
    have hlt : g < u.heap.size := by
      by_cases hh : g < u.heap.size
      · exact hh
      · rw [Array.getElem?_eq_none (by omega)] at hg; cases hg
    rw [f.block g hlt]; exact hg
/-- Words in memory, from some place of a block on. -/
def Wds (u : World) (v : Value) (ws : List (List UInt8)) : Prop :=
  ∃ ao cap, v = .slice ao ws.length cap ∧ ws.length ≤ cap ∧ cap ≤ maxLen ∧ (0 < ws.length → ∃ g off, ao = some ⟨g, off, none⟩ ∧ g < u.heap.size ∧ ∀ i, i < ws.length → u.cell? ⟨g, off + i, none⟩ = some (.string (bs (ws.getD i []))))
theorem Wds.fr {u u' : World} {v : Value} {ws : List (List UInt8)} (h : Wds u v ws) (f : Fr u u') : Wds u' v ws := by
  obtain ⟨ao, cap, e, h1, h2, h⟩ := h
  refine ⟨ao, cap, e, h1, h2, fun h0 => ?_⟩
  obtain ⟨g, off, e2, hg, hc⟩ := h h0
  exact ⟨g, off, e2, Nat.lt_of_lt_of_le hg f.size, fun i hi => by rw [f.cell (show g < u.heap.size from hg)]; exact hc i hi⟩
end Go.Proofs.Ytoacgjjpipdkjaa
