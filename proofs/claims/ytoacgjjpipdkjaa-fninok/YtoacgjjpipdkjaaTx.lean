/- Chapter 3: the table of names; numbers' texts; the name of an instruction. Chapter 3: the model's texts: a number, the names, an instruction. Small laws for regions told slot by slot; two words, two texts. Chapter 3: the model reads registers, numbers and names. Chapter 3: the model reads names, labels, words. Chapter 3: the model cuts a line into words. -/
import Derived.Deep.MidRow
import Derived.Laws.BytesArg
import Derived.BigRegion
import Derived.Test.YtoacgjjpipdkjaaTxt
import Derived.Test.YtoacgjjpipdkjaaCod
import Derived.Test.YtoacgjjpipdkjaaCodSd
import Derived.Test.YtoacgjjpipdkjaaDrawInst
import Derived.Test.YtoacgjjpipdkjaaRegion
namespace Go.Proofs.Ytoacgjjpipdkjaa
open Go.RowKit
set_option linter.unusedVariables false

abbrev bs (l : List UInt8) : ByteArray := ⟨l.toArray⟩
def nmK : List (List UInt8) := [[], [97, 100, 100, 105], [108, 117, 105], [108, 111, 97, 100], [115, 97, 118, 101], [101, 113], [108, 116], [106, 117, 109, 112], [99, 97, 108, 108], [109, 117, 108], [115, 119, 97, 112], [119, 97, 105, 116], [115, 121, 115], [98, 97, 99, 107], [103, 101, 116], [115, 101, 116]]
/-- The names, as the model lays them: by kinds in block g, by operations in block g + 1. -/
structure NamesAt (g : Nat) (u : World) : Prop where
  ks : ∀ i, i < 16 → u.cell? ⟨g, i, none⟩ = some (.string (bs (nmK.getD i [])))
  al : ∀ i, i < 8 → u.cell? ⟨g + 1, i, none⟩ = some (.string (bs (nmL.getD i [])))
theorem NamesAt.fr {g : Nat} {u u' : World} (h : NamesAt g u) (f : Fr u u') : NamesAt g u' :=
  ⟨fun i hi => by rw [f.cell (show g < u.heap.size from lt_of_cell (h.ks 0 (by decide)))]; exact h.ks i hi, fun i hi => by rw [f.cell (show g + 1 < u.heap.size from lt_of_cell (h.al 0 (by decide)))]; exact h.al i hi⟩
/-- Labels in memory. -/
def Labs (u : World) (v : Value) (ls : List (List UInt8 × Int)) : Prop :=
  ∃ ao cap, v = .slice ao ls.length cap ∧ (0 < ls.length → ∃ g, ao = some ⟨g, 0, none⟩ ∧ g < u.heap.size ∧ ∀ i, i < ls.length → u.cell? ⟨g, i * 2, none⟩ = some (.string (bs (ls.getD i ([], 0)).1)) ∧ u.cell? ⟨g, i * 2 + 1, none⟩ = some (.int .i64 (ls.getD i ([], 0)).2))
theorem Labs.fr {u u' : World} {v : Value} {ls : List (List UInt8 × Int)} (h : Labs u v ls) (f : Fr u u') : Labs u' v ls := by
  obtain ⟨ao, cap, e, h⟩ := h
  refine ⟨ao, cap, e, fun h0 => ?_⟩
  obtain ⟨g, e2, hg, hc⟩ := h h0
  exact ⟨g, e2, Nat.lt_of_lt_of_le hg f.size, fun i hi => by rw [f.cell (show g < u.heap.size from hg), f.cell (show g < u.heap.size from hg)]; exact hc i hi⟩
/-- A slice that the call made, of texts. -/
def OwnsT (B : Nat) (u : World) (v : Value) (L : List (List UInt8)) : Prop := u.ownsRow B 9 1 v L.length (L.map (fun x => Value.string (bs x)))
theorem OwnsT.fr {B : Nat} {u u' : World} {v : Value} {L : List (List UInt8)} (h : OwnsT B u v L) (f : Fr u u') : OwnsT B u' v L := by
  obtain ⟨h1, h2⟩ := h
  refine ⟨h1, ?_⟩
  rcases h2 with h2 | ⟨g, cap, cur, hv, hB, hg, h3⟩
  · exact .inl h2
  · refine .inr ⟨g, cap, cur, hv, hB, ?_, h3⟩
    have hlt : g < u.heap.size := by
      by_cases hh : g < u.heap.size
      · exact hh
      · rw [Array.getElem?_eq_none (by omega)] at hg; cases hg
    rw [f.block g hlt]; exact hg
/-- Words in memory, from some place of a block on. -/
def Wds (u : World) (v : Value) (ws : List (List UInt8)) : Prop :=
  ∃ ao cap, v = .slice ao ws.length cap ∧ ws.length ≤ cap ∧ cap ≤ maxLen ∧ (0 < ws.length → ∃ g off, ao = some ⟨g, off, none⟩ ∧ g < u.heap.size ∧ ∀ i, i < ws.length → u.cell? ⟨g, off + i, none⟩ = some (.string (bs (ws.getD i []))))
theorem Wds.fr {u u' : World} {v : Value} {ws : List (List UInt8)} (h : Wds u v ws) (f : Fr u u') : Wds u' v ws := by
  obtain ⟨ao, cap, e, h1, h2, h⟩ := h
  refine ⟨ao, cap, e, h1, h2, fun h0 => ?_⟩
  obtain ⟨g, off, e2, hg, hc⟩ := h h0
  exact ⟨g, off, e2, Nat.lt_of_lt_of_le hg f.size, fun i hi => by rw [f.cell (show g < u.heap.size from hg)]; exact hc i hi⟩
end Go.Proofs.Ytoacgjjpipdkjaa
