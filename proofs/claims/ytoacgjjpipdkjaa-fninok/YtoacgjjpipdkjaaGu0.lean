/- Guessers, as plain data: what is ok, what is learned, guessed and seen; slots in memory, four cells each. -/
import Derived.Deep.MidRow
import Derived.Test.YtoacgjjpipdkjaaPl0
namespace Go.Proofs.Ytoacgjjpipdkjaa
open Go.RowKit
set_option linter.unusedVariables false
set_option linter.unusedSimpArgs false
/-- A slot. -/
structure Sl where
  u : Bool
  p : Int
  t : Int
  s : Int
/-- A guesser: its slots, its calls. -/
structure Gu where
  S : List Sl
  C : List Int
abbrev sl0 : Sl := ⟨false, 0, 0, 0⟩
def slc (x : Sl) : List Value := [.bool x.u, .int .i64 x.p, .int .i64 x.t, .int .i64 x.s]
def cls (S : List Sl) : List Value := S.flatMap slc
/-- Slots are read at ao. -/
def Src4 (u : World) (S : List Sl) (ao : Option Addr) : Prop := 0 < S.length → ∃ g o, ao = some ⟨g, o, none⟩ ∧ g < u.heap.size ∧ u.rangeAt g o (cls S)
/-- Slots lie at ao, in a block from B on, and may be written. -/
structure Vc4 (B : Nat) (u : World) (S : List Sl) (ao : Option Addr) : Prop where
  at0 : 0 < S.length → ∃ g, ao = some ⟨g, 0, none⟩ ∧ B ≤ g ∧ g < u.heap.size ∧ u.rangeAt g 0 (cls S) ∧ u.there g 0 (4 * S.length)
theorem range_fr {u u' : World} {g o : Nat} {cs : List Value} (h : u.rangeAt g o cs) (f : Fr u u') (hg : g < u.heap.size) : u'.rangeAt g o cs := fun j v hv => by rw [f.cell hg]; exact h j v hv
theorem range_but {L : List Nat} {u u' : World} {g o : Nat} {cs : List Value} (h : u.rangeAt g o cs) (f : But L u u') (hg : g < u.heap.size) (hn : g ∉ L) : u'.rangeAt g o cs := fun j v hv => by rw [f.cell hg hn]; exact h j v hv
theorem there_but {L : List Nat} {u u' : World} {g o n : Nat} (h : u.there g o n) (f : But L u u') (hg : g < u.heap.size) (hn : g ∉ L) : u'.there g o n := fun j hj => by rw [f.cell hg hn, f.frozen hg hn]; exact h j hj
theorem Src4.fr {u u' : World} {S : List Sl} {ao : Option Addr} (h : Src4 u S ao) (f : Fr u u') : Src4 u' S ao := fun h0 => by
  obtain ⟨g, o, e, hl, hc⟩ := h h0
  exact ⟨g, o, e, Nat.lt_of_lt_of_le hl f.size, range_fr hc f hl⟩
theorem Vc4.src {B : Nat} {u : World} {S : List Sl} {ao : Option Addr} (h : Vc4 B u S ao) : Src4 u S ao := fun h0 => by
  obtain ⟨g, e, _, hl, hc, _⟩ := h.at0 h0
  exact ⟨g, 0, e, hl, hc⟩
theorem Vc4.but {B : Nat} {L : List Nat} {u u' : World} {S : List Sl} {ao : Option Addr} (h : Vc4 B u S ao) (f : But L u u') (hn : ∀ b, ao = some b → b.block ∉ L) : Vc4 B u' S ao := by
  refine ⟨fun h0 => ?_⟩
  obtain ⟨g, e, hB, hl, hc, ht⟩ := h.at0 h0
  have hg := hn _ e
  exact ⟨g, e, hB, Nat.lt_of_lt_of_le hl f.size, range_but hc f hl hg, there_but ht f hl hg⟩
theorem Vc4.fr {B : Nat} {u u' : World} {S : List Sl} {ao : Option Addr} (h : Vc4 B u S ao) (f : Fr u u') : Vc4 B u' S ao := h.but (L := []) (But.of f) (by simp)
theorem Vc4.mono {B B' : Nat} {u : World} {S : List Sl} {ao : Option Addr} (h : Vc4 B u S ao) (hB : B' ≤ B) : Vc4 B' u S ao := by
  refine ⟨fun h0 => ?_⟩
  obtain ⟨g, e, h1, r⟩ := h.at0 h0
  exact ⟨g, e, by omega, r⟩
theorem Vc4.nil (B : Nat) (u : World) (ao : Option Addr) : Vc4 B u [] ao := ⟨fun h => absurd h (by simp)⟩
end Go.Proofs.Ytoacgjjpipdkjaa
