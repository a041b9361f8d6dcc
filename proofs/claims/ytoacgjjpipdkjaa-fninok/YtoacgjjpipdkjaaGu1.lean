/- What is ok, of guessers: the program's and the model's. New guessers; what slots learn. Arrays of slots that learn; the program's GueLearn. Rows cloned; the program's GueLearn. -/
import Derived.Laws.Cover3
import Derived.Deep.Upon
import Derived.Test.YtoacgjjpipdkjaaGu0
import Derived.Test.YtoacgjjpipdkjaaPl0
namespace Go.Proofs.Ytoacgjjpipdkjaa
open Go.RowKit
set_option linter.unusedVariables false
set_option linter.unusedSimpArgs false
section
variable {P : Program} {Q : Exit → Act → World → Prop}
end
/-- Two cells of a block that may be written. -/
structure Box2 (u : World) (g : Nat) (a b : Value) : Prop where
  lt : g < u.heap.size
  c0 : u.cell? ⟨g, 0, none⟩ = some a
  c1 : u.cell? ⟨g, 1, none⟩ = some b
  f0 : u.frozen? ⟨g, 0, none⟩ = false
  f1 : u.frozen? ⟨g, 1, none⟩ = false
theorem Box2.but {L : List Nat} {u u' : World} {g : Nat} {a b : Value} (h : Box2 u g a b) (f : But L u u') (hn : g ∉ L) : Box2 u' g a b :=
  ⟨Nat.lt_of_lt_of_le h.lt f.size, by rw [f.cell h.lt hn]; exact h.c0, by rw [f.cell h.lt hn]; exact h.c1, by rw [f.frozen h.lt hn]; exact h.f0, by rw [f.frozen h.lt hn]; exact h.f1⟩
theorem Box2.fr {u u' : World} {g : Nat} {a b : Value} (h : Box2 u g a b) (f : Fr u u') : Box2 u' g a b := h.but (L := []) (But.of f) (by simp)
theorem Box2.new (w : World) (a b : Value) (t : TypeId) (n : Nat) (hn : w.heap.size = n) : Box2 (w.alloc (.cells #[a, b] t)) n a b := by
  subst hn
  exact ⟨by simp, (alloc_at w _ t _ rfl 0).1, (alloc_at w _ t _ rfl 1).1, (alloc_at w _ t _ rfl 0).2, (alloc_at w _ t _ rfl 1).2⟩
theorem Box2.set {u : World} {g : Nat} {a b : Value} (h : Box2 u g a b) (a' b' : Value) : Box2 ((u.setCell ⟨g, 0, none⟩ a').setCell ⟨g, 1, none⟩ b') g a' b' := by
  have c0 := h.c0
  have c1 := h.c1
  have f0 := h.f0
  have f1 := h.f1
  have hl := h.lt
  refine ⟨by simpa [World.setCell] using hl, ?_, ?_, ?_, ?_⟩
  all_goals simp [World.frozen?_setCell, World.cell?_setCell_other, World.cell?_setCell_same, c0, c1, f0, f1]
theorem But.set2 {L : List Nat} {w w' : World} (h : But L w w') (g : Nat) (a b : Value) (hg : g ∈ L ∨ w.heap.size ≤ g) : But L w ((w'.setCell ⟨g, 0, none⟩ a).setCell ⟨g, 1, none⟩ b) :=
  (h.set g 0 a hg).set g 1 b hg
/-- Slots lie in block g, and may be written. -/
structure Ro4 (u : World) (g : Nat) (S : List Sl) : Prop where
  lt : g < u.heap.size
  rng : u.rangeAt g 0 (cls S)
  thr : u.there g 0 (4 * S.length)
theorem Ro4.but {L : List Nat} {u u' : World} {g : Nat} {S : List Sl} (h : Ro4 u g S) (f : But L u u') (hn : g ∉ L) : Ro4 u' g S :=
  ⟨Nat.lt_of_lt_of_le h.lt f.size, range_but h.rng f h.lt hn, there_but h.thr f h.lt hn⟩
theorem Ro4.fr {u u' : World} {g : Nat} {S : List Sl} (h : Ro4 u g S) (f : Fr u u') : Ro4 u' g S := h.but (L := []) (But.of f) (by simp)
theorem Ro4.vc {B : Nat} {u : World} {g : Nat} {S : List Sl} (h : Ro4 u g S) (hB : B ≤ g) : Vc4 B u S (some ⟨g, 0, none⟩) := ⟨fun _ => ⟨g, rfl, hB, h.lt, h.rng, h.thr⟩⟩
/-- A guesser that was handed over: its rows may be written, and lie apart. -/
structure VcG (B : Nat) (u : World) (x : Gu) (aS aC : Option Addr) : Prop where
  S : Vc4 B u x.S aS
  C : Vc B u x.C.length (ivl x.C) aC
  ap : 0 < x.S.length → 0 < x.C.length → ∀ b c, aS = some b → aC = some c → b.block ≠ c.block
theorem VcG.fr {B : Nat} {u u' : World} {x : Gu} {aS aC : Option Addr} (h : VcG B u x aS aC) (f : Fr u u') : VcG B u' x aS aC := ⟨h.S.fr f, h.C.fr f, h.ap⟩
theorem VcG.mono {B B' : Nat} {u : World} {x : Gu} {aS aC : Option Addr} (h : VcG B u x aS aC) (hB : B' ≤ B) : VcG B' u x aS aC := ⟨h.S.mono hB, h.C.mono hB, h.ap⟩
abbrev gu0 : Gu := ⟨[], []⟩
theorem VcG.nil (B : Nat) (u : World) (aS aC : Option Addr) : VcG B u gu0 aS aC := ⟨Vc4.nil _ _ _, Vc.nil _ _ _ _, fun h => absurd h (by simp)⟩
theorem But.setCells {L : List Nat} {w : World} (g : Nat) (hg : g ∈ L ∨ w.heap.size ≤ g) : ∀ (vs : List Value) (o : Nat) (w' : World), But L w w' → But L w (w'.setCells g o vs)
  | [], _, _, h => h
  | v :: r, o, w', h => by
    rw [World.setCells]
    exact But.setCells g hg r (o + 1) _ (h.set g o v hg)
section
variable {Q : Exit → Act → World → Prop}
end
/-- A row of numbers that the call owns, with the room that its slice says; or an empty one. -/
def Rc (B : Nat) (u : World) (xs : List Int) (ao : Option Addr) (c : Nat) : Prop := (xs.length = 0 ∧ c = 0) ∨ ∃ g, ao = some ⟨g, 0, none⟩ ∧ B ≤ g ∧ Ro u g xs ∧ Ca u g xs.length c ∧ 0 < xs.length
theorem Rc.but {B : Nat} {u u' : World} {xs : List Int} {ao : Option Addr} {c : Nat} {L : List Nat} (h : Rc B u xs ao c) (f : But L u u') (hL : ∀ k, k ∈ L → k < B) : Rc B u' xs ao c := by
  rcases h with h | ⟨g, e, hB, r, k, h0⟩
  · exact .inl h
  · exact .inr ⟨g, e, hB, r.but f (fun hm => by have := hL g hm; omega), k.but f (fun hm => by have := hL g hm; omega), h0⟩
theorem Rc.fr {B : Nat} {u u' : World} {xs : List Int} {ao : Option Addr} {c : Nat} (h : Rc B u xs ao c) (f : Fr u u') : Rc B u' xs ao c := h.but (L := []) (But.of f) (by simp)
theorem Rc.mono {B B' : Nat} {u : World} {xs : List Int} {ao : Option Addr} {c : Nat} (h : Rc B u xs ao c) (hB : B' ≤ B) : Rc B' u xs ao c := by
  rcases h with h | ⟨g, e, h1, r⟩
  · exact .inl h
  · exact .inr ⟨g, e, by omega, r⟩
theorem Rc.vc {B : Nat} {u : World} {xs : List Int} {ao : Option Addr} {c : Nat} (h : Rc B u xs ao c) : Vc B u xs.length (ivl xs) ao := by
  rcases h with h | ⟨g, rfl, hB, r, _, _⟩
  · rw [h.1]; exact Vc.nil _ _ _ _
  · exact ⟨fun _ => ⟨g, rfl, hB, r.lt, r.cel, r.fro⟩⟩
end Go.Proofs.Ytoacgjjpipdkjaa
