/- Chapter 3: CodParse of the model. Chapter 3: words are written as lines (TxtWrite), by the program and by the model. Chapter 3: the scanner of a line: a word in decimal, a whole line; a label. Chapter 3: the labels of a text (a map), by the program. Chapter 3: lines are read as words (TxtRead), by the program. -/
import Derived.Maps.OwnSet
import Derived.Test.YtoacgjjpipdkjaaSpb
import Derived.Test.YtoacgjjpipdkjaaSc
import Derived.Test.YtoacgjjpipdkjaaVec
import Derived.Test.YtoacgjjpipdkjaaCodSd
import Derived.Test.YtoacgjjpipdkjaaTxt
import Derived.Test.YtoacgjjpipdkjaaTx
namespace Go.Proofs.Ytoacgjjpipdkjaa
open Go.RowKit
set_option linter.unusedVariables false

open Go.RowKit Go.Maps
/-- Block B is a map of at most n labels: these, the first of a name ahead. -/
def MapL (B n : Nat) (ls : List (List UInt8 × Int)) (u : World) : Prop :=
  ∃ D : DataW Unit, u.ownsMap Try.prog 9 (plainElem Try.prog 3) B n D ∧ ∀ l : List UInt8, Maps.has D (.string l) = (look ls l).isSome ∧ D.atKey (.string l) (.lit (.int .i64 0)) = .lit (.int .i64 ((look ls l).getD 0))
theorem MapL.lt {B n : Nat} {ls : List (List UInt8 × Int)} {u : World} (h : MapL B n ls u) : B < u.heap.size := by obtain ⟨D, h, _⟩ := h; exact h.lt
theorem MapL.below {B B' n : Nat} {ls : List (List UInt8 × Int)} {u u' : World} (h : MapL B n ls u) (f : Below B' u u') (hB : B < B') : MapL B n ls u' := by
  obtain ⟨D, ⟨es, clock, h1, h2⟩, hD⟩ := h
  exact ⟨D, ⟨es, clock, by rw [f.block B hB]; exact h1, h2⟩, hD⟩
theorem MapL.fr {B n : Nat} {ls : List (List UInt8 × Int)} {u u' : World} (h : MapL B n ls u) (f : Fr u u') : MapL B n ls u' := h.below f h.lt
theorem look_snoc {ls : List (List UInt8 × Int)} {name : List UInt8} (h : look ls name = none) (a : Int) (x : List UInt8) : look (ls ++ [(name, a)]) x = if x = name then some a else look ls x := by
  unfold look at *
  rw [List.find?_append]
  by_cases hx : x = name
  · subst hx
    rw [if_pos rfl]
    have : ls.find? (fun e => e.1 == x) = none := by simpa using h
    rw [this]
    simp
  · rw [if_neg hx]
    have : (name == x) = false := by simp [Ne.symm hx]
    simp [this]
theorem MapL.put {B n : Nat} {ls : List (List UInt8 × Int)} {u : World} {D : DataW Unit} {name : List UInt8} {a : Int} (h : u.ownsMap Try.prog 9 (plainElem Try.prog 3) B n (D.put (.string name) (.lit (.int .i64 a)))) (hm : IsMap D)
    (hD : ∀ l : List UInt8, Maps.has D (.string l) = (look ls l).isSome ∧ D.atKey (.string l) (.lit (.int .i64 0)) = .lit (.int .i64 ((look ls l).getD 0))) (hl : look ls name = none) : MapL B n (ls ++ [(name, a)]) u := by
  refine ⟨_, h, fun l => ?_⟩
  rw [look_snoc hl]
  by_cases hx : l = name
  · subst hx
    rw [if_pos rfl, has_put_same (k := .string l) hm trivial, atKey_put_same (k := .string l) hm trivial]
    exact ⟨rfl, rfl⟩
  · have hne : Lit.string l ≠ Lit.string name := fun e => hx (by injection e)
    rw [if_neg hx, has_put_other hne, atKey_put_other hne]
    exact hD l
def OwnsI (B : Nat) (u : World) (v : Value) (L : List Int) : Prop := u.ownsRow B 3 1 v L.length (L.map (Value.int .i64))
theorem OwnsI.fr {B : Nat} {u u' : World} {v : Value} {L : List Int} (h : OwnsI B u v L) (f : Fr u u') : OwnsI B u' v L := by
  obtain ⟨h1, h2⟩ := h
  refine ⟨h1, ?_⟩
  rcases h2 with h2 | ⟨g, cap, cur, hv, hB, hg, h3⟩
  · exact .inl h2
  · refine .inr ⟨g, cap, cur, hv, hB, ?_, h3⟩
    have hlt : g < u.heap.size := by
      by_cases hh : g < u.heap.size
      · exact hh
      · rw [Array.getElem?_eq_none (by omega)] at hg; cases hg
    rw [f.block g hlt]; exact hg
end Go.Proofs.Ytoacgjjpipdkjaa
