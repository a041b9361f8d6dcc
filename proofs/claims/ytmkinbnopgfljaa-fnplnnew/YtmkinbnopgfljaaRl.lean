/- Chapter 3: CodParse of the model. Chapter 3: words are written as lines (TxtWrite), by the program and by the model. Chapter 3: the scanner of a line: a word in decimal, a whole line; a label. Chapter 3: the labels of a text (a map), by the program. Chapter 3: lines are read as words (TxtRead), by the program. -/
import Derived.Maps.OwnSet
import Derived.Test.YtmkinbnopgfljaaSpb
import Derived.Test.YtmkinbnopgfljaaSc
import Derived.Test.YtmkinbnopgfljaaVec
import Derived.Test.YtmkinbnopgfljaaCodSd
import Derived.Test.YtmkinbnopgfljaaTxt
import Derived.Test.YtmkinbnopgfljaaSp
namespace Go.Proofs.Ytmkinbnopgfljaa
open Go.RowKit
set_option linter.unusedVariables false

abbrev tv (L : List (List UInt8)) (i : Nat) : Value := .string (bs (L.getD i []))
abbrev iv (xs : List Int) (i : Nat) : Value := .int .i64 (xs.getD i 0)
/-- The word for which a line's fields stand. -/
def conT (r : List (List UInt8)) : Option Int := match r with
  | [x] => match canon x with
    | some n => if 0 ≤ n ∧ n < 65536 then some n else none
    | none => none
  | _ => none
def lineT (at' : Int) (L : List UInt8 → Option Int) (ws : List (List UInt8)) : Option Int := match ws with
  | [] => none
  | w :: r => if w = wordN then conT r
    else match rd at' L (w :: r) with
      | some (k, fs) => some (worD k (fs.getD 0 0) (fs.getD 1 0) (fs.getD 2 0) (fs.getD 3 0) (fs.getD 4 0))
      | none => none
theorem lineV_eq (at' : Int) (L : List UInt8 → Option Int) (l : List UInt8) : lineV at' L l = if 30 < l.length then none else lineT at' L (sp l) := rfl
open Go.RowKit Go.Maps
/-- Block B is a map of at most n labels: these, the first of a name ahead. -/
def MapL (B n : Nat) (ls : List (List UInt8 × Int)) (u : World) : Prop :=
  ∃ D : DataW Unit, u.ownsMap Try.prog 9 (plainElem Try.prog 3) B n D ∧ ∀ l : List UInt8, Maps.has D (.string l) = (look ls l).isSome ∧ D.atKey (.string l) (.lit (.int .i64 0)) = .lit (.int .i64 ((look ls l).getD 0))
theorem MapL.lt {B n : Nat} {ls : List (List UInt8 × Int)} {u : World} (h : MapL B n ls u) : B < u.heap.size := by obtain ⟨D, h, _⟩ := h; exact h.lt
theorem MapL.below {B B' n : Nat} {ls : List (List UInt8 × Int)} {u u' : World} (h : MapL B n ls u) (f : Below B' u u') (hB : B < B') : MapL B n ls u' := by
  obtain ⟨D, ⟨es, clock, h1, h2⟩, hD⟩ := h
  exact ⟨D, ⟨es, clock, by rw [f.block B hB]; exact h1, h2⟩, hD⟩
theorem MapL.fr {B n : Nat} {ls : List (List UInt8 × Int)} {u u' : World} (h : MapL B n ls u) (f : Fr u u') : MapL B n ls u' := h.below f h.lt
theorem look_snoc {ls : List (List UInt8 × Int)} {name : List UInt8} (h : look ls name = none) (a : Int) (x : List UInt8) : look (ls ++ [(name, a)]) x = if x = name then some a else look ls x := by
  unfold look at *
  rw [List.find?_append]
  by_cases hx : x = name
  · subst hx
    rw [if_pos rfl]
    have : ls.find? (fun e => e.1 == x) = none := by simpa using h
    rw [this]
    simp
  · rw [if_neg hx]
    have : (name == x) = false := by simp [Ne.symm hx]
    simp [this]
theorem MapL.put {B n : Nat} {ls : List (List UInt8 × Int)} {u : World} {D : DataW Unit} {name : List UInt8} {a : Int} (h : u.ownsMap Try.prog 9 (plainElem Try.prog 3) B n (D.put (.string name) (.lit (.int .i64 a)))) (hm : IsMap D)
    (hD : ∀ l : List UInt8, Maps.has D (.string l) = (look ls l).isSome ∧ D.atKey (.string l) (.lit (.int .i64 0)) = .lit (.int .i64 ((look ls l).getD 0))) (hl : look ls name = none) : MapL B n (ls ++ [(name, a)]) u := by
  refine ⟨_, h, fun l => ?_⟩
  rw [look_snoc hl]
  by_cases hx : l = name
  · subst hx
    rw [if_pos rfl, has_put_same (k := .string l) hm trivial, atKey_put_same (k := .string l) hm trivial]
    exact ⟨rfl, rfl⟩
  · have hne : Lit.string l ≠ Lit.string name := fun e => hx (by injection e)
    rw [if_neg hx, has_put_other hne, atKey_put_other hne]
    exact hD l
/-- Where labels stand. -/
def Ats (ls : List (List UInt8 × Int)) (n : Int) : Prop := ∀ e ∈ ls, 0 ≤ e.2 ∧ e.2 ≤ n
def OwnsI (B : Nat) (u : World) (v : Value) (L : List Int) : Prop := u.ownsRow B 3 1 v L.length (L.map (Value.int .i64))
theorem ownsI_empty (B : Nat) (w : World) (hB : B ≤ w.heap.size) : OwnsI B (w.alloc (.cells #[] 3)) (.slice (some ⟨w.heap.size, 0, none⟩) 0 0) [] := by
  refine ⟨rfl, .inr ⟨w.heap.size, 0, #[], rfl, hB, ?_, Nat.le_refl _, Nat.zero_le _, rfl, rfl⟩⟩
  show (w.heap.push _)[w.heap.size]? = _
  simp
theorem OwnsI.fr {B : Nat} {u u' : World} {v : Value} {L : List Int} (h : OwnsI B u v L) (f : Fr u u') : OwnsI B u' v L := by
  obtain ⟨h1, h2⟩ := h
  refine ⟨h1, ?_⟩
  rcases h2 with h2 | ⟨g, cap, cur, hv, hB, hg, h3⟩
  · exact .inl h2
  · refine .inr ⟨g, cap, cur, hv, hB, ?_, h3⟩
    have hlt : g < u.heap.size := by
      by_cases hh : g < u.heap.size
      · exact hh
      · rw [Array.getElem?_eq_none (by omega)] at hg; cases hg
    rw [f.block g hlt]; exact hg
theorem ownsI_app {B : Nat} {u : World} {v : Value} {L : List Int} {x : Int} (h : u.ownsRow B 3 1 v (L.length + 1) (L.map (Value.int .i64) ++ [Value.int .i64 x])) : OwnsI B u v (L ++ [x]) := by
  unfold OwnsI
  simpa using h
theorem ownI_lt {B : Nat} {u : World} {v : Value} {L : List Int} (h : OwnsI B u v L) : ∀ q, v.ownBlock = some q → B ≤ q := fun q hq => (World.ownsRow.lt h q hq).1
theorem ownsI_vc {B : Nat} {u : World} {v : Value} {L : List Int} (h : OwnsI B u v L) : ∃ ao cap, v = .slice ao L.length cap ∧ Vc B u L.length (iv L) ao := by
  obtain ⟨ao, cap, hv, hV, _⟩ := own_vc h
  refine ⟨ao, cap, hv, hV.cong fun i hi => ?_⟩
  simp [List.getD, List.getElem?_eq_getElem hi]
theorem ownsI_len {B : Nat} {u : World} {v : Value} {L : List Int} (h : OwnsI B u v L) : ∃ ao cap, v = .slice ao L.length cap := by
  obtain ⟨ao, cap, hv, _⟩ := ownsI_vc h
  exact ⟨ao, cap, hv⟩
def RdP (w : World) (r : List Int × Int) (e : Ending) (w' : World) : Prop := ∃ ao cap, e = .returned (.tuple #[.slice ao r.1.length cap, .int .i64 r.2]) ∧ Vc w.heap.size w' r.1.length (iv r.1) ao ∧ Fr w w'
theorem look_mem {ls : List (List UInt8 × Int)} {x : List UInt8} {t : Int} (h : look ls x = some t) : (x, t) ∈ ls := by
  unfold look at h
  cases hf : ls.find? (fun e => e.1 == x) with
  | none => rw [hf] at h; cases h
  | some q =>
    rw [hf] at h
    have h1 := List.mem_of_find?_eq_some hf
    have h2 := List.find?_some hf
    have h3 : q.1 = x := by simpa using h2
    have h4 : q.2 = t := by simpa using h
    rw [← h3, ← h4]
    exact h1
end Go.Proofs.Ytmkinbnopgfljaa
