/- Guessers, as plain data: what is ok, what is learned, guessed and seen; slots in memory, four cells each. -/
import Derived.Deep.MidRow
import Derived.Test.YtpdlcjjmhcfkjaaDoorPl1
namespace Go.Proofs.YtpdlcjjmhcfkjaaDoor
open Go.RowKit
set_option linter.unusedVariables false
set_option linter.unusedSimpArgs false
/-- A slot. -/
structure Sl where
  u : Bool
  p : Int
  t : Int
  s : Int
/-- A guesser: its slots, its calls. -/
structure Gu where
  S : List Sl
  C : List Int
abbrev sl0 : Sl := ⟨false, 0, 0, 0⟩
def slc (x : Sl) : List Value := [.bool x.u, .int .i64 x.p, .int .i64 x.t, .int .i64 x.s]
abbrev slw (x : Sl) : Value := .agg #[.bool x.u, .int .i64 x.p, .int .i64 x.t, .int .i64 x.s]
def cls (S : List Sl) : List Value := S.flatMap slc
theorem cls_len (S : List Sl) : (cls S).length = 4 * S.length := by
  induction S with
  | nil => rfl
  | cons x r ih => simp only [cls, List.flatMap_cons, List.length_append, List.length_cons] at *; rw [ih]; simp [slc]; omega
theorem cls_at : ∀ (S : List Sl) (i : Nat), i < S.length → (cls S)[4 * i]? = some (.bool (S.getD i sl0).u) ∧ (cls S)[4 * i + 1]? = some (.int .i64 (S.getD i sl0).p) ∧ (cls S)[4 * i + 2]? = some (.int .i64 (S.getD i sl0).t) ∧ (cls S)[4 * i + 3]? = some (.int .i64 (S.getD i sl0).s)
  | [], i, h => absurd h (by simp)
  | x :: r, 0, _ => by simp [cls, slc]
  | x :: r, i + 1, h => by
    have ih := cls_at r i (by simpa using h)
    have e : ∀ j, (cls (x :: r))[4 * (i + 1) + j]? = (cls r)[4 * i + j]? := fun j => by
      show (slc x ++ cls r)[4 * (i + 1) + j]? = _
      rw [List.getElem?_append_right (by simp [slc]; omega)]
      congr 1
      simp [slc]; omega
    have e0 := e 0
    simp only [Nat.add_zero] at e0
    rw [e0, e 1, e 2, e 3]
    simpa using ih
theorem cls_one (S : List Sl) : ∀ v ∈ cls S, v.oneCell' = true := fun v hv => by
  obtain ⟨x, _, hx⟩ := List.mem_flatMap.1 hv
  simp [slc] at hx
  rcases hx with rfl | rfl | rfl | rfl <;> rfl
/-- Is a slot ok at that index? -/
def okL (k : Int) (x : Sl) : Bool := if x.u = true then okB x.p && (decide (x.p % 8 = k) && (okB x.t && (decide (0 ≤ x.s) && decide (x.s ≤ 3)))) else decide (x.p = 0) && (decide (x.t = 0) && decide (x.s = 0))
def okLs (S : List Sl) : Bool := (List.range S.length).all fun i => okL (i : Int) (S.getD i sl0)
def okG (g : Gu) : Bool := decide (g.S.length = 8) && (decide (g.C.length ≤ 4) && (okLs g.S && g.C.all okB))
theorem okLs_at {S : List Sl} (h : okLs S = true) (i : Nat) (hi : i < S.length) : okL (i : Int) (S.getD i sl0) = true := List.all_eq_true.1 h i (by simpa using hi)
theorem okLs_of {S : List Sl} {p : Nat} (h : ∀ i, i < p → okL (i : Int) (S.getD i sl0) = true) (hp : S.length ≤ p) : okLs S = true := List.all_eq_true.2 fun i hi => h i (by simp at hi; omega)
theorem okLs_not {S : List Sl} {p : Nat} (hp : p < S.length) (h : okL (p : Int) (S.getD p sl0) = false) : okLs S = false := List.all_eq_false.2 ⟨p, by simpa using hp, by rw [h]; decide⟩
structure OkG (g : Gu) : Prop where
  Sl : g.S.length = 8
  Cl : g.C.length ≤ 4
  S : okLs g.S = true
  C : g.C.all okB = true
theorem okG_iff (g : Gu) : okG g = true ↔ OkG g := by
  simp only [okG, Bool.and_eq_true, decide_eq_true_eq]
  exact ⟨fun ⟨a, b, c, d⟩ => ⟨a, b, c, d⟩, fun ⟨a, b, c, d⟩ => ⟨a, b, c, d⟩⟩
/-- What a slot learns. -/
def learnL (x : Sl) (pc tt : Int) : Sl :=
  if x.u = true ∧ x.p = pc then
    (if x.t = tt then ⟨x.u, x.p, x.t, min (x.s + 1) 3⟩ else if 0 < x.s then ⟨x.u, x.p, x.t, x.s - 1⟩ else if tt ≠ (pc + 1) % 65536 then ⟨x.u, x.p, tt, 1⟩ else x)
  else if tt ≠ (pc + 1) % 65536 then ⟨true, pc, tt, 2⟩ else x
def ix (pc : Int) : Nat := (pc % 8).toNat
def learnG (g : Gu) (pc tt : Int) : Gu := ⟨g.S.set (ix pc) (learnL (g.S.getD (ix pc) sl0) pc tt), g.C⟩
theorem getD_setL {l : List Sl} {i j : Nat} {v : Sl} : (l.set i v).getD j sl0 = if i = j ∧ j < l.length then v else l.getD j sl0 := by
  simp only [List.getD_eq_getElem?_getD, List.getElem?_set]
  by_cases h : i = j
  · subst h
    by_cases h2 : i < l.length
    · simp [h2]
    · simp [h2]
  · simp [h]
theorem learnL_ok {x : Sl} {pc tt : Int} (h : okL (pc % 8) x = true) (hp : okB pc = true) (ht : okB tt = true) : okL (pc % 8) (learnL x pc tt) = true := by
  obtain ⟨u, p, t, s⟩ := x
  unfold learnL
  split
  · rename_i hc
    obtain ⟨rfl, rfl⟩ := hc
    simp only [okL, if_true, Bool.and_eq_true, decide_eq_true_eq] at h ⊢
    obtain ⟨h1, h2, h3, h4, h5⟩ := h
    split
    · simp [h1, h3]; omega
    · split
      · simp [h1, h3]; omega
      · split
        · simp [h1, ht]
        · simp [h1, h3, h4, h5]
  · split
    · simp [okL, hp, ht]
    · exact h
theorem learnG_ok {g : Gu} {pc tt : Int} (h : OkG g) (hp : okB pc = true) (ht : okB tt = true) : OkG (learnG g pc tt) := by
  have hb := okB_true hp
  have hi : ix pc < 8 := by unfold ix; omega
  have he : ((ix pc : Nat) : Int) = pc % 8 := by unfold ix; omega
  refine ⟨by simp [learnG, h.Sl], h.Cl, okLs_of (p := 8) (fun i hi8 => ?_) (by simp [learnG, h.Sl]), h.C⟩
  simp only [learnG]
  rw [getD_setL]
  have h1 := okLs_at h.S i (by rw [h.Sl]; exact hi8)
  split
  · rename_i hc
    obtain ⟨rfl, _⟩ := hc
    rw [he] at h1 ⊢
    exact learnL_ok h1 hp ht
  · exact h1
/-- Slots are read at ao. -/
def Src4 (u : World) (S : List Sl) (ao : Option Addr) : Prop := 0 < S.length → ∃ g o, ao = some ⟨g, o, none⟩ ∧ g < u.heap.size ∧ u.rangeAt g o (cls S)
/-- Slots lie at ao, in a block from B on, and may be written. -/
structure Vc4 (B : Nat) (u : World) (S : List Sl) (ao : Option Addr) : Prop where
  at0 : 0 < S.length → ∃ g, ao = some ⟨g, 0, none⟩ ∧ B ≤ g ∧ g < u.heap.size ∧ u.rangeAt g 0 (cls S) ∧ u.there g 0 (4 * S.length)
theorem range_fr {u u' : World} {g o : Nat} {cs : List Value} (h : u.rangeAt g o cs) (f : Fr u u') (hg : g < u.heap.size) : u'.rangeAt g o cs := fun j v hv => by rw [f.cell hg]; exact h j v hv
theorem range_but {L : List Nat} {u u' : World} {g o : Nat} {cs : List Value} (h : u.rangeAt g o cs) (f : But L u u') (hg : g < u.heap.size) (hn : g ∉ L) : u'.rangeAt g o cs := fun j v hv => by rw [f.cell hg hn]; exact h j v hv
theorem there_but {L : List Nat} {u u' : World} {g o n : Nat} (h : u.there g o n) (f : But L u u') (hg : g < u.heap.size) (hn : g ∉ L) : u'.there g o n := fun j hj => by rw [f.cell hg hn, f.frozen hg hn]; exact h j hj
theorem there_fr {u u' : World} {g o n : Nat} (h : u.there g o n) (f : Fr u u') (hg : g < u.heap.size) : u'.there g o n := there_but (L := []) h (But.of f) hg (by simp)
theorem Src4.fr {u u' : World} {S : List Sl} {ao : Option Addr} (h : Src4 u S ao) (f : Fr u u') : Src4 u' S ao := fun h0 => by
  obtain ⟨g, o, e, hl, hc⟩ := h h0
  exact ⟨g, o, e, Nat.lt_of_lt_of_le hl f.size, range_fr hc f hl⟩
theorem Vc4.src {B : Nat} {u : World} {S : List Sl} {ao : Option Addr} (h : Vc4 B u S ao) : Src4 u S ao := fun h0 => by
  obtain ⟨g, e, _, hl, hc, _⟩ := h.at0 h0
  exact ⟨g, 0, e, hl, hc⟩
theorem Vc4.but {B : Nat} {L : List Nat} {u u' : World} {S : List Sl} {ao : Option Addr} (h : Vc4 B u S ao) (f : But L u u') (hn : ∀ b, ao = some b → b.block ∉ L) : Vc4 B u' S ao := by
  refine ⟨fun h0 => ?_⟩
  obtain ⟨g, e, hB, hl, hc, ht⟩ := h.at0 h0
  have hg := hn _ e
  exact ⟨g, e, hB, Nat.lt_of_lt_of_le hl f.size, range_but hc f hl hg, there_but ht f hl hg⟩
theorem Vc4.fr {B : Nat} {u u' : World} {S : List Sl} {ao : Option Addr} (h : Vc4 B u S ao) (f : Fr u u') : Vc4 B u' S ao := h.but (L := []) (But.of f) (by simp)
theorem Vc4.mono {B B' : Nat} {u : World} {S : List Sl} {ao : Option Addr} (h : Vc4 B u S ao) (hB : B' ≤ B) : Vc4 B' u S ao := by
  refine ⟨fun h0 => ?_⟩
  obtain ⟨g, e, h1, r⟩ := h.at0 h0
  exact ⟨g, e, by omega, r⟩
theorem Vc4.nil (B : Nat) (u : World) (ao : Option Addr) : Vc4 B u [] ao := ⟨fun h => absurd h (by simp)⟩
/-- The four cells of one slot. -/
theorem slot_at {u : World} {g o : Nat} {S : List Sl} (h : u.rangeAt g o (cls S)) (i : Nat) (hi : i < S.length) : u.cell? ⟨g, o + i * 4, none⟩ = some (.bool (S.getD i sl0).u) ∧ u.cell? ⟨g, o + i * 4 + 1, none⟩ = some (.int .i64 (S.getD i sl0).p) ∧ u.cell? ⟨g, o + i * 4 + 2, none⟩ = some (.int .i64 (S.getD i sl0).t) ∧ u.cell? ⟨g, o + i * 4 + 3, none⟩ = some (.int .i64 (S.getD i sl0).s) := by
  obtain ⟨h0, h1, h2, h3⟩ := cls_at S i hi
  have e0 := h _ _ h0
  have e1 := h _ _ h1
  have e2 := h _ _ h2
  have e3 := h _ _ h3
  rw [show o + 4 * i = o + i * 4 by omega] at e0
  rw [show o + (4 * i + 1) = o + i * 4 + 1 by omega] at e1
  rw [show o + (4 * i + 2) = o + i * 4 + 2 by omega] at e2
  rw [show o + (4 * i + 3) = o + i * 4 + 3 by omega] at e3
  exact ⟨e0, e1, e2, e3⟩

end Go.Proofs.YtpdlcjjmhcfkjaaDoor
