/- Chapter 2: the tables; the contracts of fieldsOf, holds and CodOk, of the program and of the model. Small functions of package laws that the laws of chapter 2 call. Numbers: an instruction as a word, field by field. The bit reader: Len64 at 65535, take, value. -/
import Derived.Test.YtoacgjjpipdkjaaReader
import Derived.Test.YtoacgjjpipdkjaaWords
namespace Go.Proofs.Ytoacgjjpipdkjaa
open Go.RowKit
set_option linter.unusedVariables false

/-- What the tables hold: the encodings (bits, least, greatest), and the layouts (an encoding a place). -/
def encL : List Int := [0, 0, 0, 3, 0, 7, 3, 0, 7, 3, 0, 4, 6, -32, 31, 9, -256, 255, 9, 0, 511]
def layL : List Int := [1, 1, 1, 2, 0, 1, 1, 0, 0, 4, 1, 0, 0, 0, 6, 1, 1, 0, 0, 4, 0, 1, 1, 0, 4, 0, 1, 1, 0, 4, 0, 1, 1, 0, 4, 1, 0, 0, 0, 5, 1, 1, 0, 0, 4, 1, 1, 1, 0, 0, 1, 1, 1, 0, 0, 0, 0, 0, 0, 0, 0, 0, 0, 0, 6, 0, 0, 0, 0, 0, 1, 0, 0, 3, 0, 0, 1, 0, 3, 0]
/-- Nothing that was there has turned. -/
abbrev Fr (w w' : World) : Prop := Below w.heap.size w w'
theorem Fr.trans {a b c : World} (h : Fr a b) (k : Fr b c) : Fr a c := Below.trans h (k.mono h.size)
theorem Fr.alloc (w : World) (o : Obj) : Fr w (w.alloc o) := (Below.refl _ _).alloc (Nat.le_refl _) _

/-- An instruction's fields by their places. -/
def fldL (d a b f n : Int) : List Int := [d, a, b, f, n]
/-- The encoding of place p of kind k; its bits, its least and its greatest value. -/
def layN (k : Int) (p : Nat) : Nat := (layL.getD (k.toNat * 5 + p) 0).toNat
def eB (h : Nat) : Int := encL.getD (h * 3) 0
def eL (h : Nat) : Int := encL.getD (h * 3 + 1) 0
def eG (h : Nat) : Int := encL.getD (h * 3 + 2) 0
def okAt (k : Int) (p : Nat) (v : Int) : Bool := decide (eL (layN k p) ≤ v ∧ v ≤ eG (layN k p))
def iok (k d a b f n : Int) : Bool := decide (0 ≤ k ∧ k < 16) && (okAt k 0 d && (okAt k 1 a && (okAt k 2 b && (okAt k 3 f && okAt k 4 n))))
def AllOk (k d a b f n : Int) (p : Nat) : Prop := ∀ j, j < p → okAt k j ((fldL d a b f n).getD j 0) = true
theorem AllOk.next {k d a b f n : Int} {p : Nat} (h : AllOk k d a b f n p) (hp : okAt k p ((fldL d a b f n).getD p 0) = true) : AllOk k d a b f n (p + 1) := by
  intro j hj
  by_cases e : j = p
  · rw [e]; exact hp
  · exact h j (by omega)
/-- What a kind has, by the model: D, A, B, F, and the bits of N. -/
def hD (k : Int) : Bool := k == 0 || k == 1 || k == 2 || k == 3 || k == 7 || k == 8 || k == 9 || k == 10 || k == 14
def hA (k : Int) : Bool := k == 0 || k == 1 || k == 3 || k == 4 || k == 5 || k == 6 || k == 8 || k == 9 || k == 10 || k == 15
def hB (k : Int) : Bool := k == 0 || k == 4 || k == 5 || k == 6 || k == 9 || k == 10
def hF (k : Int) : Bool := k == 0 || k == 14 || k == 15
def hN (k : Int) : Int := if k = 1 ∨ k = 3 ∨ k = 8 ∨ k = 4 ∨ k = 5 ∨ k = 6 then 6 else if k = 2 ∨ k = 7 ∨ k = 12 then 9 else 0
theorem kinds {k : Int} (h : 0 ≤ k ∧ k < 16) : k = 0 ∨ k = 1 ∨ k = 2 ∨ k = 3 ∨ k = 4 ∨ k = 5 ∨ k = 6 ∨ k = 7 ∨ k = 8 ∨ k = 9 ∨ k = 10 ∨ k = 11 ∨ k = 12 ∨ k = 13 ∨ k = 14 ∨ k = 15 := by omega
/-- An instruction lies in block g. -/
structure Box (w : World) (g : Nat) (k d a b f n : Int) : Prop where
  c0 : w.cell? ⟨g, 0, none⟩ = some (.int .i64 k)
  c1 : w.cell? ⟨g, 1, none⟩ = some (.int .i64 d)
  c2 : w.cell? ⟨g, 2, none⟩ = some (.int .i64 a)
  c3 : w.cell? ⟨g, 3, none⟩ = some (.int .i64 b)
  c4 : w.cell? ⟨g, 4, none⟩ = some (.int .i64 f)
  c5 : w.cell? ⟨g, 5, none⟩ = some (.int .i64 n)
theorem Box.lt {w : World} {g : Nat} {k d a b f n : Int} (h : Box w g k d a b f n) : g < w.heap.size := lt_of_cell h.c0
theorem Box.below {w w' : World} {g B : Nat} {k d a b f n : Int} (h : Box w g k d a b f n) (hb : Below B w w') (hB : g < B) : Box w' g k d a b f n :=
  ⟨(hb.cell hB).trans h.c0, (hb.cell hB).trans h.c1, (hb.cell hB).trans h.c2, (hb.cell hB).trans h.c3, (hb.cell hB).trans h.c4, (hb.cell hB).trans h.c5⟩
theorem Box.fr {w w' : World} {g : Nat} {k d a b f n : Int} (h : Box w g k d a b f n) (hb : Fr w w') : Box w' g k d a b f n := h.below hb h.lt
theorem Box.new (w : World) (k d a b f n : Int) (t : TypeId) : Box (w.alloc (.cells #[.int .i64 k, .int .i64 d, .int .i64 a, .int .i64 b, .int .i64 f, .int .i64 n] t)) w.heap.size k d a b f n := by
  constructor <;> simp

/-- How many bits are left behind p places; the word so far. -/
def lft (k : Int) : Nat → Int
  | 0 => 12
  | p + 1 => lft k p - eB (layN k p)
def wrd (k : Int) (v : List Int) : Nat → Int
  | 0 => k * 4096
  | p + 1 => wrd k v p + (v.getD p 0 % 2 ^ (eB (layN k p)).toNat) * 2 ^ (lft k (p + 1)).toNat
def taken (x b : Int) : Int := x / 2 ^ (16 - b).toNat
def rested (x b : Int) : Int := x * 2 ^ b.toNat % 65536
--[need (*impl.bitReader[impl.word]).take]
def valD (b l x : Int) : Int := if l < 0 then sgnW (ext x b) else x
end Go.Proofs.Ytoacgjjpipdkjaa
