/- Small functions of package laws that the laws of chapter 2 call. -/
import Derived.Test.YtecdmafhjfnloaaGreatDoorCod
namespace Go.Proofs.YtecdmafhjfnloaaGreatDoor
open Go.RowKit
set_option linter.unusedVariables false
/-- An instruction lies in block g. -/
structure Box (w : World) (g : Nat) (k d a b f n : Int) : Prop where
  c0 : w.cell? ⟨g, 0, none⟩ = some (.int .i64 k)
  c1 : w.cell? ⟨g, 1, none⟩ = some (.int .i64 d)
  c2 : w.cell? ⟨g, 2, none⟩ = some (.int .i64 a)
  c3 : w.cell? ⟨g, 3, none⟩ = some (.int .i64 b)
  c4 : w.cell? ⟨g, 4, none⟩ = some (.int .i64 f)
  c5 : w.cell? ⟨g, 5, none⟩ = some (.int .i64 n)
theorem Box.lt {w : World} {g : Nat} {k d a b f n : Int} (h : Box w g k d a b f n) : g < w.heap.size := lt_of_cell h.c0
theorem Box.below {w w' : World} {g B : Nat} {k d a b f n : Int} (h : Box w g k d a b f n) (hb : Below B w w') (hB : g < B) : Box w' g k d a b f n :=
  ⟨(hb.cell hB).trans h.c0, (hb.cell hB).trans h.c1, (hb.cell hB).trans h.c2, (hb.cell hB).trans h.c3, (hb.cell hB).trans h.c4, (hb.cell hB).trans h.c5⟩
theorem Box.fr {w w' : World} {g : Nat} {k d a b f n : Int} (h : Box w g k d a b f n) (hb : Fr w w') : Box w' g k d a b f n := h.below hb h.lt
theorem Box.new (w : World) (k d a b f n : Int) (t : TypeId) : Box (w.alloc (.cells #[.int .i64 k, .int .i64 d, .int .i64 a, .int .i64 b, .int .i64 f, .int .i64 n] t)) w.heap.size k d a b f n := by
  constructor <;> simp
end Go.Proofs.YtecdmafhjfnloaaGreatDoor
