/- Small functions of package laws that the laws of chapter 2 call. -/
import Derived.Test.YtecdmafhjfnloaaDoorCod
namespace Go.Proofs.YtecdmafhjfnloaaDoor
open Go.RowKit
set_option linter.unusedVariables false
/-- An instruction lies in block g. -/
structure Box (w : World) (g : Nat) (k d a b f n : Int) : Prop where
  c0 : w.cell? ⟨g, 0, none⟩ = some (.int .i64 k)
  c1 : w.cell? ⟨g, 1, none⟩ = some (.int .i64 d)
  c2 : w.cell? ⟨g, 2, none⟩ = some (.int .i64 a)
  c3 : w.cell? ⟨g, 3, none⟩ = some (.int .i64 b)
  c4 : w.cell? ⟨g, 4, none⟩ = some (.int .i64 f)
  c5 : w.cell? ⟨g, 5, none⟩ = some (.int .i64 n)
theorem Box.lt {w : World} {g : Nat} {k d a b f n : Int} (h : Box w g k d a b f n) : g < w.heap.size := lt_of_cell h.c0
theorem Box.below {w w' : World} {g B : Nat} {k d a b f n : Int} (h : Box w g k d a b f n) (hb : Below B w w') (hB : g < B) : Box w' g k d a b f n :=
  ⟨(hb.cell hB).trans h.c0, (hb.cell hB).trans h.c1, (hb.cell hB).trans h.c2, (hb.cell hB).trans h.c3, (hb.cell hB).trans h.c4, (hb.cell hB).trans h.c5⟩
theorem Box.fr {w w' : World} {g : Nat} {k d a b f n : Int} (h : Box w g k d a b f n) (hb : Fr w w') : Box w' g k d a b f n := h.below hb h.lt
theorem Box.new (w : World) (k d a b f n : Int) (t : TypeId) : Box (w.alloc (.cells #[.int .i64 k, .int .i64 d, .int .i64 a, .int .i64 b, .int .i64 f, .int .i64 n] t)) w.heap.size k d a b f n := by
  constructor <;> simp
theorem laws_toCodInst (k d a b f n : Int) (w : World) : Calls Tryd.prog 30 #[.agg #[.int .i64 k, .int .i64 d, .int .i64 a, .int .i64 b, .int .i64 f, .int .i64 n]] w fun e w' => e = .returned (.agg #[.int .i64 k, .int .i64 d, .int .i64 a, .int .i64 b, .int .i64 f, .int .i64 n]) ∧ Fr w w' := by
  go_enter Tryd.func30, Tryd.ntmps30
  go_wp2
  refine bodyPost_ret (v := .agg #[.int .i64 k, .int .i64 d, .int .i64 a, .int .i64 b, .int .i64 f, .int .i64 n]) (by simp [results, Tryd.results30, go_sem]) rfl ⟨rfl, ?_⟩
  (repeat' first | (with_reducible exact Below.refl _ _) | (with_reducible assumption) | ((with_reducible refine Below.setCell ?_ ?hb _); (case hb => first | exact Nat.le_refl _ | (simp; done) | (simp; omega) | omega)) | ((with_reducible refine Below.alloc ?_ ?hb _); (case hb => first | exact Nat.le_refl _ | (simp; done) | (simp; omega) | omega)) | (with_reducible refine Below.drew ?_))
end Go.Proofs.YtecdmafhjfnloaaDoor
