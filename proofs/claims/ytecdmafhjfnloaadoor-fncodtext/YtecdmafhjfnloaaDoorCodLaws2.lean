/- More small functions of package laws. -/
import Derived.Test.YtecdmafhjfnloaaDoorCodLaws
namespace Go.Proofs.YtecdmafhjfnloaaDoor
open Go.RowKit
set_option linter.unusedVariables false
theorem laws_eqCodInst (k d a b f n : Int) (w : World) : Calls Tryd.prog 29 #[.agg #[.int .i64 k, .int .i64 d, .int .i64 a, .int .i64 b, .int .i64 f, .int .i64 n], .agg #[.int .i64 k, .int .i64 d, .int .i64 a, .int .i64 b, .int .i64 f, .int .i64 n]] w fun e w' => e = .returned (.bool true) ∧ Fr w w' := by
  go_enter Tryd.func29, Tryd.ntmps29
  go_wp2
  go_ret
  refine ⟨rfl, ?_⟩
  (repeat' first | (with_reducible exact Below.refl _ _) | (with_reducible assumption) | ((with_reducible refine Below.setCell ?_ ?hb _); (case hb => first | exact Nat.le_refl _ | (simp; done) | (simp; omega) | omega)) | ((with_reducible refine Below.alloc ?_ ?hb _); (case hb => first | exact Nat.le_refl _ | (simp; done) | (simp; omega) | omega)) | (with_reducible refine Below.drew ?_))
end Go.Proofs.YtecdmafhjfnloaaDoor
