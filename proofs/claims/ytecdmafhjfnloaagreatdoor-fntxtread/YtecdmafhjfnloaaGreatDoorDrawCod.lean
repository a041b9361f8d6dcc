/- The draws of chapter 2. -/
import Derived.Test.YtecdmafhjfnloaaGreatDoorDrawInst
import Derived.Test.YtecdmafhjfnloaaGreatDoorCodWord
namespace Go.Proofs.YtecdmafhjfnloaaGreatDoor
open Go.RowKit
set_option linter.unusedVariables false
def OneI (B : Nat) (w : World) (e : Ending) (w' : World) : Prop := ∃ k d a b f n : Int, e = .returned (.agg #[.int .i64 k, .int .i64 d, .int .i64 a, .int .i64 b, .int .i64 f, .int .i64 n]) ∧ Below B w w'
theorem below_set1 {B : Nat} {w u : World} (h : Below B w u) {Z : Nat} (hZ : B ≤ Z) (j : Nat) (v : Value) : Below B w (u.setCell ⟨Z, j, none⟩ v) := Below.setCell h (show B ≤ Z from hZ) _
theorem below_sets {B : Nat} {w u : World} (h : Below B w u) {Z : Nat} (hZ : B ≤ Z) (v0 v1 v2 v3 v4 v5 : Value) : Below B w ((((((u.setCell ⟨Z, 0, none⟩ v0).setCell ⟨Z, 1, none⟩ v1).setCell ⟨Z, 2, none⟩ v2).setCell ⟨Z, 3, none⟩ v3).setCell ⟨Z, 4, none⟩ v4).setCell ⟨Z, 5, none⟩ v5) :=
  below_set1 (below_set1 (below_set1 (below_set1 (below_set1 (below_set1 h hZ _ _) hZ _ _) hZ _ _) hZ _ _) hZ _ _) hZ _ _
end Go.Proofs.YtecdmafhjfnloaaGreatDoor
