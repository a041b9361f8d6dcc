/- The contracts of CodGives, of the program and of the model. -/
import Derived.Test.YtlnpileicdggiaaDoorCodOkS
import Derived.Test.YtlnpileicdggiaaDoorCodLaws
namespace Go.Proofs.YtlnpileicdggiaaDoor
open Go.RowKit
set_option linter.unusedVariables false
def givD (k d a b f n : Int) : Int := if iok k d a b f n = true then d else 0
theorem givD_t {k d a b f n : Int} (h : iok k d a b f n = true) : givD k d a b f n = d := if_pos h
theorem givD_f {k d a b f n : Int} (h : iok k d a b f n = false) : givD k d a b f n = 0 := if_neg (by simp [h])
theorem impl_CodGives (k d a b f n : Int) (w : World) (ht : Tabs w) : Calls Tryd.prog 27 #[.agg #[.int .i64 k, .int .i64 d, .int .i64 a, .int .i64 b, .int .i64 f, .int .i64 n]] w fun e w' => e = .returned (.int .i64 (givD k d a b f n)) ∧ Fr w w' := by
  have F0 := Fr.alloc w (.cells #[.int .i64 k, .int .i64 d, .int .i64 a, .int .i64 b, .int .i64 f, .int .i64 n] 24)
  go_enter Tryd.func27, Tryd.ntmps27
  go_wp2_with fail
  refine (impl_CodOk _ _ _ _ _ _ _ (ht.fr F0)).mono ?_
  rintro e u1 ⟨rfl, f1⟩
  obtain ⟨c0, c1, c2, c3, c4, c5⟩ := (Box.new w k d a b f n _).fr f1
  cases hq : iok k d a b f n
  · have H := Lib.hid (givD_f hq)
    go_wp2
    go_ret
    exact ⟨ret_int H.out.symm, F0.trans f1⟩
  · have H := Lib.hid (givD_t hq)
    go_wp2
    go_ret
    exact ⟨ret_int H.out.symm, F0.trans f1⟩
theorem spec_CodGives (k d a b f n : Int) (w : World) : Calls Tryd.prog 28 #[.agg #[.int .i64 k, .int .i64 d, .int .i64 a, .int .i64 b, .int .i64 f, .int .i64 n]] w fun e w' => e = .returned (.int .i64 (givD k d a b f n)) ∧ Fr w w' := by
  have F0 := Fr.alloc w (.cells #[.int .i64 k, .int .i64 d, .int .i64 a, .int .i64 b, .int .i64 f, .int .i64 n] 24)
  have e0 := Lib.hid (sok_eq k d a b f n)
  go_enter Tryd.func28, Tryd.ntmps28
  go_wp2_with fail
  refine (spec_CodOk _ _ _ _ _ _ _).mono ?_
  rintro e u1 ⟨rfl, f1⟩
  rw [e0.out]
  obtain ⟨c0, c1, c2, c3, c4, c5⟩ := (Box.new w k d a b f n _).fr f1
  cases hq : iok k d a b f n
  · have H := Lib.hid (givD_f hq)
    go_wp2
    go_ret
    exact ⟨ret_int H.out.symm, F0.trans f1⟩
  · have H := Lib.hid (givD_t hq)
    go_wp2
    go_ret
    exact ⟨ret_int H.out.symm, F0.trans f1⟩
end Go.Proofs.YtlnpileicdggiaaDoor
