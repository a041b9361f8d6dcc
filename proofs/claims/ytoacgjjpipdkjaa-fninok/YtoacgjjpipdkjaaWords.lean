/- The contracts of the pure functions of layer 1 (program and model): what each call returns; the world stays as it was. The plain laws of the ALU operations, on numbers. The contracts of WrdSign, of the program and of the model. -/
import Derived.WalkKit
import Derived.WalkSpells
import Derived.Lib.Hide
import Derived.Test.YtoacgjjpipdkjaaChecked
namespace Go.Proofs.Ytoacgjjpipdkjaa
open Go.RowKit
set_option linter.unusedVariables false

/-- A number is a word. -/
def okB (n : Int) : Bool := decide (0 ≤ n ∧ n < 65536)
theorem okB_mk {n : Int} (h0 : 0 ≤ n) (h1 : n < 65536) : okB n = true := decide_eq_true ⟨h0, h1⟩
theorem okB_no {n : Int} (h : n < 0 ∨ 65536 ≤ n) : okB n = false := decide_eq_false (by omega)

theorem ret_int {k : IntKind} {a b : Int} (h : a = b) : Ending.returned (.int k a) = .returned (.int k b) := by rw [h]
theorem ret_bool {a b : Bool} (h : a = b) : Ending.returned (.bool a) = .returned (.bool b) := by rw [h]

theorem impl_WrdOk (n : Int) (w : World) : Calls Try.prog 77 #[.int .i64 n] w fun e w' => e = .returned (.bool (okB n)) ∧ w = w' := by
  by_cases h1 : 0 ≤ n
  · by_cases h2 : n < 65536
    · have h := Lib.hid (okB_mk h1 h2)
      go_enter Try.func77, Try.ntmps77
      go_wp2
      go_ret
      exact ⟨ret_bool (by simp [h.out]; try omega), rfl⟩
    · have h := Lib.hid (okB_no (n := n) (by omega))
      have h3 : decide (n < 65536) = false := by simp; omega
      go_enter Try.func77, Try.ntmps77
      go_wp2
      go_ret
      exact ⟨ret_bool (by simp [h.out]; try omega), rfl⟩
  · have h := Lib.hid (okB_no (n := n) (by omega))
    go_enter Try.func77, Try.ntmps77
    go_wp2
    go_ret
    exact ⟨ret_bool (by simp [h.out]; try omega), rfl⟩

theorem spec_l1In (n lo hi : Int) (w : World) : Calls Try.prog 63 #[.int .i64 n, .int .i64 lo, .int .i64 hi] w fun e w' => e = .returned (.bool (decide (lo ≤ n ∧ n ≤ hi))) ∧ w = w' := by
  by_cases h1 : lo ≤ n
  · by_cases h2 : n ≤ hi
    · go_enter Try.func63, Try.ntmps63
      go_wp2
      go_ret
      exact ⟨ret_bool (by simp; try omega), rfl⟩
    · have h3 : decide (n ≤ hi) = false := by simp; omega
      go_enter Try.func63, Try.ntmps63
      go_wp2
      go_ret
      exact ⟨ret_bool (by simp; try omega), rfl⟩
  · go_enter Try.func63, Try.ntmps63
    go_wp2
    go_ret
    exact ⟨ret_bool (by simp; try omega), rfl⟩

theorem spec_WrdOk (n : Int) (w : World) : Calls Try.prog 57 #[.int .i64 n] w fun e w' => e = .returned (.bool (okB n)) ∧ w = w' := by
  have H := Lib.hid (show decide (0 ≤ n ∧ n ≤ 65535) = okB n by unfold okB; rw [decide_eq_decide]; omega)
  go_enter Try.func57, Try.ntmps57
  go_wp2_with (go_at_call 63; refine (spec_l1In _ _ _ _).mono ?_; rintro e w' ⟨rfl, rfl⟩; rw [H.out])
  go_ret
  exact ⟨rfl, rfl⟩

/-- A word with its sign. -/
def sgnW (x : Int) : Int := if x < 32768 then x else x - 65536
section bits
end bits
/-- A number of so many bits, with its sign, as a word. -/
def ext (n bits : Int) : Int := if n < 2 ^ (bits.toNat - 1) then n else (n - 2 ^ bits.toNat) % 65536
end Go.Proofs.Ytoacgjjpipdkjaa
