/- The contracts of WrdSign, of the program and of the model. -/
import Derived.Test.YtecdmafhjfnloaaGreatDoorWords
namespace Go.Proofs.YtecdmafhjfnloaaGreatDoor
open Go.RowKit
set_option linter.unusedVariables false

/-- A number of so many bits, with its sign, as a word. -/
def ext (n bits : Int) : Int := if n < 2 ^ (bits.toNat - 1) then n else (n - 2 ^ bits.toNat) % 65536
def sgnD (n bits : Int) : Int := if (1 ≤ bits ∧ bits ≤ 16) ∧ 0 ≤ n ∧ n < 2 ^ bits.toNat then ext n bits else -1

theorem pow_bd (bits : Int) (b0 : 1 ≤ bits) (b1 : bits ≤ 16) : 2 ≤ (2 : Int) ^ bits.toNat ∧ (2 : Int) ^ bits.toNat ≤ 65536 ∧ 1 ≤ (2 : Int) ^ (bits.toNat - 1) ∧ (2 : Int) ^ (bits.toNat - 1) ≤ 32768 ∧ (2 : Int) ^ bits.toNat = 2 * 2 ^ (bits.toNat - 1) := by
  have h : bits = 1 ∨ bits = 2 ∨ bits = 3 ∨ bits = 4 ∨ bits = 5 ∨ bits = 6 ∨ bits = 7 ∨ bits = 8 ∨ bits = 9 ∨ bits = 10 ∨ bits = 11 ∨ bits = 12 ∨ bits = 13 ∨ bits = 14 ∨ bits = 15 ∨ bits = 16 := by omega
  rcases h with rfl | rfl | rfl | rfl | rfl | rfl | rfl | rfl | rfl | rfl | rfl | rfl | rfl | rfl | rfl | rfl <;> decide
theorem ext_eq (x bits : Int) (b0 : 1 ≤ bits) (b1 : bits ≤ 16) (x0 : 0 ≤ x) (x1 : x < 2 ^ bits.toNat) :
    IntKind.u16.wrap (IntKind.i16.wrap (IntKind.u16.wrap (x * 2 ^ (16 - bits).toNat)) / 2 ^ (16 - bits).toNat) = ext x bits := by
  have h : bits = 1 ∨ bits = 2 ∨ bits = 3 ∨ bits = 4 ∨ bits = 5 ∨ bits = 6 ∨ bits = 7 ∨ bits = 8 ∨ bits = 9 ∨ bits = 10 ∨ bits = 11 ∨ bits = 12 ∨ bits = 13 ∨ bits = 14 ∨ bits = 15 ∨ bits = 16 := by omega
  rcases h with rfl | rfl | rfl | rfl | rfl | rfl | rfl | rfl | rfl | rfl | rfl | rfl | rfl | rfl | rfl | rfl <;> simp [ext, IntKind.wrap, IntKind.bits, IntKind.signed] at * <;> split <;> split <;> omega
theorem ext_bd (n bits : Int) (b0 : 1 ≤ bits) (b1 : bits ≤ 16) (n0 : 0 ≤ n) (n1 : n < 2 ^ bits.toNat) : 0 ≤ ext n bits ∧ ext n bits < 65536 := by
  obtain ⟨p1, p2, p3, p4, p5⟩ := pow_bd bits b0 b1
  unfold ext
  split <;> omega

theorem impl_extend (x bits : Int) (b0 : 1 ≤ bits) (b1 : bits ≤ 16) (x0 : 0 ≤ x) (x1 : x < 2 ^ bits.toNat) (w : World) : Calls Tryz.prog 82 #[.int .u16 x, .int .i64 bits] w fun e w' => e = .returned (.int .u16 (ext x bits)) ∧ w = w' := by
  have H := Lib.hid (ext_eq x bits b0 b1 x0 x1)
  clear x1
  go_enter Tryz.func82, Tryz.ntmps82
  go_wp2
  go_ret
  exact ⟨ret_int H.out, rfl⟩

theorem l1In_yes (n lo hi : Int) (h1 : lo ≤ n) (h2 : n ≤ hi) (w : World) : Calls Tryz.prog 34 #[.int .i64 n, .int .i64 lo, .int .i64 hi] w fun e w' => e = .returned (.bool true) ∧ w = w' := by
  have := spec_l1In n lo hi w
  rwa [decide_eq_true ⟨h1, h2⟩] at this
theorem l1In_no (n lo hi : Int) (h : n < lo ∨ hi < n) (w : World) : Calls Tryz.prog 34 #[.int .i64 n, .int .i64 lo, .int .i64 hi] w fun e w' => e = .returned (.bool false) ∧ w = w' := by
  have := spec_l1In n lo hi w
  rwa [decide_eq_false (by omega)] at this

theorem sgnD_all (n : Int) (n0 : 0 ≤ n) (n1 : n < 65536) : sgnD n 16 = n := by
  have h1 : sgnD n 16 = ext n 16 := if_pos ⟨⟨by omega, by omega⟩, n0, n1⟩
  rw [h1]
  show (if n < 32768 then n else (n - 65536) % 65536) = n
  split <;> omega
theorem sgn_lo (n bits : Int) (b0 : 1 ≤ bits) (b1 : bits ≤ 16) (n0 : 0 ≤ n) (n1 : n < 2 ^ bits.toNat) (h : n < 2 ^ (bits.toNat - 1)) : sgn (sgnD n bits) = n := by
  obtain ⟨p1, p2, p3, p4, p5⟩ := pow_bd bits b0 b1
  have hE : sgnD n bits = ext n bits := if_pos ⟨⟨b0, b1⟩, n0, n1⟩
  have hX : ext n bits = n := if_pos h
  rw [hE, hX]
  unfold sgn sgnW
  rw [if_pos (okB_mk n0 (by omega)), if_pos (by omega)]
theorem sgn_hi (n bits : Int) (b0 : 1 ≤ bits) (b1 : bits ≤ 16) (n0 : 0 ≤ n) (n1 : n < 2 ^ bits.toNat) (h : ¬ n < 2 ^ (bits.toNat - 1)) : sgn (sgnD n bits) = n - 2 ^ bits.toNat := by
  obtain ⟨p1, p2, p3, p4, p5⟩ := pow_bd bits b0 b1
  have hE : sgnD n bits = ext n bits := if_pos ⟨⟨b0, b1⟩, n0, n1⟩
  have hX : ext n bits = (n - 2 ^ bits.toNat) % 65536 := if_neg h
  rw [hE, hX]
  unfold sgn sgnW
  rw [if_pos (okB_mk (by omega) (by omega)), if_neg (by omega)]
  omega
end Go.Proofs.YtecdmafhjfnloaaGreatDoor
