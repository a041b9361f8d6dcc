/- The contracts of the pure functions of layer 1 (program and model): what each call returns; the world stays as it was. -/
import Derived.Test.YtecdmafhjfnloaaGreatDoorChecked
import Derived.WalkKit
import Derived.WalkSpells
import Derived.Lib.Hide
namespace Go.Proofs.YtecdmafhjfnloaaGreatDoor
open Go.RowKit
set_option linter.unusedVariables false

/-- A number is a word. -/
def okB (n : Int) : Bool := decide (0 ≤ n ∧ n < 65536)
theorem okB_true {n : Int} (h : okB n = true) : 0 ≤ n ∧ n < 65536 := of_decide_eq_true h
theorem okB_false {n : Int} (h : okB n = false) : n < 0 ∨ 65536 ≤ n := by
  have := of_decide_eq_false h
  omega
theorem okB_mk {n : Int} (h0 : 0 ≤ n) (h1 : n < 65536) : okB n = true := decide_eq_true ⟨h0, h1⟩
theorem okB_no {n : Int} (h : n < 0 ∨ 65536 ≤ n) : okB n = false := decide_eq_false (by omega)

theorem ret_int {k : IntKind} {a b : Int} (h : a = b) : Ending.returned (.int k a) = .returned (.int k b) := by rw [h]
theorem ret_bool {a b : Bool} (h : a = b) : Ending.returned (.bool a) = .returned (.bool b) := by rw [h]

theorem impl_WrdOk (n : Int) (w : World) : Calls Tryz.prog 16 #[.int .i64 n] w fun e w' => e = .returned (.bool (okB n)) ∧ w = w' := by
  by_cases h1 : 0 ≤ n
  · by_cases h2 : n < 65536
    · have h := Lib.hid (okB_mk h1 h2)
      go_enter Tryz.func16, Tryz.ntmps16
      go_wp2
      go_ret
      exact ⟨ret_bool (by simp [h.out]; try omega), rfl⟩
    · have h := Lib.hid (okB_no (n := n) (by omega))
      have h3 : decide (n < 65536) = false := by simp; omega
      go_enter Tryz.func16, Tryz.ntmps16
      go_wp2
      go_ret
      exact ⟨ret_bool (by simp [h.out]; try omega), rfl⟩
  · have h := Lib.hid (okB_no (n := n) (by omega))
    go_enter Tryz.func16, Tryz.ntmps16
    go_wp2
    go_ret
    exact ⟨ret_bool (by simp [h.out]; try omega), rfl⟩

theorem spec_l1In (n lo hi : Int) (w : World) : Calls Tryz.prog 34 #[.int .i64 n, .int .i64 lo, .int .i64 hi] w fun e w' => e = .returned (.bool (decide (lo ≤ n ∧ n ≤ hi))) ∧ w = w' := by
  by_cases h1 : lo ≤ n
  · by_cases h2 : n ≤ hi
    · go_enter Tryz.func34, Tryz.ntmps34
      go_wp2
      go_ret
      exact ⟨ret_bool (by simp; try omega), rfl⟩
    · have h3 : decide (n ≤ hi) = false := by simp; omega
      go_enter Tryz.func34, Tryz.ntmps34
      go_wp2
      go_ret
      exact ⟨ret_bool (by simp; try omega), rfl⟩
  · go_enter Tryz.func34, Tryz.ntmps34
    go_wp2
    go_ret
    exact ⟨ret_bool (by simp; try omega), rfl⟩

theorem spec_WrdOk (n : Int) (w : World) : Calls Tryz.prog 10 #[.int .i64 n] w fun e w' => e = .returned (.bool (okB n)) ∧ w = w' := by
  have H := Lib.hid (show decide (0 ≤ n ∧ n ≤ 65535) = okB n by unfold okB; rw [decide_eq_decide]; omega)
  go_enter Tryz.func10, Tryz.ntmps10
  go_wp2_with (go_at_call 34; refine (spec_l1In _ _ _ _).mono ?_; rintro e w' ⟨rfl, rfl⟩; rw [H.out])
  go_ret
  exact ⟨rfl, rfl⟩

/-- A word with its sign. -/
def sgnW (x : Int) : Int := if x < 32768 then x else x - 65536
def sgn (n : Int) : Int := if okB n = true then sgnW n else 0

theorem impl_signed (x : Int) (h0 : 0 ≤ x) (h1 : x < 65536) (w : World) : Calls Tryz.prog 83 #[.int .u16 x] w fun e w' => e = .returned (.int .i64 (sgnW x)) ∧ w = w' := by
  go_enter Tryz.func83, Tryz.ntmps83
  go_wp2
  go_ret
  refine ⟨ret_int ?_, rfl⟩
  have e : IntKind.i16.wrap x = sgnW x := by
    unfold sgnW
    simp [IntKind.wrap, IntKind.bits, IntKind.signed]
    split <;> split <;> omega
  rw [e, IntWalk.wrap64_in]
  unfold sgnW
  split <;> omega

theorem laws_haOk (w : World) : Calls Tryz.prog 11 #[] w fun e w' => e = .returned (.bool true) ∧ w = w' := by
  have H := Lib.hid (okB_mk (n := 1) (by decide) (by decide))
  go_enter Tryz.func11, Tryz.ntmps11
  go_wp2_with (go_at_call 16; refine (impl_WrdOk _ _).mono ?_; rintro e w' ⟨rfl, rfl⟩; rw [H.out])
  go_ret
  exact ⟨rfl, rfl⟩

def ltN (x y : Int) : Int := if sgnW x < sgnW y then 1 else 0
theorem ltN_01 (x y : Int) : 0 ≤ ltN x y ∧ ltN x y ≤ 1 := by unfold ltN; split <;> omega
theorem ltN_pos {x y : Int} (h : sgnW x < sgnW y) : ltN x y = 1 := if_pos h
theorem ltN_neg {x y : Int} (h : ¬ sgnW x < sgnW y) : ltN x y = 0 := if_neg h
/-- What an ALU operation makes of two words. -/
def alu (f a b : Int) : Int :=
  if f = 0 then (a + b) % 65536 else if f = 1 then (a - b) % 65536
  else if f = 2 then ((a.toNat &&& b.toNat : Nat) : Int) else if f = 3 then ((a.toNat ||| b.toNat : Nat) : Int) else if f = 4 then ((a.toNat ^^^ b.toNat : Nat) : Int)
  else if f = 5 then ltN a b
  else if f = 6 then a * 2 ^ (b % 16).toNat % 65536 else if f = 7 then a / 2 ^ (b % 16).toNat else -1
def aluD (f a b : Int) : Int := if okB a = true ∧ okB b = true then alu f a b else -1

section bits
theorem and_lt (a b : Int) (a0 : 0 ≤ a) (a1 : a < 65536) : a.toNat &&& b.toNat < 65536 := by
  rw [Nat.and_comm]; exact Nat.and_lt_two_pow (n := 16) _ (by omega)
theorem or_lt (a b : Int) (a0 : 0 ≤ a) (a1 : a < 65536) (b0 : 0 ≤ b) (b1 : b < 65536) : a.toNat ||| b.toNat < 65536 := Nat.or_lt_two_pow (n := 16) (by omega) (by omega)
theorem xor_lt (a b : Int) (a0 : 0 ≤ a) (a1 : a < 65536) (b0 : 0 ≤ b) (b1 : b < 65536) : a.toNat ^^^ b.toNat < 65536 := Nat.xor_lt_two_pow (n := 16) (by omega) (by omega)
theorem i64_of (a : Int) (a0 : 0 ≤ a) (a1 : a < 65536) : (BitVec.ofInt 64 a).toNat = a.toNat := by
  obtain ⟨A, rfl⟩ := Int.eq_ofNat_of_zero_le a0
  simpa using ofInt_u64 A (by omega)
theorem i64_and_w (a b : Int) (a0 : 0 ≤ a) (a1 : a < 65536) (b0 : 0 ≤ b) (b1 : b < 65536) : bits .and .i64 a b = ((a.toNat &&& b.toNat : Nat) : Int) := by
  have hx := and_lt a b a0 a1
  show IntKind.i64.wrap ((BitVec.ofInt 64 a &&& BitVec.ofInt 64 b).toNat : Int) = _
  rw [BitVec.toNat_and, i64_of a a0 a1, i64_of b b0 b1, IntWalk.i64_left, IntWalk.wrap64_in _ (by omega)]
theorem i64_or_w (a b : Int) (a0 : 0 ≤ a) (a1 : a < 65536) (b0 : 0 ≤ b) (b1 : b < 65536) : bits .or .i64 a b = ((a.toNat ||| b.toNat : Nat) : Int) := by
  have hx := or_lt a b a0 a1 b0 b1
  show IntKind.i64.wrap ((BitVec.ofInt 64 a ||| BitVec.ofInt 64 b).toNat : Int) = _
  rw [BitVec.toNat_or, i64_of a a0 a1, i64_of b b0 b1, IntWalk.i64_left, IntWalk.wrap64_in _ (by omega)]
theorem i64_xor_w (a b : Int) (a0 : 0 ≤ a) (a1 : a < 65536) (b0 : 0 ≤ b) (b1 : b < 65536) : bits .xor .i64 a b = ((a.toNat ^^^ b.toNat : Nat) : Int) := by
  have hx := xor_lt a b a0 a1 b0 b1
  show IntKind.i64.wrap ((BitVec.ofInt 64 a ^^^ BitVec.ofInt 64 b).toNat : Int) = _
  rw [BitVec.toNat_xor, i64_of a a0 a1, i64_of b b0 b1, IntWalk.i64_left, IntWalk.wrap64_in _ (by omega)]
theorem alu2_u (a b : Int) (a0 : 0 ≤ a) (a1 : a < 65536) (b0 : 0 ≤ b) (b1 : b < 65536) : wrap64 (bits .and .u16 a b) = alu 2 a b := by
  have hx := and_lt a b a0 a1
  rw [u16_and a b a0 a1 b0 b1, IntWalk.wrap64_in _ (by omega)]; rfl
theorem alu3_u (a b : Int) (a0 : 0 ≤ a) (a1 : a < 65536) (b0 : 0 ≤ b) (b1 : b < 65536) : wrap64 (bits .or .u16 a b) = alu 3 a b := by
  have hx := or_lt a b a0 a1 b0 b1
  rw [u16_or a b a0 a1 b0 b1, IntWalk.wrap64_in _ (by omega)]; rfl
theorem alu4_u (a b : Int) (a0 : 0 ≤ a) (a1 : a < 65536) (b0 : 0 ≤ b) (b1 : b < 65536) : wrap64 (bits .xor .u16 a b) = alu 4 a b := by
  have hx := xor_lt a b a0 a1 b0 b1
  rw [u16_xor a b a0 a1 b0 b1, IntWalk.wrap64_in _ (by omega)]; rfl
end bits
theorem shl_bd (a b : Int) (a0 : 0 ≤ a) (a1 : a < 65536) : 0 ≤ a * 2 ^ (b % 16).toNat ∧ a * 2 ^ (b % 16).toNat ≤ 2147450880 := by
  have h1 : (b % 16).toNat ≤ 15 := by omega
  have h2 : (2 : Nat) ^ (b % 16).toNat ≤ 2 ^ 15 := Nat.pow_le_pow_right (by decide) h1
  have h3 : ((2 : Int) ^ (b % 16).toNat) ≤ 32768 := by
    have : (((2 : Nat) ^ (b % 16).toNat : Nat) : Int) ≤ ((2 ^ 15 : Nat) : Int) := Int.ofNat_le.mpr h2
    simpa [Int.natCast_pow] using this
  have h4 : 0 ≤ (2 : Int) ^ (b % 16).toNat := Int.pow_nonneg (by decide)
  exact ⟨Int.mul_nonneg a0 h4, Int.le_trans (Int.mul_le_mul (show a ≤ 65535 by omega) h3 h4 (by decide)) (by decide)⟩
theorem shr_bd (a b : Int) (a0 : 0 ≤ a) (a1 : a < 65536) : 0 ≤ a / 2 ^ (b % 16).toNat ∧ a / 2 ^ (b % 16).toNat < 65536 := by
  have h4 : 0 < (2 : Int) ^ (b % 16).toNat := Int.pow_pos (by decide)
  exact ⟨Int.ediv_nonneg a0 (Int.le_of_lt h4), Int.lt_of_le_of_lt (Int.ediv_le_self _ a0) a1⟩

set_option maxHeartbeats 1000000 in
set_option maxHeartbeats 1000000 in
theorem okB_or {a b : Int} (h : ¬ (okB a = true ∧ okB b = true)) : okB a = false ∨ okB b = false := by
  cases ha : okB a <;> cases hb : okB b <;> simp_all
def mulD (a b : Int) : Int := if okB a = true ∧ okB b = true then a * b % 65536 else -1
theorem mulD_yes {a b : Int} (ha : okB a = true) (hb : okB b = true) : mulD a b = a * b % 65536 := if_pos ⟨ha, hb⟩
theorem mulD_ok {a b : Int} (ha : okB a = true) (hb : okB b = true) : 0 ≤ mulD a b ∧ mulD a b < 65536 := by
  rw [mulD_yes ha hb]
  exact ⟨Int.emod_nonneg _ (by decide), Int.emod_lt_of_pos _ (by decide)⟩
theorem okB_mod (n : Int) : okB (n % 65536) = true := okB_mk (Int.emod_nonneg _ (by decide)) (Int.emod_lt_of_pos _ (by decide))
theorem aluD_yes {f a b : Int} (ha : okB a = true) (hb : okB b = true) : aluD f a b = alu f a b := if_pos ⟨ha, hb⟩
/-- The laws of the product. -/
theorem mul_laws (a b c : Int) (len : Nat) (ha : okB a = true) (hb : okB b = true) (hc : okB c = true) :
    mulD a b = mulD b a ∧ mulD a 1 = a ∧ mulD a 0 = 0 ∧ mulD a (aluD 0 b c) = aluD 0 (mulD a b) (mulD a c) ∧ mulD a (2 ^ ((len : Int) % 16).toNat) = aluD 6 a ((len : Int) % 16) := by
  obtain ⟨a0, a1⟩ := okB_true ha
  have h16 : 0 ≤ (len : Int) % 16 ∧ (len : Int) % 16 < 16 := by omega
  have hp1 : (2 : Int) ^ ((len : Int) % 16).toNat ≤ 32768 := by
    have h2 : (2 : Nat) ^ ((len : Int) % 16).toNat ≤ 2 ^ 15 := Nat.pow_le_pow_right (by decide) (by omega)
    have : (((2 : Nat) ^ ((len : Int) % 16).toNat : Nat) : Int) ≤ ((2 ^ 15 : Nat) : Int) := Int.ofNat_le.mpr h2
    simpa [Int.natCast_pow] using this
  have hp0 : 0 < (2 : Int) ^ ((len : Int) % 16).toNat := Int.pow_pos (by decide)
  refine ⟨by rw [mulD_yes ha hb, mulD_yes hb ha, Int.mul_comm], ?_, ?_, ?_, ?_⟩
  · rw [mulD_yes ha rfl, Int.mul_one, Int.emod_eq_of_lt a0 a1]
  · rw [mulD_yes ha rfl, Int.mul_zero]; rfl
  · rw [aluD_yes hb hc, mulD_yes ha hb, mulD_yes ha hc, aluD_yes (okB_mod _) (okB_mod _)]
    show mulD a ((b + c) % 65536) = (a * b % 65536 + a * c % 65536) % 65536
    rw [mulD_yes ha (okB_mod _), Int.mul_emod, Int.emod_emod_of_dvd _ (by decide), ← Int.mul_emod, Int.mul_add, Int.add_emod]
  · rw [mulD_yes ha (okB_mk (by omega) (by omega)), aluD_yes ha (okB_mk (by omega) (by omega))]
    show _ = a * 2 ^ ((len : Int) % 16 % 16).toNat % 65536
    rw [Int.emod_emod_of_dvd _ (by decide)]
end Go.Proofs.YtecdmafhjfnloaaGreatDoor
