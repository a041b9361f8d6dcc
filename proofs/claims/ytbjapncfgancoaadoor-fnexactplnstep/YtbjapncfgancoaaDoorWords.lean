/- The contracts of the pure functions of layer 1 (program and model): what each call returns; the world stays as it was. The plain laws of the ALU operations, on numbers. The contracts of WrdSign, of the program and of the model. -/
import Derived.WalkKit
import Derived.WalkSpells
import Derived.Lib.Hide
import Derived.Test.YtbjapncfgancoaaDoorChecked
namespace Go.Proofs.YtbjapncfgancoaaDoor
open Go.RowKit
set_option linter.unusedVariables false

/-- A number is a word. -/
def okB (n : Int) : Bool := decide (0 ≤ n ∧ n < 65536)
theorem okB_true {n : Int} (h : okB n = true) : 0 ≤ n ∧ n < 65536 := of_decide_eq_true h
theorem okB_mk {n : Int} (h0 : 0 ≤ n) (h1 : n < 65536) : okB n = true := decide_eq_true ⟨h0, h1⟩
theorem okB_no {n : Int} (h : n < 0 ∨ 65536 ≤ n) : okB n = false := decide_eq_false (by omega)

theorem ret_int {k : IntKind} {a b : Int} (h : a = b) : Ending.returned (.int k a) = .returned (.int k b) := by rw [h]
theorem ret_bool {a b : Bool} (h : a = b) : Ending.returned (.bool a) = .returned (.bool b) := by rw [h]

theorem impl_WrdOk (n : Int) (w : World) : Calls Tryd.prog 56 #[.int .i64 n] w fun e w' => e = .returned (.bool (okB n)) ∧ w = w' := by
  by_cases h1 : 0 ≤ n
  · by_cases h2 : n < 65536
    · have h := Lib.hid (okB_mk h1 h2)
      go_enter Tryd.func56, Tryd.ntmps56
      go_wp2
      go_ret
      exact ⟨ret_bool (by simp [h.out]; try omega), rfl⟩
    · have h := Lib.hid (okB_no (n := n) (by omega))
      have h3 : decide (n < 65536) = false := by simp; omega
      go_enter Tryd.func56, Tryd.ntmps56
      go_wp2
      go_ret
      exact ⟨ret_bool (by simp [h.out]; try omega), rfl⟩
  · have h := Lib.hid (okB_no (n := n) (by omega))
    go_enter Tryd.func56, Tryd.ntmps56
    go_wp2
    go_ret
    exact ⟨ret_bool (by simp [h.out]; try omega), rfl⟩

theorem spec_l1In (n lo hi : Int) (w : World) : Calls Tryd.prog 80 #[.int .i64 n, .int .i64 lo, .int .i64 hi] w fun e w' => e = .returned (.bool (decide (lo ≤ n ∧ n ≤ hi))) ∧ w = w' := by
  by_cases h1 : lo ≤ n
  · by_cases h2 : n ≤ hi
    · go_enter Tryd.func80, Tryd.ntmps80
      go_wp2
      go_ret
      exact ⟨ret_bool (by simp; try omega), rfl⟩
    · have h3 : decide (n ≤ hi) = false := by simp; omega
      go_enter Tryd.func80, Tryd.ntmps80
      go_wp2
      go_ret
      exact ⟨ret_bool (by simp; try omega), rfl⟩
  · go_enter Tryd.func80, Tryd.ntmps80
    go_wp2
    go_ret
    exact ⟨ret_bool (by simp; try omega), rfl⟩

theorem spec_WrdOk (n : Int) (w : World) : Calls Tryd.prog 66 #[.int .i64 n] w fun e w' => e = .returned (.bool (okB n)) ∧ w = w' := by
  have H := Lib.hid (show decide (0 ≤ n ∧ n ≤ 65535) = okB n by unfold okB; rw [decide_eq_decide]; omega)
  go_enter Tryd.func66, Tryd.ntmps66
  go_wp2_with (go_at_call 80; refine (spec_l1In _ _ _ _).mono ?_; rintro e w' ⟨rfl, rfl⟩; rw [H.out])
  go_ret
  exact ⟨rfl, rfl⟩

/-- A word with its sign. -/
def sgnW (x : Int) : Int := if x < 32768 then x else x - 65536
def sgn (n : Int) : Int := if okB n = true then sgnW n else 0

theorem impl_signed (x : Int) (h0 : 0 ≤ x) (h1 : x < 65536) (w : World) : Calls Tryd.prog 60 #[.int .u16 x] w fun e w' => e = .returned (.int .i64 (sgnW x)) ∧ w = w' := by
  go_enter Tryd.func60, Tryd.ntmps60
  go_wp2
  go_ret
  refine ⟨ret_int ?_, rfl⟩
  have e : IntKind.i16.wrap x = sgnW x := by
    unfold sgnW
    simp [IntKind.wrap, IntKind.bits, IntKind.signed]
    split <;> split <;> omega
  rw [e, IntWalk.wrap64_in]
  unfold sgnW
  split <;> omega

theorem impl_WrdInt (n : Int) (w : World) : Calls Tryd.prog 38 #[.int .i64 n] w fun e w' => e = .returned (.int .i64 (sgn n)) ∧ w = w' := by
  cases hk : okB n
  · have H := Lib.hid (show sgn n = 0 by simp [sgn, hk])
    go_enter Tryd.func38, Tryd.ntmps38
    go_wp2_with (go_at_call 56; refine (impl_WrdOk _ _).mono ?_; rintro e w' ⟨rfl, rfl⟩)
    go_ret
    exact ⟨ret_int H.out.symm, rfl⟩
  · have H := Lib.hid (show sgn n = sgnW n by simp [sgn, hk])
    obtain ⟨h0, h1⟩ := okB_true hk
    go_enter Tryd.func38, Tryd.ntmps38
    go_wp2_with (first | (go_at_call 56; refine (impl_WrdOk _ _).mono ?_; rintro e w' ⟨rfl, rfl⟩) | (go_at_call 60; refine (impl_signed _ h0 h1 _).mono ?_; rintro e w' ⟨rfl, rfl⟩))
    go_ret
    exact ⟨ret_int H.out.symm, rfl⟩

theorem spec_WrdInt (n : Int) (w : World) : Calls Tryd.prog 113 #[.int .i64 n] w fun e w' => e = .returned (.int .i64 (sgn n)) ∧ w = w' := by
  cases hk : okB n
  · have H := Lib.hid (show sgn n = 0 by simp [sgn, hk])
    go_enter Tryd.func113, Tryd.ntmps113
    go_wp2_with (go_at_call 66; refine (spec_WrdOk _ _).mono ?_; rintro e w' ⟨rfl, rfl⟩)
    go_ret
    exact ⟨ret_int H.out.symm, rfl⟩
  · have H := Lib.hid (show sgn n = sgnW n by simp [sgn, hk])
    obtain ⟨h0, h1⟩ := okB_true hk
    by_cases h2 : 32768 ≤ n
    · go_enter Tryd.func113, Tryd.ntmps113
      go_wp2_with (go_at_call 66; refine (spec_WrdOk _ _).mono ?_; rintro e w' ⟨rfl, rfl⟩)
      go_ret
      exact ⟨ret_int (by rw [H.out, sgnW, if_neg (by omega)]), rfl⟩
    · go_enter Tryd.func113, Tryd.ntmps113
      go_wp2_with (go_at_call 66; refine (spec_WrdOk _ _).mono ?_; rintro e w' ⟨rfl, rfl⟩)
      go_ret
      exact ⟨ret_int (by rw [H.out, sgnW, if_pos (by omega)]), rfl⟩

theorem spec_l1Wrap (n : Int) (w : World) : Calls Tryd.prog 110 #[.int .i64 n] w fun e w' => e = .returned (.int .i64 (n % 65536)) ∧ w = w' := by
  have hl : -65536 < n.tmod 65536 := Int.lt_tmod_of_pos n (by decide)
  have hu : n.tmod 65536 < 65536 := Int.tmod_lt_of_pos n (by decide)
  have he := Lib.hid (show (n.tmod 65536 + 65536) % 65536 = n % 65536 by rw [Int.tmod_eq_emod]; split <;> simp <;> omega)
  go_enter Tryd.func110, Tryd.ntmps110
  go_wp2
  go_ret
  exact ⟨ret_int he.out, rfl⟩

theorem impl_MulDo_no (a b : Int) (h : okB a = false ∨ okB b = false) (w : World) : Calls Tryd.prog 37 #[.int .i64 a, .int .i64 b] w fun e w' => e = .returned (.int .i64 (-1)) ∧ w = w' := by
  cases hk : okB a
  · clear h
    go_enter Tryd.func37, Tryd.ntmps37
    go_wp2_with (go_at_call 56; refine (impl_WrdOk _ _).mono ?_; rintro e w' ⟨rfl, rfl⟩)
    go_ret
    exact ⟨rfl, rfl⟩
  · have hb : okB b = false := by simpa [hk] using h
    clear h
    go_enter Tryd.func37, Tryd.ntmps37
    go_wp2_with (go_at_call 56; refine (impl_WrdOk _ _).mono ?_; rintro e w' ⟨rfl, rfl⟩)
    go_ret
    exact ⟨rfl, rfl⟩

theorem impl_MulDo_yes (a b : Int) (ha : okB a = true) (hb : okB b = true) (w : World) : Calls Tryd.prog 37 #[.int .i64 a, .int .i64 b] w fun e w' => e = .returned (.int .i64 (a * b % 65536)) ∧ w = w' := by
  obtain ⟨a0, a1⟩ := okB_true ha
  obtain ⟨b0, b1⟩ := okB_true hb
  go_enter Tryd.func37, Tryd.ntmps37
  go_wp2_with (go_at_call 56; refine (impl_WrdOk _ _).mono ?_; rintro e w' ⟨rfl, rfl⟩)
  go_ret
  exact ⟨ret_int (by rw [IntKind.wrap_u16, IntWalk.wrap64_in _ (by omega)]), rfl⟩

theorem spec_MulDo_no (a b : Int) (h : okB a = false ∨ okB b = false) (w : World) : Calls Tryd.prog 112 #[.int .i64 a, .int .i64 b] w fun e w' => e = .returned (.int .i64 (-1)) ∧ w = w' := by
  cases hk : okB a
  · clear h
    go_enter Tryd.func112, Tryd.ntmps112
    go_wp2_with (go_at_call 66; refine (spec_WrdOk _ _).mono ?_; rintro e w' ⟨rfl, rfl⟩)
    go_ret
    exact ⟨rfl, rfl⟩
  · have hb : okB b = false := by simpa [hk] using h
    clear h
    go_enter Tryd.func112, Tryd.ntmps112
    go_wp2_with (go_at_call 66; refine (spec_WrdOk _ _).mono ?_; rintro e w' ⟨rfl, rfl⟩)
    go_ret
    exact ⟨rfl, rfl⟩

theorem spec_MulDo_yes (a b : Int) (ha : okB a = true) (hb : okB b = true) (w : World) : Calls Tryd.prog 112 #[.int .i64 a, .int .i64 b] w fun e w' => e = .returned (.int .i64 (a * b % 65536)) ∧ w = w' := by
  obtain ⟨a0, a1⟩ := okB_true ha
  obtain ⟨b0, b1⟩ := okB_true hb
  have p0 : 0 ≤ a * b := Int.mul_nonneg a0 b0
  have p1 : a * b ≤ 65535 * 65535 := Int.mul_le_mul (by omega) (by omega) b0 (by decide)
  go_enter Tryd.func112, Tryd.ntmps112
  go_wp2_with (first | (go_at_call 66; refine (spec_WrdOk _ _).mono ?_; rintro e w' ⟨rfl, rfl⟩) | (go_at_call 110; refine (spec_l1Wrap _ _).mono ?_; rintro e w' ⟨rfl, rfl⟩))
  go_ret
  exact ⟨rfl, rfl⟩

def ltN (x y : Int) : Int := if sgnW x < sgnW y then 1 else 0
theorem ltN_01 (x y : Int) : 0 ≤ ltN x y ∧ ltN x y ≤ 1 := by unfold ltN; split <;> omega
theorem ltN_pos {x y : Int} (h : sgnW x < sgnW y) : ltN x y = 1 := if_pos h
theorem ltN_neg {x y : Int} (h : ¬ sgnW x < sgnW y) : ltN x y = 0 := if_neg h
theorem impl_less (x y : Int) (x0 : 0 ≤ x) (x1 : x < 65536) (y0 : 0 ≤ y) (y1 : y < 65536) (w : World) : Calls Tryd.prog 57 #[.int .u16 x, .int .u16 y] w fun e w' => e = .returned (.int .u16 (ltN x y)) ∧ w = w' := by
  by_cases h : sgnW x < sgnW y
  · have H := Lib.hid (ltN_pos h)
    go_enter Tryd.func57, Tryd.ntmps57
    go_wp2_with (go_at_call 60; refine (impl_signed _ (by omega) (by omega) _).mono ?_; rintro e w' ⟨rfl, rfl⟩)
    go_ret
    exact ⟨ret_int H.out.symm, rfl⟩
  · have H := Lib.hid (ltN_neg h)
    go_enter Tryd.func57, Tryd.ntmps57
    go_wp2_with (go_at_call 60; refine (impl_signed _ (by omega) (by omega) _).mono ?_; rintro e w' ⟨rfl, rfl⟩)
    go_ret
    exact ⟨ret_int H.out.symm, rfl⟩

theorem impl_left (x y : Int) (x0 : 0 ≤ x) (x1 : x < 65536) (y0 : 0 ≤ y) (y1 : y < 65536) (w : World) : Calls Tryd.prog 58 #[.int .u16 x, .int .u16 y] w fun e w' => e = .returned (.int .u16 (x * 2 ^ (y % 16).toNat % 65536)) ∧ w = w' := by
  go_enter Tryd.func58, Tryd.ntmps58
  go_wp2
  go_ret
  exact ⟨ret_int (IntKind.wrap_u16 _), rfl⟩

theorem impl_right (x y : Int) (x0 : 0 ≤ x) (x1 : x < 65536) (y0 : 0 ≤ y) (y1 : y < 65536) (w : World) : Calls Tryd.prog 59 #[.int .u16 x, .int .u16 y] w fun e w' => e = .returned (.int .u16 (x / 2 ^ (y % 16).toNat)) ∧ w = w' := by
  go_enter Tryd.func59, Tryd.ntmps59
  go_wp2
  go_ret
  exact ⟨rfl, rfl⟩

/-- What an ALU operation makes of two words. -/
def alu (f a b : Int) : Int :=
  if f = 0 then (a + b) % 65536 else if f = 1 then (a - b) % 65536
  else if f = 2 then ((a.toNat &&& b.toNat : Nat) : Int) else if f = 3 then ((a.toNat ||| b.toNat : Nat) : Int) else if f = 4 then ((a.toNat ^^^ b.toNat : Nat) : Int)
  else if f = 5 then ltN a b
  else if f = 6 then a * 2 ^ (b % 16).toNat % 65536 else if f = 7 then a / 2 ^ (b % 16).toNat else -1
def aluD (f a b : Int) : Int := if okB a = true ∧ okB b = true then alu f a b else -1

theorem impl_AluDo_no (f a b : Int) (h : okB a = false ∨ okB b = false) (w : World) : Calls Tryd.prog 34 #[.int .i64 f, .int .i64 a, .int .i64 b] w fun e w' => e = .returned (.int .i64 (-1)) ∧ w = w' := by
  cases hk : okB a
  · clear h
    go_enter Tryd.func34, Tryd.ntmps34
    go_wp2_with (go_at_call 56; refine (impl_WrdOk _ _).mono ?_; rintro e w' ⟨rfl, rfl⟩)
    go_ret
    exact ⟨rfl, rfl⟩
  · have hb : okB b = false := by simpa [hk] using h
    clear h
    go_enter Tryd.func34, Tryd.ntmps34
    go_wp2_with (go_at_call 56; refine (impl_WrdOk _ _).mono ?_; rintro e w' ⟨rfl, rfl⟩)
    go_ret
    exact ⟨rfl, rfl⟩


section bits
theorem and_lt (a b : Int) (a0 : 0 ≤ a) (a1 : a < 65536) : a.toNat &&& b.toNat < 65536 := by
  rw [Nat.and_comm]; exact Nat.and_lt_two_pow (n := 16) _ (by omega)
theorem or_lt (a b : Int) (a0 : 0 ≤ a) (a1 : a < 65536) (b0 : 0 ≤ b) (b1 : b < 65536) : a.toNat ||| b.toNat < 65536 := Nat.or_lt_two_pow (n := 16) (by omega) (by omega)
theorem xor_lt (a b : Int) (a0 : 0 ≤ a) (a1 : a < 65536) (b0 : 0 ≤ b) (b1 : b < 65536) : a.toNat ^^^ b.toNat < 65536 := Nat.xor_lt_two_pow (n := 16) (by omega) (by omega)
theorem i64_of (a : Int) (a0 : 0 ≤ a) (a1 : a < 65536) : (BitVec.ofInt 64 a).toNat = a.toNat := by
  obtain ⟨A, rfl⟩ := Int.eq_ofNat_of_zero_le a0
  simpa using ofInt_u64 A (by omega)
theorem i64_and_w (a b : Int) (a0 : 0 ≤ a) (a1 : a < 65536) (b0 : 0 ≤ b) (b1 : b < 65536) : bits .and .i64 a b = ((a.toNat &&& b.toNat : Nat) : Int) := by
  have hx := and_lt a b a0 a1
  show IntKind.i64.wrap ((BitVec.ofInt 64 a &&& BitVec.ofInt 64 b).toNat : Int) = _
  rw [BitVec.toNat_and, i64_of a a0 a1, i64_of b b0 b1, IntWalk.i64_left, IntWalk.wrap64_in _ (by omega)]
theorem i64_or_w (a b : Int) (a0 : 0 ≤ a) (a1 : a < 65536) (b0 : 0 ≤ b) (b1 : b < 65536) : bits .or .i64 a b = ((a.toNat ||| b.toNat : Nat) : Int) := by
  have hx := or_lt a b a0 a1 b0 b1
  show IntKind.i64.wrap ((BitVec.ofInt 64 a ||| BitVec.ofInt 64 b).toNat : Int) = _
  rw [BitVec.toNat_or, i64_of a a0 a1, i64_of b b0 b1, IntWalk.i64_left, IntWalk.wrap64_in _ (by omega)]
theorem i64_xor_w (a b : Int) (a0 : 0 ≤ a) (a1 : a < 65536) (b0 : 0 ≤ b) (b1 : b < 65536) : bits .xor .i64 a b = ((a.toNat ^^^ b.toNat : Nat) : Int) := by
  have hx := xor_lt a b a0 a1 b0 b1
  show IntKind.i64.wrap ((BitVec.ofInt 64 a ^^^ BitVec.ofInt 64 b).toNat : Int) = _
  rw [BitVec.toNat_xor, i64_of a a0 a1, i64_of b b0 b1, IntWalk.i64_left, IntWalk.wrap64_in _ (by omega)]
theorem alu2_u (a b : Int) (a0 : 0 ≤ a) (a1 : a < 65536) (b0 : 0 ≤ b) (b1 : b < 65536) : wrap64 (bits .and .u16 a b) = alu 2 a b := by
  have hx := and_lt a b a0 a1
  rw [u16_and a b a0 a1 b0 b1, IntWalk.wrap64_in _ (by omega)]; rfl
theorem alu3_u (a b : Int) (a0 : 0 ≤ a) (a1 : a < 65536) (b0 : 0 ≤ b) (b1 : b < 65536) : wrap64 (bits .or .u16 a b) = alu 3 a b := by
  have hx := or_lt a b a0 a1 b0 b1
  rw [u16_or a b a0 a1 b0 b1, IntWalk.wrap64_in _ (by omega)]; rfl
theorem alu4_u (a b : Int) (a0 : 0 ≤ a) (a1 : a < 65536) (b0 : 0 ≤ b) (b1 : b < 65536) : wrap64 (bits .xor .u16 a b) = alu 4 a b := by
  have hx := xor_lt a b a0 a1 b0 b1
  rw [u16_xor a b a0 a1 b0 b1, IntWalk.wrap64_in _ (by omega)]; rfl
end bits
theorem shl_bd (a b : Int) (a0 : 0 ≤ a) (a1 : a < 65536) : 0 ≤ a * 2 ^ (b % 16).toNat ∧ a * 2 ^ (b % 16).toNat ≤ 2147450880 := by
  have h1 : (b % 16).toNat ≤ 15 := by omega
  have h2 : (2 : Nat) ^ (b % 16).toNat ≤ 2 ^ 15 := Nat.pow_le_pow_right (by decide) h1
  have h3 : ((2 : Int) ^ (b % 16).toNat) ≤ 32768 := by
    have : (((2 : Nat) ^ (b % 16).toNat : Nat) : Int) ≤ ((2 ^ 15 : Nat) : Int) := Int.ofNat_le.mpr h2
    simpa [Int.natCast_pow] using this
  have h4 : 0 ≤ (2 : Int) ^ (b % 16).toNat := Int.pow_nonneg (by decide)
  exact ⟨Int.mul_nonneg a0 h4, Int.le_trans (Int.mul_le_mul (show a ≤ 65535 by omega) h3 h4 (by decide)) (by decide)⟩
theorem shr_bd (a b : Int) (a0 : 0 ≤ a) (a1 : a < 65536) : 0 ≤ a / 2 ^ (b % 16).toNat ∧ a / 2 ^ (b % 16).toNat < 65536 := by
  have h4 : 0 < (2 : Int) ^ (b % 16).toNat := Int.pow_pos (by decide)
  exact ⟨Int.ediv_nonneg a0 (Int.le_of_lt h4), Int.lt_of_le_of_lt (Int.ediv_le_self _ a0) a1⟩

set_option maxHeartbeats 1000000 in
theorem impl_AluDo_yes (f a b : Int) (ha : okB a = true) (hb : okB b = true) (w : World) : Calls Tryd.prog 34 #[.int .i64 f, .int .i64 a, .int .i64 b] w fun e w' => e = .returned (.int .i64 (alu f a b)) ∧ w = w' := by
  obtain ⟨a0, a1⟩ := okB_true ha
  obtain ⟨b0, b1⟩ := okB_true hb
  by_cases h0 : f = 0
  · subst h0
    go_enter Tryd.func34, Tryd.ntmps34
    go_wp2_with ((go_at_call 56; refine (impl_WrdOk _ _).mono ?_; rintro e w' ⟨rfl, rfl⟩))
    go_ret
    exact ⟨ret_int (by rw [IntKind.wrap_u16, IntWalk.wrap64_in _ (by omega)]; rfl), rfl⟩
  by_cases h1 : f = 1
  · subst h1
    go_enter Tryd.func34, Tryd.ntmps34
    go_wp2_with ((go_at_call 56; refine (impl_WrdOk _ _).mono ?_; rintro e w' ⟨rfl, rfl⟩))
    go_ret
    exact ⟨ret_int (by rw [IntKind.wrap_u16, IntWalk.wrap64_in _ (by omega)]; rfl), rfl⟩
  by_cases h2 : f = 2
  · subst h2
    go_enter Tryd.func34, Tryd.ntmps34
    go_wp2_with ((go_at_call 56; refine (impl_WrdOk _ _).mono ?_; rintro e w' ⟨rfl, rfl⟩))
    go_ret
    exact ⟨ret_int (alu2_u a b a0 a1 b0 b1), rfl⟩
  by_cases h3 : f = 3
  · subst h3
    go_enter Tryd.func34, Tryd.ntmps34
    go_wp2_with ((go_at_call 56; refine (impl_WrdOk _ _).mono ?_; rintro e w' ⟨rfl, rfl⟩))
    go_ret
    exact ⟨ret_int (alu3_u a b a0 a1 b0 b1), rfl⟩
  by_cases h4 : f = 4
  · subst h4
    go_enter Tryd.func34, Tryd.ntmps34
    go_wp2_with ((go_at_call 56; refine (impl_WrdOk _ _).mono ?_; rintro e w' ⟨rfl, rfl⟩))
    go_ret
    exact ⟨ret_int (alu4_u a b a0 a1 b0 b1), rfl⟩
  by_cases h5 : f = 5
  · subst h5
    obtain ⟨l0, l1⟩ := ltN_01 a b
    go_enter Tryd.func34, Tryd.ntmps34
    go_wp2_with (first | (go_at_call 56; refine (impl_WrdOk _ _).mono ?_; rintro e w' ⟨rfl, rfl⟩) | (go_at_call 57; refine (impl_less _ _ a0 a1 b0 b1 _).mono ?_; rintro e w' ⟨rfl, rfl⟩))
    go_ret
    exact ⟨ret_int (rfl), rfl⟩
  by_cases h6 : f = 6
  · subst h6
    go_enter Tryd.func34, Tryd.ntmps34
    go_wp2_with (first | (go_at_call 56; refine (impl_WrdOk _ _).mono ?_; rintro e w' ⟨rfl, rfl⟩) | (go_at_call 58; refine (impl_left _ _ a0 a1 b0 b1 _).mono ?_; rintro e w' ⟨rfl, rfl⟩))
    go_ret
    exact ⟨ret_int (rfl), rfl⟩
  by_cases h7 : f = 7
  · subst h7
    obtain ⟨l0, l1⟩ := shr_bd a b a0 a1
    go_enter Tryd.func34, Tryd.ntmps34
    go_wp2_with (first | (go_at_call 56; refine (impl_WrdOk _ _).mono ?_; rintro e w' ⟨rfl, rfl⟩) | (go_at_call 59; refine (impl_right _ _ a0 a1 b0 b1 _).mono ?_; rintro e w' ⟨rfl, rfl⟩))
    go_ret
    exact ⟨ret_int (rfl), rfl⟩
  have t0 : (f == 0) = false := by simpa using h0
  have t1 : (f == 1) = false := by simpa using h1
  have t2 : (f == 2) = false := by simpa using h2
  have t3 : (f == 3) = false := by simpa using h3
  have t4 : (f == 4) = false := by simpa using h4
  have t5 : (f == 5) = false := by simpa using h5
  have t6 : (f == 6) = false := by simpa using h6
  have t7 : (f == 7) = false := by simpa using h7
  have H := Lib.hid (show alu f a b = -1 by simp [alu, *])
  clear h0 h1 h2 h3 h4 h5 h6 h7
  go_enter Tryd.func34, Tryd.ntmps34
  go_wp2_with ((go_at_call 56; refine (impl_WrdOk _ _).mono ?_; rintro e w' ⟨rfl, rfl⟩))
  go_ret
  exact ⟨ret_int H.out.symm, rfl⟩
theorem spec_l1Bits2 (a b : Int) (a0 : 0 ≤ a) (a1 : a < 65536) (b0 : 0 ≤ b) (b1 : b < 65536) (w : World) : Calls Tryd.prog 121 #[.int .i64 2, .int .i64 a, .int .i64 b] w fun e w' => e = .returned (.int .i64 (alu 2 a b)) ∧ w = w' := by
  go_enter Tryd.func121, Tryd.ntmps121
  go_wp2
  go_ret
  exact ⟨ret_int (i64_and_w a b a0 a1 b0 b1), rfl⟩
theorem spec_l1Bits3 (a b : Int) (a0 : 0 ≤ a) (a1 : a < 65536) (b0 : 0 ≤ b) (b1 : b < 65536) (w : World) : Calls Tryd.prog 121 #[.int .i64 3, .int .i64 a, .int .i64 b] w fun e w' => e = .returned (.int .i64 (alu 3 a b)) ∧ w = w' := by
  go_enter Tryd.func121, Tryd.ntmps121
  go_wp2
  go_ret
  exact ⟨ret_int (i64_or_w a b a0 a1 b0 b1), rfl⟩
theorem spec_l1Bits4 (a b : Int) (a0 : 0 ≤ a) (a1 : a < 65536) (b0 : 0 ≤ b) (b1 : b < 65536) (w : World) : Calls Tryd.prog 121 #[.int .i64 4, .int .i64 a, .int .i64 b] w fun e w' => e = .returned (.int .i64 (alu 4 a b)) ∧ w = w' := by
  go_enter Tryd.func121, Tryd.ntmps121
  go_wp2
  go_ret
  exact ⟨ret_int (i64_xor_w a b a0 a1 b0 b1), rfl⟩
theorem spec_AluDo_no (f a b : Int) (h : okB a = false ∨ okB b = false) (w : World) : Calls Tryd.prog 111 #[.int .i64 f, .int .i64 a, .int .i64 b] w fun e w' => e = .returned (.int .i64 (-1)) ∧ w = w' := by
  cases hk : okB a
  · clear h
    go_enter Tryd.func111, Tryd.ntmps111
    go_wp2_with (go_at_call 66; refine (spec_WrdOk _ _).mono ?_; rintro e w' ⟨rfl, rfl⟩)
    go_ret
    exact ⟨rfl, rfl⟩
  · have hb : okB b = false := by simpa [hk] using h
    clear h
    go_enter Tryd.func111, Tryd.ntmps111
    go_wp2_with (go_at_call 66; refine (spec_WrdOk _ _).mono ?_; rintro e w' ⟨rfl, rfl⟩)
    go_ret
    exact ⟨rfl, rfl⟩

set_option maxHeartbeats 1000000 in
theorem spec_AluDo_yes (f a b : Int) (ha : okB a = true) (hb : okB b = true) (w : World) : Calls Tryd.prog 111 #[.int .i64 f, .int .i64 a, .int .i64 b] w fun e w' => e = .returned (.int .i64 (alu f a b)) ∧ w = w' := by
  obtain ⟨a0, a1⟩ := okB_true ha
  obtain ⟨b0, b1⟩ := okB_true hb
  by_cases h0 : f = 0
  · subst h0
    go_enter Tryd.func111, Tryd.ntmps111
    go_wp2_with (first | (go_at_call 66; refine (spec_WrdOk _ _).mono ?_; rintro e w' ⟨rfl, rfl⟩) | (go_at_call 110; refine (spec_l1Wrap _ _).mono ?_; rintro e w' ⟨rfl, rfl⟩))
    go_ret
    exact ⟨ret_int (rfl), rfl⟩
  by_cases h1 : f = 1
  · subst h1
    go_enter Tryd.func111, Tryd.ntmps111
    go_wp2_with (first | (go_at_call 66; refine (spec_WrdOk _ _).mono ?_; rintro e w' ⟨rfl, rfl⟩) | (go_at_call 110; refine (spec_l1Wrap _ _).mono ?_; rintro e w' ⟨rfl, rfl⟩))
    go_ret
    exact ⟨ret_int (rfl), rfl⟩
  by_cases h2 : f = 2
  · subst h2
    go_enter Tryd.func111, Tryd.ntmps111
    go_wp2_with (first | (go_at_call 66; refine (spec_WrdOk _ _).mono ?_; rintro e w' ⟨rfl, rfl⟩) | (go_at_call 121; refine (spec_l1Bits2 _ _ a0 a1 b0 b1 _).mono ?_; rintro e w' ⟨rfl, rfl⟩))
    go_ret
    exact ⟨ret_int (rfl), rfl⟩
  by_cases h3 : f = 3
  · subst h3
    go_enter Tryd.func111, Tryd.ntmps111
    go_wp2_with (first | (go_at_call 66; refine (spec_WrdOk _ _).mono ?_; rintro e w' ⟨rfl, rfl⟩) | (go_at_call 121; refine (spec_l1Bits3 _ _ a0 a1 b0 b1 _).mono ?_; rintro e w' ⟨rfl, rfl⟩))
    go_ret
    exact ⟨ret_int (rfl), rfl⟩
  by_cases h4 : f = 4
  · subst h4
    go_enter Tryd.func111, Tryd.ntmps111
    go_wp2_with (first | (go_at_call 66; refine (spec_WrdOk _ _).mono ?_; rintro e w' ⟨rfl, rfl⟩) | (go_at_call 121; refine (spec_l1Bits4 _ _ a0 a1 b0 b1 _).mono ?_; rintro e w' ⟨rfl, rfl⟩))
    go_ret
    exact ⟨ret_int (rfl), rfl⟩
  by_cases h5 : f = 5
  · subst h5
    have sa := Lib.hid (show sgn a = sgnW a by simp [sgn, ha])
    have sb := Lib.hid (show sgn b = sgnW b by simp [sgn, hb])
    by_cases hl : sgn a < sgn b
    · have H := Lib.hid (show ltN a b = 1 from ltN_pos (by rw [← sa.out, ← sb.out]; exact hl))
      go_enter Tryd.func111, Tryd.ntmps111
      go_wp2_with (first | (go_at_call 66; refine (spec_WrdOk _ _).mono ?_; rintro e w' ⟨rfl, rfl⟩) | (go_at_call 113; refine (spec_WrdInt _ _).mono ?_; rintro e w' ⟨rfl, rfl⟩))
      go_ret
      exact ⟨ret_int H.out.symm, rfl⟩
    · have H := Lib.hid (show ltN a b = 0 from ltN_neg (by rw [← sa.out, ← sb.out]; exact hl))
      go_enter Tryd.func111, Tryd.ntmps111
      go_wp2_with (first | (go_at_call 66; refine (spec_WrdOk _ _).mono ?_; rintro e w' ⟨rfl, rfl⟩) | (go_at_call 113; refine (spec_WrdInt _ _).mono ?_; rintro e w' ⟨rfl, rfl⟩))
      go_ret
      exact ⟨ret_int H.out.symm, rfl⟩
  by_cases h6 : f = 6
  · subst h6
    obtain ⟨l0, l1⟩ := shl_bd a b a0 a1
    go_enter Tryd.func111, Tryd.ntmps111
    go_wp2_with (first | (go_at_call 66; refine (spec_WrdOk _ _).mono ?_; rintro e w' ⟨rfl, rfl⟩) | (go_at_call 110; refine (spec_l1Wrap _ _).mono ?_; rintro e w' ⟨rfl, rfl⟩))
    go_ret
    exact ⟨ret_int (rfl), rfl⟩
  by_cases h7 : f = 7
  · subst h7
    obtain ⟨l0, l1⟩ := shr_bd a b a0 a1
    go_enter Tryd.func111, Tryd.ntmps111
    go_wp2_with (first | (go_at_call 66; refine (spec_WrdOk _ _).mono ?_; rintro e w' ⟨rfl, rfl⟩) | (go_at_call 110; refine (spec_l1Wrap _ _).mono ?_; rintro e w' ⟨rfl, rfl⟩))
    go_ret
    exact ⟨ret_int (rfl), rfl⟩
  have t0 : (f == 0) = false := by simpa using h0
  have t1 : (f == 1) = false := by simpa using h1
  have t2 : (f == 2) = false := by simpa using h2
  have t3 : (f == 3) = false := by simpa using h3
  have t4 : (f == 4) = false := by simpa using h4
  have t5 : (f == 5) = false := by simpa using h5
  have t6 : (f == 6) = false := by simpa using h6
  have t7 : (f == 7) = false := by simpa using h7
  have H := Lib.hid (show alu f a b = -1 by simp [alu, *])
  clear h0 h1 h2 h3 h4 h5 h6 h7
  go_enter Tryd.func111, Tryd.ntmps111
  go_wp2_with ((go_at_call 66; refine (spec_WrdOk _ _).mono ?_; rintro e w' ⟨rfl, rfl⟩))
  go_ret
  exact ⟨ret_int H.out.symm, rfl⟩

theorem okB_or {a b : Int} (h : ¬ (okB a = true ∧ okB b = true)) : okB a = false ∨ okB b = false := by
  cases ha : okB a <;> cases hb : okB b <;> simp_all
theorem impl_AluDo (f a b : Int) (w : World) : Calls Tryd.prog 34 #[.int .i64 f, .int .i64 a, .int .i64 b] w fun e w' => e = .returned (.int .i64 (aluD f a b)) ∧ w = w' := by
  by_cases h : okB a = true ∧ okB b = true
  · rw [aluD, if_pos h]; exact impl_AluDo_yes f a b h.1 h.2 w
  · rw [aluD, if_neg h]; exact impl_AluDo_no f a b (okB_or h) w
theorem spec_AluDo (f a b : Int) (w : World) : Calls Tryd.prog 111 #[.int .i64 f, .int .i64 a, .int .i64 b] w fun e w' => e = .returned (.int .i64 (aluD f a b)) ∧ w = w' := by
  by_cases h : okB a = true ∧ okB b = true
  · rw [aluD, if_pos h]; exact spec_AluDo_yes f a b h.1 h.2 w
  · rw [aluD, if_neg h]; exact spec_AluDo_no f a b (okB_or h) w
def mulD (a b : Int) : Int := if okB a = true ∧ okB b = true then a * b % 65536 else -1
theorem impl_MulDo (a b : Int) (w : World) : Calls Tryd.prog 37 #[.int .i64 a, .int .i64 b] w fun e w' => e = .returned (.int .i64 (mulD a b)) ∧ w = w' := by
  by_cases h : okB a = true ∧ okB b = true
  · rw [mulD, if_pos h]; exact impl_MulDo_yes a b h.1 h.2 w
  · rw [mulD, if_neg h]; exact impl_MulDo_no a b (okB_or h) w
theorem spec_MulDo (a b : Int) (w : World) : Calls Tryd.prog 112 #[.int .i64 a, .int .i64 b] w fun e w' => e = .returned (.int .i64 (mulD a b)) ∧ w = w' := by
  by_cases h : okB a = true ∧ okB b = true
  · rw [mulD, if_pos h]; exact spec_MulDo_yes a b h.1 h.2 w
  · rw [mulD, if_neg h]; exact spec_MulDo_no a b (okB_or h) w

theorem mulD_yes {a b : Int} (ha : okB a = true) (hb : okB b = true) : mulD a b = a * b % 65536 := if_pos ⟨ha, hb⟩
theorem okB_mod (n : Int) : okB (n % 65536) = true := okB_mk (Int.emod_nonneg _ (by decide)) (Int.emod_lt_of_pos _ (by decide))
theorem aluD_yes {f a b : Int} (ha : okB a = true) (hb : okB b = true) : aluD f a b = alu f a b := if_pos ⟨ha, hb⟩
theorem okB_alu {f a b : Int} (hf : f = 0 ∨ f = 1 ∨ f = 2 ∨ f = 3 ∨ f = 4) (ha : okB a = true) (hb : okB b = true) : okB (alu f a b) = true := by
  obtain ⟨a0, a1⟩ := okB_true ha
  obtain ⟨b0, b1⟩ := okB_true hb
  have h2 := and_lt a b a0 a1
  have h3 := or_lt a b a0 a1 b0 b1
  have h4 := xor_lt a b a0 a1 b0 b1
  rcases hf with rfl | rfl | rfl | rfl | rfl
  · exact okB_mod _
  · exact okB_mod _
  · exact okB_mk (show (0 : Int) ≤ ((a.toNat &&& b.toNat : Nat) : Int) by omega) (show ((a.toNat &&& b.toNat : Nat) : Int) < 65536 by omega)
  · exact okB_mk (show (0 : Int) ≤ ((a.toNat ||| b.toNat : Nat) : Int) by omega) (show ((a.toNat ||| b.toNat : Nat) : Int) < 65536 by omega)
  · exact okB_mk (show (0 : Int) ≤ ((a.toNat ^^^ b.toNat : Nat) : Int) by omega) (show ((a.toNat ^^^ b.toNat : Nat) : Int) < 65536 by omega)

/-- A number of so many bits, with its sign, as a word. -/
def ext (n bits : Int) : Int := if n < 2 ^ (bits.toNat - 1) then n else (n - 2 ^ bits.toNat) % 65536
theorem pow_bd (bits : Int) (b0 : 1 ≤ bits) (b1 : bits ≤ 16) : 2 ≤ (2 : Int) ^ bits.toNat ∧ (2 : Int) ^ bits.toNat ≤ 65536 ∧ 1 ≤ (2 : Int) ^ (bits.toNat - 1) ∧ (2 : Int) ^ (bits.toNat - 1) ≤ 32768 ∧ (2 : Int) ^ bits.toNat = 2 * 2 ^ (bits.toNat - 1) := by
  have h : bits = 1 ∨ bits = 2 ∨ bits = 3 ∨ bits = 4 ∨ bits = 5 ∨ bits = 6 ∨ bits = 7 ∨ bits = 8 ∨ bits = 9 ∨ bits = 10 ∨ bits = 11 ∨ bits = 12 ∨ bits = 13 ∨ bits = 14 ∨ bits = 15 ∨ bits = 16 := by omega
  rcases h with rfl | rfl | rfl | rfl | rfl | rfl | rfl | rfl | rfl | rfl | rfl | rfl | rfl | rfl | rfl | rfl <;> decide
theorem ext_eq (x bits : Int) (b0 : 1 ≤ bits) (b1 : bits ≤ 16) (x0 : 0 ≤ x) (x1 : x < 2 ^ bits.toNat) :
    IntKind.u16.wrap (IntKind.i16.wrap (IntKind.u16.wrap (x * 2 ^ (16 - bits).toNat)) / 2 ^ (16 - bits).toNat) = ext x bits := by
  have h : bits = 1 ∨ bits = 2 ∨ bits = 3 ∨ bits = 4 ∨ bits = 5 ∨ bits = 6 ∨ bits = 7 ∨ bits = 8 ∨ bits = 9 ∨ bits = 10 ∨ bits = 11 ∨ bits = 12 ∨ bits = 13 ∨ bits = 14 ∨ bits = 15 ∨ bits = 16 := by omega
  rcases h with rfl | rfl | rfl | rfl | rfl | rfl | rfl | rfl | rfl | rfl | rfl | rfl | rfl | rfl | rfl | rfl <;> simp [ext, IntKind.wrap, IntKind.bits, IntKind.signed] at * <;> split <;> split <;> omega
theorem ext_bd (n bits : Int) (b0 : 1 ≤ bits) (b1 : bits ≤ 16) (n0 : 0 ≤ n) (n1 : n < 2 ^ bits.toNat) : 0 ≤ ext n bits ∧ ext n bits < 65536 := by
  obtain ⟨p1, p2, p3, p4, p5⟩ := pow_bd bits b0 b1
  unfold ext
  split <;> omega

theorem impl_extend (x bits : Int) (b0 : 1 ≤ bits) (b1 : bits ≤ 16) (x0 : 0 ≤ x) (x1 : x < 2 ^ bits.toNat) (w : World) : Calls Tryd.prog 123 #[.int .u16 x, .int .i64 bits] w fun e w' => e = .returned (.int .u16 (ext x bits)) ∧ w = w' := by
  have H := Lib.hid (ext_eq x bits b0 b1 x0 x1)
  clear x1
  go_enter Tryd.func123, Tryd.ntmps123
  go_wp2
  go_ret
  exact ⟨ret_int H.out, rfl⟩
end Go.Proofs.YtbjapncfgancoaaDoor
