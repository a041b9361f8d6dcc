/- The contracts of the pure functions of layer 1 (program and model): what each call returns; the world stays as it was. The plain laws of the ALU operations, on numbers. The contracts of WrdSign, of the program and of the model. -/
import Derived.WalkKit
import Derived.WalkSpells
import Derived.Lib.Hide
import Derived.Test.YtiijhklkelaogabDoorChecked
namespace Go.Proofs.YtiijhklkelaogabDoor
open Go.RowKit
set_option linter.unusedVariables false

/-- A number is a word. -/
def okB (n : Int) : Bool := decide (0 ≤ n ∧ n < 65536)
theorem okB_true {n : Int} (h : okB n = true) : 0 ≤ n ∧ n < 65536 := of_decide_eq_true h
theorem okB_false {n : Int} (h : okB n = false) : n < 0 ∨ 65536 ≤ n := by
  have := of_decide_eq_false h
  omega
theorem okB_mk {n : Int} (h0 : 0 ≤ n) (h1 : n < 65536) : okB n = true := decide_eq_true ⟨h0, h1⟩
theorem okB_no {n : Int} (h : n < 0 ∨ 65536 ≤ n) : okB n = false := decide_eq_false (by omega)

theorem ret_int {k : IntKind} {a b : Int} (h : a = b) : Ending.returned (.int k a) = .returned (.int k b) := by rw [h]
theorem ret_bool {a b : Bool} (h : a = b) : Ending.returned (.bool a) = .returned (.bool b) := by rw [h]

theorem impl_WrdOk (n : Int) (w : World) : Calls Tryd.prog 36 #[.int .i64 n] w fun e w' => e = .returned (.bool (okB n)) ∧ w = w' := by
  by_cases h1 : 0 ≤ n
  · by_cases h2 : n < 65536
    · have h := Lib.hid (okB_mk h1 h2)
      go_enter Tryd.func36, Tryd.ntmps36
      go_wp2
      go_ret
      exact ⟨ret_bool (by simp [h.out]; try omega), rfl⟩
    · have h := Lib.hid (okB_no (n := n) (by omega))
      have h3 : decide (n < 65536) = false := by simp; omega
      go_enter Tryd.func36, Tryd.ntmps36
      go_wp2
      go_ret
      exact ⟨ret_bool (by simp [h.out]; try omega), rfl⟩
  · have h := Lib.hid (okB_no (n := n) (by omega))
    go_enter Tryd.func36, Tryd.ntmps36
    go_wp2
    go_ret
    exact ⟨ret_bool (by simp [h.out]; try omega), rfl⟩

theorem spec_l1In (n lo hi : Int) (w : World) : Calls Tryd.prog 15 #[.int .i64 n, .int .i64 lo, .int .i64 hi] w fun e w' => e = .returned (.bool (decide (lo ≤ n ∧ n ≤ hi))) ∧ w = w' := by
  by_cases h1 : lo ≤ n
  · by_cases h2 : n ≤ hi
    · go_enter Tryd.func15, Tryd.ntmps15
      go_wp2
      go_ret
      exact ⟨ret_bool (by simp; try omega), rfl⟩
    · have h3 : decide (n ≤ hi) = false := by simp; omega
      go_enter Tryd.func15, Tryd.ntmps15
      go_wp2
      go_ret
      exact ⟨ret_bool (by simp; try omega), rfl⟩
  · go_enter Tryd.func15, Tryd.ntmps15
    go_wp2
    go_ret
    exact ⟨ret_bool (by simp; try omega), rfl⟩

theorem spec_WrdOk (n : Int) (w : World) : Calls Tryd.prog 34 #[.int .i64 n] w fun e w' => e = .returned (.bool (okB n)) ∧ w = w' := by
  have H := Lib.hid (show decide (0 ≤ n ∧ n ≤ 65535) = okB n by unfold okB; rw [decide_eq_decide]; omega)
  go_enter Tryd.func34, Tryd.ntmps34
  go_wp2_with (go_at_call 15; refine (spec_l1In _ _ _ _).mono ?_; rintro e w' ⟨rfl, rfl⟩; rw [H.out])
  go_ret
  exact ⟨rfl, rfl⟩

/-- A word with its sign. -/
def sgnW (x : Int) : Int := if x < 32768 then x else x - 65536
def sgn (n : Int) : Int := if okB n = true then sgnW n else 0

theorem impl_signed (x : Int) (h0 : 0 ≤ x) (h1 : x < 65536) (w : World) : Calls Tryd.prog 51 #[.int .u16 x] w fun e w' => e = .returned (.int .i64 (sgnW x)) ∧ w = w' := by
  go_enter Tryd.func51, Tryd.ntmps51
  go_wp2
  go_ret
  refine ⟨ret_int ?_, rfl⟩
  have e : IntKind.i16.wrap x = sgnW x := by
    unfold sgnW
    simp [IntKind.wrap, IntKind.bits, IntKind.signed]
    split <;> split <;> omega
  rw [e, IntWalk.wrap64_in]
  unfold sgnW
  split <;> omega

def ltN (x y : Int) : Int := if sgnW x < sgnW y then 1 else 0
theorem ltN_01 (x y : Int) : 0 ≤ ltN x y ∧ ltN x y ≤ 1 := by unfold ltN; split <;> omega
theorem ltN_pos {x y : Int} (h : sgnW x < sgnW y) : ltN x y = 1 := if_pos h
theorem ltN_neg {x y : Int} (h : ¬ sgnW x < sgnW y) : ltN x y = 0 := if_neg h
/-- What an ALU operation makes of two words. -/
def alu (f a b : Int) : Int :=
  if f = 0 then (a + b) % 65536 else if f = 1 then (a - b) % 65536
  else if f = 2 then ((a.toNat &&& b.toNat : Nat) : Int) else if f = 3 then ((a.toNat ||| b.toNat : Nat) : Int) else if f = 4 then ((a.toNat ^^^ b.toNat : Nat) : Int)
  else if f = 5 then ltN a b
  else if f = 6 then a * 2 ^ (b % 16).toNat % 65536 else if f = 7 then a / 2 ^ (b % 16).toNat else -1
def aluD (f a b : Int) : Int := if okB a = true ∧ okB b = true then alu f a b else -1

section bits
theorem and_lt (a b : Int) (a0 : 0 ≤ a) (a1 : a < 65536) : a.toNat &&& b.toNat < 65536 := by
  rw [Nat.and_comm]; exact Nat.and_lt_two_pow (n := 16) _ (by omega)
theorem or_lt (a b : Int) (a0 : 0 ≤ a) (a1 : a < 65536) (b0 : 0 ≤ b) (b1 : b < 65536) : a.toNat ||| b.toNat < 65536 := Nat.or_lt_two_pow (n := 16) (by omega) (by omega)
theorem xor_lt (a b : Int) (a0 : 0 ≤ a) (a1 : a < 65536) (b0 : 0 ≤ b) (b1 : b < 65536) : a.toNat ^^^ b.toNat < 65536 := Nat.xor_lt_two_pow (n := 16) (by omega) (by omega)
theorem i64_of (a : Int) (a0 : 0 ≤ a) (a1 : a < 65536) : (BitVec.ofInt 64 a).toNat = a.toNat := by
  obtain ⟨A, rfl⟩ := Int.eq_ofNat_of_zero_le a0
  simpa using ofInt_u64 A (by omega)
theorem i64_and_w (a b : Int) (a0 : 0 ≤ a) (a1 : a < 65536) (b0 : 0 ≤ b) (b1 : b < 65536) : bits .and .i64 a b = ((a.toNat &&& b.toNat : Nat) : Int) := by
  have hx := and_lt a b a0 a1
  show IntKind.i64.wrap ((BitVec.ofInt 64 a &&& BitVec.ofInt 64 b).toNat : Int) = _
  rw [BitVec.toNat_and, i64_of a a0 a1, i64_of b b0 b1, IntWalk.i64_left, IntWalk.wrap64_in _ (by omega)]
theorem i64_or_w (a b : Int) (a0 : 0 ≤ a) (a1 : a < 65536) (b0 : 0 ≤ b) (b1 : b < 65536) : bits .or .i64 a b = ((a.toNat ||| b.toNat : Nat) : Int) := by
  have hx := or_lt a b a0 a1 b0 b1
  show IntKind.i64.wrap ((BitVec.ofInt 64 a ||| BitVec.ofInt 64 b).toNat : Int) = _
  rw [BitVec.toNat_or, i64_of a a0 a1, i64_of b b0 b1, IntWalk.i64_left, IntWalk.wrap64_in _ (by omega)]
theorem i64_xor_w (a b : Int) (a0 : 0 ≤ a) (a1 : a < 65536) (b0 : 0 ≤ b) (b1 : b < 65536) : bits .xor .i64 a b = ((a.toNat ^^^ b.toNat : Nat) : Int) := by
  have hx := xor_lt a b a0 a1 b0 b1
  show IntKind.i64.wrap ((BitVec.ofInt 64 a ^^^ BitVec.ofInt 64 b).toNat : Int) = _
  rw [BitVec.toNat_xor, i64_of a a0 a1, i64_of b b0 b1, IntWalk.i64_left, IntWalk.wrap64_in _ (by omega)]
theorem alu2_u (a b : Int) (a0 : 0 ≤ a) (a1 : a < 65536) (b0 : 0 ≤ b) (b1 : b < 65536) : wrap64 (bits .and .u16 a b) = alu 2 a b := by
  have hx := and_lt a b a0 a1
  rw [u16_and a b a0 a1 b0 b1, IntWalk.wrap64_in _ (by omega)]; rfl
theorem alu3_u (a b : Int) (a0 : 0 ≤ a) (a1 : a < 65536) (b0 : 0 ≤ b) (b1 : b < 65536) : wrap64 (bits .or .u16 a b) = alu 3 a b := by
  have hx := or_lt a b a0 a1 b0 b1
  rw [u16_or a b a0 a1 b0 b1, IntWalk.wrap64_in _ (by omega)]; rfl
theorem alu4_u (a b : Int) (a0 : 0 ≤ a) (a1 : a < 65536) (b0 : 0 ≤ b) (b1 : b < 65536) : wrap64 (bits .xor .u16 a b) = alu 4 a b := by
  have hx := xor_lt a b a0 a1 b0 b1
  rw [u16_xor a b a0 a1 b0 b1, IntWalk.wrap64_in _ (by omega)]; rfl
end bits
theorem shl_bd (a b : Int) (a0 : 0 ≤ a) (a1 : a < 65536) : 0 ≤ a * 2 ^ (b % 16).toNat ∧ a * 2 ^ (b % 16).toNat ≤ 2147450880 := by
  have h1 : (b % 16).toNat ≤ 15 := by omega
  have h2 : (2 : Nat) ^ (b % 16).toNat ≤ 2 ^ 15 := Nat.pow_le_pow_right (by decide) h1
  have h3 : ((2 : Int) ^ (b % 16).toNat) ≤ 32768 := by
    have : (((2 : Nat) ^ (b % 16).toNat : Nat) : Int) ≤ ((2 ^ 15 : Nat) : Int) := Int.ofNat_le.mpr h2
    simpa [Int.natCast_pow] using this
  have h4 : 0 ≤ (2 : Int) ^ (b % 16).toNat := Int.pow_nonneg (by decide)
  exact ⟨Int.mul_nonneg a0 h4, Int.le_trans (Int.mul_le_mul (show a ≤ 65535 by omega) h3 h4 (by decide)) (by decide)⟩
theorem shr_bd (a b : Int) (a0 : 0 ≤ a) (a1 : a < 65536) : 0 ≤ a / 2 ^ (b % 16).toNat ∧ a / 2 ^ (b % 16).toNat < 65536 := by
  have h4 : 0 < (2 : Int) ^ (b % 16).toNat := Int.pow_pos (by decide)
  exact ⟨Int.ediv_nonneg a0 (Int.le_of_lt h4), Int.lt_of_le_of_lt (Int.ediv_le_self _ a0) a1⟩

set_option maxHeartbeats 1000000 in
set_option maxHeartbeats 1000000 in
theorem okB_or {a b : Int} (h : ¬ (okB a = true ∧ okB b = true)) : okB a = false ∨ okB b = false := by
  cases ha : okB a <;> cases hb : okB b <;> simp_all
def mulD (a b : Int) : Int := if okB a = true ∧ okB b = true then a * b % 65536 else -1
theorem mulD_yes {a b : Int} (ha : okB a = true) (hb : okB b = true) : mulD a b = a * b % 65536 := if_pos ⟨ha, hb⟩
theorem mulD_ok {a b : Int} (ha : okB a = true) (hb : okB b = true) : 0 ≤ mulD a b ∧ mulD a b < 65536 := by
  rw [mulD_yes ha hb]
  exact ⟨Int.emod_nonneg _ (by decide), Int.emod_lt_of_pos _ (by decide)⟩
theorem okB_mod (n : Int) : okB (n % 65536) = true := okB_mk (Int.emod_nonneg _ (by decide)) (Int.emod_lt_of_pos _ (by decide))
theorem aluD_yes {f a b : Int} (ha : okB a = true) (hb : okB b = true) : aluD f a b = alu f a b := if_pos ⟨ha, hb⟩
/-- The laws of the product. -/
theorem mul_laws (a b c : Int) (len : Nat) (ha : okB a = true) (hb : okB b = true) (hc : okB c = true) :
    mulD a b = mulD b a ∧ mulD a 1 = a ∧ mulD a 0 = 0 ∧ mulD a (aluD 0 b c) = aluD 0 (mulD a b) (mulD a c) ∧ mulD a (2 ^ ((len : Int) % 16).toNat) = aluD 6 a ((len : Int) % 16) := by
  obtain ⟨a0, a1⟩ := okB_true ha
  have h16 : 0 ≤ (len : Int) % 16 ∧ (len : Int) % 16 < 16 := by omega
  have hp1 : (2 : Int) ^ ((len : Int) % 16).toNat ≤ 32768 := by
    have h2 : (2 : Nat) ^ ((len : Int) % 16).toNat ≤ 2 ^ 15 := Nat.pow_le_pow_right (by decide) (by omega)
    have : (((2 : Nat) ^ ((len : Int) % 16).toNat : Nat) : Int) ≤ ((2 ^ 15 : Nat) : Int) := Int.ofNat_le.mpr h2
    simpa [Int.natCast_pow] using this
  have hp0 : 0 < (2 : Int) ^ ((len : Int) % 16).toNat := Int.pow_pos (by decide)
  refine ⟨by rw [mulD_yes ha hb, mulD_yes hb ha, Int.mul_comm], ?_, ?_, ?_, ?_⟩
  · rw [mulD_yes ha rfl, Int.mul_one, Int.emod_eq_of_lt a0 a1]
  · rw [mulD_yes ha rfl, Int.mul_zero]; rfl
  · rw [aluD_yes hb hc, mulD_yes ha hb, mulD_yes ha hc, aluD_yes (okB_mod _) (okB_mod _)]
    show mulD a ((b + c) % 65536) = (a * b % 65536 + a * c % 65536) % 65536
    rw [mulD_yes ha (okB_mod _), Int.mul_emod, Int.emod_emod_of_dvd _ (by decide), ← Int.mul_emod, Int.mul_add, Int.add_emod]
  · rw [mulD_yes ha (okB_mk (by omega) (by omega)), aluD_yes ha (okB_mk (by omega) (by omega))]
    show _ = a * 2 ^ ((len : Int) % 16 % 16).toNat % 65536
    rw [Int.emod_emod_of_dvd _ (by decide)]

theorem alu_bd (f a b : Int) (ha : okB a = true) (hb : okB b = true) : -1 ≤ alu f a b ∧ alu f a b < 65536 := by
  obtain ⟨a0, a1⟩ := okB_true ha
  obtain ⟨b0, b1⟩ := okB_true hb
  have h2 := and_lt a b a0 a1
  have h3 := or_lt a b a0 a1 b0 b1
  have h4 := xor_lt a b a0 a1 b0 b1
  have h5 := ltN_01 a b
  have h7 := shr_bd a b a0 a1
  unfold alu
  repeat (split; omega)
  omega
theorem okB_alu {f a b : Int} (hf : f = 0 ∨ f = 1 ∨ f = 2 ∨ f = 3 ∨ f = 4) (ha : okB a = true) (hb : okB b = true) : okB (alu f a b) = true := by
  obtain ⟨a0, a1⟩ := okB_true ha
  obtain ⟨b0, b1⟩ := okB_true hb
  have h2 := and_lt a b a0 a1
  have h3 := or_lt a b a0 a1 b0 b1
  have h4 := xor_lt a b a0 a1 b0 b1
  rcases hf with rfl | rfl | rfl | rfl | rfl
  · exact okB_mod _
  · exact okB_mod _
  · exact okB_mk (show (0 : Int) ≤ ((a.toNat &&& b.toNat : Nat) : Int) by omega) (show ((a.toNat &&& b.toNat : Nat) : Int) < 65536 by omega)
  · exact okB_mk (show (0 : Int) ≤ ((a.toNat ||| b.toNat : Nat) : Int) by omega) (show ((a.toNat ||| b.toNat : Nat) : Int) < 65536 by omega)
  · exact okB_mk (show (0 : Int) ≤ ((a.toNat ^^^ b.toNat : Nat) : Int) by omega) (show ((a.toNat ^^^ b.toNat : Nat) : Int) < 65536 by omega)

theorem add_laws (a b : Int) (ha : okB a = true) (hb : okB b = true) :
    aluD 0 b a = aluD 0 a b ∧ aluD 1 (aluD 0 a b) b = a ∧ aluD 0 a 0 = a ∧ aluD 1 a a = 0 ∧ okB (aluD 0 a b) = true := by
  obtain ⟨a0, a1⟩ := okB_true ha
  obtain ⟨b0, b1⟩ := okB_true hb
  have hab := okB_alu (.inl rfl) ha hb
  refine ⟨?_, ?_, ?_, ?_, ?_⟩
  · rw [aluD_yes hb ha, aluD_yes ha hb]
    show (b + a) % 65536 = (a + b) % 65536
    rw [Int.add_comm]
  · rw [aluD_yes ha hb, aluD_yes hab hb]
    show ((a + b) % 65536 - b) % 65536 = a
    omega
  · rw [aluD_yes ha rfl]
    show (a + 0) % 65536 = a
    omega
  · rw [aluD_yes ha ha]
    show (a - a) % 65536 = 0
    omega
  · rw [aluD_yes ha hb]; exact hab

theorem nat_of {f a b : Int} (x : Nat) (h : alu f a b = (x : Int)) : (alu f a b).toNat = x := by omega
theorem three_laws (f a b c : Int) (hf : f = 0 ∨ f = 2 ∨ f = 3 ∨ f = 4) (ha : okB a = true) (hb : okB b = true) (hc : okB c = true) :
    aluD f a (aluD f b c) = aluD f (aluD f a b) c ∧ aluD f b a = aluD f a b := by
  have hf' : f = 0 ∨ f = 1 ∨ f = 2 ∨ f = 3 ∨ f = 4 := by omega
  have hab := okB_alu hf' ha hb
  have hbc := okB_alu hf' hb hc
  rw [aluD_yes hb hc, aluD_yes ha hb, aluD_yes ha hbc, aluD_yes hab hc, aluD_yes hb ha]
  rcases hf with rfl | rfl | rfl | rfl
  · constructor
    · show (a + (b + c) % 65536) % 65536 = ((a + b) % 65536 + c) % 65536
      omega
    · show (b + a) % 65536 = (a + b) % 65536
      rw [Int.add_comm]
  · constructor
    · show ((a.toNat &&& (((b.toNat &&& c.toNat : Nat) : Int)).toNat : Nat) : Int) = (((((a.toNat &&& b.toNat : Nat) : Int)).toNat &&& c.toNat : Nat) : Int)
      rw [Int.toNat_natCast, Int.toNat_natCast, Nat.and_assoc]
    · show ((b.toNat &&& a.toNat : Nat) : Int) = ((a.toNat &&& b.toNat : Nat) : Int)
      rw [Nat.and_comm]
  · constructor
    · show ((a.toNat ||| (((b.toNat ||| c.toNat : Nat) : Int)).toNat : Nat) : Int) = (((((a.toNat ||| b.toNat : Nat) : Int)).toNat ||| c.toNat : Nat) : Int)
      rw [Int.toNat_natCast, Int.toNat_natCast, Nat.or_assoc]
    · show ((b.toNat ||| a.toNat : Nat) : Int) = ((a.toNat ||| b.toNat : Nat) : Int)
      rw [Nat.or_comm]
  · constructor
    · show ((a.toNat ^^^ (((b.toNat ^^^ c.toNat : Nat) : Int)).toNat : Nat) : Int) = (((((a.toNat ^^^ b.toNat : Nat) : Int)).toNat ^^^ c.toNat : Nat) : Int)
      rw [Int.toNat_natCast, Int.toNat_natCast, Nat.xor_assoc]
    · show ((b.toNat ^^^ a.toNat : Nat) : Int) = ((a.toNat ^^^ b.toNat : Nat) : Int)
      rw [Nat.xor_comm]

/-- Bit by bit: and, or, xor of two numbers, by their halves and their lowest bits. -/
theorem halves (a b : Nat) : (a &&& b) / 2 = a / 2 &&& b / 2 ∧ (a ||| b) / 2 = a / 2 ||| b / 2 ∧ (a ^^^ b) / 2 = a / 2 ^^^ b / 2 := ⟨Nat.and_div_two, Nat.or_div_two, Nat.xor_div_two⟩
theorem lowest (a b : Nat) : (a &&& b) % 2 = (a % 2 &&& b % 2) ∧ (a ||| b) % 2 = (a % 2 ||| b % 2) ∧ (a ^^^ b) % 2 = (a % 2 ^^^ b % 2) := by
  refine ⟨?_, ?_, ?_⟩
  · exact Nat.and_mod_two_pow (n := 1)
  · exact Nat.or_mod_two_pow (n := 1)
  · exact Nat.xor_mod_two_pow (n := 1)
theorem sums : ∀ a b : Nat, (a &&& b) + (a ^^^ b) = (a ||| b) ∧ (a &&& b) + (a ||| b) = a + b := by
  intro a
  induction a using Nat.strongRecOn with
  | _ a ih =>
    intro b
    by_cases h : a = 0
    · subst h; simp
    · obtain ⟨i1, i2⟩ := ih (a / 2) (by omega) (b / 2)
      obtain ⟨h1, h2, h3⟩ := halves a b
      obtain ⟨l1, l2, l3⟩ := lowest a b
      rw [← h1, ← h2, ← h3] at i1
      rw [← h1, ← h2] at i2
      have ha : a % 2 = 0 ∨ a % 2 = 1 := by omega
      have hb : b % 2 = 0 ∨ b % 2 = 1 := by omega
      rcases ha with ha | ha <;> rcases hb with hb | hb
      · rw [ha, hb] at l1 l2 l3
        replace l1 : (a &&& b) % 2 = 0 := l1
        replace l2 : (a ||| b) % 2 = 0 := l2
        replace l3 : (a ^^^ b) % 2 = 0 := l3
        omega
      · rw [ha, hb] at l1 l2 l3
        replace l1 : (a &&& b) % 2 = 0 := l1
        replace l2 : (a ||| b) % 2 = 1 := l2
        replace l3 : (a ^^^ b) % 2 = 1 := l3
        omega
      · rw [ha, hb] at l1 l2 l3
        replace l1 : (a &&& b) % 2 = 0 := l1
        replace l2 : (a ||| b) % 2 = 1 := l2
        replace l3 : (a ^^^ b) % 2 = 1 := l3
        omega
      · rw [ha, hb] at l1 l2 l3
        replace l1 : (a &&& b) % 2 = 1 := l1
        replace l2 : (a ||| b) % 2 = 1 := l2
        replace l3 : (a ^^^ b) % 2 = 0 := l3
        omega
theorem bits_laws (a b : Int) (ha : okB a = true) (hb : okB b = true) :
    aluD 2 a a = a ∧ aluD 3 a a = a ∧ aluD 4 a a = 0 ∧ aluD 2 a b + aluD 4 a b = aluD 3 a b ∧ aluD 2 a b + aluD 3 a b = a + b ∧ aluD 4 (aluD 4 a b) b = a := by
  obtain ⟨a0, a1⟩ := okB_true ha
  obtain ⟨b0, b1⟩ := okB_true hb
  obtain ⟨s1, s2⟩ := sums a.toNat b.toNat
  have hx := okB_alu (f := 4) (by omega) ha hb
  rw [aluD_yes ha ha, aluD_yes ha ha, aluD_yes ha ha, aluD_yes ha hb, aluD_yes ha hb, aluD_yes ha hb, aluD_yes hx hb]
  refine ⟨?_, ?_, ?_, ?_, ?_, ?_⟩
  · show ((a.toNat &&& a.toNat : Nat) : Int) = a
    rw [Nat.and_self]; omega
  · show ((a.toNat ||| a.toNat : Nat) : Int) = a
    rw [Nat.or_self]; omega
  · show ((a.toNat ^^^ a.toNat : Nat) : Int) = 0
    rw [Nat.xor_self]; rfl
  · show ((a.toNat &&& b.toNat : Nat) : Int) + ((a.toNat ^^^ b.toNat : Nat) : Int) = ((a.toNat ||| b.toNat : Nat) : Int)
    omega
  · show ((a.toNat &&& b.toNat : Nat) : Int) + ((a.toNat ||| b.toNat : Nat) : Int) = a + b
    omega
  · show (((((a.toNat ^^^ b.toNat : Nat) : Int)).toNat ^^^ b.toNat : Nat) : Int) = a
    rw [Int.toNat_natCast, Nat.xor_assoc, Nat.xor_self, Nat.xor_zero]; omega
theorem alu_small (f a b : Int) (ha : okB a = true) (hb : okB b = true) : -1 ≤ aluD f a b ∧ aluD f a b < 65536 := by
  rw [aluD_yes ha hb]; exact alu_bd f a b ha hb

theorem lt_laws (a b : Int) (ha : okB a = true) (hb : okB b = true) :
    aluD 5 a b = ltN a b ∧ aluD 5 b a = ltN b a ∧ aluD 5 a a = 0 ∧ ((ltN a b = 1) ↔ sgn a < sgn b) ∧ ((a = b) ↔ ltN a b + ltN b a = 0) ∧ ltN a b + ltN b a ≤ 1 := by
  obtain ⟨a0, a1⟩ := okB_true ha
  obtain ⟨b0, b1⟩ := okB_true hb
  have sa : sgn a = sgnW a := by simp [sgn, ha]
  have sb : sgn b = sgnW b := by simp [sgn, hb]
  have inj : sgnW a = sgnW b ↔ a = b := by unfold sgnW; split <;> split <;> omega
  rw [aluD_yes ha hb, aluD_yes hb ha, aluD_yes ha ha, sa, sb]
  refine ⟨rfl, rfl, ?_, ?_, ?_, ?_⟩
  · show ltN a a = 0
    exact ltN_neg (by omega)
  · unfold ltN; split <;> omega
  · unfold ltN; split <;> split <;> omega
  · unfold ltN; split <;> split <;> omega

theorem shift_mod (b : Int) : b % 16 % 16 = b % 16 := Int.emod_emod_of_dvd _ (by decide)
theorem shift_step (a : Int) (k : Nat) (ha : okB a = true) : aluD 0 (a * 2 ^ k % 65536) (a * 2 ^ k % 65536) = a * 2 ^ (k + 1) % 65536 ∧ a / 2 ^ k / 2 = a / 2 ^ (k + 1) := by
  refine ⟨?_, ?_⟩
  · rw [aluD_yes (okB_mod _) (okB_mod _)]
    show (a * 2 ^ k % 65536 + a * 2 ^ k % 65536) % 65536 = _
    rw [Int.pow_succ, ← Int.mul_assoc]
    omega
  · rw [Int.pow_succ, Int.ediv_ediv_of_nonneg (Int.le_of_lt (Int.pow_pos (by decide)))]
theorem shift_laws (a b : Int) (ha : okB a = true) (hb : okB b = true) :
    aluD 6 a b = a * 2 ^ (b % 16).toNat % 65536 ∧ aluD 7 a b = a / 2 ^ (b % 16).toNat ∧ aluD 6 a (b % 16) = a * 2 ^ (b % 16).toNat % 65536 ∧ aluD 7 a (b % 16) = a / 2 ^ (b % 16).toNat ∧
      (a * 2 ^ (b % 16).toNat < 65536 → aluD 7 (a * 2 ^ (b % 16).toNat % 65536) (b % 16) = a) := by
  obtain ⟨a0, a1⟩ := okB_true ha
  obtain ⟨b0, b1⟩ := okB_true hb
  have hm : okB (b % 16) = true := okB_mk (by omega) (by omega)
  obtain ⟨p0, p1⟩ := shl_bd a b a0 a1
  rw [aluD_yes ha hb, aluD_yes ha hb, aluD_yes ha hm, aluD_yes ha hm, aluD_yes (okB_mod _) hm]
  refine ⟨rfl, rfl, ?_, ?_, fun hlt => ?_⟩
  · show a * 2 ^ (b % 16 % 16).toNat % 65536 = _
    rw [shift_mod]
  · show a / 2 ^ (b % 16 % 16).toNat = _
    rw [shift_mod]
  · show a * 2 ^ (b % 16).toNat % 65536 / 2 ^ (b % 16 % 16).toNat = a
    rw [shift_mod, Int.emod_eq_of_lt p0 hlt, Int.mul_ediv_cancel _ (Int.ne_of_gt (Int.pow_pos (by decide)))]

/-- A number of so many bits, with its sign, as a word. -/
def ext (n bits : Int) : Int := if n < 2 ^ (bits.toNat - 1) then n else (n - 2 ^ bits.toNat) % 65536
def sgnD (n bits : Int) : Int := if (1 ≤ bits ∧ bits ≤ 16) ∧ 0 ≤ n ∧ n < 2 ^ bits.toNat then ext n bits else -1

theorem pow_bd (bits : Int) (b0 : 1 ≤ bits) (b1 : bits ≤ 16) : 2 ≤ (2 : Int) ^ bits.toNat ∧ (2 : Int) ^ bits.toNat ≤ 65536 ∧ 1 ≤ (2 : Int) ^ (bits.toNat - 1) ∧ (2 : Int) ^ (bits.toNat - 1) ≤ 32768 ∧ (2 : Int) ^ bits.toNat = 2 * 2 ^ (bits.toNat - 1) := by
  have h : bits = 1 ∨ bits = 2 ∨ bits = 3 ∨ bits = 4 ∨ bits = 5 ∨ bits = 6 ∨ bits = 7 ∨ bits = 8 ∨ bits = 9 ∨ bits = 10 ∨ bits = 11 ∨ bits = 12 ∨ bits = 13 ∨ bits = 14 ∨ bits = 15 ∨ bits = 16 := by omega
  rcases h with rfl | rfl | rfl | rfl | rfl | rfl | rfl | rfl | rfl | rfl | rfl | rfl | rfl | rfl | rfl | rfl <;> decide
theorem ext_eq (x bits : Int) (b0 : 1 ≤ bits) (b1 : bits ≤ 16) (x0 : 0 ≤ x) (x1 : x < 2 ^ bits.toNat) :
    IntKind.u16.wrap (IntKind.i16.wrap (IntKind.u16.wrap (x * 2 ^ (16 - bits).toNat)) / 2 ^ (16 - bits).toNat) = ext x bits := by
  have h : bits = 1 ∨ bits = 2 ∨ bits = 3 ∨ bits = 4 ∨ bits = 5 ∨ bits = 6 ∨ bits = 7 ∨ bits = 8 ∨ bits = 9 ∨ bits = 10 ∨ bits = 11 ∨ bits = 12 ∨ bits = 13 ∨ bits = 14 ∨ bits = 15 ∨ bits = 16 := by omega
  rcases h with rfl | rfl | rfl | rfl | rfl | rfl | rfl | rfl | rfl | rfl | rfl | rfl | rfl | rfl | rfl | rfl <;> simp [ext, IntKind.wrap, IntKind.bits, IntKind.signed] at * <;> split <;> split <;> omega
theorem ext_bd (n bits : Int) (b0 : 1 ≤ bits) (b1 : bits ≤ 16) (n0 : 0 ≤ n) (n1 : n < 2 ^ bits.toNat) : 0 ≤ ext n bits ∧ ext n bits < 65536 := by
  obtain ⟨p1, p2, p3, p4, p5⟩ := pow_bd bits b0 b1
  unfold ext
  split <;> omega

theorem impl_extend (x bits : Int) (b0 : 1 ≤ bits) (b1 : bits ≤ 16) (x0 : 0 ≤ x) (x1 : x < 2 ^ bits.toNat) (w : World) : Calls Tryd.prog 50 #[.int .u16 x, .int .i64 bits] w fun e w' => e = .returned (.int .u16 (ext x bits)) ∧ w = w' := by
  have H := Lib.hid (ext_eq x bits b0 b1 x0 x1)
  clear x1
  go_enter Tryd.func50, Tryd.ntmps50
  go_wp2
  go_ret
  exact ⟨ret_int H.out, rfl⟩

theorem l1In_yes (n lo hi : Int) (h1 : lo ≤ n) (h2 : n ≤ hi) (w : World) : Calls Tryd.prog 15 #[.int .i64 n, .int .i64 lo, .int .i64 hi] w fun e w' => e = .returned (.bool true) ∧ w = w' := by
  have := spec_l1In n lo hi w
  rwa [decide_eq_true ⟨h1, h2⟩] at this
theorem l1In_no (n lo hi : Int) (h : n < lo ∨ hi < n) (w : World) : Calls Tryd.prog 15 #[.int .i64 n, .int .i64 lo, .int .i64 hi] w fun e w' => e = .returned (.bool false) ∧ w = w' := by
  have := spec_l1In n lo hi w
  rwa [decide_eq_false (by omega)] at this

theorem sgnD_all (n : Int) (n0 : 0 ≤ n) (n1 : n < 65536) : sgnD n 16 = n := by
  have h1 : sgnD n 16 = ext n 16 := if_pos ⟨⟨by omega, by omega⟩, n0, n1⟩
  rw [h1]
  show (if n < 32768 then n else (n - 65536) % 65536) = n
  split <;> omega
theorem sgn_lo (n bits : Int) (b0 : 1 ≤ bits) (b1 : bits ≤ 16) (n0 : 0 ≤ n) (n1 : n < 2 ^ bits.toNat) (h : n < 2 ^ (bits.toNat - 1)) : sgn (sgnD n bits) = n := by
  obtain ⟨p1, p2, p3, p4, p5⟩ := pow_bd bits b0 b1
  have hE : sgnD n bits = ext n bits := if_pos ⟨⟨b0, b1⟩, n0, n1⟩
  have hX : ext n bits = n := if_pos h
  rw [hE, hX]
  unfold sgn sgnW
  rw [if_pos (okB_mk n0 (by omega)), if_pos (by omega)]
theorem sgn_hi (n bits : Int) (b0 : 1 ≤ bits) (b1 : bits ≤ 16) (n0 : 0 ≤ n) (n1 : n < 2 ^ bits.toNat) (h : ¬ n < 2 ^ (bits.toNat - 1)) : sgn (sgnD n bits) = n - 2 ^ bits.toNat := by
  obtain ⟨p1, p2, p3, p4, p5⟩ := pow_bd bits b0 b1
  have hE : sgnD n bits = ext n bits := if_pos ⟨⟨b0, b1⟩, n0, n1⟩
  have hX : ext n bits = (n - 2 ^ bits.toNat) % 65536 := if_neg h
  rw [hE, hX]
  unfold sgn sgnW
  rw [if_pos (okB_mk (by omega) (by omega)), if_neg (by omega)]
  omega

end Go.Proofs.YtiijhklkelaogabDoor
