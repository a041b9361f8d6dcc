/- The plain laws of the ALU operations, on numbers. -/
import Derived.Test.YtgiiadmpbnkpkaaWords
namespace Go.Proofs.Ytgiiadmpbnkpkaa
open Go.RowKit
set_option linter.unusedVariables false

theorem alu_bd (f a b : Int) (ha : okB a = true) (hb : okB b = true) : -1 ≤ alu f a b ∧ alu f a b < 65536 := by
  obtain ⟨a0, a1⟩ := okB_true ha
  obtain ⟨b0, b1⟩ := okB_true hb
  have h2 := and_lt a b a0 a1
  have h3 := or_lt a b a0 a1 b0 b1
  have h4 := xor_lt a b a0 a1 b0 b1
  have h5 := ltN_01 a b
  have h7 := shr_bd a b a0 a1
  unfold alu
  repeat (split; omega)
  omega
theorem okB_alu {f a b : Int} (hf : f = 0 ∨ f = 1 ∨ f = 2 ∨ f = 3 ∨ f = 4) (ha : okB a = true) (hb : okB b = true) : okB (alu f a b) = true := by
  obtain ⟨a0, a1⟩ := okB_true ha
  obtain ⟨b0, b1⟩ := okB_true hb
  have h2 := and_lt a b a0 a1
  have h3 := or_lt a b a0 a1 b0 b1
  have h4 := xor_lt a b a0 a1 b0 b1
  rcases hf with rfl | rfl | rfl | rfl | rfl
  · exact okB_mod _
  · exact okB_mod _
  · exact okB_mk (show (0 : Int) ≤ ((a.toNat &&& b.toNat : Nat) : Int) by omega) (show ((a.toNat &&& b.toNat : Nat) : Int) < 65536 by omega)
  · exact okB_mk (show (0 : Int) ≤ ((a.toNat ||| b.toNat : Nat) : Int) by omega) (show ((a.toNat ||| b.toNat : Nat) : Int) < 65536 by omega)
  · exact okB_mk (show (0 : Int) ≤ ((a.toNat ^^^ b.toNat : Nat) : Int) by omega) (show ((a.toNat ^^^ b.toNat : Nat) : Int) < 65536 by omega)

theorem add_laws (a b : Int) (ha : okB a = true) (hb : okB b = true) :
    aluD 0 b a = aluD 0 a b ∧ aluD 1 (aluD 0 a b) b = a ∧ aluD 0 a 0 = a ∧ aluD 1 a a = 0 ∧ okB (aluD 0 a b) = true := by
  obtain ⟨a0, a1⟩ := okB_true ha
  obtain ⟨b0, b1⟩ := okB_true hb
  have hab := okB_alu (.inl rfl) ha hb
  refine ⟨?_, ?_, ?_, ?_, ?_⟩
  · rw [aluD_yes hb ha, aluD_yes ha hb]
    show (b + a) % 65536 = (a + b) % 65536
    rw [Int.add_comm]
  · rw [aluD_yes ha hb, aluD_yes hab hb]
    show ((a + b) % 65536 - b) % 65536 = a
    omega
  · rw [aluD_yes ha rfl]
    show (a + 0) % 65536 = a
    omega
  · rw [aluD_yes ha ha]
    show (a - a) % 65536 = 0
    omega
  · rw [aluD_yes ha hb]; exact hab

theorem nat_of {f a b : Int} (x : Nat) (h : alu f a b = (x : Int)) : (alu f a b).toNat = x := by omega
theorem three_laws (f a b c : Int) (hf : f = 0 ∨ f = 2 ∨ f = 3 ∨ f = 4) (ha : okB a = true) (hb : okB b = true) (hc : okB c = true) :
    aluD f a (aluD f b c) = aluD f (aluD f a b) c ∧ aluD f b a = aluD f a b := by
  have hf' : f = 0 ∨ f = 1 ∨ f = 2 ∨ f = 3 ∨ f = 4 := by omega
  have hab := okB_alu hf' ha hb
  have hbc := okB_alu hf' hb hc
  rw [aluD_yes hb hc, aluD_yes ha hb, aluD_yes ha hbc, aluD_yes hab hc, aluD_yes hb ha]
  rcases hf with rfl | rfl | rfl | rfl
  · constructor
    · show (a + (b + c) % 65536) % 65536 = ((a + b) % 65536 + c) % 65536
      omega
    · show (b + a) % 65536 = (a + b) % 65536
      rw [Int.add_comm]
  · constructor
    · show ((a.toNat &&& (((b.toNat &&& c.toNat : Nat) : Int)).toNat : Nat) : Int) = (((((a.toNat &&& b.toNat : Nat) : Int)).toNat &&& c.toNat : Nat) : Int)
      rw [Int.toNat_natCast, Int.toNat_natCast, Nat.and_assoc]
    · show ((b.toNat &&& a.toNat : Nat) : Int) = ((a.toNat &&& b.toNat : Nat) : Int)
      rw [Nat.and_comm]
  · constructor
    · show ((a.toNat ||| (((b.toNat ||| c.toNat : Nat) : Int)).toNat : Nat) : Int) = (((((a.toNat ||| b.toNat : Nat) : Int)).toNat ||| c.toNat : Nat) : Int)
      rw [Int.toNat_natCast, Int.toNat_natCast, Nat.or_assoc]
    · show ((b.toNat ||| a.toNat : Nat) : Int) = ((a.toNat ||| b.toNat : Nat) : Int)
      rw [Nat.or_comm]
  · constructor
    · show ((a.toNat ^^^ (((b.toNat ^^^ c.toNat : Nat) : Int)).toNat : Nat) : Int) = (((((a.toNat ^^^ b.toNat : Nat) : Int)).toNat ^^^ c.toNat : Nat) : Int)
      rw [Int.toNat_natCast, Int.toNat_natCast, Nat.xor_assoc]
    · show ((b.toNat ^^^ a.toNat : Nat) : Int) = ((a.toNat ^^^ b.toNat : Nat) : Int)
      rw [Nat.xor_comm]

/-- Bit by bit: and, or, xor of two numbers, by their halves and their lowest bits. -/
theorem halves (a b : Nat) : (a &&& b) / 2 = a / 2 &&& b / 2 ∧ (a ||| b) / 2 = a / 2 ||| b / 2 ∧ (a ^^^ b) / 2 = a / 2 ^^^ b / 2 := ⟨Nat.and_div_two, Nat.or_div_two, Nat.xor_div_two⟩
theorem lowest (a b : Nat) : (a &&& b) % 2 = (a % 2 &&& b % 2) ∧ (a ||| b) % 2 = (a % 2 ||| b % 2) ∧ (a ^^^ b) % 2 = (a % 2 ^^^ b % 2) := by
  refine ⟨?_, ?_, ?_⟩
  · exact Nat.and_mod_two_pow (n := 1)
  · exact Nat.or_mod_two_pow (n := 1)
  · exact Nat.xor_mod_two_pow (n := 1)
theorem sums : ∀ a b : Nat, (a &&& b) + (a ^^^ b) = (a ||| b) ∧ (a &&& b) + (a ||| b) = a + b := by
  intro a
  induction a using Nat.strongRecOn with
  | _ a ih =>
    intro b
    by_cases h : a = 0
    · subst h; simp
    · obtain ⟨i1, i2⟩ := ih (a / 2) (by omega) (b / 2)
      obtain ⟨h1, h2, h3⟩ := halves a b
      obtain ⟨l1, l2, l3⟩ := lowest a b
      rw [← h1, ← h2, ← h3] at i1
      rw [← h1, ← h2] at i2
      have ha : a % 2 = 0 ∨ a % 2 = 1 := by omega
      have hb : b % 2 = 0 ∨ b % 2 = 1 := by omega
      rcases ha with ha | ha <;> rcases hb with hb | hb
      · rw [ha, hb] at l1 l2 l3
        replace l1 : (a &&& b) % 2 = 0 := l1
        replace l2 : (a ||| b) % 2 = 0 := l2
        replace l3 : (a ^^^ b) % 2 = 0 := l3
        omega
      · rw [ha, hb] at l1 l2 l3
        replace l1 : (a &&& b) % 2 = 0 := l1
        replace l2 : (a ||| b) % 2 = 1 := l2
        replace l3 : (a ^^^ b) % 2 = 1 := l3
        omega
      · rw [ha, hb] at l1 l2 l3
        replace l1 : (a &&& b) % 2 = 0 := l1
        replace l2 : (a ||| b) % 2 = 1 := l2
        replace l3 : (a ^^^ b) % 2 = 1 := l3
        omega
      · rw [ha, hb] at l1 l2 l3
        replace l1 : (a &&& b) % 2 = 1 := l1
        replace l2 : (a ||| b) % 2 = 1 := l2
        replace l3 : (a ^^^ b) % 2 = 0 := l3
        omega
theorem bits_laws (a b : Int) (ha : okB a = true) (hb : okB b = true) :
    aluD 2 a a = a ∧ aluD 3 a a = a ∧ aluD 4 a a = 0 ∧ aluD 2 a b + aluD 4 a b = aluD 3 a b ∧ aluD 2 a b + aluD 3 a b = a + b ∧ aluD 4 (aluD 4 a b) b = a := by
  obtain ⟨a0, a1⟩ := okB_true ha
  obtain ⟨b0, b1⟩ := okB_true hb
  obtain ⟨s1, s2⟩ := sums a.toNat b.toNat
  have hx := okB_alu (f := 4) (by omega) ha hb
  rw [aluD_yes ha ha, aluD_yes ha ha, aluD_yes ha ha, aluD_yes ha hb, aluD_yes ha hb, aluD_yes ha hb, aluD_yes hx hb]
  refine ⟨?_, ?_, ?_, ?_, ?_, ?_⟩
  · show ((a.toNat &&& a.toNat : Nat) : Int) = a
    rw [Nat.and_self]; omega
  · show ((a.toNat ||| a.toNat : Nat) : Int) = a
    rw [Nat.or_self]; omega
  · show ((a.toNat ^^^ a.toNat : Nat) : Int) = 0
    rw [Nat.xor_self]; rfl
  · show ((a.toNat &&& b.toNat : Nat) : Int) + ((a.toNat ^^^ b.toNat : Nat) : Int) = ((a.toNat ||| b.toNat : Nat) : Int)
    omega
  · show ((a.toNat &&& b.toNat : Nat) : Int) + ((a.toNat ||| b.toNat : Nat) : Int) = a + b
    omega
  · show (((((a.toNat ^^^ b.toNat : Nat) : Int)).toNat ^^^ b.toNat : Nat) : Int) = a
    rw [Int.toNat_natCast, Nat.xor_assoc, Nat.xor_self, Nat.xor_zero]; omega
theorem alu_small (f a b : Int) (ha : okB a = true) (hb : okB b = true) : -1 ≤ aluD f a b ∧ aluD f a b < 65536 := by
  rw [aluD_yes ha hb]; exact alu_bd f a b ha hb

theorem lt_laws (a b : Int) (ha : okB a = true) (hb : okB b = true) :
    aluD 5 a b = ltN a b ∧ aluD 5 b a = ltN b a ∧ aluD 5 a a = 0 ∧ ((ltN a b = 1) ↔ sgn a < sgn b) ∧ ((a = b) ↔ ltN a b + ltN b a = 0) ∧ ltN a b + ltN b a ≤ 1 := by
  obtain ⟨a0, a1⟩ := okB_true ha
  obtain ⟨b0, b1⟩ := okB_true hb
  have sa : sgn a = sgnW a := by simp [sgn, ha]
  have sb : sgn b = sgnW b := by simp [sgn, hb]
  have inj : sgnW a = sgnW b ↔ a = b := by unfold sgnW; split <;> split <;> omega
  rw [aluD_yes ha hb, aluD_yes hb ha, aluD_yes ha ha, sa, sb]
  refine ⟨rfl, rfl, ?_, ?_, ?_, ?_⟩
  · show ltN a a = 0
    exact ltN_neg (by omega)
  · unfold ltN; split <;> omega
  · unfold ltN; split <;> split <;> omega
  · unfold ltN; split <;> split <;> omega

theorem shift_mod (b : Int) : b % 16 % 16 = b % 16 := Int.emod_emod_of_dvd _ (by decide)
theorem shift_step (a : Int) (k : Nat) (ha : okB a = true) : aluD 0 (a * 2 ^ k % 65536) (a * 2 ^ k % 65536) = a * 2 ^ (k + 1) % 65536 ∧ a / 2 ^ k / 2 = a / 2 ^ (k + 1) := by
  refine ⟨?_, ?_⟩
  · rw [aluD_yes (okB_mod _) (okB_mod _)]
    show (a * 2 ^ k % 65536 + a * 2 ^ k % 65536) % 65536 = _
    rw [Int.pow_succ, ← Int.mul_assoc]
    omega
  · rw [Int.pow_succ, Int.ediv_ediv_of_nonneg (Int.le_of_lt (Int.pow_pos (by decide)))]
theorem shift_laws (a b : Int) (ha : okB a = true) (hb : okB b = true) :
    aluD 6 a b = a * 2 ^ (b % 16).toNat % 65536 ∧ aluD 7 a b = a / 2 ^ (b % 16).toNat ∧ aluD 6 a (b % 16) = a * 2 ^ (b % 16).toNat % 65536 ∧ aluD 7 a (b % 16) = a / 2 ^ (b % 16).toNat ∧
      (a * 2 ^ (b % 16).toNat < 65536 → aluD 7 (a * 2 ^ (b % 16).toNat % 65536) (b % 16) = a) := by
  obtain ⟨a0, a1⟩ := okB_true ha
  obtain ⟨b0, b1⟩ := okB_true hb
  have hm : okB (b % 16) = true := okB_mk (by omega) (by omega)
  obtain ⟨p0, p1⟩ := shl_bd a b a0 a1
  rw [aluD_yes ha hb, aluD_yes ha hb, aluD_yes ha hm, aluD_yes ha hm, aluD_yes (okB_mod _) hm]
  refine ⟨rfl, rfl, ?_, ?_, fun hlt => ?_⟩
  · show a * 2 ^ (b % 16 % 16).toNat % 65536 = _
    rw [shift_mod]
  · show a / 2 ^ (b % 16 % 16).toNat = _
    rw [shift_mod]
  · show a * 2 ^ (b % 16).toNat % 65536 / 2 ^ (b % 16 % 16).toNat = a
    rw [shift_mod, Int.emod_eq_of_lt p0 hlt, Int.mul_ediv_cancel _ (Int.ne_of_gt (Int.pow_pos (by decide)))]
end Go.Proofs.Ytgiiadmpbnkpkaa
