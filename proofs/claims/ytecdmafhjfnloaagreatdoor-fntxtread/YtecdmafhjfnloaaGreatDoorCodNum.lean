/- Numbers: an instruction as a word, field by field. -/
import Derived.Test.YtecdmafhjfnloaaGreatDoorCod
namespace Go.Proofs.YtecdmafhjfnloaaGreatDoor
open Go.RowKit
set_option linter.unusedVariables false
/-- How many bits are left behind p places; the word so far. -/
def lft (k : Int) : Nat → Int
  | 0 => 12
  | p + 1 => lft k p - eB (layN k p)
def wrd (k : Int) (v : List Int) : Nat → Int
  | 0 => k * 4096
  | p + 1 => wrd k v p + (v.getD p 0 % 2 ^ (eB (layN k p)).toNat) * 2 ^ (lft k (p + 1)).toNat
theorem eB_vals : ∀ m, m < 7 → eB m = 0 ∨ eB m = 3 ∨ eB m = 6 ∨ eB m = 9 := by decide
theorem lft_bdN : ∀ K : Fin 16, ∀ p : Fin 6, 0 ≤ lft ((K.val : Nat) : Int) p.val ∧ lft ((K.val : Nat) : Int) p.val ≤ 12 := by decide
theorem lft_bd (k : Int) (p : Nat) (hk : 0 ≤ k ∧ k < 16) (hp : p ≤ 5) : 0 ≤ lft k p ∧ lft k p ≤ 12 := by
  have h := lft_bdN ⟨k.toNat, by omega⟩ ⟨p, by omega⟩
  have e : ((k.toNat : Nat) : Int) = k := by omega
  simp only [e] at h
  exact h
theorem le12 {l : Int} (h0 : 0 ≤ l) (h1 : l ≤ 12) : l = 0 ∨ l = 1 ∨ l = 2 ∨ l = 3 ∨ l = 4 ∨ l = 5 ∨ l = 6 ∨ l = 7 ∨ l = 8 ∨ l = 9 ∨ l = 10 ∨ l = 11 ∨ l = 12 := by omega
/-- The word so far, in bounds, noughts behind. -/
theorem wrd_inv (k : Int) (v : List Int) (hk : 0 ≤ k ∧ k < 16) : ∀ p, p ≤ 5 → 0 ≤ wrd k v p ∧ wrd k v p + 2 ^ (lft k p).toNat ≤ 65536 ∧ wrd k v p % 2 ^ (lft k p).toNat = 0
  | 0, _ => by simp [wrd, lft]; omega
  | p + 1, hp => by
    obtain ⟨h0, h1, h2⟩ := wrd_inv k v hk p (by omega)
    have hb := eB_vals _ (layN_lt k p hk (by omega))
    have l1 := lft_bd k p hk (by omega)
    have l2 := lft_bd k (p + 1) hk hp
    have e : lft k (p + 1) = lft k p - eB (layN k p) := rfl
    rw [wrd]
    generalize v.getD p 0 = x
    generalize wrd k v p = o at *
    rw [e] at l2 ⊢
    generalize lft k p = l at *
    rcases hb with hb | hb | hb | hb <;> rw [hb] at l2 ⊢ <;> clear hb e
    · simp
      exact ⟨h0, h1, h2⟩
    all_goals
      have hl := le12 l1.1 l1.2
      rcases hl with rfl | rfl | rfl | rfl | rfl | rfl | rfl | rfl | rfl | rfl | rfl | rfl | rfl <;> first | omega | (simp at h1 h2 ⊢; omega)
theorem and_mask (v : Int) (B : Nat) (hB : B ≤ 9) : bits .and .i64 v (2 ^ B - 1) = v % 2 ^ B := by
  have hp : (2 : Nat) ^ B ≤ 2 ^ 9 := Nat.pow_le_pow_right (by decide) hB
  have hq : 0 < (2 : Nat) ^ B := Nat.pow_pos (by decide)
  have e1 : ((2 : Int) ^ B - 1) = ((2 ^ B - 1 : Nat) : Int) := by
    rw [Int.ofNat_sub hq]; simp
  show IntKind.i64.wrap ((BitVec.ofInt 64 v &&& BitVec.ofInt 64 (2 ^ B - 1)).toNat : Int) = _
  rw [BitVec.toNat_and, e1, i64_of ((2 ^ B - 1 : Nat) : Int) (by omega) (by omega), Int.toNat_natCast, Nat.and_two_pow_sub_one_eq_mod]
  have e2 : (((BitVec.ofInt 64 v).toNat % 2 ^ B : Nat) : Int) = v % 2 ^ B := by
    rw [BitVec.toNat_ofInt]
    have h0 : 0 ≤ v % ((2 ^ 64 : Nat) : Int) := Int.emod_nonneg _ (by decide)
    rw [Int.natCast_emod, Int.toNat_of_nonneg h0, Int.natCast_pow]
    have hd : ((2 : Int) ^ B) ∣ ((2 ^ 64 : Nat) : Int) := by
      have : ((2 ^ B : Nat) : Int) ∣ ((2 ^ 64 : Nat) : Int) := Int.natCast_dvd_natCast.mpr (Nat.pow_dvd_pow 2 (by omega))
      simpa using this
    simpa using Int.emod_emod_of_dvd v hd
  have h1 : (BitVec.ofInt 64 v).toNat % 2 ^ B < 2 ^ B := Nat.mod_lt _ hq
  rw [IntWalk.i64_left, IntWalk.wrap64_in _ (by omega), e2]
theorem or_step (o x : Int) (L B : Nat) (o0 : 0 ≤ o) (o1 : o < 65536) (x0 : 0 ≤ x) (x1 : x < 2 ^ B) (h : o % 2 ^ (L + B) = 0) (hs : L + B ≤ 12) : bits .or .i64 o (x * 2 ^ L) = o + x * 2 ^ L := by
  obtain ⟨O, rfl⟩ := Int.eq_ofNat_of_zero_le o0
  obtain ⟨X, rfl⟩ := Int.eq_ofNat_of_zero_le x0
  have x2 : X < 2 ^ B := by
    have : ((X : Nat) : Int) < ((2 ^ B : Nat) : Int) := by simpa using x1
    exact Int.ofNat_lt.mp this
  have h2 : O % 2 ^ (L + B) = 0 := by
    have : ((O % 2 ^ (L + B) : Nat) : Int) = 0 := by simpa using h
    exact Int.ofNat_eq_zero.mp this
  have hy : X * 2 ^ L < 2 ^ (L + B) := by
    rw [Nat.pow_add, Nat.mul_comm (2 ^ L)]
    exact Nat.mul_lt_mul_of_pos_right x2 (Nat.pow_pos (by decide))
  have hp : (2 : Nat) ^ (L + B) ≤ 2 ^ 12 := Nat.pow_le_pow_right (by decide) hs
  have e1 : ((X : Int) * 2 ^ L) = ((X * 2 ^ L : Nat) : Int) := by simp
  rw [e1, i64_or_w _ _ (by omega) o1 (by omega) (by omega), Int.toNat_natCast, Int.toNat_natCast]
  obtain ⟨q, hq⟩ : 2 ^ (L + B) ∣ O := Nat.dvd_of_mod_eq_zero h2
  have e2 : O ||| X * 2 ^ L = O + X * 2 ^ L := by
    have := Nat.shiftLeft_add_eq_or_of_lt hy q
    rw [Nat.shiftLeft_eq, Nat.mul_comm q, ← hq] at this
    exact this.symm
  rw [e2]
  simp
theorem emod_pow_bd (v : Int) (B : Nat) : 0 ≤ v % 2 ^ B ∧ v % 2 ^ B < 2 ^ B := by
  have h : (0 : Int) < 2 ^ B := Int.pow_pos (by decide)
  exact ⟨Int.emod_nonneg _ (by omega), Int.emod_lt_of_pos _ h⟩
/-- One place more, in the walk's own form. -/
theorem wrd_step (k : Int) (v : List Int) (p : Nat) (hk : 0 ≤ k ∧ k < 16) (hp : p < 5) :
    bits .or .i64 (wrd k v p) (wrap64 (bits .and .i64 (v[p]?.getD 0) (wrap64 (wrap64 (2 ^ (eB (layN k p)).toNat) - 1)) * 2 ^ (lft k p - eB (layN k p)).toNat)) = wrd k v (p + 1) := by
  obtain ⟨h0, h1, h2⟩ := wrd_inv k v hk p (by omega)
  have hb := eB_vals _ (layN_lt k p hk (by omega))
  have l1 := lft_bd k p hk (by omega)
  have l2 := lft_bd k (p + 1) hk hp
  have e : lft k (p + 1) = lft k p - eB (layN k p) := rfl
  rw [wrd, e]
  rw [e] at l2
  have eg : v.getD p 0 = v[p]?.getD 0 := rfl
  rw [eg]
  obtain ⟨B, hB⟩ : ∃ B : Nat, eB (layN k p) = B := ⟨(eB (layN k p)).toNat, by omega⟩
  rw [hB] at l2 hb ⊢
  have hB9 : B ≤ 9 := by omega
  obtain ⟨L, hL⟩ : ∃ L : Nat, lft k p = ((L + B : Nat) : Int) := ⟨(lft k p).toNat - B, by omega⟩
  have hL2 : (lft k p - (B : Int)).toNat = L := by omega
  rw [hL2, Int.toNat_natCast]
  have hp2 : (2 : Nat) ^ B ≤ 2 ^ 9 := Nat.pow_le_pow_right (by decide) hB9
  have hp3 : ((2 ^ B : Nat) : Int) = (2 : Int) ^ B := by simp
  have hp4 : 0 < (2 : Nat) ^ B := Nat.pow_pos (by decide)
  rw [IntWalk.wrap64_in (2 ^ B) (by omega), IntWalk.wrap64_in (2 ^ B - 1) (by omega), and_mask _ B hB9]
  have hm := emod_pow_bd (v[p]?.getD 0) B
  have hx : (v[p]?.getD 0) % 2 ^ B * 2 ^ L < 65536 := by
    have a1 : (v[p]?.getD 0) % 2 ^ B * 2 ^ L ≤ 2 ^ B * 2 ^ L := Int.mul_le_mul_of_nonneg_right (by omega) (by exact Int.le_of_lt (Int.pow_pos (by decide)))
    have a2 : (2 : Nat) ^ (L + B) ≤ 2 ^ 12 := Nat.pow_le_pow_right (by decide) (by omega)
    have a3 : ((2 ^ (L + B) : Nat) : Int) = 2 ^ B * 2 ^ L := by rw [Nat.pow_add, Nat.mul_comm]; simp
    omega
  have hy : 0 ≤ (v[p]?.getD 0) % 2 ^ B * 2 ^ L := Int.mul_nonneg hm.1 (Int.le_of_lt (Int.pow_pos (by decide)))
  rw [IntWalk.wrap64_in _ (by omega)]
  rw [hL, Int.toNat_natCast] at h1 h2
  have hp5 : 0 < (2 : Int) ^ (L + B) := Int.pow_pos (by decide)
  exact or_step _ _ L B h0 (by omega) hm.1 hm.2 h2 (by omega)
end Go.Proofs.YtecdmafhjfnloaaGreatDoor
