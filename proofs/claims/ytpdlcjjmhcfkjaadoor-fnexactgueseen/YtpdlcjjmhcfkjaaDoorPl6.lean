/- What is seen at an address: of the program and of the model; a word that is laid. -/
import Derived.Test.YtpdlcjjmhcfkjaaDoorPl4
import Derived.Test.YtpdlcjjmhcfkjaaDoorPl1
namespace Go.Proofs.YtpdlcjjmhcfkjaaDoor
open Go.RowKit
set_option linter.unusedVariables false
set_option linter.unusedSimpArgs false
theorem usr_t {C : List Int} (h : C.getD 3 0 % 2 = 1) : usr C = true := by unfold usr; rw [h]; rfl
theorem usr_f {C : List Int} (h : C.getD 3 0 % 2 = 0) : usr C = false := by unfold usr; rw [h]; rfl
theorem ctl_at {u : World} {C : List Int} {ao : Option Addr} (h : Src u C.length (ivl C) ao) (hl : C.length = 5) : ∃ g o, ao = some ⟨g, o, none⟩ ∧ g < u.heap.size ∧ u.cell? ⟨g, o, none⟩ = some (.int .i64 (C.getD 0 0)) ∧ u.cell? ⟨g, o + 2, none⟩ = some (.int .i64 (C.getD 2 0)) ∧ u.cell? ⟨g, o + 3, none⟩ = some (.int .i64 (C.getD 3 0)) := by
  obtain ⟨g, o, e, hg, h0, hc⟩ := src_at h (by omega)
  exact ⟨g, o, e, hg, h0, hc 2 (by omega), hc 3 (by omega)⟩
theorem and_pow (X n : Nat) : X &&& 2 ^ n = if X / 2 ^ n % 2 = 0 then 0 else 2 ^ n := by
  apply Nat.eq_of_testBit_eq
  intro i
  rw [Nat.testBit_and, Nat.testBit_two_pow]
  by_cases h : X / 2 ^ n % 2 = 0
  · rw [if_pos h, Nat.zero_testBit]
    by_cases e : n = i
    · subst e
      rw [Nat.testBit_eq_decide_div_mod_eq]
      simp [h]
    · simp [e]
  · rw [if_neg h, Nat.testBit_two_pow]
    by_cases e : n = i
    · subst e
      rw [Nat.testBit_eq_decide_div_mod_eq]
      have : X / 2 ^ n % 2 = 1 := by omega
      simp [this]
    · simp [e]
theorem bit_at (x : Int) (n m : Nat) (hm : 2 ^ n = m) (hx : 0 ≤ x) (hy : x < 65536) (hn : m ≤ 256) : bits .and .i64 x (m : Int) = if x / (m : Int) % 2 = 0 then 0 else (m : Int) := by
  rw [i64_and_w x _ hx hy (by omega) (by omega)]
  obtain ⟨X, rfl⟩ := Int.eq_ofNat_of_zero_le hx
  simp only [Int.toNat_natCast]
  have h2 := and_pow X n
  rw [hm] at h2
  rw [h2]
  by_cases h : X / m % 2 = 0
  · rw [if_pos h, if_pos (by exact_mod_cast h)]
    rfl
  · rw [if_neg h, if_neg (by intro q; exact h (by exact_mod_cast q))]
theorem bit16 (x : Int) (hx : 0 ≤ x) (hy : x < 65536) : bits .and .i64 x 16 = if x / 16 % 2 = 0 then 0 else 16 := bit_at x 4 16 rfl hx hy (by decide)
theorem bit32 (x : Int) (hx : 0 ≤ x) (hy : x < 65536) : bits .and .i64 x 32 = if x / 32 % 2 = 0 then 0 else 32 := bit_at x 5 32 rfl hx hy (by decide)
theorem see_sup {C M : List Int} {a : Int} {save : Bool} (h : C.getD 3 0 % 2 = 0) : see C M a save = if a < 256 then a else -1 := if_pos h
theorem see_usr {C M : List Int} {a : Int} {save : Bool} (h : C.getD 3 0 % 2 = 1) : see C M a save = if 256 ≤ a ∨ 256 ≤ C.getD 2 0 + a / 16 then -1 else frame (M.getD (C.getD 2 0 + a / 16).toNat 0) a save := if_neg (by omega)
/-- Where the word of a table stands. -/
def tabl (x3 x2 a : Int) : Int := if x3 % 2 = 0 then (if a < 256 then -2 else -1) else if 256 ≤ a ∨ 256 ≤ x2 + a / 16 then -1 else x2 + a / 16
theorem see_tabl {C M : List Int} {a : Int} {save : Bool} (a0 : 0 ≤ a) (h2 : 0 ≤ C.getD 2 0) : see C M a save = if tabl (C.getD 3 0) (C.getD 2 0) a = -2 then a else if tabl (C.getD 3 0) (C.getD 2 0) a < 0 then -1 else frame (M.getD (tabl (C.getD 3 0) (C.getD 2 0) a).toNat 0) a save := by
  unfold see
  generalize C.getD 3 0 = x3
  generalize C.getD 2 0 = x2 at *
  by_cases h : x3 % 2 = 0
  · rw [if_pos h]
    by_cases ha : a < 256
    · have : tabl x3 x2 a = -2 := by rw [tabl, if_pos h, if_pos ha]
      rw [if_pos ha, this, if_pos rfl]
    · have : tabl x3 x2 a = -1 := by rw [tabl, if_pos h, if_neg ha]
      rw [if_neg ha, this, if_neg (by decide), if_pos (by decide)]
  · rw [if_neg h]
    by_cases hA : 256 ≤ a ∨ 256 ≤ x2 + a / 16
    · have : tabl x3 x2 a = -1 := by rw [tabl, if_neg h, if_pos hA]
      rw [if_pos hA, this, if_neg (by decide), if_pos (by decide)]
    · have : tabl x3 x2 a = x2 + a / 16 := by rw [tabl, if_neg h, if_neg hA]
      rw [if_neg hA, this, if_neg (by omega), if_neg (by omega)]
theorem tabl_bd (x3 x2 a : Int) : tabl x3 x2 a < 256 := by
  unfold tabl
  split
  · split <;> omega
  · split <;> omega
/-- PagSee. -/
def seeD (s : St) (a : Int) (save : Bool) : Int := if okS s = true ∧ okB a = true then see s.C s.M a save else -1
end Go.Proofs.YtpdlcjjmhcfkjaaDoor
