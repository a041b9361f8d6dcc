/- A word as an instruction: the program's reading and the model's are one. -/
import Derived.Test.YtecdmafhjfnloaaGreatDoorCodWord
import Derived.Test.YtecdmafhjfnloaaGreatDoorCodRd
namespace Go.Proofs.YtecdmafhjfnloaaGreatDoor
open Go.RowKit
set_option linter.unusedVariables false
/-- The model's field p of a word of kind k; its number. -/
def slv (k x : Int) (p : Nat) : Int := if (hasL k).getD p false = true then x / 2 ^ (sl k (p + 1)).toNat % 8 else 0
def snr (k x : Int) : Int := x / 2 ^ (sl k 4 - hN k).toNat % 2 ^ (hN k).toNat
def sne (k x : Int) : Bool := !(k == 12) && (!(k == 2) && decide (2 ^ (hN k - 1).toNat ≤ snr k x))
def sn (k x : Int) : Int := if hN k = 0 then 0 else if sne k x = true then snr k x - 2 ^ (hN k).toNat else snr k x
theorem rdx1 (x : Int) (x0 : 0 ≤ x) (x1 : x < 65536) : rdx x 0 = x * 16 % 65536 := by simp [rdx, rested]
set_option maxHeartbeats 4000000 in
theorem rd_eq (x : Int) (x0 : 0 ≤ x) (x1 : x < 65536) : rdv x 0 = slv (x / 4096) x 0 ∧ rdv x 1 = slv (x / 4096) x 1 ∧ rdv x 2 = slv (x / 4096) x 2 ∧ rdv x 3 = slv (x / 4096) x 3 ∧ rdv x 4 = sn (x / 4096) x := by
  have hk : 0 ≤ x / 4096 ∧ x / 4096 < 16 := by omega
  generalize hK : x / 4096 = k at *
  have hx : k * 4096 ≤ x ∧ x < k * 4096 + 4096 := by omega
  rcases kinds hk with rfl | rfl | rfl | rfl | rfl | rfl | rfl | rfl | rfl | rfl | rfl | rfl | rfl | rfl | rfl | rfl <;>
    (simp [rdv, rdx, hK, layN, layL, eB, eL, encL, valD, taken, rested, slv, sn, sne, snr, hN, hasL, sl, hD, hA, hB, hF, ext, sgnW]
     try (refine ⟨?_, ?_, ?_, ?_, ?_⟩)
     all_goals (repeat' split) <;> omega)
/-- Of what the model reads: no instruction: nothing; an instruction: one just if its word is this one. -/
theorem gd_slv (x : Int) (x0 : 0 ≤ x) (x1 : x < 65536) (h : iok (x / 4096) (slv (x / 4096) x 0) (slv (x / 4096) x 1) (slv (x / 4096) x 2) (slv (x / 4096) x 3) (sn (x / 4096) x) = false) : gd x = false := by
  obtain ⟨e0, e1, e2, e3, e4⟩ := rd_eq x x0 x1
  simp [gd, e0, e1, e2, e3, e4, h]
set_option maxHeartbeats 4000000 in
theorem worD_rdx (x : Int) (x0 : 0 ≤ x) (x1 : x < 65536) : wrd (x / 4096) (fldL (slv (x / 4096) x 0) (slv (x / 4096) x 1) (slv (x / 4096) x 2) (slv (x / 4096) x 3) (sn (x / 4096) x)) 5 = x ↔ rdx x 5 = 0 := by
  have hk : 0 ≤ x / 4096 ∧ x / 4096 < 16 := by omega
  generalize hK : x / 4096 = k at *
  have hx : k * 4096 ≤ x ∧ x < k * 4096 + 4096 := by omega
  rcases kinds hk with rfl | rfl | rfl | rfl | rfl | rfl | rfl | rfl | rfl | rfl | rfl | rfl | rfl | rfl | rfl | rfl <;>
    (simp [rdx, hK, layN, layL, eB, encL, rested, slv, sn, sne, snr, hN, hasL, sl, hD, hA, hB, hF, wrd, lft, fldL]
     try (repeat' split) <;> omega)
theorem gd_worD (x : Int) (x0 : 0 ≤ x) (x1 : x < 65536) (h : iok (x / 4096) (slv (x / 4096) x 0) (slv (x / 4096) x 1) (slv (x / 4096) x 2) (slv (x / 4096) x 3) (sn (x / 4096) x) = true) :
    gd x = (worD (x / 4096) (slv (x / 4096) x 0) (slv (x / 4096) x 1) (slv (x / 4096) x 2) (slv (x / 4096) x 3) (sn (x / 4096) x) == x) := by
  obtain ⟨e0, e1, e2, e3, e4⟩ := rd_eq x x0 x1
  have hw := worD_rdx x x0 x1
  rw [worD_t h]
  have ho := okB_mk x0 x1
  rw [Bool.eq_iff_iff]
  simp only [gd, e0, e1, e2, e3, e4, h, ho, Bool.true_and, Bool.and_true, beq_iff_eq]
  exact hw.symm
end Go.Proofs.YtecdmafhjfnloaaGreatDoor
