/- Numbers: what the laws of chapter 2 ask. -/
import Derived.Test.YtecdmafhjfnloaaGreatDoorCodEq
namespace Go.Proofs.YtecdmafhjfnloaaGreatDoor
open Go.RowKit
set_option linter.unusedVariables false
theorem Box.new' (w : World) (g : Nat) (hg : w.heap.size = g) (k d a b f n : Int) (t : TypeId) : Box (w.alloc (.cells #[.int .i64 k, .int .i64 d, .int .i64 a, .int .i64 b, .int .i64 f, .int .i64 n] t)) g k d a b f n := by
  subst hg; exact Box.new w k d a b f n t
theorem iok_d8 {k a b f n : Int} : iok k 8 a b f n = false := by
  by_cases hk : 0 ≤ k ∧ k < 16
  · rcases kinds hk with rfl | rfl | rfl | rfl | rfl | rfl | rfl | rfl | rfl | rfl | rfl | rfl | rfl | rfl | rfl | rfl <;>
      simp [iok, okAt, layN, layL, eL, eG, encL]
  · exact iok_kind hk
theorem iok_n512 {k d a b f : Int} : iok k d a b f 512 = false := by
  by_cases hk : 0 ≤ k ∧ k < 16
  · rcases kinds hk with rfl | rfl | rfl | rfl | rfl | rfl | rfl | rfl | rfl | rfl | rfl | rfl | rfl | rfl | rfl | rfl <;>
      simp [iok, okAt, layN, layL, eL, eG, encL]
  · exact iok_kind hk
theorem iok_b1 {k d a b f n : Int} (h : iok k d a b f n = true) : iok k d a 1 f n = hB k := by
  have hk := iok_k h
  rcases kinds hk with rfl | rfl | rfl | rfl | rfl | rfl | rfl | rfl | rfl | rfl | rfl | rfl | rfl | rfl | rfl | rfl <;>
    simp [iok, okAt, layN, layL, eL, eG, encL] at h <;> simp [iok, okAt, layN, layL, eL, eG, encL, hB] <;> omega
theorem iok_zero {k : Int} (hk : 0 ≤ k ∧ k < 16) : iok k 0 0 0 0 0 = true := by
  rcases kinds hk with rfl | rfl | rfl | rfl | rfl | rfl | rfl | rfl | rfl | rfl | rfl | rfl | rfl | rfl | rfl | rfl <;>
    simp [iok, okAt, layN, layL, eL, eG, encL]
/-- Reading the word of an instruction gives it back. -/
theorem worD_bd {k d a b f n : Int} (h : iok k d a b f n = true) : 0 ≤ worD k d a b f n ∧ worD k d a b f n < 65536 := by
  rw [worD_t h]
  obtain ⟨h0, h1, _⟩ := wrd_inv k (fldL d a b f n) (iok_k h) 5 (by omega)
  have : (0 : Int) < 2 ^ (lft k 5).toNat := Int.pow_pos (by decide)
  exact ⟨h0, by omega⟩
set_option maxHeartbeats 8000000 in
theorem read_word {k d a b f n : Int} (h : iok k d a b f n = true) : worD k d a b f n / 4096 = k ∧ slv k (worD k d a b f n) 0 = d ∧ slv k (worD k d a b f n) 1 = a ∧ slv k (worD k d a b f n) 2 = b ∧ slv k (worD k d a b f n) 3 = f ∧ sn k (worD k d a b f n) = n := by
  rw [worD_t h]
  have hk := iok_k h
  rcases kinds hk with rfl | rfl | rfl | rfl | rfl | rfl | rfl | rfl | rfl | rfl | rfl | rfl | rfl | rfl | rfl | rfl <;>
    (simp [iok, okAt, layN, layL, eL, eG, encL] at h
     simp [wrd, lft, fldL, layN, layL, eB, encL, slv, sn, sne, snr, hN, hasL, sl, hD, hA, hB, hF]
     try (refine ⟨?_, ?_, ?_, ?_, ?_, ?_⟩)
     all_goals (repeat' split) <;> omega)
theorem gd_word {k d a b f n : Int} (h : iok k d a b f n = true) : gd (worD k d a b f n) = true ∧ worD k d a b f n / 4096 = k ∧ rdv (worD k d a b f n) 0 = d ∧ rdv (worD k d a b f n) 1 = a ∧ rdv (worD k d a b f n) 2 = b ∧ rdv (worD k d a b f n) 3 = f ∧ rdv (worD k d a b f n) 4 = n := by
  obtain ⟨w0, w1⟩ := worD_bd h
  obtain ⟨e0, e1, e2, e3, e4⟩ := rd_eq _ w0 w1
  obtain ⟨hk, h0, h1, h2, h3, h4⟩ := read_word h
  have hg := gd_worD _ w0 w1
  rw [hk] at e0 e1 e2 e3 e4 hg
  rw [h0, h1, h2, h3, h4] at hg
  rw [h0] at e0; rw [h1] at e1; rw [h2] at e2; rw [h3] at e3; rw [h4] at e4
  refine ⟨?_, hk, e0, e1, e2, e3, e4⟩
  rw [hg h]
  simp
/-- What a word is read as is an instruction, of that word. -/
theorem read_ok {x : Int} (h : gd x = true) : iok (x / 4096) (rdv x 0) (rdv x 1) (rdv x 2) (rdv x 3) (rdv x 4) = true ∧ worD (x / 4096) (rdv x 0) (rdv x 1) (rdv x 2) (rdv x 3) (rdv x 4) = x := by
  have h' := h
  simp only [gd, Bool.and_eq_true] at h
  obtain ⟨ho, _, hi⟩ := h
  obtain ⟨x0, x1⟩ := okB_true ho
  refine ⟨hi, ?_⟩
  obtain ⟨e0, e1, e2, e3, e4⟩ := rd_eq x x0 x1
  rw [e0, e1, e2, e3, e4] at hi ⊢
  have := gd_worD x x0 x1 hi
  rw [h'] at this
  exact beq_iff_eq.1 this.symm
end Go.Proofs.YtecdmafhjfnloaaGreatDoor
