/- One instruction in a machine that sees all: what its step is. -/
import Derived.Test.YtbjapncfgancoaaDoorPe1
namespace Go.Proofs.YtbjapncfgancoaaDoor
open Go.RowKit
set_option linter.unusedVariables false
set_option linter.unusedSimpArgs false
/-- What is told of an instruction, ahead of what it does. -/
def hE (pc wd : Int) : Ev := ⟨pc, wd, 0, 0, 0, -1, 0⟩
theorem zeros_get (n i : Nat) : (zeros n).getD i 0 = 0 := by
  simp only [zeros, List.getD_eq_getElem?_getD, List.getElem?_replicate]
  split <;> rfl
theorem hS_usr (pc wd a b : Int) : usr (hS pc wd a b).C = false := by
  show ((zeros 5).getD 3 0 % 2 == 1) = false
  rw [zeros_get]
  rfl
theorem hS_see (pc wd a b p : Int) (save : Bool) (h1 : p < 256) : see (hS pc wd a b).C (hS pc wd a b).M p save = p := by
  unfold see
  rw [show (hS pc wd a b).C = zeros 5 from rfl, zeros_get, if_pos (by decide), if_pos h1]
theorem hS_at (pc wd a b : Int) (h0 : 0 ≤ pc) (h1 : pc < 256) : wAt (hS pc wd a b) = wd := by
  unfold wAt mm
  rw [show (hS pc wd a b).pc = pc from rfl, hS_see pc wd a b pc false h1]
  show ((zeros 256).set pc.toNat wd).getD pc.toNat 0 = wd
  rw [getD_set, if_pos ⟨rfl, by rw [zeros_len]; omega⟩]
theorem hS_step {k d ra rb f n pc : Int} (a b : Int) (hi : iok k d ra rb f n = true) (h0 : 0 ≤ pc) (h1 : pc < 256) :
    stepS (hS pc (worD k d ra rb f n) a b) false = (effS (hS pc (worD k d ra rb f n) a b) (hE pc (worD k d ra rb f n)) k d ra rb f n).fin (hS pc (worD k d ra rb f n) a b) (hE pc (worD k d ra rb f n)) := by
  obtain ⟨hg, w0, w1, w2, w3, w4, w5⟩ := gd_word hi
  rw [step_exe (by simp) (by rw [show (hS pc (worD k d ra rb f n) a b).pc = pc from rfl, hS_see _ _ _ _ pc false h1]; exact h0) (by rw [hS_at _ _ _ _ h0 h1]; exact hg)]
  have e1 : ev1 (hS pc (worD k d ra rb f n) a b) = hE pc (worD k d ra rb f n) := by
    unfold ev1 hE
    rw [hS_at _ _ _ _ h0 h1]
    rfl
  rw [e1]
  unfold exeS
  rw [e1, hS_at _ _ _ _ h0 h1, w0, w1, w2, w3, w4, w5]
/-- One machine twice, in rows apart: haPln tells that it is the same. -/
theorem same_pln {u : World} {g1 g2 g3 x1 x2 x3 gr gc gm xr xc xm : Nat} {s : St} (h : Own u g1 g2 g3 s) (h' : Own u x1 x2 x3 s) (l1 : s.R.length = 8) (l2 : s.C.length = 5) (l3 : s.M.length = 256) :
    Calls Tryd.prog 35 #[.agg #[.int .i64 s.pc, .slice (some ⟨x1, 0, none⟩) 8 xr, .slice (some ⟨x2, 0, none⟩) 5 xc, .slice (some ⟨x3, 0, none⟩) 256 xm], .agg #[.int .i64 s.pc, .slice (some ⟨g1, 0, none⟩) 8 gr, .slice (some ⟨g2, 0, none⟩) 5 gc, .slice (some ⟨g3, 0, none⟩) 256 gm]] u fun e u' => e = .returned (.bool true) ∧ Fr u u' := by
  have E := laws_haPln_same 0 0 u s _ _ _ _ _ _ xr xc xm gr gc gm (h'.vcs (Nat.zero_le _) (Nat.zero_le _) (Nat.zero_le _)) (h.vcs (Nat.zero_le _) (Nat.zero_le _) (Nat.zero_le _)) ⟨by omega, by omega, by omega⟩
  rw [l1, l2, l3] at E
  exact E

end Go.Proofs.YtbjapncfgancoaaDoor
