/- The contract of spec.CodOk. The contracts of CodWord, of the program and of the model. -/
import Derived.Deep.DeepCutAuto
import Derived.Test.YtbjapncfgancoaaDoorCod
namespace Go.Proofs.YtbjapncfgancoaaDoor
open Go.RowKit
set_option linter.unusedVariables false
theorem Below.drewN {B : Nat} {a w : World} (h : Below B a w) (m : Nat) : Below B a (w.drewN m) := ⟨h.os, h.tape, h.output, h.size, h.block⟩
def worD (k d a b f n : Int) : Int := if iok k d a b f n = true then wrd k (fldL d a b f n) 5 else -1
theorem worD_t {k d a b f n : Int} (h : iok k d a b f n = true) : worD k d a b f n = wrd k (fldL d a b f n) 5 := if_pos h
theorem worD_f {k d a b f n : Int} (h : iok k d a b f n = false) : worD k d a b f n = -1 := if_neg (by simp [h])
theorem iok_k {k d a b f n : Int} (h : iok k d a b f n = true) : 0 ≤ k ∧ k < 16 := by
  by_cases hk : 0 ≤ k ∧ k < 16
  · exact hk
  · rw [iok_kind hk] at h; cases h
set_option maxHeartbeats 4000000 in
theorem impl_CodWord_yes (k d a b f n : Int) (w : World) (ht : Tabs w) (hk : 0 ≤ k ∧ k < 16) (hq : iok k d a b f n = true) : Calls Tryd.prog 40 #[.agg #[.int .i64 k, .int .i64 d, .int .i64 a, .int .i64 b, .int .i64 f, .int .i64 n]] w fun e w' => e = .returned (.int .i64 (wrd k (fldL d a b f n) 5)) ∧ Fr w w' := by
  have HK := Lib.hid hk
  obtain ⟨k0, k1⟩ := hk
  have F0 := Fr.alloc w (.cells #[.int .i64 k, .int .i64 d, .int .i64 a, .int .i64 b, .int .i64 f, .int .i64 n] 48)
  have h2 := ht.two
  go_enter Tryd.func40, Tryd.ntmps40
  go_wp2_with fail
  refine (impl_CodOk _ _ _ _ _ _ _ (ht.fr F0)).mono ?_
  rintro e u1 ⟨rfl, f1⟩
  obtain ⟨c0, c1, c2, c3, c4, c5⟩ := (Box.new w k d a b f n _).fr f1
  go_wp2_with fail
  refine (impl_fieldsOf _ _ _ _ _ _ _).mono ?_
  rintro e u2 ⟨rfl, f2⟩
  have F2 := (F0.trans f1).trans f2
  have B2 := Lib.hid (((Box.new w k d a b f n _).fr f1).fr f2)
  clear c0 c1 c2 c3 c4 c5
  go_wp2_with fail
  go_loopw [3, 4, 17] (fun l o i wr => ∃ p : Nat, p ≤ 5 ∧ i = .int .i64 p ∧ l = .int .i64 (lft k p) ∧ o = .int .i64 (wrd k (fldL d a b f n) p) ∧ Fr u2 wr) (fun _ _ i _ => 5 - (intOf i).toNat)
  case atStart => exact ⟨0, by omega, rfl, rfl, by simp [wrd], Below.refl _ _⟩
  case round =>
    obtain ⟨p, hp, rfl, rfl, rfl, hb⟩ := hrel
    by_cases h5 : p < 5
    · have htr := ht.fr (F2.trans hb)
      have c0 := (B2.out.fr hb).c0
      have x := fld_index d a b f n p h5 wr
      have h5' : (p : Int) < 5 := by omega
      have c1 := htr.layAt k p HK.out h5
      have c5 := layN_lt k p HK.out h5
      obtain ⟨c2, c3, c4⟩ := htr.encAt _ c5
      have q0 := Lib.hid (eB_vals _ c5)
      have q1 : 0 ≤ eB (layN k p) := by have := q0.out; omega
      have q2 : eB (layN k p) ≤ 9 := by have := q0.out; omega
      have q4 : lft k p ≤ 12 := (lft_bd k p HK.out (by omega)).2
      have q3 : 0 ≤ lft k p - eB (layN k p) := (lft_bd k (p + 1) HK.out (by omega)).1
      have S := Lib.hid (wrd_step k (fldL d a b f n) p HK.out h5)
      go_wp2
      go_roundw
      case rel => exact ⟨p + 1, by omega, by go_num, rfl, by rw [S.out], Below.trans hb ((Fr.alloc _ _).mono hb.size)⟩
      case measure => simp [intOf]; omega
    · have h6 : p = 5 := by omega
      subst h6
      go_wp2
      go_ret
      exact ⟨rfl, F2.trans hb⟩
theorem impl_CodWord (k d a b f n : Int) (w : World) (ht : Tabs w) : Calls Tryd.prog 40 #[.agg #[.int .i64 k, .int .i64 d, .int .i64 a, .int .i64 b, .int .i64 f, .int .i64 n]] w fun e w' => e = .returned (.int .i64 (worD k d a b f n)) ∧ Fr w w' := by
  cases hq : iok k d a b f n
  · have H := Lib.hid (worD_f hq)
    have F0 := Fr.alloc w (.cells #[.int .i64 k, .int .i64 d, .int .i64 a, .int .i64 b, .int .i64 f, .int .i64 n] 48)
    go_enter Tryd.func40, Tryd.ntmps40
    go_wp2_with fail
    refine (impl_CodOk _ _ _ _ _ _ _ (ht.fr F0)).mono ?_
    rintro e u1 ⟨rfl, f1⟩
    go_wp2
    go_ret
    exact ⟨ret_int H.out.symm, F0.trans f1⟩
  · rw [worD_t hq]
    exact impl_CodWord_yes k d a b f n w ht (iok_k hq) hq
/-- The model's word so far: bits left, and the number. -/
def hasL (k : Int) : List Bool := [hD k, hA k, hB k, hF k]
def sl (k : Int) : Nat → Int
  | 0 => 12
  | p + 1 => if (hasL k).getD p false = true then sl k p - 3 else sl k p
theorem reg_bd {h : Bool} {r : Int} (hr : regOk h r = true) : 0 ≤ r ∧ r ≤ 7 := by
  simp [regOk] at hr; omega
theorem sok_bd {k d a b f n : Int} (h : sok k d a b f n = true) : (0 ≤ d ∧ d ≤ 7) ∧ (0 ≤ a ∧ a ≤ 7) ∧ (0 ≤ b ∧ b ≤ 7) ∧ (0 ≤ f ∧ f ≤ 7) ∧ (-256 ≤ n ∧ n ≤ 511) := by
  simp only [sok, Bool.and_eq_true, decide_eq_true_eq] at h
  obtain ⟨_, h1, h2, h3, h4, h5⟩ := h
  refine ⟨reg_bd h1, reg_bd h2, reg_bd h3, ⟨h4.1, ?_⟩, ?_⟩
  · have : topF k ≤ 7 := by unfold topF; repeat' split <;> omega
    omega
  · unfold numOk at h5
    split at h5
    · simp at h5; omega
    · repeat' split at h5
      all_goals simp at h5; omega
end Go.Proofs.YtbjapncfgancoaaDoor
