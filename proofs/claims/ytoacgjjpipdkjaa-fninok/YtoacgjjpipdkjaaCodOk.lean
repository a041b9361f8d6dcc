/- The contract of spec.CodOk. The contracts of CodWord, of the program and of the model. -/
import Derived.Deep.DeepCutAuto
import Derived.Test.YtoacgjjpipdkjaaCod
namespace Go.Proofs.Ytoacgjjpipdkjaa
open Go.RowKit
set_option linter.unusedVariables false
def Sts (h : Bool) (r : Int) : Prop := (r == 0) = true ∨ ((r == 0) = false ∧ h = true ∧ decide (0 ≤ r ∧ r ≤ 7) = true) ∨ ((r == 0) = false ∧ h = false) ∨ ((r == 0) = false ∧ h = true ∧ decide (0 ≤ r ∧ r ≤ 7) = false)
theorem sts (h : Bool) (r : Int) : Sts h r := by
  unfold Sts
  cases (r == 0) <;> cases h <;> cases decide (0 ≤ r ∧ r ≤ 7) <;> simp
def topA (k : Int) : Int := if hF k = true then 7 else 0
theorem topA_t {k : Int} (h : hF k = true) : topA k = 7 := if_pos h
theorem topA_f {k : Int} (h : hF k = false) : topA k = 0 := if_neg (by simp [h])
theorem topF_t {k : Int} (h : (k == 14 || k == 15) = true) : topF k = 4 := if_pos (by simpa using h)
theorem topF_f {k : Int} (h : (k == 14 || k == 15) = false) : topF k = topA k := by
  have h1 : ¬ (k = 14 ∨ k = 15) := by simpa using h
  rw [topF, if_neg h1]
  by_cases h2 : k = 0
  · subst h2; rfl
  · have h3 : hF k = false := by simp [hF, h2]; simpa using h1
    rw [if_neg h2, topA_f h3]
theorem Below.drewN {B : Nat} {a w : World} (h : Below B a w) (m : Nat) : Below B a (w.drewN m) := ⟨h.os, h.tape, h.output, h.size, h.block⟩
set_option maxHeartbeats 8000000 in
theorem spec_CodOk (k d a b f n : Int) (w : World) : Calls Try.prog 107 #[.agg #[.int .i64 k, .int .i64 d, .int .i64 a, .int .i64 b, .int .i64 f, .int .i64 n]] w fun e w' => e = .returned (.bool (sok k d a b f n)) ∧ Fr w w' := by
  by_cases hk : 0 ≤ k ∧ k < 16
  · have HK := Lib.hid hk
    obtain ⟨k0, k1⟩ := hk
    have k2 : k ≤ 15 := by omega
    have HT : Hid (sok k d a b f n = (regOk (hD k) d && (regOk (hA k) a && (regOk (hB k) b && (decide (0 ≤ f ∧ f ≤ topF k) && numOk k n))))) := by
      have : decide (0 ≤ k ∧ k ≤ 15) = true := decide_eq_true ⟨k0, k2⟩
      simp [Hid, sok, this]
    clear k1
    go_enter Try.func107, Try.ntmps107
    go_upto_if 22 with (first | (go_at_call 63; refine (spec_l1In _ _ _ _).mono ?_; rintro e w' ⟨rfl, rfl⟩) | (go_at_call 108; refine (spec_l2Has _ HK.out _).mono ?_; rintro e w' ⟨rfl, rfl⟩))
    go_cut [6, 8] (fun s6 t wx => s6 = .bool (hF k) ∧ t = .int .i64 (topA k) ∧ w.alloc (.cells #[.int .i64 k, .int .i64 d, .int .i64 a, .int .i64 b, .int .i64 f, .int .i64 n] 108) = wx)
    case first =>
      cases e1 : hF k
      all_goals
        go_wp2
        go_meet
        first | exact ⟨by rw [e1], by rw [topA_t e1], rfl⟩ | exact ⟨by rw [e1], by rw [topA_f e1], rfl⟩
    case rest =>
      obtain ⟨rfl, rfl, rfl⟩ := hcut
      go_upto_region 7 with fail
      go_cut [30] (fun s wx => s = .bool (k == 14 || k == 15) ∧ w.alloc (.cells #[.int .i64 k, .int .i64 d, .int .i64 a, .int .i64 b, .int .i64 f, .int .i64 n] 108) = wx)
      case first =>
        cases e1 : (k == 14)
        all_goals
          go_wp2
          go_meet
          exact ⟨by simp [e1], rfl⟩
      case rest =>
        obtain ⟨rfl, rfl⟩ := hcut
        go_upto_if 30 with fail
        go_cut [8, 30] (fun t s wx => t = .int .i64 (topF k) ∧ w.alloc (.cells #[.int .i64 k, .int .i64 d, .int .i64 a, .int .i64 b, .int .i64 f, .int .i64 n] 108) = wx)
        case first =>
          cases e1 : (k == 14 || k == 15)
          all_goals
            go_wp2
            go_meet
            first | (rw [topF_t e1]; exact ⟨rfl, rfl⟩) | (rw [topF_f e1]; exact ⟨rfl, rfl⟩)
        case rest =>
          obtain ⟨rfl, rfl⟩ := hcut
          rcases sts (hD k) d with d1 | ⟨d1, d2, d3⟩ | ⟨d1, d2⟩ | ⟨d1, d2, d3⟩
          · rcases sts (hA k) a with a1 | ⟨a1, a2, a3⟩ | ⟨a1, a2⟩ | ⟨a1, a2, a3⟩
            · rcases sts (hB k) b with b1 | ⟨b1, b2, b3⟩ | ⟨b1, b2⟩ | ⟨b1, b2, b3⟩
              · cases q : decide (0 ≤ f ∧ f ≤ topF k)
                · have HV : Hid (sok k d a b f n = false) := by rw [Hid, HT.out]; simp [regOk, d1, a1, b1, q]
                  go_wp2_with (first | (go_at_call 63; refine (spec_l1In _ _ _ _).mono ?_; rintro e w' ⟨rfl, rfl⟩; rw [q]))
                  go_ret
                  exact ⟨ret_bool HV.out.symm, Fr.alloc _ _⟩
                · have HV : Hid (sok k d a b f n = numOk k n) := by rw [Hid, HT.out]; simp [regOk, d1, a1, b1, q]
                  go_wp2_with (first | (go_at_call 63; refine (spec_l1In _ _ _ _).mono ?_; rintro e w' ⟨rfl, rfl⟩; rw [q]) | (go_at_call 110; refine (spec_l2Num _ _ HK.out _).mono ?_; rintro e w' ⟨rfl, m, rfl⟩))
                  go_ret
                  exact ⟨ret_bool HV.out.symm, Below.drewN (Fr.alloc _ _) _⟩
              · cases q : decide (0 ≤ f ∧ f ≤ topF k)
                · have HV : Hid (sok k d a b f n = false) := by rw [Hid, HT.out]; simp [regOk, d1, a1, b1, b2, b3, q]
                  go_wp2_with (first | (go_at_call 109; refine (spec_l2Reg _ _).mono ?_; rintro e w' ⟨rfl, rfl⟩; first | rw [b3]) | (go_at_call 63; refine (spec_l1In _ _ _ _).mono ?_; rintro e w' ⟨rfl, rfl⟩; rw [q]))
                  go_ret
                  exact ⟨ret_bool HV.out.symm, Fr.alloc _ _⟩
                · have HV : Hid (sok k d a b f n = numOk k n) := by rw [Hid, HT.out]; simp [regOk, d1, a1, b1, b2, b3, q]
                  go_wp2_with (first | (go_at_call 109; refine (spec_l2Reg _ _).mono ?_; rintro e w' ⟨rfl, rfl⟩; first | rw [b3]) | (go_at_call 63; refine (spec_l1In _ _ _ _).mono ?_; rintro e w' ⟨rfl, rfl⟩; rw [q]) | (go_at_call 110; refine (spec_l2Num _ _ HK.out _).mono ?_; rintro e w' ⟨rfl, m, rfl⟩))
                  go_ret
                  exact ⟨ret_bool HV.out.symm, Below.drewN (Fr.alloc _ _) _⟩
              · have HV : Hid (sok k d a b f n = false) := by rw [Hid, HT.out]; simp [regOk, d1, a1, b1, b2]
                go_wp2
                go_ret
                exact ⟨ret_bool HV.out.symm, Fr.alloc _ _⟩
              · have HV : Hid (sok k d a b f n = false) := by rw [Hid, HT.out]; simp [regOk, d1, a1, b1, b2, b3]
                go_wp2_with (first | (go_at_call 109; refine (spec_l2Reg _ _).mono ?_; rintro e w' ⟨rfl, rfl⟩; first | rw [b3]))
                go_ret
                exact ⟨ret_bool HV.out.symm, Fr.alloc _ _⟩
            · rcases sts (hB k) b with b1 | ⟨b1, b2, b3⟩ | ⟨b1, b2⟩ | ⟨b1, b2, b3⟩
              · cases q : decide (0 ≤ f ∧ f ≤ topF k)
                · have HV : Hid (sok k d a b f n = false) := by rw [Hid, HT.out]; simp [regOk, d1, a1, a2, a3, b1, q]
                  go_wp2_with (first | (go_at_call 109; refine (spec_l2Reg _ _).mono ?_; rintro e w' ⟨rfl, rfl⟩; first | rw [a3]) | (go_at_call 63; refine (spec_l1In _ _ _ _).mono ?_; rintro e w' ⟨rfl, rfl⟩; rw [q]))
                  go_ret
                  exact ⟨ret_bool HV.out.symm, Fr.alloc _ _⟩
                · have HV : Hid (sok k d a b f n = numOk k n) := by rw [Hid, HT.out]; simp [regOk, d1, a1, a2, a3, b1, q]
                  go_wp2_with (first | (go_at_call 109; refine (spec_l2Reg _ _).mono ?_; rintro e w' ⟨rfl, rfl⟩; first | rw [a3]) | (go_at_call 63; refine (spec_l1In _ _ _ _).mono ?_; rintro e w' ⟨rfl, rfl⟩; rw [q]) | (go_at_call 110; refine (spec_l2Num _ _ HK.out _).mono ?_; rintro e w' ⟨rfl, m, rfl⟩))
                  go_ret
                  exact ⟨ret_bool HV.out.symm, Below.drewN (Fr.alloc _ _) _⟩
              · cases q : decide (0 ≤ f ∧ f ≤ topF k)
                · have HV : Hid (sok k d a b f n = false) := by rw [Hid, HT.out]; simp [regOk, d1, a1, a2, a3, b1, b2, b3, q]
                  go_wp2_with (first | (go_at_call 109; refine (spec_l2Reg _ _).mono ?_; rintro e w' ⟨rfl, rfl⟩; first | rw [a3] | rw [b3]) | (go_at_call 63; refine (spec_l1In _ _ _ _).mono ?_; rintro e w' ⟨rfl, rfl⟩; rw [q]))
                  go_ret
                  exact ⟨ret_bool HV.out.symm, Fr.alloc _ _⟩
                · have HV : Hid (sok k d a b f n = numOk k n) := by rw [Hid, HT.out]; simp [regOk, d1, a1, a2, a3, b1, b2, b3, q]
                  go_wp2_with (first | (go_at_call 109; refine (spec_l2Reg _ _).mono ?_; rintro e w' ⟨rfl, rfl⟩; first | rw [a3] | rw [b3]) | (go_at_call 63; refine (spec_l1In _ _ _ _).mono ?_; rintro e w' ⟨rfl, rfl⟩; rw [q]) | (go_at_call 110; refine (spec_l2Num _ _ HK.out _).mono ?_; rintro e w' ⟨rfl, m, rfl⟩))
                  go_ret
                  exact ⟨ret_bool HV.out.symm, Below.drewN (Fr.alloc _ _) _⟩
              · have HV : Hid (sok k d a b f n = false) := by rw [Hid, HT.out]; simp [regOk, d1, a1, a2, a3, b1, b2]
                go_wp2_with (first | (go_at_call 109; refine (spec_l2Reg _ _).mono ?_; rintro e w' ⟨rfl, rfl⟩; first | rw [a3]))
                go_ret
                exact ⟨ret_bool HV.out.symm, Fr.alloc _ _⟩
              · have HV : Hid (sok k d a b f n = false) := by rw [Hid, HT.out]; simp [regOk, d1, a1, a2, a3, b1, b2, b3]
                go_wp2_with (first | (go_at_call 109; refine (spec_l2Reg _ _).mono ?_; rintro e w' ⟨rfl, rfl⟩; first | rw [a3] | rw [b3]))
                go_ret
                exact ⟨ret_bool HV.out.symm, Fr.alloc _ _⟩
            · have HV : Hid (sok k d a b f n = false) := by rw [Hid, HT.out]; simp [regOk, d1, a1, a2]
              go_wp2
              go_ret
              exact ⟨ret_bool HV.out.symm, Fr.alloc _ _⟩
            · have HV : Hid (sok k d a b f n = false) := by rw [Hid, HT.out]; simp [regOk, d1, a1, a2, a3]
              go_wp2_with (first | (go_at_call 109; refine (spec_l2Reg _ _).mono ?_; rintro e w' ⟨rfl, rfl⟩; first | rw [a3]))
              go_ret
              exact ⟨ret_bool HV.out.symm, Fr.alloc _ _⟩
          · rcases sts (hA k) a with a1 | ⟨a1, a2, a3⟩ | ⟨a1, a2⟩ | ⟨a1, a2, a3⟩
            · rcases sts (hB k) b with b1 | ⟨b1, b2, b3⟩ | ⟨b1, b2⟩ | ⟨b1, b2, b3⟩
              · cases q : decide (0 ≤ f ∧ f ≤ topF k)
                · have HV : Hid (sok k d a b f n = false) := by rw [Hid, HT.out]; simp [regOk, d1, d2, d3, a1, b1, q]
                  go_wp2_with (first | (go_at_call 109; refine (spec_l2Reg _ _).mono ?_; rintro e w' ⟨rfl, rfl⟩; first | rw [d3]) | (go_at_call 63; refine (spec_l1In _ _ _ _).mono ?_; rintro e w' ⟨rfl, rfl⟩; rw [q]))
                  go_ret
                  exact ⟨ret_bool HV.out.symm, Fr.alloc _ _⟩
                · have HV : Hid (sok k d a b f n = numOk k n) := by rw [Hid, HT.out]; simp [regOk, d1, d2, d3, a1, b1, q]
                  go_wp2_with (first | (go_at_call 109; refine (spec_l2Reg _ _).mono ?_; rintro e w' ⟨rfl, rfl⟩; first | rw [d3]) | (go_at_call 63; refine (spec_l1In _ _ _ _).mono ?_; rintro e w' ⟨rfl, rfl⟩; rw [q]) | (go_at_call 110; refine (spec_l2Num _ _ HK.out _).mono ?_; rintro e w' ⟨rfl, m, rfl⟩))
                  go_ret
                  exact ⟨ret_bool HV.out.symm, Below.drewN (Fr.alloc _ _) _⟩
              · cases q : decide (0 ≤ f ∧ f ≤ topF k)
                · have HV : Hid (sok k d a b f n = false) := by rw [Hid, HT.out]; simp [regOk, d1, d2, d3, a1, b1, b2, b3, q]
                  go_wp2_with (first | (go_at_call 109; refine (spec_l2Reg _ _).mono ?_; rintro e w' ⟨rfl, rfl⟩; first | rw [d3] | rw [b3]) | (go_at_call 63; refine (spec_l1In _ _ _ _).mono ?_; rintro e w' ⟨rfl, rfl⟩; rw [q]))
                  go_ret
                  exact ⟨ret_bool HV.out.symm, Fr.alloc _ _⟩
                · have HV : Hid (sok k d a b f n = numOk k n) := by rw [Hid, HT.out]; simp [regOk, d1, d2, d3, a1, b1, b2, b3, q]
                  go_wp2_with (first | (go_at_call 109; refine (spec_l2Reg _ _).mono ?_; rintro e w' ⟨rfl, rfl⟩; first | rw [d3] | rw [b3]) | (go_at_call 63; refine (spec_l1In _ _ _ _).mono ?_; rintro e w' ⟨rfl, rfl⟩; rw [q]) | (go_at_call 110; refine (spec_l2Num _ _ HK.out _).mono ?_; rintro e w' ⟨rfl, m, rfl⟩))
                  go_ret
                  exact ⟨ret_bool HV.out.symm, Below.drewN (Fr.alloc _ _) _⟩
              · have HV : Hid (sok k d a b f n = false) := by rw [Hid, HT.out]; simp [regOk, d1, d2, d3, a1, b1, b2]
                go_wp2_with (first | (go_at_call 109; refine (spec_l2Reg _ _).mono ?_; rintro e w' ⟨rfl, rfl⟩; first | rw [d3]))
                go_ret
                exact ⟨ret_bool HV.out.symm, Fr.alloc _ _⟩
              · have HV : Hid (sok k d a b f n = false) := by rw [Hid, HT.out]; simp [regOk, d1, d2, d3, a1, b1, b2, b3]
                go_wp2_with (first | (go_at_call 109; refine (spec_l2Reg _ _).mono ?_; rintro e w' ⟨rfl, rfl⟩; first | rw [d3] | rw [b3]))
                go_ret
                exact ⟨ret_bool HV.out.symm, Fr.alloc _ _⟩
            · rcases sts (hB k) b with b1 | ⟨b1, b2, b3⟩ | ⟨b1, b2⟩ | ⟨b1, b2, b3⟩
              · cases q : decide (0 ≤ f ∧ f ≤ topF k)
                · have HV : Hid (sok k d a b f n = false) := by rw [Hid, HT.out]; simp [regOk, d1, d2, d3, a1, a2, a3, b1, q]
                  go_wp2_with (first | (go_at_call 109; refine (spec_l2Reg _ _).mono ?_; rintro e w' ⟨rfl, rfl⟩; first | rw [d3] | rw [a3]) | (go_at_call 63; refine (spec_l1In _ _ _ _).mono ?_; rintro e w' ⟨rfl, rfl⟩; rw [q]))
                  go_ret
                  exact ⟨ret_bool HV.out.symm, Fr.alloc _ _⟩
                · have HV : Hid (sok k d a b f n = numOk k n) := by rw [Hid, HT.out]; simp [regOk, d1, d2, d3, a1, a2, a3, b1, q]
                  go_wp2_with (first | (go_at_call 109; refine (spec_l2Reg _ _).mono ?_; rintro e w' ⟨rfl, rfl⟩; first | rw [d3] | rw [a3]) | (go_at_call 63; refine (spec_l1In _ _ _ _).mono ?_; rintro e w' ⟨rfl, rfl⟩; rw [q]) | (go_at_call 110; refine (spec_l2Num _ _ HK.out _).mono ?_; rintro e w' ⟨rfl, m, rfl⟩))
                  go_ret
                  exact ⟨ret_bool HV.out.symm, Below.drewN (Fr.alloc _ _) _⟩
              · cases q : decide (0 ≤ f ∧ f ≤ topF k)
                · have HV : Hid (sok k d a b f n = false) := by rw [Hid, HT.out]; simp [regOk, d1, d2, d3, a1, a2, a3, b1, b2, b3, q]
                  go_wp2_with (first | (go_at_call 109; refine (spec_l2Reg _ _).mono ?_; rintro e w' ⟨rfl, rfl⟩; first | rw [d3] | rw [a3] | rw [b3]) | (go_at_call 63; refine (spec_l1In _ _ _ _).mono ?_; rintro e w' ⟨rfl, rfl⟩; rw [q]))
                  go_ret
                  exact ⟨ret_bool HV.out.symm, Fr.alloc _ _⟩
                · have HV : Hid (sok k d a b f n = numOk k n) := by rw [Hid, HT.out]; simp [regOk, d1, d2, d3, a1, a2, a3, b1, b2, b3, q]
                  go_wp2_with (first | (go_at_call 109; refine (spec_l2Reg _ _).mono ?_; rintro e w' ⟨rfl, rfl⟩; first | rw [d3] | rw [a3] | rw [b3]) | (go_at_call 63; refine (spec_l1In _ _ _ _).mono ?_; rintro e w' ⟨rfl, rfl⟩; rw [q]) | (go_at_call 110; refine (spec_l2Num _ _ HK.out _).mono ?_; rintro e w' ⟨rfl, m, rfl⟩))
                  go_ret
                  exact ⟨ret_bool HV.out.symm, Below.drewN (Fr.alloc _ _) _⟩
              · have HV : Hid (sok k d a b f n = false) := by rw [Hid, HT.out]; simp [regOk, d1, d2, d3, a1, a2, a3, b1, b2]
                go_wp2_with (first | (go_at_call 109; refine (spec_l2Reg _ _).mono ?_; rintro e w' ⟨rfl, rfl⟩; first | rw [d3] | rw [a3]))
                go_ret
                exact ⟨ret_bool HV.out.symm, Fr.alloc _ _⟩
              · have HV : Hid (sok k d a b f n = false) := by rw [Hid, HT.out]; simp [regOk, d1, d2, d3, a1, a2, a3, b1, b2, b3]
                go_wp2_with (first | (go_at_call 109; refine (spec_l2Reg _ _).mono ?_; rintro e w' ⟨rfl, rfl⟩; first | rw [d3] | rw [a3] | rw [b3]))
                go_ret
                exact ⟨ret_bool HV.out.symm, Fr.alloc _ _⟩
            · have HV : Hid (sok k d a b f n = false) := by rw [Hid, HT.out]; simp [regOk, d1, d2, d3, a1, a2]
              go_wp2_with (first | (go_at_call 109; refine (spec_l2Reg _ _).mono ?_; rintro e w' ⟨rfl, rfl⟩; first | rw [d3]))
              go_ret
              exact ⟨ret_bool HV.out.symm, Fr.alloc _ _⟩
            · have HV : Hid (sok k d a b f n = false) := by rw [Hid, HT.out]; simp [regOk, d1, d2, d3, a1, a2, a3]
              go_wp2_with (first | (go_at_call 109; refine (spec_l2Reg _ _).mono ?_; rintro e w' ⟨rfl, rfl⟩; first | rw [d3] | rw [a3]))
              go_ret
              exact ⟨ret_bool HV.out.symm, Fr.alloc _ _⟩
          · have HV : Hid (sok k d a b f n = false) := by rw [Hid, HT.out]; simp [regOk, d1, d2]
            go_wp2
            go_ret
            exact ⟨ret_bool HV.out.symm, Fr.alloc _ _⟩
          · have HV : Hid (sok k d a b f n = false) := by rw [Hid, HT.out]; simp [regOk, d1, d2, d3]
            go_wp2_with (first | (go_at_call 109; refine (spec_l2Reg _ _).mono ?_; rintro e w' ⟨rfl, rfl⟩; first | rw [d3]))
            go_ret
            exact ⟨ret_bool HV.out.symm, Fr.alloc _ _⟩
  · have HV : Hid (sok k d a b f n = false) := by
      have : ¬ (0 ≤ k ∧ k ≤ 15) := by omega
      simp [Hid, sok, this]
    have q : decide (0 ≤ k ∧ k ≤ 15) = false := by simp; omega
    clear hk
    go_enter Try.func107, Try.ntmps107
    go_wp2_with (go_at_call 63; refine (spec_l1In _ _ _ _).mono ?_; rintro e w' ⟨rfl, rfl⟩; rw [q])
    go_ret
    exact ⟨ret_bool HV.out.symm, Fr.alloc _ _⟩

def worD (k d a b f n : Int) : Int := if iok k d a b f n = true then wrd k (fldL d a b f n) 5 else -1
theorem worD_t {k d a b f n : Int} (h : iok k d a b f n = true) : worD k d a b f n = wrd k (fldL d a b f n) 5 := if_pos h
theorem worD_f {k d a b f n : Int} (h : iok k d a b f n = false) : worD k d a b f n = -1 := if_neg (by simp [h])
theorem iok_k {k d a b f n : Int} (h : iok k d a b f n = true) : 0 ≤ k ∧ k < 16 := by
  by_cases hk : 0 ≤ k ∧ k < 16
  · exact hk
  · rw [iok_kind hk] at h; cases h
/-- The model's word so far: bits left, and the number. -/
def hasL (k : Int) : List Bool := [hD k, hA k, hB k, hF k]
def sl (k : Int) : Nat → Int
  | 0 => 12
  | p + 1 => if (hasL k).getD p false = true then sl k p - 3 else sl k p
def sw (k : Int) (v : List Int) : Nat → Int
  | 0 => k
  | p + 1 => if (hasL k).getD p false = true then sw k v p * 8 + v.getD p 0 else sw k v p
def sfin (k : Int) (v : List Int) : Int := if 0 < hN k then (sw k v 4 * 2 ^ (hN k).toNat + (v.getD 4 0 + 2 ^ (hN k).toNat) % 2 ^ (hN k).toNat) * 2 ^ (sl k 4 - hN k).toNat else sw k v 4 * 2 ^ (sl k 4).toNat
theorem sfin_eq {k d a b f n : Int} (h : iok k d a b f n = true) : sfin k (fldL d a b f n) = wrd k (fldL d a b f n) 5 := by
  have hk := iok_k h
  rcases kinds hk with rfl | rfl | rfl | rfl | rfl | rfl | rfl | rfl | rfl | rfl | rfl | rfl | rfl | rfl | rfl | rfl <;>
    simp [iok, okAt, layN, layL, eL, eG, encL] at h <;>
    simp [sfin, hN, sw, sl, hasL, hD, hA, hB, hF, fldL, wrd, lft, layN, layL, eB, encL] <;> omega
theorem sw_t {k : Int} {v : List Int} {p : Nat} (h : (hasL k).getD p false = true) : sw k v (p + 1) = sw k v p * 8 + v.getD p 0 ∧ sl k (p + 1) = sl k p - 3 := ⟨if_pos h, if_pos h⟩
theorem sw_f {k : Int} {v : List Int} {p : Nat} (h : (hasL k).getD p false = false) : sw k v (p + 1) = sw k v p ∧ sl k (p + 1) = sl k p := ⟨if_neg (by simp only [h]; decide), if_neg (by simp only [h]; decide)⟩
theorem reg_bd {h : Bool} {r : Int} (hr : regOk h r = true) : 0 ≤ r ∧ r ≤ 7 := by
  simp [regOk] at hr; omega
theorem sok_bd {k d a b f n : Int} (h : sok k d a b f n = true) : (0 ≤ d ∧ d ≤ 7) ∧ (0 ≤ a ∧ a ≤ 7) ∧ (0 ≤ b ∧ b ≤ 7) ∧ (0 ≤ f ∧ f ≤ 7) ∧ (-256 ≤ n ∧ n ≤ 511) := by
  simp only [sok, Bool.and_eq_true, decide_eq_true_eq] at h
  obtain ⟨_, h1, h2, h3, h4, h5⟩ := h
  refine ⟨reg_bd h1, reg_bd h2, reg_bd h3, ⟨h4.1, ?_⟩, ?_⟩
  · have : topF k ≤ 7 := by unfold topF; repeat' split <;> omega
    omega
  · unfold numOk at h5
    split at h5
    · simp at h5; omega
    · repeat' split at h5
      all_goals simp at h5; omega
theorem sok_n6 {k d a b f n : Int} (h : sok k d a b f n = true) (h6 : hN k = 6) : -32 ≤ n ∧ n ≤ 31 := by
  simp only [sok, Bool.and_eq_true, decide_eq_true_eq] at h
  obtain ⟨_, h1, h2, h3, h4, h5⟩ := h
  unfold numOk at h5
  rw [h6, if_neg (by decide)] at h5
  split at h5
  · next hk =>
    exfalso
    rcases hk with rfl | rfl <;> simp [hN] at h6
  · simpa using h5
theorem sw_bd {k d a b f n : Int} (hk : 0 ≤ k ∧ k < 16) (h : sok k d a b f n = true) : ∀ p, p ≤ 4 → 0 ≤ sw k (fldL d a b f n) p ∧ sw k (fldL d a b f n) p < 16 * 8 ^ p
  | 0, _ => by simp [sw]; omega
  | p + 1, hp => by
    obtain ⟨h0, h1⟩ := sw_bd hk h p (by omega)
    obtain ⟨b1, b2, b3, b4, _⟩ := sok_bd h
    have hv : 0 ≤ (fldL d a b f n).getD p 0 ∧ (fldL d a b f n).getD p 0 ≤ 7 := by
      have : p = 0 ∨ p = 1 ∨ p = 2 ∨ p = 3 := by omega
      rcases this with rfl | rfl | rfl | rfl <;> simp [fldL] <;> omega
    rw [Int.pow_succ]
    cases hh : (hasL k).getD p false
    · rw [(sw_f hh).1]
      have : (0 : Int) < 8 ^ p := Int.pow_pos (by decide)
      omega
    · rw [(sw_t hh).1]
      omega
theorem sl_bd (k : Int) : ∀ p : Nat, p ≤ 4 → 12 - 3 * (p : Int) ≤ sl k p ∧ sl k p ≤ 12
  | 0, _ => by simp [sl]
  | p + 1, hp => by
    have h := sl_bd k p (by omega)
    cases hh : (hasL k).getD p false
    · rw [(sw_f (v := []) hh).2]; omega
    · rw [(sw_t (v := []) hh).2]; omega
theorem hN_vals (k : Int) : hN k = 0 ∨ hN k = 6 ∨ hN k = 9 := by
  unfold hN
  split
  · exact .inr (.inl rfl)
  · split
    · exact .inr (.inr rfl)
    · exact .inl rfl
theorem sl_fin {k : Int} (hk : 0 ≤ k ∧ k < 16) : 0 ≤ sl k 4 - hN k ∧ 0 ≤ hN k ∧ hN k ≤ 9 := by
  rcases kinds hk with rfl | rfl | rfl | rfl | rfl | rfl | rfl | rfl | rfl | rfl | rfl | rfl | rfl | rfl | rfl | rfl <;> simp [sl, hN, hasL, hD, hA, hB, hF]
theorem sfin_bd {k d a b f n : Int} (h : iok k d a b f n = true) : 0 ≤ sfin k (fldL d a b f n) ∧ sfin k (fldL d a b f n) < 65536 := by
  rw [sfin_eq h]
  obtain ⟨h0, h1, _⟩ := wrd_inv k (fldL d a b f n) (iok_k h) 5 (by omega)
  have : (0 : Int) < 2 ^ (lft k 5).toNat := Int.pow_pos (by decide)
  exact ⟨h0, by omega⟩
set_option maxHeartbeats 4000000 in
theorem spec_CodWord_yes (k d a b f n : Int) (w : World) (hk : 0 ≤ k ∧ k < 16) (hs : sok k d a b f n = true) : Calls Try.prog 102 #[.agg #[.int .i64 k, .int .i64 d, .int .i64 a, .int .i64 b, .int .i64 f, .int .i64 n]] w fun e w' => e = .returned (.int .i64 (sfin k (fldL d a b f n))) ∧ Fr w w' := by
  have HK := Lib.hid hk
  obtain ⟨k0, k1⟩ := hk
  have F0 := Fr.alloc w (.cells #[.int .i64 k, .int .i64 d, .int .i64 a, .int .i64 b, .int .i64 f, .int .i64 n] 108)
  go_enter Try.func102, Try.ntmps102
  go_wp2_with fail
  refine (spec_CodOk _ _ _ _ _ _ _).mono ?_
  rintro e u1 ⟨rfl, f1⟩
  have hlt := f1.size
  simp at hlt
  have hne : ¬ w.heap.size = u1.heap.size := by omega
  have hne2 : ¬ w.heap.size = u1.heap.size + 1 := by omega
  obtain ⟨c0, c1, c2, c3, c4, c5⟩ := (Box.new w k d a b f n _).fr f1
  go_wp2_with (go_at_call 108; refine (spec_l2Has _ HK.out _).mono ?_; rintro e w' ⟨rfl, rfl⟩)
  have HS := Lib.hid hs
  obtain ⟨⟨b0, b1⟩, ⟨b2, b3⟩, ⟨b4, b5⟩, ⟨b6, b7⟩, ⟨b8, b9⟩⟩ := sok_bd hs
  clear hs
  go_loop [8, 9, 12] (fun o l i => ∃ p : Nat, p ≤ 4 ∧ i = .int .i64 p ∧ o = .int .i64 (sw k (fldL d a b f n) p) ∧ l = .int .i64 (sl k p)) (fun _ _ i => 4 - (intOf i).toNat)
  case atStart => exact ⟨0, by omega, rfl, rfl, rfl⟩
  case round =>
    obtain ⟨p, hp, rfl, rfl, rfl⟩ := hrel
    rcases (show p = 0 ∨ p = 1 ∨ p = 2 ∨ p = 3 ∨ p = 4 by omega) with rfl | rfl | rfl | rfl | rfl
    · have HB := sw_bd HK.out HS.out 0 (by omega)
      have HL := sl_bd k 0 (by omega)
      obtain ⟨HB0, HB1⟩ := HB
      obtain ⟨HL0, HL1⟩ := HL
      simp at HB1
      try simp at HL0
      cases hh : hD k
      · have S := Lib.hid (sw_f (k := k) (v := fldL d a b f n) (p := 0) hh)
        go_wp2
        go_round
        case rel => exact ⟨0 + 1, by omega, by go_num, by rw [S.out.1], by rw [S.out.2]⟩
        case measure => simp [intOf]
      · have S := Lib.hid (sw_t (k := k) (v := fldL d a b f n) (p := 0) hh)
        go_wp2
        go_round
        case rel => exact ⟨0 + 1, by omega, by go_num, by rw [S.out.1]; rfl, by rw [S.out.2]⟩
        case measure => simp [intOf]
    · have HB := sw_bd HK.out HS.out 1 (by omega)
      have HL := sl_bd k 1 (by omega)
      obtain ⟨HB0, HB1⟩ := HB
      obtain ⟨HL0, HL1⟩ := HL
      simp at HB1
      try simp at HL0
      cases hh : hA k
      · have S := Lib.hid (sw_f (k := k) (v := fldL d a b f n) (p := 1) hh)
        go_wp2
        go_round
        case rel => exact ⟨1 + 1, by omega, by go_num, by rw [S.out.1], by rw [S.out.2]⟩
        case measure => simp [intOf]
      · have S := Lib.hid (sw_t (k := k) (v := fldL d a b f n) (p := 1) hh)
        go_wp2
        go_round
        case rel => exact ⟨1 + 1, by omega, by go_num, by rw [S.out.1]; rfl, by rw [S.out.2]⟩
        case measure => simp [intOf]
    · have HB := sw_bd HK.out HS.out 2 (by omega)
      have HL := sl_bd k 2 (by omega)
      obtain ⟨HB0, HB1⟩ := HB
      obtain ⟨HL0, HL1⟩ := HL
      simp at HB1
      try simp at HL0
      cases hh : hB k
      · have S := Lib.hid (sw_f (k := k) (v := fldL d a b f n) (p := 2) hh)
        go_wp2
        go_round
        case rel => exact ⟨2 + 1, by omega, by go_num, by rw [S.out.1], by rw [S.out.2]⟩
        case measure => simp [intOf]
      · have S := Lib.hid (sw_t (k := k) (v := fldL d a b f n) (p := 2) hh)
        go_wp2
        go_round
        case rel => exact ⟨2 + 1, by omega, by go_num, by rw [S.out.1]; rfl, by rw [S.out.2]⟩
        case measure => simp [intOf]
    · have HB := sw_bd HK.out HS.out 3 (by omega)
      have HL := sl_bd k 3 (by omega)
      obtain ⟨HB0, HB1⟩ := HB
      obtain ⟨HL0, HL1⟩ := HL
      simp at HB1
      try simp at HL0
      cases hh : hF k
      · have S := Lib.hid (sw_f (k := k) (v := fldL d a b f n) (p := 3) hh)
        go_wp2
        go_round
        case rel => exact ⟨3 + 1, by omega, by go_num, by rw [S.out.1], by rw [S.out.2]⟩
        case measure => simp [intOf]
      · have S := Lib.hid (sw_t (k := k) (v := fldL d a b f n) (p := 3) hh)
        go_wp2
        go_round
        case rel => exact ⟨3 + 1, by omega, by go_num, by rw [S.out.1]; rfl, by rw [S.out.2]⟩
        case measure => simp [intOf]
    · obtain ⟨HB0, HB1⟩ := sw_bd HK.out HS.out 4 (by omega)
      obtain ⟨HL0, HL1⟩ := sl_bd k 4 (by omega)
      have HF := sl_fin HK.out
      have HV := Lib.hid (sfin_bd (sok_eq k d a b f n ▸ HS.out))
      simp at HB1
      have c6 : ((u1.alloc (.cells #[.int .i64 d, .int .i64 a, .int .i64 b, .int .i64 f] 3)).alloc (.cells #[.bool (hD k), .bool (hA k), .bool (hB k), .bool (hF k)] 4)).cell? ⟨w.heap.size, 5, none⟩ = some (.int .i64 n) := (((Fr.alloc u1 _).trans (Fr.alloc _ _)).cell (p := ⟨w.heap.size, 5, none⟩) hlt).trans c5
      rcases hN_vals k with hn | hn | hn
      · rw [hn] at HF
        have HE : Hid (sfin k (fldL d a b f n) = sw k (fldL d a b f n) 4 * 2 ^ (sl k 4).toNat) := by simp [Hid, sfin, hn]
        obtain ⟨HF0, HF1, HF2⟩ := HF
        go_wp2
        go_ret
        refine ⟨ret_int ?_, ?_⟩
        · rw [HE.out, IntWalk.wrap64_in]
          rw [← HE.out]; have := HV.out; omega
        · exact F0.trans (f1.trans ((Fr.alloc _ _).trans (Fr.alloc _ _)))
      · rw [hn] at HF
        obtain ⟨b10, b11⟩ := sok_n6 HS.out hn
        have HE : Hid (sfin k (fldL d a b f n) = (sw k (fldL d a b f n) 4 * 64 + n % 64) * 2 ^ (sl k 4 - 6).toNat) := by simp [Hid, sfin, hn, fldL]
        obtain ⟨HF0, HF1, HF2⟩ := HF
        go_wp2_with fail
        go_quiet (fail)
        go_wp2
        go_ret
        refine ⟨ret_int ?_, ?_⟩
        · rw [HE.out, IntWalk.wrap64_in]
          rw [← HE.out]; have := HV.out; omega
        · exact Below.drewN (F0.trans (f1.trans ((Fr.alloc _ _).trans (Fr.alloc _ _)))) _
      · rw [hn] at HF
        have HE : Hid (sfin k (fldL d a b f n) = (sw k (fldL d a b f n) 4 * 512 + n % 512) * 2 ^ (sl k 4 - 9).toNat) := by simp [Hid, sfin, hn, fldL]
        obtain ⟨HF0, HF1, HF2⟩ := HF
        go_wp2_with fail
        go_quiet (fail)
        go_wp2
        go_ret
        refine ⟨ret_int ?_, ?_⟩
        · rw [HE.out, IntWalk.wrap64_in]
          rw [← HE.out]; have := HV.out; omega
        · exact Below.drewN (F0.trans (f1.trans ((Fr.alloc _ _).trans (Fr.alloc _ _)))) _
theorem spec_CodWord (k d a b f n : Int) (w : World) : Calls Try.prog 102 #[.agg #[.int .i64 k, .int .i64 d, .int .i64 a, .int .i64 b, .int .i64 f, .int .i64 n]] w fun e w' => e = .returned (.int .i64 (worD k d a b f n)) ∧ Fr w w' := by
  cases hq : iok k d a b f n
  · have H := Lib.hid (worD_f hq)
    have hs : sok k d a b f n = false := by rw [sok_eq]; exact hq
    clear hq
    have F0 := Fr.alloc w (.cells #[.int .i64 k, .int .i64 d, .int .i64 a, .int .i64 b, .int .i64 f, .int .i64 n] 108)
    go_enter Try.func102, Try.ntmps102
    go_wp2_with fail
    refine (spec_CodOk _ _ _ _ _ _ _).mono ?_
    rintro e u1 ⟨rfl, f1⟩
    go_wp2
    go_ret
    exact ⟨ret_int H.out.symm, F0.trans f1⟩
  · rw [worD_t hq, ← sfin_eq hq]
    exact spec_CodWord_yes k d a b f n w (iok_k hq) (by rw [sok_eq]; exact hq)

end Go.Proofs.Ytoacgjjpipdkjaa
