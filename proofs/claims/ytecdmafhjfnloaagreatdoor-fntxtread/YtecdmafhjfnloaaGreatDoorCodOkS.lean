/- The contract of spec.CodOk. -/
import Derived.Test.YtecdmafhjfnloaaGreatDoorCod
import Derived.Deep.DeepCutAuto
namespace Go.Proofs.YtecdmafhjfnloaaGreatDoor
open Go.RowKit
set_option linter.unusedVariables false
def Sts (h : Bool) (r : Int) : Prop := (r == 0) = true ∨ ((r == 0) = false ∧ h = true ∧ decide (0 ≤ r ∧ r ≤ 7) = true) ∨ ((r == 0) = false ∧ h = false) ∨ ((r == 0) = false ∧ h = true ∧ decide (0 ≤ r ∧ r ≤ 7) = false)
theorem sts (h : Bool) (r : Int) : Sts h r := by
  unfold Sts
  cases (r == 0) <;> cases h <;> cases decide (0 ≤ r ∧ r ≤ 7) <;> simp
def topA (k : Int) : Int := if hF k = true then 7 else 0
theorem topA_t {k : Int} (h : hF k = true) : topA k = 7 := if_pos h
theorem topA_f {k : Int} (h : hF k = false) : topA k = 0 := if_neg (by simp [h])
theorem topF_t {k : Int} (h : (k == 14 || k == 15) = true) : topF k = 4 := if_pos (by simpa using h)
theorem topF_f {k : Int} (h : (k == 14 || k == 15) = false) : topF k = topA k := by
  have h1 : ¬ (k = 14 ∨ k = 15) := by simpa using h
  rw [topF, if_neg h1]
  by_cases h2 : k = 0
  · subst h2; rfl
  · have h3 : hF k = false := by simp [hF, h2]; simpa using h1
    rw [if_neg h2, topA_f h3]
theorem Below.drewN {B : Nat} {a w : World} (h : Below B a w) (m : Nat) : Below B a (w.drewN m) := ⟨h.os, h.tape, h.output, h.size, h.block⟩
set_option maxHeartbeats 8000000 in
theorem spec_CodOk (k d a b f n : Int) (w : World) : Calls Tryz.prog 44 #[.agg #[.int .i64 k, .int .i64 d, .int .i64 a, .int .i64 b, .int .i64 f, .int .i64 n]] w fun e w' => e = .returned (.bool (sok k d a b f n)) ∧ Fr w w' := by
  by_cases hk : 0 ≤ k ∧ k < 16
  · have HK := Lib.hid hk
    obtain ⟨k0, k1⟩ := hk
    have k2 : k ≤ 15 := by omega
    have HT : Hid (sok k d a b f n = (regOk (hD k) d && (regOk (hA k) a && (regOk (hB k) b && (decide (0 ≤ f ∧ f ≤ topF k) && numOk k n))))) := by
      have : decide (0 ≤ k ∧ k ≤ 15) = true := decide_eq_true ⟨k0, k2⟩
      simp [Hid, sok, this]
    clear k1
    go_enter Tryz.func44, Tryz.ntmps44
    go_upto_if 22 with (first | (go_at_call 34; refine (spec_l1In _ _ _ _).mono ?_; rintro e w' ⟨rfl, rfl⟩) | (go_at_call 45; refine (spec_l2Has _ HK.out _).mono ?_; rintro e w' ⟨rfl, rfl⟩))
    go_cut [6, 8] (fun s6 t wx => s6 = .bool (hF k) ∧ t = .int .i64 (topA k) ∧ w.alloc (.cells #[.int .i64 k, .int .i64 d, .int .i64 a, .int .i64 b, .int .i64 f, .int .i64 n] 45) = wx)
    case first =>
      cases e1 : hF k
      all_goals
        go_wp2
        go_meet
        first | exact ⟨by rw [e1], by rw [topA_t e1], rfl⟩ | exact ⟨by rw [e1], by rw [topA_f e1], rfl⟩
    case rest =>
      obtain ⟨rfl, rfl, rfl⟩ := hcut
      go_upto_region 7 with fail
      go_cut [30] (fun s wx => s = .bool (k == 14 || k == 15) ∧ w.alloc (.cells #[.int .i64 k, .int .i64 d, .int .i64 a, .int .i64 b, .int .i64 f, .int .i64 n] 45) = wx)
      case first =>
        cases e1 : (k == 14)
        all_goals
          go_wp2
          go_meet
          exact ⟨by simp [e1], rfl⟩
      case rest =>
        obtain ⟨rfl, rfl⟩ := hcut
        go_upto_if 30 with fail
        go_cut [8, 30] (fun t s wx => t = .int .i64 (topF k) ∧ w.alloc (.cells #[.int .i64 k, .int .i64 d, .int .i64 a, .int .i64 b, .int .i64 f, .int .i64 n] 45) = wx)
        case first =>
          cases e1 : (k == 14 || k == 15)
          all_goals
            go_wp2
            go_meet
            first | (rw [topF_t e1]; exact ⟨rfl, rfl⟩) | (rw [topF_f e1]; exact ⟨rfl, rfl⟩)
        case rest =>
          obtain ⟨rfl, rfl⟩ := hcut
          rcases sts (hD k) d with d1 | ⟨d1, d2, d3⟩ | ⟨d1, d2⟩ | ⟨d1, d2, d3⟩
          · rcases sts (hA k) a with a1 | ⟨a1, a2, a3⟩ | ⟨a1, a2⟩ | ⟨a1, a2, a3⟩
            · rcases sts (hB k) b with b1 | ⟨b1, b2, b3⟩ | ⟨b1, b2⟩ | ⟨b1, b2, b3⟩
              · cases q : decide (0 ≤ f ∧ f ≤ topF k)
                · have HV : Hid (sok k d a b f n = false) := by rw [Hid, HT.out]; simp [regOk, d1, a1, b1, q]
                  go_wp2_with (first | (go_at_call 34; refine (spec_l1In _ _ _ _).mono ?_; rintro e w' ⟨rfl, rfl⟩; rw [q]))
                  go_ret
                  exact ⟨ret_bool HV.out.symm, Fr.alloc _ _⟩
                · have HV : Hid (sok k d a b f n = numOk k n) := by rw [Hid, HT.out]; simp [regOk, d1, a1, b1, q]
                  go_wp2_with (first | (go_at_call 34; refine (spec_l1In _ _ _ _).mono ?_; rintro e w' ⟨rfl, rfl⟩; rw [q]) | (go_at_call 62; refine (spec_l2Num _ _ HK.out _).mono ?_; rintro e w' ⟨rfl, m, rfl⟩))
                  go_ret
                  exact ⟨ret_bool HV.out.symm, Below.drewN (Fr.alloc _ _) _⟩
              · cases q : decide (0 ≤ f ∧ f ≤ topF k)
                · have HV : Hid (sok k d a b f n = false) := by rw [Hid, HT.out]; simp [regOk, d1, a1, b1, b2, b3, q]
                  go_wp2_with (first | (go_at_call 61; refine (spec_l2Reg _ _).mono ?_; rintro e w' ⟨rfl, rfl⟩; first | rw [b3]) | (go_at_call 34; refine (spec_l1In _ _ _ _).mono ?_; rintro e w' ⟨rfl, rfl⟩; rw [q]))
                  go_ret
                  exact ⟨ret_bool HV.out.symm, Fr.alloc _ _⟩
                · have HV : Hid (sok k d a b f n = numOk k n) := by rw [Hid, HT.out]; simp [regOk, d1, a1, b1, b2, b3, q]
                  go_wp2_with (first | (go_at_call 61; refine (spec_l2Reg _ _).mono ?_; rintro e w' ⟨rfl, rfl⟩; first | rw [b3]) | (go_at_call 34; refine (spec_l1In _ _ _ _).mono ?_; rintro e w' ⟨rfl, rfl⟩; rw [q]) | (go_at_call 62; refine (spec_l2Num _ _ HK.out _).mono ?_; rintro e w' ⟨rfl, m, rfl⟩))
                  go_ret
                  exact ⟨ret_bool HV.out.symm, Below.drewN (Fr.alloc _ _) _⟩
              · have HV : Hid (sok k d a b f n = false) := by rw [Hid, HT.out]; simp [regOk, d1, a1, b1, b2]
                go_wp2
                go_ret
                exact ⟨ret_bool HV.out.symm, Fr.alloc _ _⟩
              · have HV : Hid (sok k d a b f n = false) := by rw [Hid, HT.out]; simp [regOk, d1, a1, b1, b2, b3]
                go_wp2_with (first | (go_at_call 61; refine (spec_l2Reg _ _).mono ?_; rintro e w' ⟨rfl, rfl⟩; first | rw [b3]))
                go_ret
                exact ⟨ret_bool HV.out.symm, Fr.alloc _ _⟩
            · rcases sts (hB k) b with b1 | ⟨b1, b2, b3⟩ | ⟨b1, b2⟩ | ⟨b1, b2, b3⟩
              · cases q : decide (0 ≤ f ∧ f ≤ topF k)
                · have HV : Hid (sok k d a b f n = false) := by rw [Hid, HT.out]; simp [regOk, d1, a1, a2, a3, b1, q]
                  go_wp2_with (first | (go_at_call 61; refine (spec_l2Reg _ _).mono ?_; rintro e w' ⟨rfl, rfl⟩; first | rw [a3]) | (go_at_call 34; refine (spec_l1In _ _ _ _).mono ?_; rintro e w' ⟨rfl, rfl⟩; rw [q]))
                  go_ret
                  exact ⟨ret_bool HV.out.symm, Fr.alloc _ _⟩
                · have HV : Hid (sok k d a b f n = numOk k n) := by rw [Hid, HT.out]; simp [regOk, d1, a1, a2, a3, b1, q]
                  go_wp2_with (first | (go_at_call 61; refine (spec_l2Reg _ _).mono ?_; rintro e w' ⟨rfl, rfl⟩; first | rw [a3]) | (go_at_call 34; refine (spec_l1In _ _ _ _).mono ?_; rintro e w' ⟨rfl, rfl⟩; rw [q]) | (go_at_call 62; refine (spec_l2Num _ _ HK.out _).mono ?_; rintro e w' ⟨rfl, m, rfl⟩))
                  go_ret
                  exact ⟨ret_bool HV.out.symm, Below.drewN (Fr.alloc _ _) _⟩
              · cases q : decide (0 ≤ f ∧ f ≤ topF k)
                · have HV : Hid (sok k d a b f n = false) := by rw [Hid, HT.out]; simp [regOk, d1, a1, a2, a3, b1, b2, b3, q]
                  go_wp2_with (first | (go_at_call 61; refine (spec_l2Reg _ _).mono ?_; rintro e w' ⟨rfl, rfl⟩; first | rw [a3] | rw [b3]) | (go_at_call 34; refine (spec_l1In _ _ _ _).mono ?_; rintro e w' ⟨rfl, rfl⟩; rw [q]))
                  go_ret
                  exact ⟨ret_bool HV.out.symm, Fr.alloc _ _⟩
                · have HV : Hid (sok k d a b f n = numOk k n) := by rw [Hid, HT.out]; simp [regOk, d1, a1, a2, a3, b1, b2, b3, q]
                  go_wp2_with (first | (go_at_call 61; refine (spec_l2Reg _ _).mono ?_; rintro e w' ⟨rfl, rfl⟩; first | rw [a3] | rw [b3]) | (go_at_call 34; refine (spec_l1In _ _ _ _).mono ?_; rintro e w' ⟨rfl, rfl⟩; rw [q]) | (go_at_call 62; refine (spec_l2Num _ _ HK.out _).mono ?_; rintro e w' ⟨rfl, m, rfl⟩))
                  go_ret
                  exact ⟨ret_bool HV.out.symm, Below.drewN (Fr.alloc _ _) _⟩
              · have HV : Hid (sok k d a b f n = false) := by rw [Hid, HT.out]; simp [regOk, d1, a1, a2, a3, b1, b2]
                go_wp2_with (first | (go_at_call 61; refine (spec_l2Reg _ _).mono ?_; rintro e w' ⟨rfl, rfl⟩; first | rw [a3]))
                go_ret
                exact ⟨ret_bool HV.out.symm, Fr.alloc _ _⟩
              · have HV : Hid (sok k d a b f n = false) := by rw [Hid, HT.out]; simp [regOk, d1, a1, a2, a3, b1, b2, b3]
                go_wp2_with (first | (go_at_call 61; refine (spec_l2Reg _ _).mono ?_; rintro e w' ⟨rfl, rfl⟩; first | rw [a3] | rw [b3]))
                go_ret
                exact ⟨ret_bool HV.out.symm, Fr.alloc _ _⟩
            · have HV : Hid (sok k d a b f n = false) := by rw [Hid, HT.out]; simp [regOk, d1, a1, a2]
              go_wp2
              go_ret
              exact ⟨ret_bool HV.out.symm, Fr.alloc _ _⟩
            · have HV : Hid (sok k d a b f n = false) := by rw [Hid, HT.out]; simp [regOk, d1, a1, a2, a3]
              go_wp2_with (first | (go_at_call 61; refine (spec_l2Reg _ _).mono ?_; rintro e w' ⟨rfl, rfl⟩; first | rw [a3]))
              go_ret
              exact ⟨ret_bool HV.out.symm, Fr.alloc _ _⟩
          · rcases sts (hA k) a with a1 | ⟨a1, a2, a3⟩ | ⟨a1, a2⟩ | ⟨a1, a2, a3⟩
            · rcases sts (hB k) b with b1 | ⟨b1, b2, b3⟩ | ⟨b1, b2⟩ | ⟨b1, b2, b3⟩
              · cases q : decide (0 ≤ f ∧ f ≤ topF k)
                · have HV : Hid (sok k d a b f n = false) := by rw [Hid, HT.out]; simp [regOk, d1, d2, d3, a1, b1, q]
                  go_wp2_with (first | (go_at_call 61; refine (spec_l2Reg _ _).mono ?_; rintro e w' ⟨rfl, rfl⟩; first | rw [d3]) | (go_at_call 34; refine (spec_l1In _ _ _ _).mono ?_; rintro e w' ⟨rfl, rfl⟩; rw [q]))
                  go_ret
                  exact ⟨ret_bool HV.out.symm, Fr.alloc _ _⟩
                · have HV : Hid (sok k d a b f n = numOk k n) := by rw [Hid, HT.out]; simp [regOk, d1, d2, d3, a1, b1, q]
                  go_wp2_with (first | (go_at_call 61; refine (spec_l2Reg _ _).mono ?_; rintro e w' ⟨rfl, rfl⟩; first | rw [d3]) | (go_at_call 34; refine (spec_l1In _ _ _ _).mono ?_; rintro e w' ⟨rfl, rfl⟩; rw [q]) | (go_at_call 62; refine (spec_l2Num _ _ HK.out _).mono ?_; rintro e w' ⟨rfl, m, rfl⟩))
                  go_ret
                  exact ⟨ret_bool HV.out.symm, Below.drewN (Fr.alloc _ _) _⟩
              · cases q : decide (0 ≤ f ∧ f ≤ topF k)
                · have HV : Hid (sok k d a b f n = false) := by rw [Hid, HT.out]; simp [regOk, d1, d2, d3, a1, b1, b2, b3, q]
                  go_wp2_with (first | (go_at_call 61; refine (spec_l2Reg _ _).mono ?_; rintro e w' ⟨rfl, rfl⟩; first | rw [d3] | rw [b3]) | (go_at_call 34; refine (spec_l1In _ _ _ _).mono ?_; rintro e w' ⟨rfl, rfl⟩; rw [q]))
                  go_ret
                  exact ⟨ret_bool HV.out.symm, Fr.alloc _ _⟩
                · have HV : Hid (sok k d a b f n = numOk k n) := by rw [Hid, HT.out]; simp [regOk, d1, d2, d3, a1, b1, b2, b3, q]
                  go_wp2_with (first | (go_at_call 61; refine (spec_l2Reg _ _).mono ?_; rintro e w' ⟨rfl, rfl⟩; first | rw [d3] | rw [b3]) | (go_at_call 34; refine (spec_l1In _ _ _ _).mono ?_; rintro e w' ⟨rfl, rfl⟩; rw [q]) | (go_at_call 62; refine (spec_l2Num _ _ HK.out _).mono ?_; rintro e w' ⟨rfl, m, rfl⟩))
                  go_ret
                  exact ⟨ret_bool HV.out.symm, Below.drewN (Fr.alloc _ _) _⟩
              · have HV : Hid (sok k d a b f n = false) := by rw [Hid, HT.out]; simp [regOk, d1, d2, d3, a1, b1, b2]
                go_wp2_with (first | (go_at_call 61; refine (spec_l2Reg _ _).mono ?_; rintro e w' ⟨rfl, rfl⟩; first | rw [d3]))
                go_ret
                exact ⟨ret_bool HV.out.symm, Fr.alloc _ _⟩
              · have HV : Hid (sok k d a b f n = false) := by rw [Hid, HT.out]; simp [regOk, d1, d2, d3, a1, b1, b2, b3]
                go_wp2_with (first | (go_at_call 61; refine (spec_l2Reg _ _).mono ?_; rintro e w' ⟨rfl, rfl⟩; first | rw [d3] | rw [b3]))
                go_ret
                exact ⟨ret_bool HV.out.symm, Fr.alloc _ _⟩
            · rcases sts (hB k) b with b1 | ⟨b1, b2, b3⟩ | ⟨b1, b2⟩ | ⟨b1, b2, b3⟩
              · cases q : decide (0 ≤ f ∧ f ≤ topF k)
                · have HV : Hid (sok k d a b f n = false) := by rw [Hid, HT.out]; simp [regOk, d1, d2, d3, a1, a2, a3, b1, q]
                  go_wp2_with (first | (go_at_call 61; refine (spec_l2Reg _ _).mono ?_; rintro e w' ⟨rfl, rfl⟩; first | rw [d3] | rw [a3]) | (go_at_call 34; refine (spec_l1In _ _ _ _).mono ?_; rintro e w' ⟨rfl, rfl⟩; rw [q]))
                  go_ret
                  exact ⟨ret_bool HV.out.symm, Fr.alloc _ _⟩
                · have HV : Hid (sok k d a b f n = numOk k n) := by rw [Hid, HT.out]; simp [regOk, d1, d2, d3, a1, a2, a3, b1, q]
                  go_wp2_with (first | (go_at_call 61; refine (spec_l2Reg _ _).mono ?_; rintro e w' ⟨rfl, rfl⟩; first | rw [d3] | rw [a3]) | (go_at_call 34; refine (spec_l1In _ _ _ _).mono ?_; rintro e w' ⟨rfl, rfl⟩; rw [q]) | (go_at_call 62; refine (spec_l2Num _ _ HK.out _).mono ?_; rintro e w' ⟨rfl, m, rfl⟩))
                  go_ret
                  exact ⟨ret_bool HV.out.symm, Below.drewN (Fr.alloc _ _) _⟩
              · cases q : decide (0 ≤ f ∧ f ≤ topF k)
                · have HV : Hid (sok k d a b f n = false) := by rw [Hid, HT.out]; simp [regOk, d1, d2, d3, a1, a2, a3, b1, b2, b3, q]
                  go_wp2_with (first | (go_at_call 61; refine (spec_l2Reg _ _).mono ?_; rintro e w' ⟨rfl, rfl⟩; first | rw [d3] | rw [a3] | rw [b3]) | (go_at_call 34; refine (spec_l1In _ _ _ _).mono ?_; rintro e w' ⟨rfl, rfl⟩; rw [q]))
                  go_ret
                  exact ⟨ret_bool HV.out.symm, Fr.alloc _ _⟩
                · have HV : Hid (sok k d a b f n = numOk k n) := by rw [Hid, HT.out]; simp [regOk, d1, d2, d3, a1, a2, a3, b1, b2, b3, q]
                  go_wp2_with (first | (go_at_call 61; refine (spec_l2Reg _ _).mono ?_; rintro e w' ⟨rfl, rfl⟩; first | rw [d3] | rw [a3] | rw [b3]) | (go_at_call 34; refine (spec_l1In _ _ _ _).mono ?_; rintro e w' ⟨rfl, rfl⟩; rw [q]) | (go_at_call 62; refine (spec_l2Num _ _ HK.out _).mono ?_; rintro e w' ⟨rfl, m, rfl⟩))
                  go_ret
                  exact ⟨ret_bool HV.out.symm, Below.drewN (Fr.alloc _ _) _⟩
              · have HV : Hid (sok k d a b f n = false) := by rw [Hid, HT.out]; simp [regOk, d1, d2, d3, a1, a2, a3, b1, b2]
                go_wp2_with (first | (go_at_call 61; refine (spec_l2Reg _ _).mono ?_; rintro e w' ⟨rfl, rfl⟩; first | rw [d3] | rw [a3]))
                go_ret
                exact ⟨ret_bool HV.out.symm, Fr.alloc _ _⟩
              · have HV : Hid (sok k d a b f n = false) := by rw [Hid, HT.out]; simp [regOk, d1, d2, d3, a1, a2, a3, b1, b2, b3]
                go_wp2_with (first | (go_at_call 61; refine (spec_l2Reg _ _).mono ?_; rintro e w' ⟨rfl, rfl⟩; first | rw [d3] | rw [a3] | rw [b3]))
                go_ret
                exact ⟨ret_bool HV.out.symm, Fr.alloc _ _⟩
            · have HV : Hid (sok k d a b f n = false) := by rw [Hid, HT.out]; simp [regOk, d1, d2, d3, a1, a2]
              go_wp2_with (first | (go_at_call 61; refine (spec_l2Reg _ _).mono ?_; rintro e w' ⟨rfl, rfl⟩; first | rw [d3]))
              go_ret
              exact ⟨ret_bool HV.out.symm, Fr.alloc _ _⟩
            · have HV : Hid (sok k d a b f n = false) := by rw [Hid, HT.out]; simp [regOk, d1, d2, d3, a1, a2, a3]
              go_wp2_with (first | (go_at_call 61; refine (spec_l2Reg _ _).mono ?_; rintro e w' ⟨rfl, rfl⟩; first | rw [d3] | rw [a3]))
              go_ret
              exact ⟨ret_bool HV.out.symm, Fr.alloc _ _⟩
          · have HV : Hid (sok k d a b f n = false) := by rw [Hid, HT.out]; simp [regOk, d1, d2]
            go_wp2
            go_ret
            exact ⟨ret_bool HV.out.symm, Fr.alloc _ _⟩
          · have HV : Hid (sok k d a b f n = false) := by rw [Hid, HT.out]; simp [regOk, d1, d2, d3]
            go_wp2_with (first | (go_at_call 61; refine (spec_l2Reg _ _).mono ?_; rintro e w' ⟨rfl, rfl⟩; first | rw [d3]))
            go_ret
            exact ⟨ret_bool HV.out.symm, Fr.alloc _ _⟩
  · have HV : Hid (sok k d a b f n = false) := by
      have : ¬ (0 ≤ k ∧ k ≤ 15) := by omega
      simp [Hid, sok, this]
    have q : decide (0 ≤ k ∧ k ≤ 15) = false := by simp; omega
    clear hk
    go_enter Tryz.func44, Tryz.ntmps44
    go_wp2_with (go_at_call 34; refine (spec_l1In _ _ _ _).mono ?_; rintro e w' ⟨rfl, rfl⟩; rw [q])
    go_ret
    exact ⟨ret_bool HV.out.symm, Fr.alloc _ _⟩
end Go.Proofs.YtecdmafhjfnloaaGreatDoor
