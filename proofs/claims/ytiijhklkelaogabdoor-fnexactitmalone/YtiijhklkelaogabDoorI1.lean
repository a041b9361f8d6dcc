/- Entries: what is done alone. -/
import Derived.Test.YtiijhklkelaogabDoorCodOk
import Derived.Test.YtiijhklkelaogabDoorCod
namespace Go.Proofs.YtiijhklkelaogabDoor
open Go.RowKit
set_option linter.unusedVariables false
set_option linter.unusedSimpArgs false
/-- Kinds that are done alone. -/
def aloneK (k : Int) : Bool := k == 10 || decide (11 ≤ k ∧ k ≤ 15)
theorem spec_l8Alone (k : Int) (w : World) : Calls Tryd.prog 12 #[.int .i64 k] w fun e w' => e = .returned (.bool (aloneK k)) ∧ w = w' := by
  by_cases h : k = 10
  · subst h
    go_enter Tryd.func12, Tryd.ntmps12
    go_wp2
    go_ret
    exact ⟨rfl, rfl⟩
  · have e : aloneK k = decide (11 ≤ k ∧ k ≤ 15) := by simp [aloneK, h]
    rw [e]
    obtain ⟨b, hb⟩ : ∃ b, decide (11 ≤ k ∧ k ≤ 15) = b := ⟨_, rfl⟩
    rw [hb]
    have h' : (k == 10) = false := by simp [h]
    go_enter Tryd.func12, Tryd.ntmps12
    go_wp2_with fail
    refine (spec_l1In k 11 15 w).mono ?_
    rintro e u ⟨rfl, rfl⟩
    rw [hb]
    go_wp2
    go_ret
    exact ⟨rfl, rfl⟩
theorem spec_ItmAlone (k d a b f n : Int) (w : World) : Calls Tryd.prog 5 #[.agg #[.int .i64 k, .int .i64 d, .int .i64 a, .int .i64 b, .int .i64 f, .int .i64 n]] w fun e w' => e = .returned (.bool (sok k d a b f n && aloneK k)) ∧ Fr w w' := by
  have F0 := Fr.alloc w (.cells #[.int .i64 k, .int .i64 d, .int .i64 a, .int .i64 b, .int .i64 f, .int .i64 n] 25)
  have HX := Lib.hid (Box.new w k d a b f n 25)
  obtain ⟨q, hq⟩ : ∃ q, aloneK k = q := ⟨_, rfl⟩
  rw [hq]
  cases hs : sok k d a b f n
  all_goals try rw [Bool.false_and]
  all_goals try rw [Bool.true_and]
  all_goals
    go_enter Tryd.func5, Tryd.ntmps5
    go_wp2_with fail
    refine (spec_CodOk _ _ _ _ _ _ _).mono ?_
    rintro e u ⟨rfl, f1⟩
    have HY := Lib.hid (HX.out.fr f1)
    obtain ⟨c0, c1, c2, c3, c4, c5⟩ := HY.out
    rw [hs]
  · go_wp2
    go_ret
    exact ⟨rfl, F0.trans f1⟩
  · go_wp2_with fail
    refine (spec_l8Alone k u).mono ?_
    rintro e v ⟨rfl, rfl⟩
    rw [hq]
    go_wp2
    go_ret
    exact ⟨rfl, F0.trans f1⟩
theorem impl_ItmAlone (k d a b f n : Int) (w : World) (ht : Tabs w) : Calls Tryd.prog 7 #[.agg #[.int .i64 k, .int .i64 d, .int .i64 a, .int .i64 b, .int .i64 f, .int .i64 n]] w fun e w' => e = .returned (.bool (iok k d a b f n && aloneK k)) ∧ Fr w w' := by
  have F0 := Fr.alloc w (.cells #[.int .i64 k, .int .i64 d, .int .i64 a, .int .i64 b, .int .i64 f, .int .i64 n] 25)
  have HX := Lib.hid (Box.new w k d a b f n 25)
  have HT := Lib.hid (ht.fr F0)
  by_cases hk : aloneK k = true
  · rw [hk]
    have hk' : k = 10 ∨ k = 11 ∨ k = 12 ∨ k = 13 ∨ k = 14 ∨ k = 15 := by
      simp [aloneK] at hk
      omega
    rw [Bool.and_true]
    obtain ⟨q, hq⟩ : ∃ q, iok k d a b f n = q := ⟨_, rfl⟩
    rw [hq]
    go_enter Tryd.func7, Tryd.ntmps7
    rcases hk' with rfl | rfl | rfl | rfl | rfl | rfl
    all_goals
      go_wp2_with fail
      refine (impl_CodOk _ _ _ _ _ _ _ HT.out).mono ?_
      rintro e u ⟨rfl, f1⟩
      rw [hq]
      go_wp2
      go_ret
      exact ⟨rfl, F0.trans f1⟩
  · have hk1 : aloneK k = false := by simpa using hk
    rw [hk1, Bool.and_false]
    have h0 : ¬ k = 10 := fun h => hk (by simp [aloneK, h])
    have hr : ¬ (11 ≤ k ∧ k ≤ 15) := fun h => hk (by simp [aloneK, h])
    have h1 : ¬ k = 11 := by omega
    have h2 : ¬ k = 12 := by omega
    have h3 : ¬ k = 13 := by omega
    have h4 : ¬ k = 14 := by omega
    have h5 : ¬ k = 15 := by omega
    go_enter Tryd.func7, Tryd.ntmps7
    go_wp2
    go_ret
    exact ⟨rfl, F0⟩

end Go.Proofs.YtiijhklkelaogabDoor
