/- What is a place, a register; what is among some; places apart: of both. -/
import Derived.Test.YtddllgjieccikaaN0
namespace Go.Proofs.Ytddllgjieccikaa
open Go.RowKit
set_option linter.unusedVariables false
set_option linter.unusedSimpArgs false
theorem impl_isPhy (n : Int) (w : World) : Calls Try.prog 70 #[.int .i64 n] w fun e w' => e = .returned (.bool (phyB n)) ∧ w = w' := by
  by_cases h1 : 0 ≤ n
  · by_cases h2 : n < 20
    · have H := Lib.hid (show (phyB n) = true by simp [phyB]; omega)
      go_enter Try.func70, Try.ntmps70
      go_wp2
      go_ret
      exact ⟨ret_bool (by simp [H.out]; try omega), rfl⟩
    · have H := Lib.hid (show (phyB n) = false by simp [phyB]; omega)
      have h3 : decide (n < 20) = false := by simp; omega
      go_enter Try.func70, Try.ntmps70
      go_wp2
      go_ret
      exact ⟨ret_bool (by simp [H.out]; try omega), rfl⟩
  · have H := Lib.hid (show (phyB n) = false by simp [phyB]; omega)
    go_enter Try.func70, Try.ntmps70
    go_wp2
    go_ret
    exact ⟨ret_bool (by simp [H.out]; try omega), rfl⟩
theorem impl_isReg (n : Int) (w : World) : Calls Try.prog 48 #[.int .i64 n] w fun e w' => e = .returned (.bool (decide (0 ≤ n) && decide (n < 8))) ∧ w = w' := by
  by_cases h1 : 0 ≤ n
  · by_cases h2 : n < 8
    · have H := Lib.hid (show (decide (0 ≤ n) && decide (n < 8)) = true by simp [phyB]; omega)
      go_enter Try.func48, Try.ntmps48
      go_wp2
      go_ret
      exact ⟨ret_bool (by simp [H.out]; try omega), rfl⟩
    · have H := Lib.hid (show (decide (0 ≤ n) && decide (n < 8)) = false by simp [phyB]; omega)
      have h3 : decide (n < 8) = false := by simp; omega
      go_enter Try.func48, Try.ntmps48
      go_wp2
      go_ret
      exact ⟨ret_bool (by simp [H.out]; try omega), rfl⟩
  · have H := Lib.hid (show (decide (0 ≤ n) && decide (n < 8)) = false by simp [phyB]; omega)
    go_enter Try.func48, Try.ntmps48
    go_wp2
    go_ret
    exact ⟨ret_bool (by simp [H.out]; try omega), rfl⟩
theorem phy_in (n : Int) : decide (0 ≤ n ∧ n ≤ 19) = phyB n := by
  unfold phyB
  rw [Bool.eq_iff_iff]
  simp
  omega
theorem spec_l6Phy (n : Int) (w : World) : Calls Try.prog 73 #[.int .i64 n] w fun e w' => e = .returned (.bool (phyB n)) ∧ w = w' := by
  have H := Lib.hid (phy_in n)
  go_enter Try.func73, Try.ntmps73
  go_wp2_with (go_at_call 65; refine (spec_l1In _ _ _ _).mono ?_; rintro e w' ⟨rfl, rfl⟩; rw [H.out])
  go_ret
  exact ⟨rfl, rfl⟩
theorem has_yes {xs : List Int} {n : Int} {p : Nat} (hp : p < xs.length) (h : xs.getD p 0 = n) : hasB xs n = true := by
  unfold hasB
  rw [List.contains_iff_mem, ← h]
  exact getD_mem hp
theorem has_no {xs : List Int} {n : Int} {p : Nat} (h : ∀ i, i < p → xs.getD i 0 ≠ n) (hp : xs.length ≤ p) : hasB xs n = false := by
  unfold hasB
  rw [← Bool.not_eq_true, List.contains_iff_mem]
  intro hm
  obtain ⟨i, hi, rfl⟩ := List.mem_iff_getElem.1 hm
  exact h i (by omega) (by rw [List.getD_eq_getElem?_getD, List.getElem?_eq_getElem hi, Option.getD_some])
theorem has_mem {xs : List Int} {n : Int} : hasB xs n = true ↔ n ∈ xs := by unfold hasB; exact List.contains_iff_mem
theorem has_not {xs : List Int} {n : Int} : hasB xs n = false ↔ n ∉ xs := by rw [← has_mem]; simp
set_option maxHeartbeats 1000000 in
theorem spec_l6Has (xs : List Int) (ao : Option Addr) (cap : Nat) (n : Int) (w : World) (h : Src w xs.length (ivl xs) ao) (hn : xs.length ≤ 100000000) :
    Calls Try.prog 74 #[.slice ao xs.length cap, .int .i64 n] w fun e w' => e = .returned (.bool (hasB xs n)) ∧ w = w' := by
  go_enter Try.func74, Try.ntmps74
  go_wp2_with fail
  have HS := Lib.hid h
  clear h
  go_loopw [5] (fun i wr => ∃ p : Nat, p ≤ xs.length ∧ i = .int .i64 p ∧ (∀ i, i < p → xs.getD i 0 ≠ n) ∧ w = wr) (fun i _ => xs.length - (intOf i).toNat)
  case atStart => exact ⟨0, Nat.zero_le _, rfl, fun i hi => absurd hi (Nat.not_lt_zero _), rfl⟩
  case round =>
    obtain ⟨p, hp, rfl, hok, rfl⟩ := hrel
    have HO := Lib.hid hok
    clear hok
    by_cases hlt : p < xs.length
    · have hlt' : (p : Int) < (xs.length : Int) := by omega
      obtain ⟨g, o, rfl, hgl, hc⟩ := HS.out (by omega)
      have d0 := hc p hlt
      simp only [ivl] at d0
      clear hc
      by_cases hk : xs.getD p 0 = n
      · have H := Lib.hid (has_yes hlt hk)
        generalize xs.getD p 0 = z at d0 hk
        subst hk
        go_wp2_with fail
        go_ret
        exact ⟨by rw [H.out]; rfl, rfl⟩
      · have HO2 := Lib.hid (show ∀ i, i < p + 1 → xs.getD i 0 ≠ n from fun i hi => by
          rcases Nat.lt_succ_iff_lt_or_eq.1 hi with h | h
          · exact HO.out i h
          · rw [h]; exact hk)
        generalize xs.getD p 0 = z at d0 hk
        have hk' : (z == n) = false := by simpa using hk
        clear hk
        go_wp2_with fail
        go_roundw
        case rel => exact ⟨p + 1, by omega, by go_num, HO2.out, by trivial⟩
        case measure => simp [intOf]; omega
    · have hge : ¬ (p : Int) < (xs.length : Int) := by omega
      have H := Lib.hid (has_no HO.out (by omega : xs.length ≤ p))
      go_wp2
      go_ret
      exact ⟨by rw [H.out]; rfl, rfl⟩
set_option maxHeartbeats 1000000 in
theorem slices_Index (xs : List Int) (ao : Option Addr) (cap : Nat) (n : Int) (w : World) (h : Src w xs.length (ivl xs) ao) (hn : xs.length ≤ 100000000) :
    Calls Try.prog 92 #[.slice ao xs.length cap, .int .i64 n] w fun e w' => (∃ r : Int, e = .returned (.int .i64 r) ∧ decide (0 ≤ r) = hasB xs n ∧ -1 ≤ r) ∧ w = w' := by
  go_enter Try.func92, Try.ntmps92
  go_wp2_with fail
  have HS := Lib.hid h
  clear h
  go_loopw [8] (fun i wr => ∃ p : Nat, p ≤ xs.length ∧ i = .int .i64 p ∧ (∀ i, i < p → xs.getD i 0 ≠ n) ∧ w = wr) (fun i _ => xs.length - (intOf i).toNat)
  case atStart => exact ⟨0, Nat.zero_le _, rfl, fun i hi => absurd hi (Nat.not_lt_zero _), rfl⟩
  case round =>
    obtain ⟨p, hp, rfl, hok, rfl⟩ := hrel
    have HO := Lib.hid hok
    clear hok
    by_cases hlt : p < xs.length
    · have hlt' : (p : Int) < (xs.length : Int) := by omega
      obtain ⟨g, o, rfl, hgl, hc⟩ := HS.out (by omega)
      have d0 := hc p hlt
      simp only [ivl] at d0
      clear hc
      by_cases hk : xs.getD p 0 = n
      · have H := Lib.hid (has_yes hlt hk)
        generalize xs.getD p 0 = z at d0 hk
        subst hk
        go_wp2_with fail
        go_ret
        exact ⟨⟨p, rfl, by rw [H.out]; simp, by omega⟩, rfl⟩
      · have HO2 := Lib.hid (show ∀ i, i < p + 1 → xs.getD i 0 ≠ n from fun i hi => by
          rcases Nat.lt_succ_iff_lt_or_eq.1 hi with h | h
          · exact HO.out i h
          · rw [h]; exact hk)
        generalize xs.getD p 0 = z at d0 hk
        have hk' : (n == z) = false := by simpa using fun e : n = z => hk e.symm
        clear hk
        go_wp2_with fail
        go_roundw
        case rel => exact ⟨p + 1, by omega, by go_num, HO2.out, by trivial⟩
        case measure => simp [intOf]; omega
    · have hge : ¬ (p : Int) < (xs.length : Int) := by omega
      have H := Lib.hid (has_no HO.out (by omega : xs.length ≤ p))
      go_wp2
      go_ret
      exact ⟨⟨-1, rfl, by rw [H.out]; simp, by omega⟩, rfl⟩
theorem slices_Contains (xs : List Int) (ao : Option Addr) (cap : Nat) (n : Int) (w : World) (h : Src w xs.length (ivl xs) ao) (hn : xs.length ≤ 100000000) :
    Calls Try.prog 90 #[.slice ao xs.length cap, .int .i64 n] w fun e w' => e = .returned (.bool (hasB xs n)) ∧ w = w' := by
  have H := Lib.hid (slices_Index xs ao cap n w h hn)
  clear h
  go_enter Try.func90, Try.ntmps90
  go_wp2_with fail
  refine H.out.mono ?_
  rintro e w' ⟨⟨r, rfl, hr, h1⟩, rfl⟩
  have HR := Lib.hid hr
  clear hr
  by_cases h0 : 0 ≤ r
  · go_wp2
    go_ret
    exact ⟨ret_bool (by rw [← HR.out]; try (simp; try omega)), rfl⟩
  · go_wp2
    go_ret
    exact ⟨ret_bool (by rw [← HR.out]; try (simp; try omega)), rfl⟩
theorem src_take {u : World} {xs : List Int} {g o : Nat} (k : Nat) (hg : g < u.heap.size) (hc : ∀ i, i < xs.length → u.cell? ⟨g, o + i, none⟩ = some (ivl xs i)) (hk : k ≤ xs.length) : Src u (xs.take k).length (ivl (xs.take k)) (some ⟨g, o, none⟩) := fun _ => by
  refine ⟨g, o, rfl, hg, fun i hi => ?_⟩
  rw [List.length_take] at hi
  rw [hc i (by omega)]
  simp only [ivl, List.getD_eq_getElem?_getD, List.getElem?_take_of_lt (show i < k by omega)]

end Go.Proofs.Ytddllgjieccikaa
