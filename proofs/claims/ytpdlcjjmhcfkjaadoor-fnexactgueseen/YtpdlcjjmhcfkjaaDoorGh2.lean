/- What the laws of chapter 5 call: slots marked and held. -/
import Derived.Test.YtpdlcjjmhcfkjaaDoorGh
namespace Go.Proofs.YtpdlcjjmhcfkjaaDoor
open Go.RowKit
set_option linter.unusedVariables false
set_option linter.unusedSimpArgs false
theorem Ro4.fro4 {u : World} {g : Nat} {S : List Sl} (h : Ro4 u g S) (i : Nat) (hi : i < S.length) : u.frozen? ⟨g, i * 4, none⟩ = false ∧ u.frozen? ⟨g, i * 4 + 1, none⟩ = false ∧ u.frozen? ⟨g, i * 4 + 2, none⟩ = false ∧ u.frozen? ⟨g, i * 4 + 3, none⟩ = false := by
  have t := h.there4 i hi
  exact ⟨(t 0 (by omega)).2, (t 1 (by omega)).2, (t 2 (by omega)).2, (t 3 (by omega)).2⟩
set_option maxRecDepth 4000 in
set_option maxHeartbeats 2000000 in
theorem laws_markSlotS0 (w : World) (ao : Option Addr) (cap : Nat) (k : Int) :
    Calls Tryd.prog 50 #[.slice ao 0 cap, .int .i64 k] w fun e w' => e = .returned (.int .i64 k) ∧ w = w' := by
  go_enter Tryd.func50, Tryd.ntmps50
  go_wp2_with fail
  go_loopw [1, 5] (fun q i wr => q = .int .i64 k ∧ i = .int .i64 0 ∧ w = wr) (fun _ _ _ => 0)
  case atStart => exact ⟨rfl, rfl, rfl⟩
  case round =>
    obtain ⟨rfl, rfl, rfl⟩ := hrel
    go_wp2_with fail
    go_ret
    exact ⟨rfl, rfl⟩
set_option maxRecDepth 4000 in
set_option maxHeartbeats 2000000 in
theorem laws_markSlotS1 (w : World) (g : Nat) (S : List Sl) (cap : Nat) (k : Int) (h : Ro4 w g S) (hn : S.length ≤ 1048576) (k0 : 1 ≤ k) (k1 : k ≤ 10000000) :
    Calls Tryd.prog 50 #[.slice (some ⟨g, 0, none⟩) S.length cap, .int .i64 k] w fun e w' => e = .returned (.int .i64 (k + 4 * S.length)) ∧ Ro4 w' g (mkS k S.length) ∧ But [g] w w' := by
  obtain ⟨n, hN⟩ : ∃ n, S.length = n := ⟨_, rfl⟩
  have HS := Lib.hid h
  rw [hN] at hn ⊢
  have HN := Lib.hid hN
  clear h hN
  go_enter Tryd.func50, Tryd.ntmps50
  go_wp2_with fail
  go_loopw [1, 5] (fun q i wr => ∃ (p : Nat) (L : List Sl), p ≤ n ∧ q = .int .i64 (k + 4 * p) ∧ i = .int .i64 p ∧ L.length = n ∧ (∀ i, i < p → L.getD i sl0 = mkL k i) ∧ Ro4 wr g L ∧ But [g] w wr) (fun _ i _ => n - (intOf i).toNat)
  case atStart => exact ⟨0, S, Nat.zero_le _, by simp, rfl, HN.out, fun i hi => absurd hi (Nat.not_lt_zero _), HS.out, But.refl _ _⟩
  case round =>
    obtain ⟨p, L, hp, rfl, rfl, hLl, hLe, hR, hF⟩ := hrel
    have HLl := Lib.hid hLl
    have HLe := Lib.hid hLe
    have HR := Lib.hid hR
    have HF := Lib.hid hF
    clear hLl hLe hR hF
    by_cases hlt : p < n
    · have hlt' : (p : Int) < (n : Int) := by omega
      have hp0 : 0 ≤ (p : Int) := by omega
      have hm : Int.tmod (k + 4 * p) 3 = (k + 4 * p) % 3 := Int.tmod_eq_emod_of_nonneg (by omega)
      obtain ⟨d0, d1, d2, d3⟩ := HR.out.slot p (by rw [HLl.out]; exact hlt)
      obtain ⟨f0, f1, f2, f3⟩ := HR.out.fro4 p (by rw [HLl.out]; exact hlt)
      generalize L.getD p sl0 = x at d0 d1 d2 d3
      obtain ⟨xu, xp, xt, xs⟩ := x
      simp only at d0 d1 d2 d3
      obtain ⟨b, hb⟩ : ∃ b, ((k + 4 * (p : Int)) % 3 == 0) = b := ⟨_, rfl⟩
      have HB := Lib.hid hb
      go_wp2_with fail
      go_roundw
      case rel =>
        refine ⟨p + 1, L.set p (mkL k p), by omega, by go_num, by go_num, by rw [List.length_set]; exact HLl.out, fun i hi => ?_, ?_, ?_⟩
        · rw [getD_setL]
          by_cases e : p = i
          · subst e
            rw [if_pos ⟨rfl, by rw [HLl.out]; exact hlt⟩]
          · rw [if_neg (fun h => e h.1)]
            exact HLe.out i (by omega)
        · have := HR.out.setS p (mkL k p) (by rw [HLl.out]; exact hlt)
          simp only [mkL, HB.out] at this ⊢
          exact this
        · exact (((HF.out.set g _ _ (.inl (by simp))).set g _ _ (.inl (by simp))).set g _ _ (.inl (by simp))).set g _ _ (.inl (by simp))
      case measure => simp [intOf]; omega
    · have hge : ¬ (p : Int) < (n : Int) := by omega
      have e : p = n := by omega
      subst e
      go_wp2_with fail
      go_ret
      refine ⟨rfl, ?_, HF.out⟩
      rw [← list_of (L := L) (S := mkS k p) (by rw [HLl.out, mkS_len]) (fun i hi => by rw [mkS_len] at hi; rw [HLe.out i hi, mkS_at k p i hi])]
      exact HR.out
set_option maxRecDepth 4000 in
set_option maxHeartbeats 2000000 in
theorem laws_heldSlotS (w : World) (n : Nat) (ao : Option Addr) (cap : Nat) (k : Int) (h : Src4 w (mkS k n) ao) (hn : n ≤ 1048576) (k0 : 1 ≤ k) (k1 : k ≤ 10000000) :
    Calls Tryd.prog 52 #[.slice ao n cap, .int .i64 k] w fun e w' => e = .returned (.int .i64 (k + 4 * n)) ∧ w = w' := by
  have HS := Lib.hid h
  clear h
  go_enter Tryd.func52, Tryd.ntmps52
  go_wp2_with fail
  go_loopw [1, 5] (fun q i wr => ∃ p : Nat, p ≤ n ∧ q = .int .i64 (k + 4 * p) ∧ i = .int .i64 p ∧ w = wr) (fun _ i _ => n - (intOf i).toNat)
  case atStart => exact ⟨0, Nat.zero_le _, by simp, rfl, rfl⟩
  case round =>
    obtain ⟨p, hp, rfl, rfl, rfl⟩ := hrel
    by_cases hlt : p < n
    · have hlt' : (p : Int) < (n : Int) := by omega
      have hp0 : 0 ≤ (p : Int) := by omega
      have hm : Int.tmod (k + 4 * p) 3 = (k + 4 * p) % 3 := Int.tmod_eq_emod_of_nonneg (by omega)
      obtain ⟨g, o, rfl, hg, hc⟩ := HS.out (by rw [mkS_len]; omega)
      obtain ⟨d0, d1, d2, d3⟩ := slot_at hc p (by rw [mkS_len]; exact hlt)
      rw [mkS_at k n p hlt] at d0 d1 d2 d3
      simp only [mkL] at d0 d1 d2 d3
      clear hc
      by_cases hz : (k + 4 * (p : Int)) % 3 = 0
      · rw [show ((k + 4 * (p : Int)) % 3 == 0) = true by simpa using hz] at d0
        rw [hz] at hm
        clear hz
        go_wp2_with fail
        go_roundw
        case rel => exact ⟨p + 1, by omega, by go_num, by go_num, by trivial⟩
        case measure => simp [intOf]; omega
      · rw [show ((k + 4 * (p : Int)) % 3 == 0) = false by simpa using hz] at d0
        have hz' : ((k + 4 * (p : Int)) % 3 == 0) = false := by simpa using hz
        clear hm hz
        go_wp2_with fail
        all_goals first | (exfalso; omega) | skip
        go_roundw
        case rel => exact ⟨p + 1, by omega, by go_num, by go_num, by trivial⟩
        case measure => simp [intOf]; omega
    · have hge : ¬ (p : Int) < (n : Int) := by omega
      have e : p = n := by omega
      subst e
      go_wp2_with fail
      go_ret
      exact ⟨rfl, rfl⟩

end Go.Proofs.YtpdlcjjmhcfkjaaDoor
