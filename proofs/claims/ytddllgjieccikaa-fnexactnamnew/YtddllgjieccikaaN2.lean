/- Places apart, of both. -/
import Derived.Test.YtddllgjieccikaaN1
namespace Go.Proofs.Ytddllgjieccikaa
open Go.RowKit
set_option linter.unusedVariables false
set_option linter.unusedSimpArgs false
theorem ap_yes {xs : List Int} {p : Nat} (h : okA (xs.take p)) (hp : xs.length ≤ p) : apB xs = true := by
  rw [List.take_of_length_le hp] at h
  exact decide_eq_true h
theorem ap_no {xs : List Int} {p : Nat} (hp : p < xs.length) (h : phyB (xs.getD p 0) = false ∨ hasB (xs.take p) (xs.getD p 0) = true) : apB xs = false := by
  refine decide_eq_false fun hk => ?_
  rw [← List.take_append_drop (p + 1) xs, take_snoc xs p hp] at hk
  have h1 := (okA_snoc.1 (okA_pre hk)).2
  rcases h with h | h
  · rw [h] at h1; exact absurd h1.1 (by decide)
  · exact h1.2 (has_mem.1 h)
theorem ap_next {xs : List Int} {p : Nat} (hp : p < xs.length) (h : okA (xs.take p)) (h1 : phyB (xs.getD p 0) = true) (h2 : hasB (xs.take p) (xs.getD p 0) = false) : okA (xs.take (p + 1)) := by
  rw [take_snoc xs p hp]
  exact okA_snoc.2 ⟨h, h1, has_not.1 h2⟩
set_option maxHeartbeats 2000000 in
theorem spec_l6Apart (xs : List Int) (ao : Option Addr) (cap : Nat) (w : World) (h : Src w xs.length (ivl xs) ao) (hn : xs.length ≤ 100000000) (hcap : xs.length ≤ cap) :
    Calls Try.prog 60 #[.slice ao xs.length cap] w fun e w' => e = .returned (.bool (apB xs)) ∧ ∃ m, w.drewN m = w' := by
  go_enter Try.func60, Try.ntmps60
  go_wp2_with fail
  have HS := Lib.hid h
  clear h
  go_loopw [3] (fun i wr => ∃ p m : Nat, p ≤ xs.length ∧ i = .int .i64 p ∧ okA (xs.take p) ∧ w.drewN m = wr) (fun i _ => xs.length - (intOf i).toNat)
  case atStart => exact ⟨0, 0, Nat.zero_le _, rfl, by simpa using okA_nil, rfl⟩
  case round =>
    obtain ⟨p, m, hp, rfl, hok, rfl⟩ := hrel
    have HO := Lib.hid hok
    have HS1 := Lib.hid (HS.out.fr (show Fr w (w.drewN m) from Below.drewN (Below.refl _ _) _))
    obtain ⟨w1, hw1⟩ : ∃ w1, w.drewN m = w1 := ⟨_, rfl⟩
    rw [hw1] at HS1 ⊢
    have HW := Lib.hid hw1
    clear hok hw1 HS
    by_cases hlt : p < xs.length
    · have hlt' : (p : Int) < (xs.length : Int) := by omega
      obtain ⟨g, o, rfl, hgl, hc⟩ := HS1.out (by omega)
      have d0 := hc p hlt
      simp only [ivl] at d0
      have HT := Lib.hid (fun (n : Nat) => src_take (u := w1.drewN n) p hgl hc hp)
      have hl : (xs.take p).length = p := by rw [List.length_take]; omega
      have HL := Lib.hid hl
      have X := Lib.hid (fun (n : Nat) (z : Int) => spec_l6Has (xs.take p) (some ⟨g, o, none⟩) cap z (w1.drewN n) (HT.out n) (by omega))
      rw [hl] at X
      have hpc : p ≤ cap := by omega
      clear hc hl HT
      cases hk : phyB (xs.getD p 0)
      · have H := Lib.hid (ap_no hlt (.inl hk))
        generalize xs.getD p 0 = z at d0 hk
        have X1 := Lib.hid (fun (u : World) => spec_l6Phy z u)
        rw [hk] at X1
        clear hk
        go_wp2_with fail
        go_quiet ((go_at_call 73; refine quiet_mine (X1.out _)))
        go_wp2
        go_ret
        exact ⟨by rw [H.out]; rfl, _, (by first | exact HW.out | (rw [← HW.out, World.drewN_drewN]))⟩
      · cases hk2 : hasB (xs.take p) (xs.getD p 0)
        · have H := Lib.hid (ap_next hlt HO.out hk hk2)
          generalize xs.getD p 0 = z at d0 hk hk2
          have X1 := Lib.hid (fun (u : World) => spec_l6Phy z u)
          have X2 := Lib.hid (fun (n : Nat) => X.out n z)
          rw [hk] at X1
          rw [hk2] at X2
          clear hk hk2
          go_wp2_with fail
          go_quiet (first | (go_at_call 73; refine quiet_mine (X1.out _)) | (go_at_call 74; refine quiet_mine (X2.out _)))
          go_wp2
          go_roundw
          case rel => exact ⟨p + 1, _, by omega, by go_num, H.out, (by rw [← HW.out, World.drewN_drewN])⟩
          case measure => simp [intOf]; omega
        · have H := Lib.hid (ap_no hlt (.inr hk2))
          generalize xs.getD p 0 = z at d0 hk hk2
          have X1 := Lib.hid (fun (u : World) => spec_l6Phy z u)
          have X2 := Lib.hid (fun (n : Nat) => X.out n z)
          rw [hk] at X1
          rw [hk2] at X2
          clear hk hk2
          go_wp2_with fail
          go_quiet (first | (go_at_call 73; refine quiet_mine (X1.out _)) | (go_at_call 74; refine quiet_mine (X2.out _)))
          go_wp2
          go_ret
          exact ⟨by rw [H.out]; rfl, _, (by first | exact HW.out | (rw [← HW.out, World.drewN_drewN]))⟩
    · have hge : ¬ (p : Int) < (xs.length : Int) := by omega
      have H := Lib.hid (ap_yes HO.out (by omega : xs.length ≤ p))
      go_wp2
      go_ret
      exact ⟨by rw [H.out]; rfl, _, (by first | exact HW.out | (rw [← HW.out, World.drewN_drewN]))⟩

end Go.Proofs.Ytddllgjieccikaa
