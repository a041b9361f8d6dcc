/- Chapter 3: helpers of the laws over texts (szStringS, haTexts). -/
import Derived.Test.YtecdmafhjfnloaaGreatDoorTr2
namespace Go.Proofs.YtecdmafhjfnloaaGreatDoor
open Go.RowKit
set_option linter.unusedVariables false
set_option linter.unusedSimpArgs false

def SzP (n : Nat) (c : Nat → ByteArray) (left : Int) (w : World) (e : Ending) (w' : World) : Prop :=
  ∃ r : Int, e = .returned (.int .i64 r) ∧ w = w' ∧ (0 ≤ r → (n : Int) ≤ left ∧ ∀ i, i < n → ((c i).size : Int) ≤ left)
set_option maxRecDepth 4000 in
set_option maxHeartbeats 2000000 in
theorem laws_szStringS (w : World) (ao : Option Addr) (n cap : Nat) (c : Nat → ByteArray) (left : Int) (h : Src w n (fun i => .string (c i)) ao) (hn : n ≤ 9223372036854775807) (hc : ∀ i, (c i).size ≤ 9223372036854775807) (l0 : 0 ≤ left) (l1 : left ≤ 1048576) :
    Calls Tryz.prog 17 #[.slice ao n cap, .int .i64 left] w (SzP n c left w) := by
  have HC := Lib.hid hc
  clear hc
  go_enter Tryz.func17, Tryz.ntmps17
  by_cases hs : left < n
  · have hs' : left - (n : Int) < 0 := by omega
    go_wp2_with fail
    go_ret
    exact ⟨-1, rfl, rfl, fun h => by omega⟩
  · have hs' : ¬ left - (n : Int) < 0 := by omega
    go_wp2_with fail
    go_loopw [1, 5] (fun l i wr => ∃ (p : Nat) (r : Int), p ≤ n ∧ i = .int .i64 p ∧ l = .int .i64 r ∧ 0 ≤ r ∧ r ≤ left ∧ (∀ j, j < p → ((c j).size : Int) ≤ left) ∧ w = wr) (fun _ i _ => n - (intOf i).toNat)
    case atStart => exact ⟨0, left - n, Nat.zero_le _, rfl, rfl, by omega, by omega, fun j hj => by omega, rfl⟩
    case round =>
      obtain ⟨p, r, hp, rfl, rfl, r0, r1, hj, rfl⟩ := hrel
      have HJ := Lib.hid hj
      clear hj
      by_cases hlt : p < n
      · obtain ⟨g, o, rfl, hg, hcc⟩ := h (by omega)
        have d0 : w.cell? ⟨g, o + p, none⟩ = some (.string (c p)) := hcc p hlt
        have hlt' : (p : Int) < (n : Int) := by omega
        have z0 := HC.out p
        have HK : Hid (((c p).size : Int) ≤ left → ∀ j, j < p + 1 → ((c j).size : Int) ≤ left) := fun hz j hj => by
          by_cases e : j = p
          · rw [e]; exact hz
          · exact HJ.out j (by omega)
        generalize c p = cp at d0 z0 HK
        clear h hcc
        by_cases hr : r < (cp.size : Int)
        · have hr' : r - (cp.size : Int) < 0 := by omega
          go_wp2_with fail
          go_ret
          exact ⟨-1, rfl, rfl, fun h => by omega⟩
        · have hr' : ¬ r - (cp.size : Int) < 0 := by omega
          go_wp2_with fail
          go_roundw
          case rel => exact ⟨p + 1, r - cp.size, by omega, by go_num, rfl, by omega, by omega, HK.out (by omega), by trivial⟩
          case measure => simp [intOf]; omega
      · have hge : ¬ (p : Int) < (n : Int) := by omega
        obtain rfl : p = n := by omega
        go_wp2_with fail
        go_ret
        exact ⟨r, rfl, rfl, fun _ => ⟨by omega, HJ.out⟩⟩
set_option maxRecDepth 4000 in
set_option maxHeartbeats 2000000 in
theorem laws_haTexts_same (B1 B2 : Nat) (u : World) (n : Nat) (c : Nat → ByteArray) (ao1 ao2 : Option Addr) (cap1 cap2 : Nat) (h1 : Vc B1 u n (fun i => .string (c i)) ao1) (h2 : Vc B2 u n (fun i => .string (c i)) ao2) (hn : n ≤ 1048576) :
    Calls Tryz.prog 8 #[.slice ao1 n cap1, .slice ao2 n cap2] u fun e u' => e = .returned (.bool true) ∧ ∃ m, u.drewN m = u' := by
  go_enter Tryz.func8, Tryz.ntmps8
  go_wp2_with fail
  go_loopw [5] (fun i wr => ∃ (p m : Nat), p ≤ n ∧ i = .int .i64 p ∧ u.drewN m = wr) (fun i _ => n - (intOf i).toNat)
  case atStart => exact ⟨0, 0, Nat.zero_le _, rfl, rfl⟩
  case round =>
    obtain ⟨p, m, hp, rfl, rfl⟩ := hrel
    by_cases hlt : p < n
    · obtain ⟨g1, rfl, _, _, hc1, _⟩ := h1.at0 (by omega)
      obtain ⟨g2, rfl, _, _, hc2, _⟩ := h2.at0 (by omega)
      have d1 := hc1 p hlt
      have d2 := hc2 p hlt
      have hlt' : (p : Int) < (n : Int) := by omega
      clear h1 h2 hc1 hc2
      go_wp2_with fail
      go_quiet (fail)
      go_wp2
      go_roundw
      case rel => exact ⟨p + 1, _, by omega, by go_num, rfl⟩
      case measure => simp [intOf]; omega
    · have hge : ¬ (p : Int) < (n : Int) := by omega
      clear h1 h2
      go_wp2
      go_ret
      exact ⟨rfl, m, rfl⟩
end Go.Proofs.YtecdmafhjfnloaaGreatDoor
