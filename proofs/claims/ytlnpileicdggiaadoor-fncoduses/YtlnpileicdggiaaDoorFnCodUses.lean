/- For every two codes (any bytes), law FnCodUses returns true and its arguments read as before (no condition; the two tables read as the program's text lays them, which the card ties). -/
import Derived.Test.YtlnpileicdggiaaDoorCards
import Derived.Test.YtlnpileicdggiaaDoorTie
import Derived.Test.YtlnpileicdggiaaDoorLaid
import Derived.Test.YtlnpileicdggiaaDoorUsesLaw
import Derived.WalkKit
import Derived.ProofKit
import Derived.OpenShut
import Derived.ShutString
import Derived.ChangeOld
import Derived.Below
import Derived.SevenTiedAt
namespace Go.Proofs.YtlnpileicdggiaaDoor.fnCodUses
open Go.ChangeShapes Go.WideShapes Go.ChangeAt Go.RowKit
set_option linter.unusedVariables false

def IsRow (k : IntKind) (w : World) (a : Option Addr) (len cap : Nat) (zs : List Int) : Prop :=
  (a = none ∧ len = 0 ∧ cap = 0 ∧ zs = []) ∨
  ∃ x, a = some x ∧ len ≤ cap ∧ cap ≤ maxLen ∧ zs.length = cap ∧ (∀ i, i < zs.length → w.cell? (x.add i) = some (.int k (zs.getD i 0))) ∧ ∀ n ∈ zs, (Lit.int k n).wf = true

set_option maxRecDepth 100000 in
set_option maxHeartbeats 8000000 in
theorem walk (a0 : Option Addr) (len0 cap0 : Nat) (z0 : List Int) (a1 : Option Addr) (len1 cap1 : Nat) (z1 : List Int) (w : World) (ht : Tabs w) (w0 : IsRow .u8 w a0 len0 cap0 z0) (w1 : IsRow .u8 w a1 len1 cap1 z1) :
    Calls Tryd.prog 5 #[.slice a0 len0 cap0, .slice a1 len1 cap1] w fun e w' => e = .returned (.bool true) ∧ Below w.heap.size w w' := by
  have hc : Code1 w.heap.size w a0 len0 cap0 := by
    rcases w0 with ⟨rfl, rfl, rfl, rfl⟩ | ⟨x, rfl, hl, hm, hz, hcell, hwz⟩
    · exact ⟨Nat.le_refl _, Nat.le_refl _, Nat.zero_le _, .inl rfl, fun _ => rfl⟩
    · exact ⟨Nat.le_refl _, hl, hm, bytes_of_row hl hz hcell hwz, by simp⟩
  have hd : Code1 w.heap.size w a1 len1 cap1 := by
    rcases w1 with ⟨rfl, rfl, rfl, rfl⟩ | ⟨x, rfl, hl, hm, hz, hcell, hwz⟩
    · exact ⟨Nat.le_refl _, Nat.le_refl _, Nat.zero_le _, .inl rfl, fun _ => rfl⟩
    · exact ⟨Nat.le_refl _, hl, hm, bytes_of_row hl hz hcell hwz, by simp⟩
  clear w0 w1
  by_cases hlen : (1048576 : Int) < (len0 : Int)
  · go_enter Tryd.func5, Tryd.ntmps5
    go_wp2
    go_ret
    exact ⟨rfl, Below.refl _ _⟩
  by_cases hlen' : (1048576 : Int) < (len1 : Int)
  · go_enter Tryd.func5, Tryd.ntmps5
    go_wp2
    go_ret
    exact ⟨rfl, Below.refl _ _⟩
  have h2 := ht.two
  go_enter Tryd.func5, Tryd.ntmps5
  go_wp2_with fail
  refine (DrawCodUses w.heap.size a0 len0 cap0 w hc).mono ?_
  rintro e u1 ⟨k, d, a, b, f, n, rfl, b1⟩
  have F1 : Fr w (u1.alloc (.cells #[.int .i64 k, .int .i64 d, .int .i64 a, .int .i64 b, .int .i64 f, .int .i64 n] 24)) := Fr.trans b1 (Fr.alloc _ _)
  go_wp2_with fail
  refine (DrawCodGives _ a1 len1 cap1 _ (hd.up F1)).mono ?_
  rintro e u2 ⟨k', d', a', b', f', n', rfl, f2⟩
  have F2 := (F1.trans f2).trans (Fr.alloc u2 (.cells #[.int .i64 k', .int .i64 d', .int .i64 a', .int .i64 b', .int .i64 f', .int .i64 n'] 24))
  have BC := ((Box.new u1 k d a b f n 24).fr f2).fr (Fr.alloc u2 (.cells #[.int .i64 k', .int .i64 d', .int .i64 a', .int .i64 b', .int .i64 f', .int .i64 n'] 24))
  have BD := Box.new u2 k' d' a' b' f' n' 24
  clear hc hd b1
  have hL2 : (usL k d a b f n).length ≤ 1000 := by
    unfold usL us2
    repeat' split
    all_goals simp
  generalize hU : usL k d a b f n = L at hL2
  have HU := Lib.hid hU
  clear hU
  obtain ⟨c0, c1, c2, c3, c4, c5⟩ := id BC
  go_wp2_with fail
  refine (impl_CodUses _ _ _ _ _ _ _ (ht.fr F2)).mono ?_
  rintro e u3 ⟨v1, rfl, O3, f3⟩
  rw [HU.out] at O3
  clear c0 c1 c2 c3 c4 c5
  obtain ⟨ao1, cp1, S3a⟩ := O3.sl
  have S3 := Lib.hid S3a
  obtain rfl := S3a.val
  clear S3a O3
  have F3 := F2.trans f3
  have BC3 := Lib.hid (BC.fr f3)
  have BD3 := Lib.hid (BD.fr f3)
  clear BC BD f3 f2 F1 F2
  go_wp2_with fail
  refine wp_region_plan 0 126 (fun _ u => Fr u3 u) (K6 (.slice ao1 L.length cp1) (.agg #[.int .i64 k, .int .i64 d, .int .i64 a, .int .i64 b, .int .i64 f, .int .i64 n]) (.agg #[.int .i64 k', .int .i64 d', .int .i64 a', .int .i64 b', .int .i64 f', .int .i64 n']) L 2 (givD k' d' a' b' f' n')) (by kernel_rfl) (by kernel_rfl) rfl (by kernel_rfl) (K6.mono (by omega)) (Below.drew (Below.refl _ _)) ?step ?fin
  case step =>
    intro i o ho
    rcases i with _ | _ | _ | _ | _ | _ | _ | _ | _ | _ | _ | _ | i
    · cases ho
      intro fu a' u hW hsz hL hdep
      obtain ⟨y, ha, hy⟩ := hL.puts [23, 24, 25, 26, 27, 28, 29, 30, 31, 32, 33, 34] (by kernel_rfl)
      clear hdep hL hy
      simp only [List.foldl, List.setIfInBounds_toArray, List.set_cons_succ, List.set_cons_zero] at ha
      subst ha
      refine wpOp_step rfl (fun K hK => ?_)
      go_simp
      exact hK _ _ ⟨_, rfl, rfl, grown_refl _ _, hW⟩
    · cases ho
      intro fu a' u hW hsz hL hdep
      obtain ⟨y, ha, hy⟩ := hL.puts [23, 24, 25, 26, 27, 28, 29, 30, 31, 32, 33, 34] (by kernel_rfl)
      clear hdep hL hy
      simp only [List.foldl, List.setIfInBounds_toArray, List.set_cons_succ, List.set_cons_zero] at ha
      subst ha
      obtain ⟨c0, c1, c2, c3, c4, c5⟩ := BC3.out.fr hW
      refine wpOp_step rfl (fun K hK => ?_)
      go_simp
      exact hK _ _ ⟨_, rfl, rfl, grown_refl _ _, hW⟩
    · cases ho
      intro fu a' u hW hsz hL hdep
      have d1 := hdep { on := 1, ground := .data } (by simp) rfl _ rfl
      obtain ⟨y, ha, hy⟩ := hL.puts [23, 24, 25, 26, 27, 28, 29, 30, 31, 32, 33, 34] (by kernel_rfl)
      have e1 : y 24 = _ := (hy 24).symm.trans d1
      clear hdep hL hy
      simp only [List.foldl, List.setIfInBounds_toArray, List.set_cons_succ, List.set_cons_zero, e1] at ha
      subst ha
      clear e1
      refine wpOp_step rfl (fun K hK => ?_)
      go_simp
      refine (spec_CodUses _ _ _ _ _ _ u).mono ?_
      rintro e u' ⟨v2, rfl, O2, fu2⟩
      rw [HU.out] at O2
      obtain ⟨ao2, cap2, S2⟩ := O2.sl
      have S2' := S2.lowB (show 2 ≤ u.heap.size from Nat.le_trans h2 (Nat.le_trans F3.size hW.size))
      go_simp
      exact hK _ _ ⟨_, rfl, ⟨ao2, cap2, S2'⟩, grown_fr fu2, Fr.trans hW fu2⟩
    · cases ho
      intro fu a' u hW hsz hL hdep
      have d0 := hdep { on := 0, ground := .data } (by simp) rfl _ rfl
      have d2 := hdep { on := 2, ground := .data } (by simp) rfl _ rfl
      obtain ⟨y, ha, hy⟩ := hL.puts [23, 24, 25, 26, 27, 28, 29, 30, 31, 32, 33, 34] (by kernel_rfl)
      have e0 : y 23 = _ := (hy 23).symm.trans d0
      obtain ⟨ao2, cap2, S2⟩ := d2
      have e2 : y 25 = _ := (hy 25).symm.trans S2.val
      have S2v : Sl 2 u (.slice ao2 L.length cap2) L.length (fun i => L.getD i 0) ao2 cap2 := ⟨rfl, S2.at0⟩
      clear S2
      clear hdep hL hy
      simp only [List.foldl, List.setIfInBounds_toArray, List.set_cons_succ, List.set_cons_zero, e0, e2] at ha
      subst ha
      clear e0 e2
      refine wpOp_step rfl (fun K hK => ?_)
      go_simp
      refine (laws_haInts_same _ _ u _ _ _ _ _ _ _ _ (S3.out.fr hW) S2v hL2).mono ?_
      rintro e u' ⟨rfl, m, rfl⟩
      go_simp
      exact hK _ _ ⟨_, rfl, rfl, grown_fr (Below.drewN (Below.refl _ _) _), Below.drewN hW _⟩
    · cases ho
      intro fu a' u hW hsz hL hdep
      have d3 := hdep { on := 3, ground := .data } (by simp) rfl _ rfl
      obtain ⟨y, ha, hy⟩ := hL.puts [23, 24, 25, 26, 27, 28, 29, 30, 31, 32, 33, 34] (by kernel_rfl)
      have e3 : y 26 = _ := (hy 26).symm.trans d3
      clear hdep hL hy
      simp only [List.foldl, List.setIfInBounds_toArray, List.set_cons_succ, List.set_cons_zero, e3] at ha
      subst ha
      clear e3
      refine wpOp_step rfl (fun K hK => ?_)
      go_simp
      exact hK _ _ ⟨_, rfl, rfl, grown_refl _ _, hW⟩
    · cases ho
      intro fu a' u hW hsz hL hdep
      have d4 := hdep { on := 4, ground := .data } (by simp) rfl _ rfl
      obtain ⟨y, ha, hy⟩ := hL.puts [23, 24, 25, 26, 27, 28, 29, 30, 31, 32, 33, 34] (by kernel_rfl)
      have e4 : y 27 = _ := (hy 27).symm.trans d4
      clear hdep hL hy
      simp only [List.foldl, List.setIfInBounds_toArray, List.set_cons_succ, List.set_cons_zero, e4] at ha
      subst ha
      clear e4
      refine wpOp_step rfl (fun K hK => ?_)
      go_simp
      exact hK _ _ ⟨_, rfl, rfl, grown_refl _ _, hW⟩
    · cases ho
      intro fu a' u hW hsz hL hdep
      have d5 := hdep { on := 5, ground := .guard } (by simp) rfl _ rfl
      obtain ⟨y, ha, hy⟩ := hL.puts [23, 24, 25, 26, 27, 28, 29, 30, 31, 32, 33, 34] (by kernel_rfl)
      have e5 : y 28 = _ := (hy 28).symm.trans d5
      clear hdep hL hy
      simp only [List.foldl, List.setIfInBounds_toArray, List.set_cons_succ, List.set_cons_zero, e5] at ha
      subst ha
      clear e5
      obtain ⟨c0, c1, c2, c3, c4, c5⟩ := BD3.out.fr hW
      refine wpOp_step rfl (fun K hK => ?_)
      go_simp
      exact hK _ _ ⟨_, rfl, rfl, grown_refl _ _, hW⟩
    · cases ho
      intro fu a' u hW hsz hL hdep
      have d6 := hdep { on := 6, ground := .data } (by simp) rfl _ rfl
      have d5 := hdep { on := 5, ground := .guard } (by simp) rfl _ rfl
      obtain ⟨y, ha, hy⟩ := hL.puts [23, 24, 25, 26, 27, 28, 29, 30, 31, 32, 33, 34] (by kernel_rfl)
      have e6 : y 29 = _ := (hy 29).symm.trans d6
      have e5 : y 28 = _ := (hy 28).symm.trans d5
      clear hdep hL hy
      simp only [List.foldl, List.setIfInBounds_toArray, List.set_cons_succ, List.set_cons_zero, e6, e5] at ha
      subst ha
      clear e6 e5
      refine wpOp_step rfl (fun K hK => ?_)
      go_simp
      refine (impl_CodGives _ _ _ _ _ _ u (ht.fr (Fr.trans F3 hW))).mono ?_
      rintro e u' ⟨rfl, fu2⟩
      go_simp
      exact hK _ _ ⟨_, rfl, rfl, grown_fr fu2, Fr.trans hW fu2⟩
    · cases ho
      intro fu a' u hW hsz hL hdep
      have d5 := hdep { on := 5, ground := .guard } (by simp) rfl _ rfl
      obtain ⟨y, ha, hy⟩ := hL.puts [23, 24, 25, 26, 27, 28, 29, 30, 31, 32, 33, 34] (by kernel_rfl)
      have e5 : y 28 = _ := (hy 28).symm.trans d5
      clear hdep hL hy
      simp only [List.foldl, List.setIfInBounds_toArray, List.set_cons_succ, List.set_cons_zero, e5] at ha
      subst ha
      clear e5
      obtain ⟨c0, c1, c2, c3, c4, c5⟩ := BD3.out.fr hW
      refine wpOp_step rfl (fun K hK => ?_)
      go_simp
      exact hK _ _ ⟨_, rfl, rfl, grown_refl _ _, hW⟩
    · cases ho
      intro fu a' u hW hsz hL hdep
      have d8 := hdep { on := 8, ground := .data } (by simp) rfl _ rfl
      have d5 := hdep { on := 5, ground := .guard } (by simp) rfl _ rfl
      obtain ⟨y, ha, hy⟩ := hL.puts [23, 24, 25, 26, 27, 28, 29, 30, 31, 32, 33, 34] (by kernel_rfl)
      have e8 : y 31 = _ := (hy 31).symm.trans d8
      have e5 : y 28 = _ := (hy 28).symm.trans d5
      clear hdep hL hy
      simp only [List.foldl, List.setIfInBounds_toArray, List.set_cons_succ, List.set_cons_zero, e8, e5] at ha
      subst ha
      clear e8 e5
      refine wpOp_step rfl (fun K hK => ?_)
      go_simp
      refine (spec_CodGives _ _ _ _ _ _ u).mono ?_
      rintro e u' ⟨rfl, fu2⟩
      go_simp
      exact hK _ _ ⟨_, rfl, rfl, grown_fr fu2, Fr.trans hW fu2⟩
    · cases ho
      intro fu a' u hW hsz hL hdep
      have d7 := hdep { on := 7, ground := .data } (by simp) rfl _ rfl
      have d9 := hdep { on := 9, ground := .data } (by simp) rfl _ rfl
      have d5 := hdep { on := 5, ground := .guard } (by simp) rfl _ rfl
      obtain ⟨y, ha, hy⟩ := hL.puts [23, 24, 25, 26, 27, 28, 29, 30, 31, 32, 33, 34] (by kernel_rfl)
      have e7 : y 30 = _ := (hy 30).symm.trans d7
      have e9 : y 32 = _ := (hy 32).symm.trans d9
      have e5 : y 28 = _ := (hy 28).symm.trans d5
      clear hdep hL hy
      simp only [List.foldl, List.setIfInBounds_toArray, List.set_cons_succ, List.set_cons_zero, e7, e9, e5] at ha
      subst ha
      clear e7 e9 e5
      refine wpOp_step rfl (fun K hK => ?_)
      go_simp
      exact hK _ _ ⟨_, rfl, (by first | rfl | simp [K6]), grown_refl _ _, hW⟩
    · cases ho
      intro fu a' u hW hsz hL hdep
      have d5 := hdep { on := 5, ground := .data } (by simp) rfl _ rfl
      have d10 := hdep { on := 10, ground := .data } (by simp) rfl _ rfl
      obtain ⟨y, ha, hy⟩ := hL.puts [23, 24, 25, 26, 27, 28, 29, 30, 31, 32, 33, 34] (by kernel_rfl)
      have e5 : y 28 = _ := (hy 28).symm.trans d5
      have e10 : y 33 = _ := (hy 33).symm.trans d10
      clear hdep hL hy
      simp only [List.foldl, List.setIfInBounds_toArray, List.set_cons_succ, List.set_cons_zero, e5, e10] at ha
      subst ha
      clear e5 e10
      refine wpOp_step rfl (fun K hK => ?_)
      go_simp
      exact hK _ _ ⟨_, rfl, (by first | rfl | simp [K6]), grown_refl _ _, hW⟩
    · exact absurd ho (by simp)
  case fin =>
    intro fu a' u hW hg hL hF
    have d11 : _ = Value.bool false := hF 11 _ rfl
    obtain ⟨y, ha, hy⟩ := hL.puts [23, 24, 25, 26, 27, 28, 29, 30, 31, 32, 33, 34] (by kernel_rfl)
    have e11 : y 34 = _ := (hy 34).symm.trans d11
    clear hL hF hy d11
    simp only [List.foldl, List.setIfInBounds_toArray, List.set_cons_succ, List.set_cons_zero, e11] at ha
    subst ha
    clear e11
    have Fu := F3.trans hW
    have BCu := BC3.out.fr hW
    have Su := Lib.hid (S3.out.fr hW)
    obtain ⟨c0, c1, c2, c3, c4, c5⟩ := id BCu
    go_wp2_with fail
    refine (spec_CodOk _ _ _ _ _ _ _).mono ?_
    rintro e u5 ⟨rfl, f5⟩
    rw [sok_eq]
    have F5 := Fu.trans f5
    have BC5 := Lib.hid (BCu.fr f5)
    have S5 := Lib.hid (Su.out.fr f5)
    clear c0 c1 c2 c3 c4 c5 BCu Su f5
    cases hq : iok k d a b f n
    · have hL0 : L = [] := by rw [← HU.out]; exact usL_f hq
      subst hL0
      go_wp2_with (go_at_call 14; refine (laws_haOk _).mono ?_; rintro e w' ⟨rfl, rfl⟩)
      go_ret
      exact ⟨rfl, F5⟩
    · obtain ⟨hl2, hp2, hma, hmb⟩ := us_facts hq
      rw [HU.out] at hl2 hp2 hma hmb
      have HP := Lib.hid hp2
      have GV := Lib.hid (givD_t hq)
      have HMA := Lib.hid hma
      have HMB := Lib.hid hmb
      clear hp2 hma hmb hq
      go_wp2_with fail
      go_loopw [8] (fun i wr => ∃ p m : Nat, p ≤ L.length ∧ i = .int .i64 p ∧ u5.drewN m = wr) (fun i _ => L.length - (intOf i).toNat)
      case atStart => exact ⟨0, 0, Nat.zero_le _, rfl, rfl⟩
      case round =>
        obtain ⟨p, m, hp, rfl, rfl⟩ := hrel
        obtain ⟨c0, c1, c2, c3, c4, c5⟩ := id BC5.out
        by_cases hlt : p < L.length
        · obtain ⟨g, rfl, _, _, hcl, _⟩ := S5.out.at0 (by omega)
          rcases (show p = 0 ∨ p = 1 by omega) with rfl | rfl
          · have d1 : u5.cell? ⟨g, 0, none⟩ = some (.int .i64 (L.getD 0 0)) := hcl 0 (by omega)
            obtain ⟨l1, l8, lp, lab⟩ := HP.out 0 hlt
            have hlt' : ((0 : Nat) : Int) < (L.length : Int) := by omega
            have k1 := decide_eq_false (Int.not_lt.2 l1)
            have k8 := decide_eq_false (Int.not_le.2 l8)
            clear l1 l8 lp hcl
            generalize L.getD 0 0 = x0 at *
            by_cases ex : x0 = a
            · have m1 : (x0 != a) = false := by simp [ex]
              clear lab ex
              go_wp2_with fail
              go_quiet (fail)
              go_wp2
              go_roundw
              case rel => exact ⟨0 + 1, _, by omega, by go_num, rfl⟩
              case measure => simp [intOf]; omega
            · have m1 : (x0 != a) = true := by simp [ex]
              have m2 : (x0 != b) = false := by rcases lab with h | h; exact absurd h ex; simp [h]
              clear lab ex
              go_wp2_with fail
              go_quiet (fail)
              go_wp2
              go_roundw
              case rel => exact ⟨0 + 1, _, by omega, by go_num, rfl⟩
              case measure => simp [intOf]; omega
          · have d1 : u5.cell? ⟨g, 1, none⟩ = some (.int .i64 (L.getD 1 0)) := hcl 1 (by omega)
            have d0 : u5.cell? ⟨g, 0, none⟩ = some (.int .i64 (L.getD 0 0)) := hcl 0 (by omega)
            obtain ⟨l1, l8, lp, lab⟩ := HP.out 1 hlt
            have hlt' : ((1 : Nat) : Int) < (L.length : Int) := by omega
            have k1 := decide_eq_false (Int.not_lt.2 l1)
            have k8 := decide_eq_false (Int.not_le.2 l8)
            have kp := decide_eq_false (Int.not_le.2 (lp (by omega)))
            clear l1 l8 lp hcl
            simp only [Nat.sub_self] at kp
            generalize L.getD 0 0 = y0 at *
            generalize L.getD 1 0 = x0 at *
            by_cases ex : x0 = a
            · have m1 : (x0 != a) = false := by simp [ex]
              clear lab ex
              go_wp2_with fail
              go_quiet (fail)
              go_wp2
              go_roundw
              case rel => exact ⟨1 + 1, _, by omega, by go_num, rfl⟩
              case measure => simp [intOf]; omega
            · have m1 : (x0 != a) = true := by simp [ex]
              have m2 : (x0 != b) = false := by rcases lab with h | h; exact absurd h ex; simp [h]
              clear lab ex
              go_wp2_with fail
              go_quiet (fail)
              go_wp2
              go_roundw
              case rel => exact ⟨1 + 1, _, by omega, by go_num, rfl⟩
              case measure => simp [intOf]; omega
        · have hge : ¬ (p : Int) < (L.length : Int) := by omega
          have D6 : Fr u5 (u5.drewN m) := Below.drewN (Below.refl _ _) m
          have F6 := F5.trans D6
          have BC6 := Lib.hid (BC5.out.fr D6)
          have S6 := Lib.hid (S5.out.fr D6)
          clear c0 c1 c2 c3 c4 c5
          generalize u5.drewN m = u6 at *
          go_wp2_with fail
          refine wp_region_plan 0 126 (fun _ u => Fr u6 u) (K15 (.slice ao1 L.length cp1) (.agg #[.int .i64 k, .int .i64 d, .int .i64 a, .int .i64 b, .int .i64 f, .int .i64 n]) u1.heap.size a b d (a == 0) (b == 0)) (by kernel_rfl) (by kernel_rfl) rfl (by kernel_rfl) K15.mono (Below.drew (Below.refl _ _)) ?step ?fin
          case step =>
            intro i o ho
            rcases i with _ | _ | _ | _ | _ | _ | _ | _ | _ | _ | _ | _ | _ | _ | _ | _ | _ | _ | _ | _ | _ | _ | _ | _ | _ | _ | _ | _ | _ | _ | _ | i
            · cases ho
              intro fu a' u hW hsz hL hdep
              obtain ⟨y, ha, hy⟩ := hL.puts [96, 97, 98, 99, 100, 101, 102, 103, 104, 105, 106, 107, 108, 109, 110, 111, 112, 113, 114, 115, 116, 117, 118, 119, 120, 121, 122, 123, 124, 125, 4] (by kernel_rfl)
              clear hdep hL hy
              simp only [List.foldl, List.setIfInBounds_toArray, List.set_cons_succ, List.set_cons_zero] at ha
              subst ha
              refine wpOp_step rfl (fun K hK => ?_)
              go_simp
              exact hK _ _ ⟨_, rfl, (by first | rfl | simp [K15]), grown_refl _ _, hW⟩
            · cases ho
              intro fu a' u hW hsz hL hdep
              have d0 := hdep { on := 0, ground := .data } (by simp) rfl _ rfl
              obtain ⟨y, ha, hy⟩ := hL.puts [96, 97, 98, 99, 100, 101, 102, 103, 104, 105, 106, 107, 108, 109, 110, 111, 112, 113, 114, 115, 116, 117, 118, 119, 120, 121, 122, 123, 124, 125, 4] (by kernel_rfl)
              have e0 : y 96 = _ := (hy 96).symm.trans d0
              clear hdep hL hy
              simp only [List.foldl, List.setIfInBounds_toArray, List.set_cons_succ, List.set_cons_zero, e0] at ha
              subst ha
              clear e0
              obtain ⟨c0, c1, c2, c3, c4, c5⟩ := BC6.out.fr hW
              refine wpOp_step rfl (fun K hK => ?_)
              go_simp
              exact hK _ _ ⟨_, rfl, (by first | rfl | simp [K15]), grown_refl _ _, hW⟩
            · cases ho
              intro fu a' u hW hsz hL hdep
              have d1 := hdep { on := 1, ground := .data } (by simp) rfl _ rfl
              obtain ⟨y, ha, hy⟩ := hL.puts [96, 97, 98, 99, 100, 101, 102, 103, 104, 105, 106, 107, 108, 109, 110, 111, 112, 113, 114, 115, 116, 117, 118, 119, 120, 121, 122, 123, 124, 125, 4] (by kernel_rfl)
              have e1 : y 97 = _ := (hy 97).symm.trans d1
              clear hdep hL hy
              simp only [List.foldl, List.setIfInBounds_toArray, List.set_cons_succ, List.set_cons_zero, e1] at ha
              subst ha
              clear e1
              refine wpOp_step rfl (fun K hK => ?_)
              go_simp
              exact hK _ _ ⟨_, rfl, (by first | rfl | simp [K15]), grown_refl _ _, hW⟩
            · cases ho
              intro fu a' u hW hsz hL hdep
              have d2 := hdep { on := 2, ground := .data } (by simp) rfl _ rfl
              obtain ⟨y, ha, hy⟩ := hL.puts [96, 97, 98, 99, 100, 101, 102, 103, 104, 105, 106, 107, 108, 109, 110, 111, 112, 113, 114, 115, 116, 117, 118, 119, 120, 121, 122, 123, 124, 125, 4] (by kernel_rfl)
              have e2 : y 98 = _ := (hy 98).symm.trans d2
              clear hdep hL hy
              simp only [List.foldl, List.setIfInBounds_toArray, List.set_cons_succ, List.set_cons_zero, e2] at ha
              subst ha
              clear e2
              refine wpOp_step rfl (fun K hK => ?_)
              go_simp
              exact hK _ _ ⟨_, rfl, (by first | rfl | simp [K15]), grown_refl _ _, hW⟩
            · cases ho
              intro fu a' u hW hsz hL hdep
              have d3 := hdep { on := 3, ground := .guard } (by simp) rfl _ rfl
              obtain ⟨y, ha, hy⟩ := hL.puts [96, 97, 98, 99, 100, 101, 102, 103, 104, 105, 106, 107, 108, 109, 110, 111, 112, 113, 114, 115, 116, 117, 118, 119, 120, 121, 122, 123, 124, 125, 4] (by kernel_rfl)
              cases ee : (a == 0)
              · have e3 : y 99 = _ := (hy 99).symm.trans d3
                clear hdep hL hy
                simp only [List.foldl, List.setIfInBounds_toArray, List.set_cons_succ, List.set_cons_zero, e3, ee] at ha
                subst ha
                clear e3
                refine wpOp_step rfl (fun K hK => ?_)
                go_simp
                exact hK _ _ ⟨_, rfl, (fun _ => rfl), grown_refl _ _, hW⟩
              · have e3 : y 99 = _ := (hy 99).symm.trans d3
                clear hdep hL hy
                simp only [List.foldl, List.setIfInBounds_toArray, List.set_cons_succ, List.set_cons_zero, e3, ee] at ha
                subst ha
                clear e3
                refine wpOp_step rfl (fun K hK => ?_)
                go_simp
                exact hK _ _ ⟨_, rfl, (fun h => by first | cases h | (rw [ee] at h; cases h)), grown_refl _ _, hW⟩
            · cases ho
              intro fu a' u hW hsz hL hdep
              have d3 := hdep { on := 3, ground := .guard } (by simp) rfl _ rfl
              obtain ⟨y, ha, hy⟩ := hL.puts [96, 97, 98, 99, 100, 101, 102, 103, 104, 105, 106, 107, 108, 109, 110, 111, 112, 113, 114, 115, 116, 117, 118, 119, 120, 121, 122, 123, 124, 125, 4] (by kernel_rfl)
              cases ee : (a == 0)
              · have e3 : y 99 = _ := (hy 99).symm.trans d3
                clear hdep hL hy
                simp only [List.foldl, List.setIfInBounds_toArray, List.set_cons_succ, List.set_cons_zero, e3, ee] at ha
                subst ha
                clear e3
                refine wpOp_step rfl (fun K hK => ?_)
                go_simp
                exact hK _ _ ⟨_, rfl, (fun _ => rfl), grown_refl _ _, hW⟩
              · have e3 : y 99 = _ := (hy 99).symm.trans d3
                clear hdep hL hy
                simp only [List.foldl, List.setIfInBounds_toArray, List.set_cons_succ, List.set_cons_zero, e3, ee] at ha
                subst ha
                clear e3
                refine wpOp_step rfl (fun K hK => ?_)
                go_simp
                exact hK _ _ ⟨_, rfl, (fun h => by first | cases h | (rw [ee] at h; cases h)), grown_refl _ _, hW⟩
            · cases ho
              intro fu a' u hW hsz hL hdep
              have d3 := hdep { on := 3, ground := .guard } (by simp) rfl _ rfl
              have d5 := hdep { on := 5, ground := .data } (by simp) rfl _ rfl
              obtain ⟨y, ha, hy⟩ := hL.puts [96, 97, 98, 99, 100, 101, 102, 103, 104, 105, 106, 107, 108, 109, 110, 111, 112, 113, 114, 115, 116, 117, 118, 119, 120, 121, 122, 123, 124, 125, 4] (by kernel_rfl)
              cases ee : (a == 0)
              · have e3 : y 99 = _ := (hy 99).symm.trans d3
                have e5 : y 101 = _ := (hy 101).symm.trans (d5 ee)
                clear hdep hL hy
                simp only [List.foldl, List.setIfInBounds_toArray, List.set_cons_succ, List.set_cons_zero, e3, e5, ee] at ha
                subst ha
                clear e3 e5
                obtain ⟨c0, c1, c2, c3, c4, c5⟩ := BC6.out.fr hW
                refine wpOp_step rfl (fun K hK => ?_)
                go_simp
                exact hK _ _ ⟨_, rfl, (fun _ => rfl), grown_refl _ _, hW⟩
              · have e3 : y 99 = _ := (hy 99).symm.trans d3
                clear hdep hL hy
                simp only [List.foldl, List.setIfInBounds_toArray, List.set_cons_succ, List.set_cons_zero, e3, ee] at ha
                subst ha
                clear e3
                obtain ⟨c0, c1, c2, c3, c4, c5⟩ := BC6.out.fr hW
                refine wpOp_step rfl (fun K hK => ?_)
                go_simp
                exact hK _ _ ⟨_, rfl, (fun h => by first | cases h | (rw [ee] at h; cases h)), grown_refl _ _, hW⟩
            · cases ho
              intro fu a' u hW hsz hL hdep
              have d3 := hdep { on := 3, ground := .guard } (by simp) rfl _ rfl
              have d4 := hdep { on := 4, ground := .data } (by simp) rfl _ rfl
              have d6 := hdep { on := 6, ground := .data } (by simp) rfl _ rfl
              obtain ⟨y, ha, hy⟩ := hL.puts [96, 97, 98, 99, 100, 101, 102, 103, 104, 105, 106, 107, 108, 109, 110, 111, 112, 113, 114, 115, 116, 117, 118, 119, 120, 121, 122, 123, 124, 125, 4] (by kernel_rfl)
              cases ee : (a == 0)
              · have e3 : y 99 = _ := (hy 99).symm.trans d3
                have e4 : y 100 = _ := (hy 100).symm.trans (d4 ee)
                have e6 : y 102 = _ := (hy 102).symm.trans (d6 ee)
                clear hdep hL hy
                simp only [List.foldl, List.setIfInBounds_toArray, List.set_cons_succ, List.set_cons_zero, e3, e4, e6, ee] at ha
                subst ha
                clear e3 e4 e6
                refine wpOp_step rfl (fun K hK => ?_)
                go_simp
                obtain ⟨pa, MA1, MA2⟩ := HMA.out (beq_eq_false_iff_ne.1 ee)
                refine (laws_haIn _ u _ _ _ _ _ _ (S6.out.fr hW) hL2 pa MA1 MA2).mono ?_
                rintro e u' ⟨rfl, rfl⟩
                go_simp
                exact hK _ _ ⟨_, rfl, (fun _ => rfl), grown_refl _ _, hW⟩
              · have e3 : y 99 = _ := (hy 99).symm.trans d3
                clear hdep hL hy
                simp only [List.foldl, List.setIfInBounds_toArray, List.set_cons_succ, List.set_cons_zero, e3, ee] at ha
                subst ha
                clear e3
                refine wpOp_step rfl (fun K hK => ?_)
                go_simp
                exact hK _ _ ⟨_, rfl, (fun h => by first | cases h | (rw [ee] at h; cases h)), grown_refl _ _, hW⟩
            · cases ho
              intro fu a' u hW hsz hL hdep
              have d3 := hdep { on := 3, ground := .data } (by simp) rfl _ rfl
              have d7 := hdep { on := 7, ground := .data } (by simp) rfl _ rfl
              obtain ⟨y, ha, hy⟩ := hL.puts [96, 97, 98, 99, 100, 101, 102, 103, 104, 105, 106, 107, 108, 109, 110, 111, 112, 113, 114, 115, 116, 117, 118, 119, 120, 121, 122, 123, 124, 125, 4] (by kernel_rfl)
              cases ee : (a == 0)
              · have e3 : y 99 = _ := (hy 99).symm.trans d3
                have e7 : y 103 = _ := (hy 103).symm.trans (d7 ee)
                clear hdep hL hy
                simp only [List.foldl, List.setIfInBounds_toArray, List.set_cons_succ, List.set_cons_zero, e3, e7, ee] at ha
                subst ha
                clear e3 e7
                refine wpOp_step rfl (fun K hK => ?_)
                go_simp
                exact hK _ _ ⟨_, rfl, (by first | rfl | simp [K15]), grown_refl _ _, hW⟩
              · have e3 : y 99 = _ := (hy 99).symm.trans d3
                clear hdep hL hy
                simp only [List.foldl, List.setIfInBounds_toArray, List.set_cons_succ, List.set_cons_zero, e3, ee] at ha
                subst ha
                clear e3
                refine wpOp_step rfl (fun K hK => ?_)
                go_simp
                exact hK _ _ ⟨_, rfl, (by first | rfl | simp [K15]), grown_refl _ _, hW⟩
            · cases ho
              intro fu a' u hW hsz hL hdep
              have d8 := hdep { on := 8, ground := .data } (by simp) rfl _ rfl
              obtain ⟨y, ha, hy⟩ := hL.puts [96, 97, 98, 99, 100, 101, 102, 103, 104, 105, 106, 107, 108, 109, 110, 111, 112, 113, 114, 115, 116, 117, 118, 119, 120, 121, 122, 123, 124, 125, 4] (by kernel_rfl)
              have e8 : y 104 = _ := (hy 104).symm.trans d8
              clear hdep hL hy
              simp only [List.foldl, List.setIfInBounds_toArray, List.set_cons_succ, List.set_cons_zero, e8] at ha
              subst ha
              clear e8
              refine wpOp_step rfl (fun K hK => ?_)
              go_simp
              exact hK _ _ ⟨_, rfl, (by first | rfl | simp [K15]), grown_refl _ _, hW⟩
            · cases ho
              intro fu a' u hW hsz hL hdep
              have d9 := hdep { on := 9, ground := .guard } (by simp) rfl _ rfl
              obtain ⟨y, ha, hy⟩ := hL.puts [96, 97, 98, 99, 100, 101, 102, 103, 104, 105, 106, 107, 108, 109, 110, 111, 112, 113, 114, 115, 116, 117, 118, 119, 120, 121, 122, 123, 124, 125, 4] (by kernel_rfl)
              have e9 : y 105 = _ := (hy 105).symm.trans d9
              clear hdep hL hy
              simp only [List.foldl, List.setIfInBounds_toArray, List.set_cons_succ, List.set_cons_zero, e9] at ha
              subst ha
              clear e9
              refine wpOp_step rfl (fun K hK => ?_)
              go_simp
              exact hK _ _ ⟨_, rfl, (by first | rfl | simp [K15]), grown_refl _ _, hW⟩
            · cases ho
              intro fu a' u hW hsz hL hdep
              have d9 := hdep { on := 9, ground := .guard } (by simp) rfl _ rfl
              have d10 := hdep { on := 10, ground := .data } (by simp) rfl _ rfl
              obtain ⟨y, ha, hy⟩ := hL.puts [96, 97, 98, 99, 100, 101, 102, 103, 104, 105, 106, 107, 108, 109, 110, 111, 112, 113, 114, 115, 116, 117, 118, 119, 120, 121, 122, 123, 124, 125, 4] (by kernel_rfl)
              have e9 : y 105 = _ := (hy 105).symm.trans d9
              have e10 : y 106 = _ := (hy 106).symm.trans d10
              clear hdep hL hy
              simp only [List.foldl, List.setIfInBounds_toArray, List.set_cons_succ, List.set_cons_zero, e9, e10] at ha
              subst ha
              clear e9 e10
              obtain ⟨c0, c1, c2, c3, c4, c5⟩ := BC6.out.fr hW
              refine wpOp_step rfl (fun K hK => ?_)
              go_simp
              exact hK _ _ ⟨_, rfl, (by first | rfl | simp [K15]), grown_refl _ _, hW⟩
            · cases ho
              intro fu a' u hW hsz hL hdep
              have d9 := hdep { on := 9, ground := .guard } (by simp) rfl _ rfl
              have d11 := hdep { on := 11, ground := .data } (by simp) rfl _ rfl
              obtain ⟨y, ha, hy⟩ := hL.puts [96, 97, 98, 99, 100, 101, 102, 103, 104, 105, 106, 107, 108, 109, 110, 111, 112, 113, 114, 115, 116, 117, 118, 119, 120, 121, 122, 123, 124, 125, 4] (by kernel_rfl)
              have e9 : y 105 = _ := (hy 105).symm.trans d9
              have e11 : y 107 = _ := (hy 107).symm.trans d11
              clear hdep hL hy
              simp only [List.foldl, List.setIfInBounds_toArray, List.set_cons_succ, List.set_cons_zero, e9, e11] at ha
              subst ha
              clear e9 e11
              refine wpOp_step rfl (fun K hK => ?_)
              go_simp
              exact hK _ _ ⟨_, rfl, (by first | rfl | simp [K15]), grown_refl _ _, hW⟩
            · cases ho
              intro fu a' u hW hsz hL hdep
              have d9 := hdep { on := 9, ground := .guard } (by simp) rfl _ rfl
              have d12 := hdep { on := 12, ground := .data } (by simp) rfl _ rfl
              obtain ⟨y, ha, hy⟩ := hL.puts [96, 97, 98, 99, 100, 101, 102, 103, 104, 105, 106, 107, 108, 109, 110, 111, 112, 113, 114, 115, 116, 117, 118, 119, 120, 121, 122, 123, 124, 125, 4] (by kernel_rfl)
              have e9 : y 105 = _ := (hy 105).symm.trans d9
              have e12 : y 108 = _ := (hy 108).symm.trans d12
              clear hdep hL hy
              simp only [List.foldl, List.setIfInBounds_toArray, List.set_cons_succ, List.set_cons_zero, e9, e12] at ha
              subst ha
              clear e9 e12
              refine wpOp_step rfl (fun K hK => ?_)
              go_simp
              exact hK _ _ ⟨_, rfl, (by first | rfl | simp [K15]), grown_refl _ _, hW⟩
            · cases ho
              intro fu a' u hW hsz hL hdep
              have d13 := hdep { on := 13, ground := .guard } (by simp) rfl _ rfl
              obtain ⟨y, ha, hy⟩ := hL.puts [96, 97, 98, 99, 100, 101, 102, 103, 104, 105, 106, 107, 108, 109, 110, 111, 112, 113, 114, 115, 116, 117, 118, 119, 120, 121, 122, 123, 124, 125, 4] (by kernel_rfl)
              cases ee : (b == 0)
              · have e13 : y 109 = _ := (hy 109).symm.trans d13
                clear hdep hL hy
                simp only [List.foldl, List.setIfInBounds_toArray, List.set_cons_succ, List.set_cons_zero, e13, ee] at ha
                subst ha
                clear e13
                refine wpOp_step rfl (fun K hK => ?_)
                go_simp
                exact hK _ _ ⟨_, rfl, (fun _ => rfl), grown_refl _ _, hW⟩
              · have e13 : y 109 = _ := (hy 109).symm.trans d13
                clear hdep hL hy
                simp only [List.foldl, List.setIfInBounds_toArray, List.set_cons_succ, List.set_cons_zero, e13, ee] at ha
                subst ha
                clear e13
                refine wpOp_step rfl (fun K hK => ?_)
                go_simp
                exact hK _ _ ⟨_, rfl, (fun h => by first | cases h | (rw [ee] at h; cases h)), grown_refl _ _, hW⟩
            · cases ho
              intro fu a' u hW hsz hL hdep
              have d13 := hdep { on := 13, ground := .guard } (by simp) rfl _ rfl
              obtain ⟨y, ha, hy⟩ := hL.puts [96, 97, 98, 99, 100, 101, 102, 103, 104, 105, 106, 107, 108, 109, 110, 111, 112, 113, 114, 115, 116, 117, 118, 119, 120, 121, 122, 123, 124, 125, 4] (by kernel_rfl)
              cases ee : (b == 0)
              · have e13 : y 109 = _ := (hy 109).symm.trans d13
                clear hdep hL hy
                simp only [List.foldl, List.setIfInBounds_toArray, List.set_cons_succ, List.set_cons_zero, e13, ee] at ha
                subst ha
                clear e13
                refine wpOp_step rfl (fun K hK => ?_)
                go_simp
                exact hK _ _ ⟨_, rfl, (fun _ => rfl), grown_refl _ _, hW⟩
              · have e13 : y 109 = _ := (hy 109).symm.trans d13
                clear hdep hL hy
                simp only [List.foldl, List.setIfInBounds_toArray, List.set_cons_succ, List.set_cons_zero, e13, ee] at ha
                subst ha
                clear e13
                refine wpOp_step rfl (fun K hK => ?_)
                go_simp
                exact hK _ _ ⟨_, rfl, (fun h => by first | cases h | (rw [ee] at h; cases h)), grown_refl _ _, hW⟩
            · cases ho
              intro fu a' u hW hsz hL hdep
              have d13 := hdep { on := 13, ground := .guard } (by simp) rfl _ rfl
              have d15 := hdep { on := 15, ground := .data } (by simp) rfl _ rfl
              obtain ⟨y, ha, hy⟩ := hL.puts [96, 97, 98, 99, 100, 101, 102, 103, 104, 105, 106, 107, 108, 109, 110, 111, 112, 113, 114, 115, 116, 117, 118, 119, 120, 121, 122, 123, 124, 125, 4] (by kernel_rfl)
              cases ee : (b == 0)
              · have e13 : y 109 = _ := (hy 109).symm.trans d13
                have e15 : y 111 = _ := (hy 111).symm.trans (d15 ee)
                clear hdep hL hy
                simp only [List.foldl, List.setIfInBounds_toArray, List.set_cons_succ, List.set_cons_zero, e13, e15, ee] at ha
                subst ha
                clear e13 e15
                obtain ⟨c0, c1, c2, c3, c4, c5⟩ := BC6.out.fr hW
                refine wpOp_step rfl (fun K hK => ?_)
                go_simp
                exact hK _ _ ⟨_, rfl, (fun _ => rfl), grown_refl _ _, hW⟩
              · have e13 : y 109 = _ := (hy 109).symm.trans d13
                clear hdep hL hy
                simp only [List.foldl, List.setIfInBounds_toArray, List.set_cons_succ, List.set_cons_zero, e13, ee] at ha
                subst ha
                clear e13
                obtain ⟨c0, c1, c2, c3, c4, c5⟩ := BC6.out.fr hW
                refine wpOp_step rfl (fun K hK => ?_)
                go_simp
                exact hK _ _ ⟨_, rfl, (fun h => by first | cases h | (rw [ee] at h; cases h)), grown_refl _ _, hW⟩
            · cases ho
              intro fu a' u hW hsz hL hdep
              have d13 := hdep { on := 13, ground := .guard } (by simp) rfl _ rfl
              have d14 := hdep { on := 14, ground := .data } (by simp) rfl _ rfl
              have d16 := hdep { on := 16, ground := .data } (by simp) rfl _ rfl
              obtain ⟨y, ha, hy⟩ := hL.puts [96, 97, 98, 99, 100, 101, 102, 103, 104, 105, 106, 107, 108, 109, 110, 111, 112, 113, 114, 115, 116, 117, 118, 119, 120, 121, 122, 123, 124, 125, 4] (by kernel_rfl)
              cases ee : (b == 0)
              · have e13 : y 109 = _ := (hy 109).symm.trans d13
                have e14 : y 110 = _ := (hy 110).symm.trans (d14 ee)
                have e16 : y 112 = _ := (hy 112).symm.trans (d16 ee)
                clear hdep hL hy
                simp only [List.foldl, List.setIfInBounds_toArray, List.set_cons_succ, List.set_cons_zero, e13, e14, e16, ee] at ha
                subst ha
                clear e13 e14 e16
                refine wpOp_step rfl (fun K hK => ?_)
                go_simp
                obtain ⟨pa, MA1, MA2⟩ := HMB.out (beq_eq_false_iff_ne.1 ee)
                refine (laws_haIn _ u _ _ _ _ _ _ (S6.out.fr hW) hL2 pa MA1 MA2).mono ?_
                rintro e u' ⟨rfl, rfl⟩
                go_simp
                exact hK _ _ ⟨_, rfl, (fun _ => rfl), grown_refl _ _, hW⟩
              · have e13 : y 109 = _ := (hy 109).symm.trans d13
                clear hdep hL hy
                simp only [List.foldl, List.setIfInBounds_toArray, List.set_cons_succ, List.set_cons_zero, e13, ee] at ha
                subst ha
                clear e13
                refine wpOp_step rfl (fun K hK => ?_)
                go_simp
                exact hK _ _ ⟨_, rfl, (fun h => by first | cases h | (rw [ee] at h; cases h)), grown_refl _ _, hW⟩
            · cases ho
              intro fu a' u hW hsz hL hdep
              have d9 := hdep { on := 9, ground := .guard } (by simp) rfl _ rfl
              have d13 := hdep { on := 13, ground := .data } (by simp) rfl _ rfl
              have d17 := hdep { on := 17, ground := .data } (by simp) rfl _ rfl
              obtain ⟨y, ha, hy⟩ := hL.puts [96, 97, 98, 99, 100, 101, 102, 103, 104, 105, 106, 107, 108, 109, 110, 111, 112, 113, 114, 115, 116, 117, 118, 119, 120, 121, 122, 123, 124, 125, 4] (by kernel_rfl)
              cases ee : (b == 0)
              · have e9 : y 105 = _ := (hy 105).symm.trans d9
                have e13 : y 109 = _ := (hy 109).symm.trans d13
                have e17 : y 113 = _ := (hy 113).symm.trans (d17 ee)
                clear hdep hL hy
                simp only [List.foldl, List.setIfInBounds_toArray, List.set_cons_succ, List.set_cons_zero, e9, e13, e17, ee] at ha
                subst ha
                clear e9 e13 e17
                refine wpOp_step rfl (fun K hK => ?_)
                go_simp
                exact hK _ _ ⟨_, rfl, (by first | rfl | simp [K15]), grown_refl _ _, hW⟩
              · have e9 : y 105 = _ := (hy 105).symm.trans d9
                have e13 : y 109 = _ := (hy 109).symm.trans d13
                clear hdep hL hy
                simp only [List.foldl, List.setIfInBounds_toArray, List.set_cons_succ, List.set_cons_zero, e9, e13, ee] at ha
                subst ha
                clear e9 e13
                refine wpOp_step rfl (fun K hK => ?_)
                go_simp
                exact hK _ _ ⟨_, rfl, (by first | rfl | simp [K15]), grown_refl _ _, hW⟩
            · cases ho
              intro fu a' u hW hsz hL hdep
              have d9 := hdep { on := 9, ground := .data } (by simp) rfl _ rfl
              have d18 := hdep { on := 18, ground := .data } (by simp) rfl _ rfl
              obtain ⟨y, ha, hy⟩ := hL.puts [96, 97, 98, 99, 100, 101, 102, 103, 104, 105, 106, 107, 108, 109, 110, 111, 112, 113, 114, 115, 116, 117, 118, 119, 120, 121, 122, 123, 124, 125, 4] (by kernel_rfl)
              have e9 : y 105 = _ := (hy 105).symm.trans d9
              have e18 : y 114 = _ := (hy 114).symm.trans d18
              clear hdep hL hy
              simp only [List.foldl, List.setIfInBounds_toArray, List.set_cons_succ, List.set_cons_zero, e9, e18] at ha
              subst ha
              clear e9 e18
              refine wpOp_step rfl (fun K hK => ?_)
              go_simp
              exact hK _ _ ⟨_, rfl, (by first | rfl | simp [K15]), grown_refl _ _, hW⟩
            · cases ho
              intro fu a' u hW hsz hL hdep
              have d19 := hdep { on := 19, ground := .data } (by simp) rfl _ rfl
              obtain ⟨y, ha, hy⟩ := hL.puts [96, 97, 98, 99, 100, 101, 102, 103, 104, 105, 106, 107, 108, 109, 110, 111, 112, 113, 114, 115, 116, 117, 118, 119, 120, 121, 122, 123, 124, 125, 4] (by kernel_rfl)
              have e19 : y 115 = _ := (hy 115).symm.trans d19
              clear hdep hL hy
              simp only [List.foldl, List.setIfInBounds_toArray, List.set_cons_succ, List.set_cons_zero, e19] at ha
              subst ha
              clear e19
              refine wpOp_step rfl (fun K hK => ?_)
              go_simp
              exact hK _ _ ⟨_, rfl, (by first | rfl | simp [K15]), grown_refl _ _, hW⟩
            · cases ho
              intro fu a' u hW hsz hL hdep
              have d20 := hdep { on := 20, ground := .guard } (by simp) rfl _ rfl
              obtain ⟨y, ha, hy⟩ := hL.puts [96, 97, 98, 99, 100, 101, 102, 103, 104, 105, 106, 107, 108, 109, 110, 111, 112, 113, 114, 115, 116, 117, 118, 119, 120, 121, 122, 123, 124, 125, 4] (by kernel_rfl)
              have e20 : y 116 = _ := (hy 116).symm.trans d20
              clear hdep hL hy
              simp only [List.foldl, List.setIfInBounds_toArray, List.set_cons_succ, List.set_cons_zero, e20] at ha
              subst ha
              clear e20
              obtain ⟨c0, c1, c2, c3, c4, c5⟩ := BC6.out.fr hW
              refine wpOp_step rfl (fun K hK => ?_)
              go_simp
              exact hK _ _ ⟨_, rfl, (by first | rfl | simp [K15]), grown_refl _ _, hW⟩
            · cases ho
              intro fu a' u hW hsz hL hdep
              have d20 := hdep { on := 20, ground := .guard } (by simp) rfl _ rfl
              have d21 := hdep { on := 21, ground := .data } (by simp) rfl _ rfl
              obtain ⟨y, ha, hy⟩ := hL.puts [96, 97, 98, 99, 100, 101, 102, 103, 104, 105, 106, 107, 108, 109, 110, 111, 112, 113, 114, 115, 116, 117, 118, 119, 120, 121, 122, 123, 124, 125, 4] (by kernel_rfl)
              have e20 : y 116 = _ := (hy 116).symm.trans d20
              have e21 : y 117 = _ := (hy 117).symm.trans d21
              clear hdep hL hy
              simp only [List.foldl, List.setIfInBounds_toArray, List.set_cons_succ, List.set_cons_zero, e20, e21] at ha
              subst ha
              clear e20 e21
              refine wpOp_step rfl (fun K hK => ?_)
              go_simp
              refine (impl_CodGives _ _ _ _ _ _ u (ht.fr (Fr.trans F6 hW))).mono ?_
              rintro e u' ⟨rfl, fu2⟩
              rw [GV.out]
              go_simp
              exact hK _ _ ⟨_, rfl, rfl, grown_fr fu2, Fr.trans hW fu2⟩
            · cases ho
              intro fu a' u hW hsz hL hdep
              have d20 := hdep { on := 20, ground := .guard } (by simp) rfl _ rfl
              obtain ⟨y, ha, hy⟩ := hL.puts [96, 97, 98, 99, 100, 101, 102, 103, 104, 105, 106, 107, 108, 109, 110, 111, 112, 113, 114, 115, 116, 117, 118, 119, 120, 121, 122, 123, 124, 125, 4] (by kernel_rfl)
              have e20 : y 116 = _ := (hy 116).symm.trans d20
              clear hdep hL hy
              simp only [List.foldl, List.setIfInBounds_toArray, List.set_cons_succ, List.set_cons_zero, e20] at ha
              subst ha
              clear e20
              refine wpOp_step rfl (fun K hK => ?_)
              go_simp
              exact hK _ _ ⟨_, rfl, (by first | rfl | simp [K15]), grown_refl _ _, hW⟩
            · cases ho
              intro fu a' u hW hsz hL hdep
              have d20 := hdep { on := 20, ground := .guard } (by simp) rfl _ rfl
              have d23 := hdep { on := 23, ground := .data } (by simp) rfl _ rfl
              obtain ⟨y, ha, hy⟩ := hL.puts [96, 97, 98, 99, 100, 101, 102, 103, 104, 105, 106, 107, 108, 109, 110, 111, 112, 113, 114, 115, 116, 117, 118, 119, 120, 121, 122, 123, 124, 125, 4] (by kernel_rfl)
              have e20 : y 116 = _ := (hy 116).symm.trans d20
              have e23 : y 119 = _ := (hy 119).symm.trans d23
              clear hdep hL hy
              simp only [List.foldl, List.setIfInBounds_toArray, List.set_cons_succ, List.set_cons_zero, e20, e23] at ha
              subst ha
              clear e20 e23
              obtain ⟨c0, c1, c2, c3, c4, c5⟩ := BC6.out.fr hW
              refine wpOp_step rfl (fun K hK => ?_)
              go_simp
              exact hK _ _ ⟨_, rfl, (by first | rfl | simp [K15]), grown_refl _ _, hW⟩
            · cases ho
              intro fu a' u hW hsz hL hdep
              have d20 := hdep { on := 20, ground := .guard } (by simp) rfl _ rfl
              have d22 := hdep { on := 22, ground := .data } (by simp) rfl _ rfl
              have d24 := hdep { on := 24, ground := .data } (by simp) rfl _ rfl
              obtain ⟨y, ha, hy⟩ := hL.puts [96, 97, 98, 99, 100, 101, 102, 103, 104, 105, 106, 107, 108, 109, 110, 111, 112, 113, 114, 115, 116, 117, 118, 119, 120, 121, 122, 123, 124, 125, 4] (by kernel_rfl)
              have e20 : y 116 = _ := (hy 116).symm.trans d20
              have e22 : y 118 = _ := (hy 118).symm.trans d22
              have e24 : y 120 = _ := (hy 120).symm.trans d24
              clear hdep hL hy
              simp only [List.foldl, List.setIfInBounds_toArray, List.set_cons_succ, List.set_cons_zero, e20, e22, e24] at ha
              subst ha
              clear e20 e22 e24
              refine wpOp_step rfl (fun K hK => ?_)
              go_simp
              exact hK _ _ ⟨_, rfl, (by first | rfl | simp [K15]), grown_refl _ _, hW⟩
            · cases ho
              intro fu a' u hW hsz hL hdep
              have d20 := hdep { on := 20, ground := .data } (by simp) rfl _ rfl
              have d25 := hdep { on := 25, ground := .data } (by simp) rfl _ rfl
              obtain ⟨y, ha, hy⟩ := hL.puts [96, 97, 98, 99, 100, 101, 102, 103, 104, 105, 106, 107, 108, 109, 110, 111, 112, 113, 114, 115, 116, 117, 118, 119, 120, 121, 122, 123, 124, 125, 4] (by kernel_rfl)
              have e20 : y 116 = _ := (hy 116).symm.trans d20
              have e25 : y 121 = _ := (hy 121).symm.trans d25
              clear hdep hL hy
              simp only [List.foldl, List.setIfInBounds_toArray, List.set_cons_succ, List.set_cons_zero, e20, e25] at ha
              subst ha
              clear e20 e25
              refine wpOp_step rfl (fun K hK => ?_)
              go_simp
              exact hK _ _ ⟨_, rfl, (by first | rfl | simp [K15]), grown_refl _ _, hW⟩
            · cases ho
              intro fu a' u hW hsz hL hdep
              have d26 := hdep { on := 26, ground := .data } (by simp) rfl _ rfl
              obtain ⟨y, ha, hy⟩ := hL.puts [96, 97, 98, 99, 100, 101, 102, 103, 104, 105, 106, 107, 108, 109, 110, 111, 112, 113, 114, 115, 116, 117, 118, 119, 120, 121, 122, 123, 124, 125, 4] (by kernel_rfl)
              have e26 : y 122 = _ := (hy 122).symm.trans d26
              clear hdep hL hy
              simp only [List.foldl, List.setIfInBounds_toArray, List.set_cons_succ, List.set_cons_zero, e26] at ha
              subst ha
              clear e26
              refine wpOp_step rfl (fun K hK => ?_)
              go_simp
              exact hK _ _ ⟨_, rfl, (by first | rfl | simp [K15]), grown_refl _ _, hW⟩
            · cases ho
              intro fu a' u hW hsz hL hdep
              have d27 := hdep { on := 27, ground := .guard } (by simp) rfl _ rfl
              obtain ⟨y, ha, hy⟩ := hL.puts [96, 97, 98, 99, 100, 101, 102, 103, 104, 105, 106, 107, 108, 109, 110, 111, 112, 113, 114, 115, 116, 117, 118, 119, 120, 121, 122, 123, 124, 125, 4] (by kernel_rfl)
              have e27 : y 123 = _ := (hy 123).symm.trans d27
              clear hdep hL hy
              simp only [List.foldl, List.setIfInBounds_toArray, List.set_cons_succ, List.set_cons_zero, e27] at ha
              subst ha
              clear e27
              refine wpOp_step rfl (fun K hK => ?_)
              go_simp
              refine (laws_haOk u).mono ?_
              rintro e u' ⟨rfl, rfl⟩
              go_simp
              exact hK _ _ ⟨_, rfl, (by first | rfl | simp [K15]), grown_refl _ _, hW⟩
            · cases ho
              intro fu a' u hW hsz hL hdep
              have d27 := hdep { on := 27, ground := .data } (by simp) rfl _ rfl
              have d28 := hdep { on := 28, ground := .data } (by simp) rfl _ rfl
              obtain ⟨y, ha, hy⟩ := hL.puts [96, 97, 98, 99, 100, 101, 102, 103, 104, 105, 106, 107, 108, 109, 110, 111, 112, 113, 114, 115, 116, 117, 118, 119, 120, 121, 122, 123, 124, 125, 4] (by kernel_rfl)
              have e27 : y 123 = _ := (hy 123).symm.trans d27
              have e28 : y 124 = _ := (hy 124).symm.trans d28
              clear hdep hL hy
              simp only [List.foldl, List.setIfInBounds_toArray, List.set_cons_succ, List.set_cons_zero, e27, e28] at ha
              subst ha
              clear e27 e28
              refine wpOp_step rfl (fun K hK => ?_)
              go_simp
              exact hK _ _ ⟨_, rfl, (by first | rfl | simp [K15]), grown_refl _ _, hW⟩
            · cases ho
              intro fu a' u hW hsz hL hdep
              have d29 := hdep { on := 29, ground := .data } (by simp) rfl _ rfl
              obtain ⟨y, ha, hy⟩ := hL.puts [96, 97, 98, 99, 100, 101, 102, 103, 104, 105, 106, 107, 108, 109, 110, 111, 112, 113, 114, 115, 116, 117, 118, 119, 120, 121, 122, 123, 124, 125, 4] (by kernel_rfl)
              have e29 : y 125 = _ := (hy 125).symm.trans d29
              clear hdep hL hy
              simp only [List.foldl, List.setIfInBounds_toArray, List.set_cons_succ, List.set_cons_zero, e29] at ha
              subst ha
              clear e29
              refine wpOp_step rfl (fun K hK => ?_)
              go_simp
              exact hK _ _ ⟨_, rfl, (by first | rfl | simp [K15]), grown_refl _ _, hW⟩
            · exact absurd ho (by simp)
          case fin =>
            intro fu a' u hW hg hL hF
            have d30 : _ = Value.bool true := hF 30 _ rfl
            obtain ⟨y, ha, hy⟩ := hL.puts [96, 97, 98, 99, 100, 101, 102, 103, 104, 105, 106, 107, 108, 109, 110, 111, 112, 113, 114, 115, 116, 117, 118, 119, 120, 121, 122, 123, 124, 125, 4] (by kernel_rfl)
            have e30 : y 4 = _ := (hy 4).symm.trans d30
            clear hL hF hy d30
            simp only [List.foldl, List.setIfInBounds_toArray, List.set_cons_succ, List.set_cons_zero, e30] at ha
            subst ha
            clear e30
            go_wp2
            go_ret
            exact ⟨rfl, Fr.trans F6 hW⟩

set_option maxRecDepth 100000 in
theorem lifted (os : Os) (started : os.Started) (H : Type) (enc : TypeId × Value → H) :
    ReturnsInHanded {} Tryd.checked os 5 .any (fun w args => (Rows.fnCodUsesSpec.pre enc Tryd.prog Tryd.f5 [] false w args ∧ laidMetH Tryd.prog laidAll w) ∧ sizedMet enc Tryd.prog Tryd.f5 (OpenSpec.ofChange Rows.fnCodUsesSpec) false w args)
      (Rows.fnCodUsesSpec.post enc Tryd.prog Tryd.f5 false true false false) := by
  refine returnsInHanded_of_change_and (C := Tryd.checked) (X := fun w _ => laidMetH Tryd.prog laidAll w) (fun _ _ _ hh h => h.of_heap hh) own started (by kernel_rfl) Tryd.func5
    (ChangeSpec.witness_shaped (enc := enc) (C := Tryd.checked) (os := os) (X := fun w _ => laidMetH Tryd.prog laidAll w) false (World.doorLaid Tryd.prog 400 os) #[.slice none 0 0, .slice none 0 0] 8 rfl (World.shaped_of_RefB (by kernel_rfl) (by kernel_rfl)) (by kernel_rfl) (by kernel_rfl) (by kernel_rfl) (door_met os _)) ?_
  intro W base args ds gs before hval0 hW _ _ hL _
  have hval : ∀ (j : Nat) t v, Tryd.f5.params[j]? = some t → args[j]? = some v → Value.okWide Tryd.prog W .any base t v := hval0
  have hW' := hW
  obtain ⟨p, q, hA0, hV0, rfl, hfz, hnd⟩ := hW
  have hA : DataW.TrodAll enc Tryd.prog W 0 (fun _ => true) true Tryd.f5.params.toList args.toList ds p := hA0
  have hV : DataW.TrodVars enc Tryd.prog W (fun _ => true) laidNames gs q := hV0
  rw [Tryd.params5] at hA hval
  obtain ⟨v0, vs0, d0, ds0, p0, q0, hargs, rfl, rfl, h0, r0⟩ := trodAll_cons hA
  obtain ⟨v1, vs1, d1, ds1, p1, q1, rfl, rfl, rfl, h1, r1⟩ := trodAll_cons r0
  obtain ⟨rfl, rfl, rfl⟩ := trodAll_nil r1
  obtain rfl : args = #[v0, v1] := by cases args; simp_all
  have hV1 := hV
  obtain ⟨g0, t0, cs0, f0, e0, s0, g1, t1, cs1, f1, e1, s1, rfl, _⟩ := trodVars_two hV1
  obtain ⟨a0, len0, cap0, rfl⟩ := okWide_slice Tryd.underlying22 (hval 0 22 v0 rfl rfl)
  have k0 := h0
  have lt0 : ∀ x ∈ p0, x.block < W.heap.size := by obtain ⟨m, hm⟩ := k0; exact DataW.trod_lt m _ _ _ hm
  obtain ⟨z0, w0⟩ : ∃ zs, IsRow .u8 W a0 len0 cap0 zs := by
    obtain ⟨fuel, hf⟩ := h0
    rcases open_ints Tryd.underlying22 Tryd.underlying5 (by kernel_rfl) hf with ⟨hcs, _⟩ | ⟨x, l, c, zs, hcs, _, hl, hm, hz, _, hcell, hwz⟩
    · simp [Value.cells] at hcs
      obtain ⟨rfl, rfl, rfl⟩ := hcs
      exact ⟨[], .inl ⟨rfl, rfl, rfl, rfl⟩⟩
    · simp [Value.cells] at hcs
      obtain ⟨rfl, rfl, rfl⟩ := hcs
      exact ⟨zs, .inr ⟨_, rfl, hl, hm, by simpa using hz, hcell, hwz⟩⟩
  obtain ⟨a1, len1, cap1, rfl⟩ := okWide_slice Tryd.underlying22 (hval 1 22 v1 rfl rfl)
  have k1 := h1
  have lt1 : ∀ x ∈ p1, x.block < W.heap.size := by obtain ⟨m, hm⟩ := k1; exact DataW.trod_lt m _ _ _ hm
  obtain ⟨z1, w1⟩ : ∃ zs, IsRow .u8 W a1 len1 cap1 zs := by
    obtain ⟨fuel, hf⟩ := h1
    rcases open_ints Tryd.underlying22 Tryd.underlying5 (by kernel_rfl) hf with ⟨hcs, _⟩ | ⟨x, l, c, zs, hcs, _, hl, hm, hz, _, hcell, hwz⟩
    · simp [Value.cells] at hcs
      obtain ⟨rfl, rfl, rfl⟩ := hcs
      exact ⟨[], .inl ⟨rfl, rfl, rfl, rfl⟩⟩
    · simp [Value.cells] at hcs
      obtain ⟨rfl, rfl, rfl⟩ := hcs
      exact ⟨zs, .inr ⟨_, rfl, hl, hm, by simpa using hz, hcell, hwz⟩⟩
  clear hA0 hval0 hV1
  refine (walk a0 len0 cap0 z0 a1 len1 cap1 z1 W (tabs_of_laid hL) w0 w1).mono fun e W' ⟨he, bel⟩ => ?_
  subst he
  exact ⟨_, rfl, _, _, _, [], _, _, hW', trodAll_mk1 (shut_bool Tryd.underlying4 _), (trodAll_cons_mk (Below.trod laidOut (by kernel_rfl) (of_decide_eq_true (by kernel_rfl)) k0 bel lt0) (trodAll_cons_mk (Below.trod laidOut (by kernel_rfl) (of_decide_eq_true (by kernel_rfl)) k1 bel lt1) trodAll_mk0)), bel.trodVars laidOut (by kernel_rfl) hV, bel.frame _, fun h => by cases h⟩

theorem over : Rows.fnCodUsesRow.holds Tryd.pinned (OpenSpec.ofChange Rows.fnCodUsesSpec) :=
  OpenClaim.holds_of_wide 5 Tryd.f5 rfl rfl rfl rfl rfl rfl rfl ⟨rfl, rfl, rfl, rfl, rfl⟩ rfl rfl rfl rfl rfl (by kernel_rfl) Tryd.func5 (by kernel_rfl)
    (of_decide_eq_true (by kernel_rfl)) (by unfold Func.isWrapper; first | (rw [if_pos (by decide +kernel)]; kernel_rfl) | (rw [if_neg (by decide +kernel)]; exact ⟨rfl, rfl⟩))
    (fun os started H enc _ => lifted os started H enc)

/-- THE STATEMENT: the tied card. -/
theorem proved : Rows.FnCodUsesCardSaid :=
  Claim7.holds_tied_plain_at .later [] [.wider, .data] true (true, "756414037e381c4a4d4b5db854b326f9094ec1dc1a8250e609331890c4ee4a44") false
    over (fun _ h => by cases h) (by kernel_rfl) (fun _ h => by cases h) fnCodUses_row_tie rfl ⟨rfl, rfl⟩ (by kernel_rfl) rfl
    (fun f fn hf hfn => by
      obtain rfl : f = 5 := Option.some.inj ((show Tryd.prog.funcNamed "loop.example/harbinger/laws.FnCodUses" = some 5 by kernel_rfl).symm.trans hf) |>.symm
      obtain rfl : fn = Tryd.f5 := (Option.some.inj (Tryd.func5.symm.trans hfn)).symm
      exact ⟨by kernel_rfl, fun j t ht => by
        rw [Tryd.params5] at ht
        have hm : t ∈ [22, 22] := by simpa using Array.mem_of_getElem? ht
        have hall : ([22, 22].all fun u => !Tryd.prog.wantsStandIn u) = true := by kernel_rfl
        exact (show Tryd.prog.wantsStandIn t = false by simpa using List.all_eq_true.1 hall t hm)⟩)
    (by kernel_rfl)
#print axioms proved
end Go.Proofs.YtlnpileicdggiaaDoor.fnCodUses
