/- How the program's machine stops, and goes on. -/
import Derived.Recover
import Derived.Test.YtbjapncfgancoaaDoorPm1
import Derived.Test.YtbjapncfgancoaaDoorRegion5
namespace Go.Proofs.YtbjapncfgancoaaDoor
open Go.RowKit
set_option linter.unusedVariables false
set_option linter.unusedSimpArgs false
theorem But.up' {L L' : List Nat} {w w' : World} (h : But L w w') (hL : ∀ k, k ∈ L → k ∈ L') : But L' w w' := h.mono (fun k hk _ => hL k hk)
/-- As many numbers as a machine has. -/
structure Lens (s : St) : Prop where
  Rl : s.R.length = 8
  Cl : s.C.length = 5
  Ml : s.M.length = 256
set_option maxRecDepth 8000 in
set_option maxHeartbeats 4000000 in
theorem mach_take (u0 : World) (m gr gc gm cr cc cm : Nat) (s : St) (e : Ev) (nx why : Int) (h : Mx u0 m gr gc gm cr cc cm s e nx) (hk : Lens s) (hc : 0 ≤ s.C.getD 3 0 ∧ s.C.getD 3 0 < 65536) :
    Calls Tryd.prog 74 #[.pointer (some ⟨m, 0, none⟩), .int .i64 why] u0 fun r u' => r = .returned (.tuple #[]) ∧ Mx u' m gr gc gm cr cc cm (stopS s why) { e with why := why } nx ∧ But [m, gr, gc, gm] u0 u' := by
  have HK := Lib.hid hk
  have HM := Lib.hid h
  have HC := Lib.hid hc
  clear h hk hc
  go_enter Tryd.func74, Tryd.ntmps74
  go_wp2_with fail
  refine wp_region_lots2 46 (fun i => if i = 11 then [gc] else []) (fun _ _ => True) (fun i v u => match i with | 0 => v = .pointer (some ⟨m, 0, none⟩) | 1 => v = .pointer (some ⟨m, 0, none⟩) | 2 => v = .pointer (some ⟨m, 0, none⟩) | 3 => v = .pointer (some ⟨m, 2, none⟩) | 4 => v = .slice (some ⟨gc, 0, none⟩) 5 cc | 5 => v = .pointer (some ⟨m, 0, none⟩) | 6 => v = .pointer (some ⟨m, 0, none⟩) | 7 => v = .pointer (some ⟨m, 0, none⟩) | 8 => v = .pointer (some ⟨m, 0, none⟩) | 9 => v = .int .i64 s.pc | 10 => v = .pointer (some ⟨gc, 0, none⟩) | 11 => (True ∧ Mx u m gr gc gm cr cc cm ⟨s.pc, s.R, s.C.set 0 s.pc, s.M⟩ e nx) | _ => True) ?mono (by kernel_rfl) (by kernel_rfl) rfl (by kernel_rfl) trivial ?step ?fin
  case mono =>
    intro i j v u u' hij hsz h hB
    rcases j with _ | _ | _ | _ | _ | _ | _ | _ | _ | _ | _ | _ | j
    · exact h
    · exact h
    · exact h
    · exact h
    · exact h
    · exact h
    · exact h
    · exact h
    · exact h
    · exact h
    · exact h
    · exact (by have hB2 : But [] u u' := (by have hx := hB; simp only [if_neg hij] at hx; exact hx); exact ⟨trivial, h.2.but hB2 (by simp) (by simp) (by simp) (by simp)⟩)
    · trivial
  case step =>
    intro i o ho
    rcases i with _ | _ | _ | _ | _ | _ | _ | _ | _ | _ | _ | _ | i
    · cases ho
      intro fu act u hW hB hsz hL hdep
      replace hB := hB [] (fun j hj hd k hk => by
        by_cases xz : j = 11
        · subst xz; exact (depT_no hd (by kernel_rfl)).elim
        rw [if_neg xz] at hk; cases hk)
      obtain ⟨ysl, ha, hy⟩ := hL.puts [4, 5, 6, 7, 8, 9, 10, 11, 12, 13, 14] (by kernel_rfl)
      clear hdep hL hy
      simp only [List.foldl, List.setIfInBounds_toArray, List.set_cons_succ, List.set_cons_zero] at ha
      subst ha
      refine wpOp_step rfl (fun K hK => ?_)
      go_simp
      exact hK _ _ ⟨_, rfl, (fun h => by cases h), (by first | rfl | (exact congrArg (Value.int .i64) (by rw [IntWalk.i64_left, IntWalk.wrap64_in _ (by omega)])) | simp), But.refl _ _, trivial⟩
    · cases ho
      intro fu act u hW hB hsz hL hdep
      replace hB := hB [] (fun j hj hd k hk => by
        by_cases xz : j = 11
        · subst xz; exact (depT_no hd (by kernel_rfl)).elim
        rw [if_neg xz] at hk; cases hk)
      have d0 := hdep { on := 0, ground := .data } (by simp) rfl _ rfl
      obtain ⟨ysl, ha, hy⟩ := hL.puts [4, 5, 6, 7, 8, 9, 10, 11, 12, 13, 14] (by kernel_rfl)
      have e0 : ysl 4 = .pointer (some ⟨m, 0, none⟩) := (hy 4).symm.trans d0
      clear hdep hL hy d0
      simp only [List.foldl, List.setIfInBounds_toArray, List.set_cons_succ, List.set_cons_zero, e0] at ha
      subst ha
      clear e0
      refine wpOp_step rfl (fun K hK => ?_)
      go_simp
      exact hK _ _ ⟨_, rfl, (fun h => by cases h), (by first | rfl | (exact congrArg (Value.int .i64) (by rw [IntWalk.i64_left, IntWalk.wrap64_in _ (by omega)])) | simp), But.refl _ _, trivial⟩
    · cases ho
      intro fu act u hW hB hsz hL hdep
      replace hB := hB [] (fun j hj hd k hk => by
        by_cases xz : j = 11
        · subst xz; exact (depT_no hd (by kernel_rfl)).elim
        rw [if_neg xz] at hk; cases hk)
      have d1 := hdep { on := 1, ground := .data } (by simp) rfl _ rfl
      obtain ⟨ysl, ha, hy⟩ := hL.puts [4, 5, 6, 7, 8, 9, 10, 11, 12, 13, 14] (by kernel_rfl)
      have e1 : ysl 5 = .pointer (some ⟨m, 0, none⟩) := (hy 5).symm.trans d1
      clear hdep hL hy d1
      simp only [List.foldl, List.setIfInBounds_toArray, List.set_cons_succ, List.set_cons_zero, e1] at ha
      subst ha
      clear e1
      refine wpOp_step rfl (fun K hK => ?_)
      go_simp
      exact hK _ _ ⟨_, rfl, (fun h => by cases h), (by first | rfl | (exact congrArg (Value.int .i64) (by rw [IntWalk.i64_left, IntWalk.wrap64_in _ (by omega)])) | simp), But.refl _ _, trivial⟩
    · cases ho
      intro fu act u hW hB hsz hL hdep
      replace hB := hB [] (fun j hj hd k hk => by
        by_cases xz : j = 11
        · subst xz; exact (depT_no hd (by kernel_rfl)).elim
        rw [if_neg xz] at hk; cases hk)
      have d2 := hdep { on := 2, ground := .data } (by simp) rfl _ rfl
      obtain ⟨ysl, ha, hy⟩ := hL.puts [4, 5, 6, 7, 8, 9, 10, 11, 12, 13, 14] (by kernel_rfl)
      have e2 : ysl 6 = .pointer (some ⟨m, 0, none⟩) := (hy 6).symm.trans d2
      clear hdep hL hy d2
      simp only [List.foldl, List.setIfInBounds_toArray, List.set_cons_succ, List.set_cons_zero, e2] at ha
      subst ha
      clear e2
      refine wpOp_step rfl (fun K hK => ?_)
      go_simp
      exact hK _ _ ⟨_, rfl, (fun h => by cases h), (by first | rfl | (exact congrArg (Value.int .i64) (by rw [IntWalk.i64_left, IntWalk.wrap64_in _ (by omega)])) | simp), But.refl _ _, trivial⟩
    · cases ho
      intro fu act u hW hB hsz hL hdep
      replace hB := hB [] (fun j hj hd k hk => by
        by_cases xz : j = 11
        · subst xz; exact (depT_no hd (by kernel_rfl)).elim
        rw [if_neg xz] at hk; cases hk)
      have d3 := hdep { on := 3, ground := .data } (by simp) rfl _ rfl
      obtain ⟨ysl, ha, hy⟩ := hL.puts [4, 5, 6, 7, 8, 9, 10, 11, 12, 13, 14] (by kernel_rfl)
      have e3 : ysl 7 = .pointer (some ⟨m, 2, none⟩) := (hy 7).symm.trans d3
      clear hdep hL hy d3
      simp only [List.foldl, List.setIfInBounds_toArray, List.set_cons_succ, List.set_cons_zero, e3] at ha
      subst ha
      clear e3
      have hm := HM.out.but hB (by simp) (by simp) (by simp) (by simp)
      have c := hm.cel 2 (by decide)
      simp only [mCells, List.getElem?_cons_succ, List.getElem?_cons_zero] at c
      clear hm
      refine wpOp_step rfl (fun K hK => ?_)
      go_simp
      exact hK _ _ ⟨_, rfl, (fun h => by cases h), (by first | rfl | (exact congrArg (Value.int .i64) (by rw [IntWalk.i64_left, IntWalk.wrap64_in _ (by omega)])) | simp), But.refl _ _, trivial⟩
    · cases ho
      intro fu act u hW hB hsz hL hdep
      replace hB := hB [] (fun j hj hd k hk => by
        by_cases xz : j = 11
        · subst xz; exact (depT_no hd (by kernel_rfl)).elim
        rw [if_neg xz] at hk; cases hk)
      obtain ⟨ysl, ha, hy⟩ := hL.puts [4, 5, 6, 7, 8, 9, 10, 11, 12, 13, 14] (by kernel_rfl)
      clear hdep hL hy
      simp only [List.foldl, List.setIfInBounds_toArray, List.set_cons_succ, List.set_cons_zero] at ha
      subst ha
      refine wpOp_step rfl (fun K hK => ?_)
      go_simp
      exact hK _ _ ⟨_, rfl, (fun h => by cases h), (by first | rfl | (exact congrArg (Value.int .i64) (by rw [IntWalk.i64_left, IntWalk.wrap64_in _ (by omega)])) | simp), But.refl _ _, trivial⟩
    · cases ho
      intro fu act u hW hB hsz hL hdep
      replace hB := hB [] (fun j hj hd k hk => by
        by_cases xz : j = 11
        · subst xz; exact (depT_no hd (by kernel_rfl)).elim
        rw [if_neg xz] at hk; cases hk)
      have d5 := hdep { on := 5, ground := .data } (by simp) rfl _ rfl
      obtain ⟨ysl, ha, hy⟩ := hL.puts [4, 5, 6, 7, 8, 9, 10, 11, 12, 13, 14] (by kernel_rfl)
      have e5 : ysl 9 = .pointer (some ⟨m, 0, none⟩) := (hy 9).symm.trans d5
      clear hdep hL hy d5
      simp only [List.foldl, List.setIfInBounds_toArray, List.set_cons_succ, List.set_cons_zero, e5] at ha
      subst ha
      clear e5
      refine wpOp_step rfl (fun K hK => ?_)
      go_simp
      exact hK _ _ ⟨_, rfl, (fun h => by cases h), (by first | rfl | (exact congrArg (Value.int .i64) (by rw [IntWalk.i64_left, IntWalk.wrap64_in _ (by omega)])) | simp), But.refl _ _, trivial⟩
    · cases ho
      intro fu act u hW hB hsz hL hdep
      replace hB := hB [] (fun j hj hd k hk => by
        by_cases xz : j = 11
        · subst xz; exact (depT_no hd (by kernel_rfl)).elim
        rw [if_neg xz] at hk; cases hk)
      have d6 := hdep { on := 6, ground := .data } (by simp) rfl _ rfl
      obtain ⟨ysl, ha, hy⟩ := hL.puts [4, 5, 6, 7, 8, 9, 10, 11, 12, 13, 14] (by kernel_rfl)
      have e6 : ysl 10 = .pointer (some ⟨m, 0, none⟩) := (hy 10).symm.trans d6
      clear hdep hL hy d6
      simp only [List.foldl, List.setIfInBounds_toArray, List.set_cons_succ, List.set_cons_zero, e6] at ha
      subst ha
      clear e6
      refine wpOp_step rfl (fun K hK => ?_)
      go_simp
      exact hK _ _ ⟨_, rfl, (fun h => by cases h), (by first | rfl | (exact congrArg (Value.int .i64) (by rw [IntWalk.i64_left, IntWalk.wrap64_in _ (by omega)])) | simp), But.refl _ _, trivial⟩
    · cases ho
      intro fu act u hW hB hsz hL hdep
      replace hB := hB [] (fun j hj hd k hk => by
        by_cases xz : j = 11
        · subst xz; exact (depT_no hd (by kernel_rfl)).elim
        rw [if_neg xz] at hk; cases hk)
      have d7 := hdep { on := 7, ground := .data } (by simp) rfl _ rfl
      obtain ⟨ysl, ha, hy⟩ := hL.puts [4, 5, 6, 7, 8, 9, 10, 11, 12, 13, 14] (by kernel_rfl)
      have e7 : ysl 11 = .pointer (some ⟨m, 0, none⟩) := (hy 11).symm.trans d7
      clear hdep hL hy d7
      simp only [List.foldl, List.setIfInBounds_toArray, List.set_cons_succ, List.set_cons_zero, e7] at ha
      subst ha
      clear e7
      refine wpOp_step rfl (fun K hK => ?_)
      go_simp
      exact hK _ _ ⟨_, rfl, (fun h => by cases h), (by first | rfl | (exact congrArg (Value.int .i64) (by rw [IntWalk.i64_left, IntWalk.wrap64_in _ (by omega)])) | simp), But.refl _ _, trivial⟩
    · cases ho
      intro fu act u hW hB hsz hL hdep
      replace hB := hB [] (fun j hj hd k hk => by
        by_cases xz : j = 11
        · subst xz; exact (depT_no hd (by kernel_rfl)).elim
        rw [if_neg xz] at hk; cases hk)
      have d8 := hdep { on := 8, ground := .data } (by simp) rfl _ rfl
      obtain ⟨ysl, ha, hy⟩ := hL.puts [4, 5, 6, 7, 8, 9, 10, 11, 12, 13, 14] (by kernel_rfl)
      have e8 : ysl 12 = .pointer (some ⟨m, 0, none⟩) := (hy 12).symm.trans d8
      clear hdep hL hy d8
      simp only [List.foldl, List.setIfInBounds_toArray, List.set_cons_succ, List.set_cons_zero, e8] at ha
      subst ha
      clear e8
      have hm := HM.out.but hB (by simp) (by simp) (by simp) (by simp)
      have c := hm.cel 0 (by decide)
      simp only [mCells, List.getElem?_cons_succ, List.getElem?_cons_zero] at c
      clear hm
      refine wpOp_step rfl (fun K hK => ?_)
      go_simp
      exact hK _ _ ⟨_, rfl, (fun h => by cases h), (by first | rfl | (exact congrArg (Value.int .i64) (by rw [IntWalk.i64_left, IntWalk.wrap64_in _ (by omega)])) | simp), But.refl _ _, trivial⟩
    · cases ho
      intro fu act u hW hB hsz hL hdep
      replace hB := hB [] (fun j hj hd k hk => by
        by_cases xz : j = 11
        · subst xz; exact (depT_no hd (by kernel_rfl)).elim
        rw [if_neg xz] at hk; cases hk)
      have d4 := hdep { on := 4, ground := .data } (by simp) rfl _ rfl
      obtain ⟨ysl, ha, hy⟩ := hL.puts [4, 5, 6, 7, 8, 9, 10, 11, 12, 13, 14] (by kernel_rfl)
      have e4 : ysl 8 = .slice (some ⟨gc, 0, none⟩) 5 cc := (hy 8).symm.trans d4
      clear hdep hL hy d4
      simp only [List.foldl, List.setIfInBounds_toArray, List.set_cons_succ, List.set_cons_zero, e4] at ha
      subst ha
      clear e4
      refine wpOp_step rfl (fun K hK => ?_)
      go_simp
      exact hK _ _ ⟨_, rfl, (fun h => by cases h), (by first | rfl | (exact congrArg (Value.int .i64) (by rw [IntWalk.i64_left, IntWalk.wrap64_in _ (by omega)])) | simp), But.refl _ _, trivial⟩
    · cases ho
      intro fu act u hW hB hsz hL hdep
      replace hB := hB [] (fun j hj hd k hk => by
        rw [if_neg hj] at hk; cases hk)
      have d9 := hdep { on := 9, ground := .data } (by simp) rfl _ rfl
      have d10 := hdep { on := 10, ground := .data } (by simp) rfl _ rfl
      obtain ⟨ysl, ha, hy⟩ := hL.puts [4, 5, 6, 7, 8, 9, 10, 11, 12, 13, 14] (by kernel_rfl)
      have e9 : ysl 13 = .int .i64 s.pc := (hy 13).symm.trans d9
      have e10 : ysl 14 = .pointer (some ⟨gc, 0, none⟩) := (hy 14).symm.trans d10
      clear hdep hL hy d9 d10
      simp only [List.foldl, List.setIfInBounds_toArray, List.set_cons_succ, List.set_cons_zero, e9, e10] at ha
      subst ha
      clear e9 e10
      have hm := (HM.out.but hB (by simp) (by simp) (by simp) (by simp))
      have c := hm.ow.C.cel 0 (by rw [HK.out.Cl]; omega)
      have c' := hm.ow.C.fro 0 (by rw [HK.out.Cl]; omega)
      refine wpOp_step rfl (fun K hK => ?_)
      go_simp
      exact hK _ _ ⟨undef, rfl, (fun _ => rfl), ⟨trivial, hm.setC 0 s.pc (by rw [HK.out.Cl]; omega)⟩, (But.refl [gc] u).set gc _ _ (.inl (by simp)), trivial⟩
    · exact absurd ho (by simp)
  case fin =>
    intro act u hW hsz hB hL hsf
    replace hB := hB [gc] (fun j k hk => by
      by_cases yz : j = 11
      · rw [if_pos yz] at hk; exact hk
      rw [if_neg yz] at hk
      cases hk)
    have d11 := hsf 11 _ rfl
    obtain ⟨ysl, ha, hy⟩ := hL.puts [4, 5, 6, 7, 8, 9, 10, 11, 12, 13, 14] (by kernel_rfl)
    clear hL hsf hy
    simp only [List.foldl, List.setIfInBounds_toArray, List.set_cons_succ, List.set_cons_zero] at ha
    subst ha
    obtain ⟨_, hM'⟩ := d11
    have HB1 := Lib.hid (But.up' (L' := [m, gr, gc, gm]) hB (fun k hk => by simp at hk ⊢; omega))
    have c2 := hM'.cel 2 (by decide)
    simp only [mCells, List.getElem?_cons_succ, List.getElem?_cons_zero] at c2
    have g1 := hM'.ow.C.cel 1 (by simp [HK.out.Cl])
    have k1 := hM'.ow.C.fro 1 (by simp [HK.out.Cl])
    obtain ⟨o1, ho1⟩ : ∃ x, (s.C.set 0 s.pc).getD 1 0 = x := ⟨_, rfl⟩
    rw [ho1] at g1
    have HM1 := Lib.hid hM'
    clear hM' hB hW HM ho1
    go_upto_region 2 with fail
    have h2 := HM1.out.setC 1 why (by simp [HK.out.Cl])
    have HB2 := Lib.hid (HB1.out.set gc 1 (.int .i64 why) (.inl (by simp)))
    obtain ⟨s2, hs2⟩ : ∃ x : St, (⟨s.pc, s.R, (s.C.set 0 s.pc).set 1 why, s.M⟩ : St) = x := ⟨_, rfl⟩
    have h2' : Mx (u.setCell ⟨gc, 1, none⟩ (.int .i64 why)) m gr gc gm cr cc cm s2 e nx := by rw [← hs2]; exact h2
    have HST := Lib.hid (show stopS s why = ⟨8, s2.R, s2.C.set 3 (2 * (s2.C.getD 3 0 % 2)), s2.M⟩ by
      rw [← hs2]
      simp only [stopS, stopC, getD_set]
      simp)
    have hc2 : 0 ≤ s2.C.getD 3 0 ∧ s2.C.getD 3 0 < 65536 := by
      rw [← hs2]
      simp only [getD_set]
      have := HC.out
      simpa using this
    have HK2 := Lib.hid (show Lens s2 from by rw [← hs2]; exact ⟨HK.out.Rl, by simp [HK.out.Cl], HK.out.Ml⟩)
    have HM2 := Lib.hid h2'
    clear h2 h2' HM1 HB1 HK HC hs2
    have HB := Lib.hid HB2.out
    clear HB2
    generalize (u.setCell ⟨gc, 1, none⟩ (.int .i64 why)) = u3 at *
    clear c2 g1 k1
    obtain ⟨v3, hv3⟩ : ∃ x, s2.C.getD 3 0 = x := ⟨_, rfl⟩
    rw [hv3] at hc2
    obtain ⟨q0, q1⟩ := hc2
    have htm : v3.tmod 2 = v3 % 2 := Int.tmod_eq_emod_of_nonneg q0
    have HV3 := Lib.hid hv3.symm
    refine wp_region_lots2 46 (fun i => if i = 15 then [gc] else []) (fun _ _ => True) (fun i v u => match i with | 0 => v = .pointer (some ⟨m, 0, none⟩) | 1 => v = .pointer (some ⟨m, 0, none⟩) | 2 => v = .pointer (some ⟨m, 0, none⟩) | 3 => v = .pointer (some ⟨m, 2, none⟩) | 4 => v = .slice (some ⟨gc, 0, none⟩) 5 cc | 5 => v = .pointer (some ⟨m, 0, none⟩) | 6 => v = .pointer (some ⟨m, 0, none⟩) | 7 => v = .pointer (some ⟨m, 0, none⟩) | 8 => v = .pointer (some ⟨m, 2, none⟩) | 9 => v = .slice (some ⟨gc, 0, none⟩) 5 cc | 10 => v = .pointer (some ⟨gc, 3, none⟩) | 11 => v = .int .i64 v3 | 12 => v = .int .i64 (v3 % 2) | 13 => v = .int .i64 (2 * (v3 % 2)) | 14 => v = .pointer (some ⟨gc, 3, none⟩) | 15 => (True ∧ Mx u m gr gc gm cr cc cm ⟨s2.pc, s2.R, s2.C.set 3 (2 * (v3 % 2)), s2.M⟩ e nx) | _ => True) ?mono (by kernel_rfl) (by kernel_rfl) rfl (by kernel_rfl) trivial ?step ?fin
    case mono =>
      intro i j v u u' hij hsz h hB
      rcases j with _ | _ | _ | _ | _ | _ | _ | _ | _ | _ | _ | _ | _ | _ | _ | _ | j
      · exact h
      · exact h
      · exact h
      · exact h
      · exact h
      · exact h
      · exact h
      · exact h
      · exact h
      · exact h
      · exact h
      · exact h
      · exact h
      · exact h
      · exact h
      · exact (by have hB2 : But [] u u' := (by have hx := hB; simp only [if_neg hij] at hx; exact hx); exact ⟨trivial, h.2.but hB2 (by simp) (by simp) (by simp) (by simp)⟩)
      · trivial
    case step =>
      intro i o ho
      rcases i with _ | _ | _ | _ | _ | _ | _ | _ | _ | _ | _ | _ | _ | _ | _ | _ | i
      · cases ho
        intro fu act u hW hB hsz hL hdep
        replace hB := hB [] (fun j hj hd k hk => by
          by_cases xz : j = 15
          · subst xz; exact (depT_no hd (by kernel_rfl)).elim
          rw [if_neg xz] at hk; cases hk)
        obtain ⟨ysl, ha, hy⟩ := hL.puts [22, 23, 24, 25, 26, 27, 28, 29, 30, 31, 32, 33, 34, 35, 36] (by kernel_rfl)
        clear hdep hL hy
        simp only [List.foldl, List.setIfInBounds_toArray, List.set_cons_succ, List.set_cons_zero] at ha
        subst ha
        refine wpOp_step rfl (fun K hK => ?_)
        go_simp
        exact hK _ _ ⟨_, rfl, (fun h => by cases h), (by first | rfl | (exact congrArg (Value.int .i64) (by rw [IntWalk.i64_left, IntWalk.wrap64_in _ (by omega)])) | simp), But.refl _ _, trivial⟩
      · cases ho
        intro fu act u hW hB hsz hL hdep
        replace hB := hB [] (fun j hj hd k hk => by
          by_cases xz : j = 15
          · subst xz; exact (depT_no hd (by kernel_rfl)).elim
          rw [if_neg xz] at hk; cases hk)
        have d0 := hdep { on := 0, ground := .data } (by simp) rfl _ rfl
        obtain ⟨ysl, ha, hy⟩ := hL.puts [22, 23, 24, 25, 26, 27, 28, 29, 30, 31, 32, 33, 34, 35, 36] (by kernel_rfl)
        have e0 : ysl 22 = .pointer (some ⟨m, 0, none⟩) := (hy 22).symm.trans d0
        clear hdep hL hy d0
        simp only [List.foldl, List.setIfInBounds_toArray, List.set_cons_succ, List.set_cons_zero, e0] at ha
        subst ha
        clear e0
        refine wpOp_step rfl (fun K hK => ?_)
        go_simp
        exact hK _ _ ⟨_, rfl, (fun h => by cases h), (by first | rfl | (exact congrArg (Value.int .i64) (by rw [IntWalk.i64_left, IntWalk.wrap64_in _ (by omega)])) | simp), But.refl _ _, trivial⟩
      · cases ho
        intro fu act u hW hB hsz hL hdep
        replace hB := hB [] (fun j hj hd k hk => by
          by_cases xz : j = 15
          · subst xz; exact (depT_no hd (by kernel_rfl)).elim
          rw [if_neg xz] at hk; cases hk)
        have d1 := hdep { on := 1, ground := .data } (by simp) rfl _ rfl
        obtain ⟨ysl, ha, hy⟩ := hL.puts [22, 23, 24, 25, 26, 27, 28, 29, 30, 31, 32, 33, 34, 35, 36] (by kernel_rfl)
        have e1 : ysl 23 = .pointer (some ⟨m, 0, none⟩) := (hy 23).symm.trans d1
        clear hdep hL hy d1
        simp only [List.foldl, List.setIfInBounds_toArray, List.set_cons_succ, List.set_cons_zero, e1] at ha
        subst ha
        clear e1
        refine wpOp_step rfl (fun K hK => ?_)
        go_simp
        exact hK _ _ ⟨_, rfl, (fun h => by cases h), (by first | rfl | (exact congrArg (Value.int .i64) (by rw [IntWalk.i64_left, IntWalk.wrap64_in _ (by omega)])) | simp), But.refl _ _, trivial⟩
      · cases ho
        intro fu act u hW hB hsz hL hdep
        replace hB := hB [] (fun j hj hd k hk => by
          by_cases xz : j = 15
          · subst xz; exact (depT_no hd (by kernel_rfl)).elim
          rw [if_neg xz] at hk; cases hk)
        have d2 := hdep { on := 2, ground := .data } (by simp) rfl _ rfl
        obtain ⟨ysl, ha, hy⟩ := hL.puts [22, 23, 24, 25, 26, 27, 28, 29, 30, 31, 32, 33, 34, 35, 36] (by kernel_rfl)
        have e2 : ysl 24 = .pointer (some ⟨m, 0, none⟩) := (hy 24).symm.trans d2
        clear hdep hL hy d2
        simp only [List.foldl, List.setIfInBounds_toArray, List.set_cons_succ, List.set_cons_zero, e2] at ha
        subst ha
        clear e2
        refine wpOp_step rfl (fun K hK => ?_)
        go_simp
        exact hK _ _ ⟨_, rfl, (fun h => by cases h), (by first | rfl | (exact congrArg (Value.int .i64) (by rw [IntWalk.i64_left, IntWalk.wrap64_in _ (by omega)])) | simp), But.refl _ _, trivial⟩
      · cases ho
        intro fu act u hW hB hsz hL hdep
        replace hB := hB [] (fun j hj hd k hk => by
          by_cases xz : j = 15
          · subst xz; exact (depT_no hd (by kernel_rfl)).elim
          rw [if_neg xz] at hk; cases hk)
        have d3 := hdep { on := 3, ground := .data } (by simp) rfl _ rfl
        obtain ⟨ysl, ha, hy⟩ := hL.puts [22, 23, 24, 25, 26, 27, 28, 29, 30, 31, 32, 33, 34, 35, 36] (by kernel_rfl)
        have e3 : ysl 25 = .pointer (some ⟨m, 2, none⟩) := (hy 25).symm.trans d3
        clear hdep hL hy d3
        simp only [List.foldl, List.setIfInBounds_toArray, List.set_cons_succ, List.set_cons_zero, e3] at ha
        subst ha
        clear e3
        have hm := HM2.out.but hB (by simp) (by simp) (by simp) (by simp)
        have c := hm.cel 2 (by decide)
        simp only [mCells, List.getElem?_cons_succ, List.getElem?_cons_zero] at c
        clear hm
        refine wpOp_step rfl (fun K hK => ?_)
        go_simp
        exact hK _ _ ⟨_, rfl, (fun h => by cases h), (by first | rfl | (exact congrArg (Value.int .i64) (by rw [IntWalk.i64_left, IntWalk.wrap64_in _ (by omega)])) | simp), But.refl _ _, trivial⟩
      · cases ho
        intro fu act u hW hB hsz hL hdep
        replace hB := hB [] (fun j hj hd k hk => by
          by_cases xz : j = 15
          · subst xz; exact (depT_no hd (by kernel_rfl)).elim
          rw [if_neg xz] at hk; cases hk)
        obtain ⟨ysl, ha, hy⟩ := hL.puts [22, 23, 24, 25, 26, 27, 28, 29, 30, 31, 32, 33, 34, 35, 36] (by kernel_rfl)
        clear hdep hL hy
        simp only [List.foldl, List.setIfInBounds_toArray, List.set_cons_succ, List.set_cons_zero] at ha
        subst ha
        refine wpOp_step rfl (fun K hK => ?_)
        go_simp
        exact hK _ _ ⟨_, rfl, (fun h => by cases h), (by first | rfl | (exact congrArg (Value.int .i64) (by rw [IntWalk.i64_left, IntWalk.wrap64_in _ (by omega)])) | simp), But.refl _ _, trivial⟩
      · cases ho
        intro fu act u hW hB hsz hL hdep
        replace hB := hB [] (fun j hj hd k hk => by
          by_cases xz : j = 15
          · subst xz; exact (depT_no hd (by kernel_rfl)).elim
          rw [if_neg xz] at hk; cases hk)
        have d5 := hdep { on := 5, ground := .data } (by simp) rfl _ rfl
        obtain ⟨ysl, ha, hy⟩ := hL.puts [22, 23, 24, 25, 26, 27, 28, 29, 30, 31, 32, 33, 34, 35, 36] (by kernel_rfl)
        have e5 : ysl 27 = .pointer (some ⟨m, 0, none⟩) := (hy 27).symm.trans d5
        clear hdep hL hy d5
        simp only [List.foldl, List.setIfInBounds_toArray, List.set_cons_succ, List.set_cons_zero, e5] at ha
        subst ha
        clear e5
        refine wpOp_step rfl (fun K hK => ?_)
        go_simp
        exact hK _ _ ⟨_, rfl, (fun h => by cases h), (by first | rfl | (exact congrArg (Value.int .i64) (by rw [IntWalk.i64_left, IntWalk.wrap64_in _ (by omega)])) | simp), But.refl _ _, trivial⟩
      · cases ho
        intro fu act u hW hB hsz hL hdep
        replace hB := hB [] (fun j hj hd k hk => by
          by_cases xz : j = 15
          · subst xz; exact (depT_no hd (by kernel_rfl)).elim
          rw [if_neg xz] at hk; cases hk)
        have d6 := hdep { on := 6, ground := .data } (by simp) rfl _ rfl
        obtain ⟨ysl, ha, hy⟩ := hL.puts [22, 23, 24, 25, 26, 27, 28, 29, 30, 31, 32, 33, 34, 35, 36] (by kernel_rfl)
        have e6 : ysl 28 = .pointer (some ⟨m, 0, none⟩) := (hy 28).symm.trans d6
        clear hdep hL hy d6
        simp only [List.foldl, List.setIfInBounds_toArray, List.set_cons_succ, List.set_cons_zero, e6] at ha
        subst ha
        clear e6
        refine wpOp_step rfl (fun K hK => ?_)
        go_simp
        exact hK _ _ ⟨_, rfl, (fun h => by cases h), (by first | rfl | (exact congrArg (Value.int .i64) (by rw [IntWalk.i64_left, IntWalk.wrap64_in _ (by omega)])) | simp), But.refl _ _, trivial⟩
      · cases ho
        intro fu act u hW hB hsz hL hdep
        replace hB := hB [] (fun j hj hd k hk => by
          by_cases xz : j = 15
          · subst xz; exact (depT_no hd (by kernel_rfl)).elim
          rw [if_neg xz] at hk; cases hk)
        have d7 := hdep { on := 7, ground := .data } (by simp) rfl _ rfl
        obtain ⟨ysl, ha, hy⟩ := hL.puts [22, 23, 24, 25, 26, 27, 28, 29, 30, 31, 32, 33, 34, 35, 36] (by kernel_rfl)
        have e7 : ysl 29 = .pointer (some ⟨m, 0, none⟩) := (hy 29).symm.trans d7
        clear hdep hL hy d7
        simp only [List.foldl, List.setIfInBounds_toArray, List.set_cons_succ, List.set_cons_zero, e7] at ha
        subst ha
        clear e7
        refine wpOp_step rfl (fun K hK => ?_)
        go_simp
        exact hK _ _ ⟨_, rfl, (fun h => by cases h), (by first | rfl | (exact congrArg (Value.int .i64) (by rw [IntWalk.i64_left, IntWalk.wrap64_in _ (by omega)])) | simp), But.refl _ _, trivial⟩
      · cases ho
        intro fu act u hW hB hsz hL hdep
        replace hB := hB [] (fun j hj hd k hk => by
          by_cases xz : j = 15
          · subst xz; exact (depT_no hd (by kernel_rfl)).elim
          rw [if_neg xz] at hk; cases hk)
        have d8 := hdep { on := 8, ground := .data } (by simp) rfl _ rfl
        obtain ⟨ysl, ha, hy⟩ := hL.puts [22, 23, 24, 25, 26, 27, 28, 29, 30, 31, 32, 33, 34, 35, 36] (by kernel_rfl)
        have e8 : ysl 30 = .pointer (some ⟨m, 2, none⟩) := (hy 30).symm.trans d8
        clear hdep hL hy d8
        simp only [List.foldl, List.setIfInBounds_toArray, List.set_cons_succ, List.set_cons_zero, e8] at ha
        subst ha
        clear e8
        have hm := HM2.out.but hB (by simp) (by simp) (by simp) (by simp)
        have c := hm.cel 2 (by decide)
        simp only [mCells, List.getElem?_cons_succ, List.getElem?_cons_zero] at c
        clear hm
        refine wpOp_step rfl (fun K hK => ?_)
        go_simp
        exact hK _ _ ⟨_, rfl, (fun h => by cases h), (by first | rfl | (exact congrArg (Value.int .i64) (by rw [IntWalk.i64_left, IntWalk.wrap64_in _ (by omega)])) | simp), But.refl _ _, trivial⟩
      · cases ho
        intro fu act u hW hB hsz hL hdep
        replace hB := hB [] (fun j hj hd k hk => by
          by_cases xz : j = 15
          · subst xz; exact (depT_no hd (by kernel_rfl)).elim
          rw [if_neg xz] at hk; cases hk)
        have d9 := hdep { on := 9, ground := .data } (by simp) rfl _ rfl
        obtain ⟨ysl, ha, hy⟩ := hL.puts [22, 23, 24, 25, 26, 27, 28, 29, 30, 31, 32, 33, 34, 35, 36] (by kernel_rfl)
        have e9 : ysl 31 = .slice (some ⟨gc, 0, none⟩) 5 cc := (hy 31).symm.trans d9
        clear hdep hL hy d9
        simp only [List.foldl, List.setIfInBounds_toArray, List.set_cons_succ, List.set_cons_zero, e9] at ha
        subst ha
        clear e9
        refine wpOp_step rfl (fun K hK => ?_)
        go_simp
        exact hK _ _ ⟨_, rfl, (fun h => by cases h), (by first | rfl | (exact congrArg (Value.int .i64) (by rw [IntWalk.i64_left, IntWalk.wrap64_in _ (by omega)])) | simp), But.refl _ _, trivial⟩
      · cases ho
        intro fu act u hW hB hsz hL hdep
        replace hB := hB [] (fun j hj hd k hk => by
          by_cases xz : j = 15
          · subst xz; exact (depT_no hd (by kernel_rfl)).elim
          rw [if_neg xz] at hk; cases hk)
        have d10 := hdep { on := 10, ground := .data } (by simp) rfl _ rfl
        obtain ⟨ysl, ha, hy⟩ := hL.puts [22, 23, 24, 25, 26, 27, 28, 29, 30, 31, 32, 33, 34, 35, 36] (by kernel_rfl)
        have e10 : ysl 32 = .pointer (some ⟨gc, 3, none⟩) := (hy 32).symm.trans d10
        clear hdep hL hy d10
        simp only [List.foldl, List.setIfInBounds_toArray, List.set_cons_succ, List.set_cons_zero, e10] at ha
        subst ha
        clear e10
        have hm := HM2.out.but hB (by simp) (by simp) (by simp) (by simp)
        have c := hm.ow.C.cel (3) (by have h1 := HK2.out.Rl; have h2 := HK2.out.Cl; have h3 := HK2.out.Ml; omega)
        clear hm
        rw [hv3] at c
        refine wpOp_step rfl (fun K hK => ?_)
        go_simp
        exact hK _ _ ⟨_, rfl, (fun h => by cases h), (by first | rfl | (exact congrArg (Value.int .i64) (by rw [IntWalk.i64_left, IntWalk.wrap64_in _ (by omega)])) | simp), But.refl _ _, trivial⟩
      · cases ho
        intro fu act u hW hB hsz hL hdep
        replace hB := hB [] (fun j hj hd k hk => by
          by_cases xz : j = 15
          · subst xz; exact (depT_no hd (by kernel_rfl)).elim
          rw [if_neg xz] at hk; cases hk)
        have d11 := hdep { on := 11, ground := .data } (by simp) rfl _ rfl
        obtain ⟨ysl, ha, hy⟩ := hL.puts [22, 23, 24, 25, 26, 27, 28, 29, 30, 31, 32, 33, 34, 35, 36] (by kernel_rfl)
        have e11 : ysl 33 = .int .i64 v3 := (hy 33).symm.trans d11
        clear hdep hL hy d11
        simp only [List.foldl, List.setIfInBounds_toArray, List.set_cons_succ, List.set_cons_zero, e11] at ha
        subst ha
        clear e11
        refine wpOp_step rfl (fun K hK => ?_)
        go_simp
        exact hK _ _ ⟨_, rfl, (fun h => by cases h), (by first | rfl | (exact congrArg (Value.int .i64) (by rw [IntWalk.i64_left, IntWalk.wrap64_in _ (by omega)])) | simp), But.refl _ _, trivial⟩
      · cases ho
        intro fu act u hW hB hsz hL hdep
        replace hB := hB [] (fun j hj hd k hk => by
          by_cases xz : j = 15
          · subst xz; exact (depT_no hd (by kernel_rfl)).elim
          rw [if_neg xz] at hk; cases hk)
        have d12 := hdep { on := 12, ground := .data } (by simp) rfl _ rfl
        obtain ⟨ysl, ha, hy⟩ := hL.puts [22, 23, 24, 25, 26, 27, 28, 29, 30, 31, 32, 33, 34, 35, 36] (by kernel_rfl)
        have e12 : ysl 34 = .int .i64 (v3 % 2) := (hy 34).symm.trans d12
        clear hdep hL hy d12
        simp only [List.foldl, List.setIfInBounds_toArray, List.set_cons_succ, List.set_cons_zero, e12] at ha
        subst ha
        clear e12
        refine wpOp_step rfl (fun K hK => ?_)
        go_simp
        exact hK _ _ ⟨_, rfl, (fun h => by cases h), (by first | rfl | (exact congrArg (Value.int .i64) (by rw [IntWalk.i64_left, IntWalk.wrap64_in _ (by omega)])) | simp), But.refl _ _, trivial⟩
      · cases ho
        intro fu act u hW hB hsz hL hdep
        replace hB := hB [] (fun j hj hd k hk => by
          by_cases xz : j = 15
          · subst xz; exact (depT_no hd (by kernel_rfl)).elim
          rw [if_neg xz] at hk; cases hk)
        have d4 := hdep { on := 4, ground := .data } (by simp) rfl _ rfl
        obtain ⟨ysl, ha, hy⟩ := hL.puts [22, 23, 24, 25, 26, 27, 28, 29, 30, 31, 32, 33, 34, 35, 36] (by kernel_rfl)
        have e4 : ysl 26 = .slice (some ⟨gc, 0, none⟩) 5 cc := (hy 26).symm.trans d4
        clear hdep hL hy d4
        simp only [List.foldl, List.setIfInBounds_toArray, List.set_cons_succ, List.set_cons_zero, e4] at ha
        subst ha
        clear e4
        refine wpOp_step rfl (fun K hK => ?_)
        go_simp
        exact hK _ _ ⟨_, rfl, (fun h => by cases h), (by first | rfl | (exact congrArg (Value.int .i64) (by rw [IntWalk.i64_left, IntWalk.wrap64_in _ (by omega)])) | simp), But.refl _ _, trivial⟩
      · cases ho
        intro fu act u hW hB hsz hL hdep
        replace hB := hB [] (fun j hj hd k hk => by
          rw [if_neg hj] at hk; cases hk)
        have d13 := hdep { on := 13, ground := .data } (by simp) rfl _ rfl
        have d14 := hdep { on := 14, ground := .data } (by simp) rfl _ rfl
        obtain ⟨ysl, ha, hy⟩ := hL.puts [22, 23, 24, 25, 26, 27, 28, 29, 30, 31, 32, 33, 34, 35, 36] (by kernel_rfl)
        have e13 : ysl 35 = .int .i64 (2 * (v3 % 2)) := (hy 35).symm.trans d13
        have e14 : ysl 36 = .pointer (some ⟨gc, 3, none⟩) := (hy 36).symm.trans d14
        clear hdep hL hy d13 d14
        simp only [List.foldl, List.setIfInBounds_toArray, List.set_cons_succ, List.set_cons_zero, e13, e14] at ha
        subst ha
        clear e13 e14
        have hm := (HM2.out.but hB (by simp) (by simp) (by simp) (by simp))
        have c := hm.ow.C.cel 3 (by rw [HK2.out.Cl]; omega)
        have c' := hm.ow.C.fro 3 (by rw [HK2.out.Cl]; omega)
        refine wpOp_step rfl (fun K hK => ?_)
        go_simp
        exact hK _ _ ⟨undef, rfl, (fun _ => rfl), ⟨trivial, hm.setC 3 (2 * (v3 % 2)) (by rw [HK2.out.Cl]; omega)⟩, (But.refl [gc] u).set gc _ _ (.inl (by simp)), trivial⟩
      · exact absurd ho (by simp)
    case fin =>
      intro act u hW hsz hB hL hsf
      replace hB := hB [gc] (fun j k hk => by
        by_cases yz : j = 15
        · rw [if_pos yz] at hk; exact hk
        rw [if_neg yz] at hk
        cases hk)
      have d15 := hsf 15 _ rfl
      obtain ⟨ysl, ha, hy⟩ := hL.puts [22, 23, 24, 25, 26, 27, 28, 29, 30, 31, 32, 33, 34, 35, 36] (by kernel_rfl)
      clear hL hsf hy
      simp only [List.foldl, List.setIfInBounds_toArray, List.set_cons_succ, List.set_cons_zero] at ha
      subst ha
      obtain ⟨_, hM'⟩ := d15
      have HB4 := Lib.hid (HB.out.trans (But.up' (L' := [m, gr, gc, gm]) hB (fun k hk => by simp at hk ⊢; omega)))
      have c0 := hM'.cel 0 (by decide)
      have f0 := hM'.fro 0 (by decide)
      have c6 := hM'.cel 6 (by decide)
      have f6 := hM'.fro 6 (by decide)
      simp only [mCells, List.getElem?_cons_succ, List.getElem?_cons_zero] at c0 c6
      have HM4 := Lib.hid hM'
      clear hM' hB hW HM2 HB
      go_wp2_with fail
      (first | refine bodyPost_end (results_none rfl _ _ _) rfl ?_ | refine bodyPost_ret (results_none rfl _ _ _) rfl ?_)
      rw [HST.out, ← HV3.out]
      exact ⟨rfl, (HM4.out.set (s' := ⟨8, s2.R, s2.C.set 3 (2 * (v3 % 2)), s2.M⟩) (e' := e) (nx' := nx) 0 (.int .i64 8) (by decide) rfl rfl rfl rfl).set (s' := ⟨8, s2.R, s2.C.set 3 (2 * (v3 % 2)), s2.M⟩) (e' := { e with why := why }) (nx' := nx) 6 (.int .i64 why) (by decide) rfl rfl rfl rfl, (HB4.out.set m _ _ (.inl (by simp))).set m _ _ (.inl (by simp))⟩

end Go.Proofs.YtbjapncfgancoaaDoor
