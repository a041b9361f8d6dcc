/- What the methods that branch do. -/
import Derived.Test.YtbjapncfgancoaaDoorPm2
namespace Go.Proofs.YtbjapncfgancoaaDoor
open Go.RowKit
set_option linter.unusedVariables false
set_option linter.unusedSimpArgs false
set_option maxRecDepth 8000 in
set_option maxHeartbeats 4000000 in
theorem ef_eq (u : World) (m gr gc gm cr cc cm : Nat) (s : St) (e : Ev) (d a b f n : Int) (h : Mx u m gr gc gm cr cc cm s e (nx s)) (hk : OkS s) (hi : iok 5 d a b f n = true) :
    Calls Tryd.prog 97 #[.pointer (some ⟨m, 0, none⟩), .agg #[.int .i64 5, .int .i64 d, .int .i64 a, .int .i64 b, .int .i64 f, .int .i64 n]] u (EfP (effS s e 5 d a b f n) m gr gc gm cr cc cm s e u) := by
  rw [eff_5]
  obtain ⟨⟨d0, d7⟩, ⟨a0, a7⟩, ⟨b0, b7⟩, _⟩ := sok_bd (sok_of hi)
  obtain ⟨n0, n1⟩ := num_bd (iok_num hi)
  obtain ⟨f0, f7⟩ := f_bd (iok_f hi)
  have hlm := h.lt
  have hnx : 0 ≤ nx s ∧ nx s < 65536 := by unfold nx; omega
  have hR := Lib.hid hk.Rl
  have HK := Lib.hid hk
  have qva := ok_get hk.R a.toNat
  have qvb := ok_get hk.R b.toNat
  have F0 := Fr.alloc u (.cells #[.int .i64 5, .int .i64 d, .int .i64 a, .int .i64 b, .int .i64 f, .int .i64 n] 48)
  have HM := Lib.hid (h.fr F0)
  have HX0 := Lib.hid (Box.new u 5 d a b f n 48)
  have HF := Lib.hid F0
  have ho := h.ow
  have lr := ho.R.lt
  have lc := ho.C.lt
  have lm := ho.M.lt
  clear h hk F0 ho
  obtain ⟨va, hva⟩ : ∃ x, s.R.getD a.toNat 0 = x := ⟨_, rfl⟩
  rw [hva] at qva
  obtain ⟨qva0, qva1⟩ := qva
  obtain ⟨vb, hvb⟩ : ∃ x, s.R.getD b.toNat 0 = x := ⟨_, rfl⟩
  rw [hvb] at qvb
  obtain ⟨qvb0, qvb1⟩ := qvb
  simp only [put, goto, rg, mm, hva, hvb]
  generalize hpc : (if va = vb then (nx s + n) % 65536 else nx s) = pc2
  have HPC := Lib.hid hpc
  clear hpc
  go_enter Tryd.func97, Tryd.ntmps97
  go_wp2_with fail
  generalize (u.alloc (.cells #[.int .i64 5, .int .i64 d, .int .i64 a, .int .i64 b, .int .i64 f, .int .i64 n] 48)) = u0 at *
  have hz := HF.out.size
  have hXl := HX0.out.lt
  have HX := Lib.hid HX0.out
  clear HX0
  generalize hXe : u.heap.size = X at *
  refine wp_region_lots2 27 (fun i => if i = 22 then [m] else []) (fun _ _ => True) (fun i v u => match i with | 0 => v = .pointer (some ⟨m, 0, none⟩) | 1 => v = .pointer (some ⟨m, 0, none⟩) | 2 => v = .pointer (some ⟨m, 0, none⟩) | 3 => v = .pointer (some ⟨m, 0, none⟩) | 4 => v = .pointer (some ⟨m, 1, none⟩) | 5 => v = .slice (some ⟨gr, 0, none⟩) 8 cr | 6 => v = .pointer (some ⟨X, 2, none⟩) | 7 => v = .int .i64 a | 8 => v = .pointer (some ⟨gr, a.toNat, none⟩) | 9 => v = .int .i64 va | 10 => v = .pointer (some ⟨m, 0, none⟩) | 11 => v = .pointer (some ⟨m, 0, none⟩) | 12 => v = .pointer (some ⟨m, 0, none⟩) | 13 => v = .pointer (some ⟨m, 1, none⟩) | 14 => v = .slice (some ⟨gr, 0, none⟩) 8 cr | 15 => v = .pointer (some ⟨X, 3, none⟩) | 16 => v = .int .i64 b | 17 => v = .pointer (some ⟨gr, b.toNat, none⟩) | 18 => v = .int .i64 vb | 19 => v = .bool (va == vb) | 20 => v = .pointer (some ⟨X, 5, none⟩) | 21 => v = .int .i64 n | 22 => (v = .tuple #[] ∧ Mx u m gr gc gm cr cc cm s e (if (va == vb) = true then (nx s + n) % 65536 else nx s)) | _ => True) ?mono (by kernel_rfl) (by kernel_rfl) rfl (by kernel_rfl) trivial ?step ?fin
  case mono =>
    intro i j v u u' hij hsz h hB
    rcases j with _ | _ | _ | _ | _ | _ | _ | _ | _ | _ | _ | _ | _ | _ | _ | _ | _ | _ | _ | _ | _ | _ | _ | j
    · exact h
    · exact h
    · exact h
    · exact h
    · exact h
    · exact h
    · exact h
    · exact h
    · exact h
    · exact h
    · exact h
    · exact h
    · exact h
    · exact h
    · exact h
    · exact h
    · exact h
    · exact h
    · exact h
    · exact h
    · exact h
    · exact h
    · exact (by have hB2 : But [] u u' := (by have hx := hB; simp only [if_neg hij] at hx; exact hx); exact ⟨h.1, h.2.but hB2 (by simp) (by simp) (by simp) (by simp)⟩)
    · trivial
  case step =>
    intro i o ho
    rcases i with _ | _ | _ | _ | _ | _ | _ | _ | _ | _ | _ | _ | _ | _ | _ | _ | _ | _ | _ | _ | _ | _ | _ | i
    · cases ho
      intro fu act u hW hB hsz hL hdep
      replace hB := hB [] (fun j hj hd k hk => by
        by_cases xz : j = 22
        · subst xz; exact (depT_no hd (by kernel_rfl)).elim
        rw [if_neg xz] at hk; cases hk)
      obtain ⟨ysl, ha, hy⟩ := hL.puts [4, 5, 6, 7, 8, 9, 10, 11, 12, 13, 14, 15, 16, 17, 18, 19, 20, 21, 22, 23, 24, 25, 26] (by kernel_rfl)
      clear hdep hL hy
      simp only [List.foldl, List.setIfInBounds_toArray, List.set_cons_succ, List.set_cons_zero] at ha
      subst ha
      refine wpOp_step rfl (fun K hK => ?_)
      go_simp
      exact hK _ _ ⟨_, rfl, (fun h => by cases h), (by first | rfl | (exact congrArg (Value.int .i64) (by rw [IntWalk.i64_left, IntWalk.wrap64_in _ (by omega)])) | simp), But.refl _ _, trivial⟩
    · cases ho
      intro fu act u hW hB hsz hL hdep
      replace hB := hB [] (fun j hj hd k hk => by
        by_cases xz : j = 22
        · subst xz; exact (depT_no hd (by kernel_rfl)).elim
        rw [if_neg xz] at hk; cases hk)
      obtain ⟨ysl, ha, hy⟩ := hL.puts [4, 5, 6, 7, 8, 9, 10, 11, 12, 13, 14, 15, 16, 17, 18, 19, 20, 21, 22, 23, 24, 25, 26] (by kernel_rfl)
      clear hdep hL hy
      simp only [List.foldl, List.setIfInBounds_toArray, List.set_cons_succ, List.set_cons_zero] at ha
      subst ha
      refine wpOp_step rfl (fun K hK => ?_)
      go_simp
      exact hK _ _ ⟨_, rfl, (fun h => by cases h), (by first | rfl | (exact congrArg (Value.int .i64) (by rw [IntWalk.i64_left, IntWalk.wrap64_in _ (by omega)])) | simp), But.refl _ _, trivial⟩
    · cases ho
      intro fu act u hW hB hsz hL hdep
      replace hB := hB [] (fun j hj hd k hk => by
        by_cases xz : j = 22
        · subst xz; exact (depT_no hd (by kernel_rfl)).elim
        rw [if_neg xz] at hk; cases hk)
      have d1 := hdep { on := 1, ground := .data } (by simp) rfl _ rfl
      obtain ⟨ysl, ha, hy⟩ := hL.puts [4, 5, 6, 7, 8, 9, 10, 11, 12, 13, 14, 15, 16, 17, 18, 19, 20, 21, 22, 23, 24, 25, 26] (by kernel_rfl)
      have e1 : ysl 5 = .pointer (some ⟨m, 0, none⟩) := (hy 5).symm.trans d1
      clear hdep hL hy d1
      simp only [List.foldl, List.setIfInBounds_toArray, List.set_cons_succ, List.set_cons_zero, e1] at ha
      subst ha
      clear e1
      refine wpOp_step rfl (fun K hK => ?_)
      go_simp
      exact hK _ _ ⟨_, rfl, (fun h => by cases h), (by first | rfl | (exact congrArg (Value.int .i64) (by rw [IntWalk.i64_left, IntWalk.wrap64_in _ (by omega)])) | simp), But.refl _ _, trivial⟩
    · cases ho
      intro fu act u hW hB hsz hL hdep
      replace hB := hB [] (fun j hj hd k hk => by
        by_cases xz : j = 22
        · subst xz; exact (depT_no hd (by kernel_rfl)).elim
        rw [if_neg xz] at hk; cases hk)
      have d2 := hdep { on := 2, ground := .data } (by simp) rfl _ rfl
      obtain ⟨ysl, ha, hy⟩ := hL.puts [4, 5, 6, 7, 8, 9, 10, 11, 12, 13, 14, 15, 16, 17, 18, 19, 20, 21, 22, 23, 24, 25, 26] (by kernel_rfl)
      have e2 : ysl 6 = .pointer (some ⟨m, 0, none⟩) := (hy 6).symm.trans d2
      clear hdep hL hy d2
      simp only [List.foldl, List.setIfInBounds_toArray, List.set_cons_succ, List.set_cons_zero, e2] at ha
      subst ha
      clear e2
      refine wpOp_step rfl (fun K hK => ?_)
      go_simp
      exact hK _ _ ⟨_, rfl, (fun h => by cases h), (by first | rfl | (exact congrArg (Value.int .i64) (by rw [IntWalk.i64_left, IntWalk.wrap64_in _ (by omega)])) | simp), But.refl _ _, trivial⟩
    · cases ho
      intro fu act u hW hB hsz hL hdep
      replace hB := hB [] (fun j hj hd k hk => by
        by_cases xz : j = 22
        · subst xz; exact (depT_no hd (by kernel_rfl)).elim
        rw [if_neg xz] at hk; cases hk)
      have d3 := hdep { on := 3, ground := .data } (by simp) rfl _ rfl
      obtain ⟨ysl, ha, hy⟩ := hL.puts [4, 5, 6, 7, 8, 9, 10, 11, 12, 13, 14, 15, 16, 17, 18, 19, 20, 21, 22, 23, 24, 25, 26] (by kernel_rfl)
      have e3 : ysl 7 = .pointer (some ⟨m, 0, none⟩) := (hy 7).symm.trans d3
      clear hdep hL hy d3
      simp only [List.foldl, List.setIfInBounds_toArray, List.set_cons_succ, List.set_cons_zero, e3] at ha
      subst ha
      clear e3
      refine wpOp_step rfl (fun K hK => ?_)
      go_simp
      exact hK _ _ ⟨_, rfl, (fun h => by cases h), (by first | rfl | (exact congrArg (Value.int .i64) (by rw [IntWalk.i64_left, IntWalk.wrap64_in _ (by omega)])) | simp), But.refl _ _, trivial⟩
    · cases ho
      intro fu act u hW hB hsz hL hdep
      replace hB := hB [] (fun j hj hd k hk => by
        by_cases xz : j = 22
        · subst xz; exact (depT_no hd (by kernel_rfl)).elim
        rw [if_neg xz] at hk; cases hk)
      have d4 := hdep { on := 4, ground := .data } (by simp) rfl _ rfl
      obtain ⟨ysl, ha, hy⟩ := hL.puts [4, 5, 6, 7, 8, 9, 10, 11, 12, 13, 14, 15, 16, 17, 18, 19, 20, 21, 22, 23, 24, 25, 26] (by kernel_rfl)
      have e4 : ysl 8 = .pointer (some ⟨m, 1, none⟩) := (hy 8).symm.trans d4
      clear hdep hL hy d4
      simp only [List.foldl, List.setIfInBounds_toArray, List.set_cons_succ, List.set_cons_zero, e4] at ha
      subst ha
      clear e4
      have hm := HM.out.but hB (by simp) (by simp) (by simp) (by simp)
      have c := hm.cel 1 (by decide)
      simp only [mCells, List.getElem?_cons_succ, List.getElem?_cons_zero] at c
      clear hm
      refine wpOp_step rfl (fun K hK => ?_)
      go_simp
      exact hK _ _ ⟨_, rfl, (fun h => by cases h), (by first | rfl | (exact congrArg (Value.int .i64) (by rw [IntWalk.i64_left, IntWalk.wrap64_in _ (by omega)])) | simp), But.refl _ _, trivial⟩
    · cases ho
      intro fu act u hW hB hsz hL hdep
      replace hB := hB [] (fun j hj hd k hk => by
        by_cases xz : j = 22
        · subst xz; exact (depT_no hd (by kernel_rfl)).elim
        rw [if_neg xz] at hk; cases hk)
      obtain ⟨ysl, ha, hy⟩ := hL.puts [4, 5, 6, 7, 8, 9, 10, 11, 12, 13, 14, 15, 16, 17, 18, 19, 20, 21, 22, 23, 24, 25, 26] (by kernel_rfl)
      clear hdep hL hy
      simp only [List.foldl, List.setIfInBounds_toArray, List.set_cons_succ, List.set_cons_zero] at ha
      subst ha
      refine wpOp_step rfl (fun K hK => ?_)
      go_simp
      exact hK _ _ ⟨_, rfl, (fun h => by cases h), (by first | rfl | (exact congrArg (Value.int .i64) (by rw [IntWalk.i64_left, IntWalk.wrap64_in _ (by omega)])) | simp), But.refl _ _, trivial⟩
    · cases ho
      intro fu act u hW hB hsz hL hdep
      replace hB := hB [] (fun j hj hd k hk => by
        by_cases xz : j = 22
        · subst xz; exact (depT_no hd (by kernel_rfl)).elim
        rw [if_neg xz] at hk; cases hk)
      have d6 := hdep { on := 6, ground := .data } (by simp) rfl _ rfl
      obtain ⟨ysl, ha, hy⟩ := hL.puts [4, 5, 6, 7, 8, 9, 10, 11, 12, 13, 14, 15, 16, 17, 18, 19, 20, 21, 22, 23, 24, 25, 26] (by kernel_rfl)
      have e6 : ysl 10 = .pointer (some ⟨X, 2, none⟩) := (hy 10).symm.trans d6
      clear hdep hL hy d6
      simp only [List.foldl, List.setIfInBounds_toArray, List.set_cons_succ, List.set_cons_zero, e6] at ha
      subst ha
      clear e6
      have c := (HX.out.but hB (by simp)).c2
      refine wpOp_step rfl (fun K hK => ?_)
      go_simp
      exact hK _ _ ⟨_, rfl, (fun h => by cases h), (by first | rfl | (exact congrArg (Value.int .i64) (by rw [IntWalk.i64_left, IntWalk.wrap64_in _ (by omega)])) | simp), But.refl _ _, trivial⟩
    · cases ho
      intro fu act u hW hB hsz hL hdep
      replace hB := hB [] (fun j hj hd k hk => by
        by_cases xz : j = 22
        · subst xz; exact (depT_no hd (by kernel_rfl)).elim
        rw [if_neg xz] at hk; cases hk)
      have d5 := hdep { on := 5, ground := .data } (by simp) rfl _ rfl
      have d7 := hdep { on := 7, ground := .data } (by simp) rfl _ rfl
      obtain ⟨ysl, ha, hy⟩ := hL.puts [4, 5, 6, 7, 8, 9, 10, 11, 12, 13, 14, 15, 16, 17, 18, 19, 20, 21, 22, 23, 24, 25, 26] (by kernel_rfl)
      have e5 : ysl 9 = .slice (some ⟨gr, 0, none⟩) 8 cr := (hy 9).symm.trans d5
      have e7 : ysl 11 = .int .i64 a := (hy 11).symm.trans d7
      clear hdep hL hy d5 d7
      simp only [List.foldl, List.setIfInBounds_toArray, List.set_cons_succ, List.set_cons_zero, e5, e7] at ha
      subst ha
      clear e5 e7
      have ix0 : 0 ≤ a := by omega
      have ix1 : a < 8 := by omega
      refine wpOp_step rfl (fun K hK => ?_)
      go_simp
      exact hK _ _ ⟨_, rfl, (fun h => by cases h), (by first | rfl | (exact congrArg (Value.int .i64) (by rw [IntWalk.i64_left, IntWalk.wrap64_in _ (by omega)])) | simp), But.refl _ _, trivial⟩
    · cases ho
      intro fu act u hW hB hsz hL hdep
      replace hB := hB [] (fun j hj hd k hk => by
        by_cases xz : j = 22
        · subst xz; exact (depT_no hd (by kernel_rfl)).elim
        rw [if_neg xz] at hk; cases hk)
      have d8 := hdep { on := 8, ground := .data } (by simp) rfl _ rfl
      obtain ⟨ysl, ha, hy⟩ := hL.puts [4, 5, 6, 7, 8, 9, 10, 11, 12, 13, 14, 15, 16, 17, 18, 19, 20, 21, 22, 23, 24, 25, 26] (by kernel_rfl)
      have e8 : ysl 12 = .pointer (some ⟨gr, a.toNat, none⟩) := (hy 12).symm.trans d8
      clear hdep hL hy d8
      simp only [List.foldl, List.setIfInBounds_toArray, List.set_cons_succ, List.set_cons_zero, e8] at ha
      subst ha
      clear e8
      have hm := HM.out.but hB (by simp) (by simp) (by simp) (by simp)
      have c := hm.ow.R.cel (a.toNat) (by have h1 := HK.out.Rl; have h2 := HK.out.Cl; have h3 := HK.out.Ml; omega)
      clear hm
      rw [hva] at c
      refine wpOp_step rfl (fun K hK => ?_)
      go_simp
      exact hK _ _ ⟨_, rfl, (fun h => by cases h), (by first | rfl | (exact congrArg (Value.int .i64) (by rw [IntWalk.i64_left, IntWalk.wrap64_in _ (by omega)])) | simp), But.refl _ _, trivial⟩
    · cases ho
      intro fu act u hW hB hsz hL hdep
      replace hB := hB [] (fun j hj hd k hk => by
        by_cases xz : j = 22
        · subst xz; exact (depT_no hd (by kernel_rfl)).elim
        rw [if_neg xz] at hk; cases hk)
      obtain ⟨ysl, ha, hy⟩ := hL.puts [4, 5, 6, 7, 8, 9, 10, 11, 12, 13, 14, 15, 16, 17, 18, 19, 20, 21, 22, 23, 24, 25, 26] (by kernel_rfl)
      clear hdep hL hy
      simp only [List.foldl, List.setIfInBounds_toArray, List.set_cons_succ, List.set_cons_zero] at ha
      subst ha
      refine wpOp_step rfl (fun K hK => ?_)
      go_simp
      exact hK _ _ ⟨_, rfl, (fun h => by cases h), (by first | rfl | (exact congrArg (Value.int .i64) (by rw [IntWalk.i64_left, IntWalk.wrap64_in _ (by omega)])) | simp), But.refl _ _, trivial⟩
    · cases ho
      intro fu act u hW hB hsz hL hdep
      replace hB := hB [] (fun j hj hd k hk => by
        by_cases xz : j = 22
        · subst xz; exact (depT_no hd (by kernel_rfl)).elim
        rw [if_neg xz] at hk; cases hk)
      have d10 := hdep { on := 10, ground := .data } (by simp) rfl _ rfl
      obtain ⟨ysl, ha, hy⟩ := hL.puts [4, 5, 6, 7, 8, 9, 10, 11, 12, 13, 14, 15, 16, 17, 18, 19, 20, 21, 22, 23, 24, 25, 26] (by kernel_rfl)
      have e10 : ysl 14 = .pointer (some ⟨m, 0, none⟩) := (hy 14).symm.trans d10
      clear hdep hL hy d10
      simp only [List.foldl, List.setIfInBounds_toArray, List.set_cons_succ, List.set_cons_zero, e10] at ha
      subst ha
      clear e10
      refine wpOp_step rfl (fun K hK => ?_)
      go_simp
      exact hK _ _ ⟨_, rfl, (fun h => by cases h), (by first | rfl | (exact congrArg (Value.int .i64) (by rw [IntWalk.i64_left, IntWalk.wrap64_in _ (by omega)])) | simp), But.refl _ _, trivial⟩
    · cases ho
      intro fu act u hW hB hsz hL hdep
      replace hB := hB [] (fun j hj hd k hk => by
        by_cases xz : j = 22
        · subst xz; exact (depT_no hd (by kernel_rfl)).elim
        rw [if_neg xz] at hk; cases hk)
      have d11 := hdep { on := 11, ground := .data } (by simp) rfl _ rfl
      obtain ⟨ysl, ha, hy⟩ := hL.puts [4, 5, 6, 7, 8, 9, 10, 11, 12, 13, 14, 15, 16, 17, 18, 19, 20, 21, 22, 23, 24, 25, 26] (by kernel_rfl)
      have e11 : ysl 15 = .pointer (some ⟨m, 0, none⟩) := (hy 15).symm.trans d11
      clear hdep hL hy d11
      simp only [List.foldl, List.setIfInBounds_toArray, List.set_cons_succ, List.set_cons_zero, e11] at ha
      subst ha
      clear e11
      refine wpOp_step rfl (fun K hK => ?_)
      go_simp
      exact hK _ _ ⟨_, rfl, (fun h => by cases h), (by first | rfl | (exact congrArg (Value.int .i64) (by rw [IntWalk.i64_left, IntWalk.wrap64_in _ (by omega)])) | simp), But.refl _ _, trivial⟩
    · cases ho
      intro fu act u hW hB hsz hL hdep
      replace hB := hB [] (fun j hj hd k hk => by
        by_cases xz : j = 22
        · subst xz; exact (depT_no hd (by kernel_rfl)).elim
        rw [if_neg xz] at hk; cases hk)
      have d12 := hdep { on := 12, ground := .data } (by simp) rfl _ rfl
      obtain ⟨ysl, ha, hy⟩ := hL.puts [4, 5, 6, 7, 8, 9, 10, 11, 12, 13, 14, 15, 16, 17, 18, 19, 20, 21, 22, 23, 24, 25, 26] (by kernel_rfl)
      have e12 : ysl 16 = .pointer (some ⟨m, 0, none⟩) := (hy 16).symm.trans d12
      clear hdep hL hy d12
      simp only [List.foldl, List.setIfInBounds_toArray, List.set_cons_succ, List.set_cons_zero, e12] at ha
      subst ha
      clear e12
      refine wpOp_step rfl (fun K hK => ?_)
      go_simp
      exact hK _ _ ⟨_, rfl, (fun h => by cases h), (by first | rfl | (exact congrArg (Value.int .i64) (by rw [IntWalk.i64_left, IntWalk.wrap64_in _ (by omega)])) | simp), But.refl _ _, trivial⟩
    · cases ho
      intro fu act u hW hB hsz hL hdep
      replace hB := hB [] (fun j hj hd k hk => by
        by_cases xz : j = 22
        · subst xz; exact (depT_no hd (by kernel_rfl)).elim
        rw [if_neg xz] at hk; cases hk)
      have d13 := hdep { on := 13, ground := .data } (by simp) rfl _ rfl
      obtain ⟨ysl, ha, hy⟩ := hL.puts [4, 5, 6, 7, 8, 9, 10, 11, 12, 13, 14, 15, 16, 17, 18, 19, 20, 21, 22, 23, 24, 25, 26] (by kernel_rfl)
      have e13 : ysl 17 = .pointer (some ⟨m, 1, none⟩) := (hy 17).symm.trans d13
      clear hdep hL hy d13
      simp only [List.foldl, List.setIfInBounds_toArray, List.set_cons_succ, List.set_cons_zero, e13] at ha
      subst ha
      clear e13
      have hm := HM.out.but hB (by simp) (by simp) (by simp) (by simp)
      have c := hm.cel 1 (by decide)
      simp only [mCells, List.getElem?_cons_succ, List.getElem?_cons_zero] at c
      clear hm
      refine wpOp_step rfl (fun K hK => ?_)
      go_simp
      exact hK _ _ ⟨_, rfl, (fun h => by cases h), (by first | rfl | (exact congrArg (Value.int .i64) (by rw [IntWalk.i64_left, IntWalk.wrap64_in _ (by omega)])) | simp), But.refl _ _, trivial⟩
    · cases ho
      intro fu act u hW hB hsz hL hdep
      replace hB := hB [] (fun j hj hd k hk => by
        by_cases xz : j = 22
        · subst xz; exact (depT_no hd (by kernel_rfl)).elim
        rw [if_neg xz] at hk; cases hk)
      obtain ⟨ysl, ha, hy⟩ := hL.puts [4, 5, 6, 7, 8, 9, 10, 11, 12, 13, 14, 15, 16, 17, 18, 19, 20, 21, 22, 23, 24, 25, 26] (by kernel_rfl)
      clear hdep hL hy
      simp only [List.foldl, List.setIfInBounds_toArray, List.set_cons_succ, List.set_cons_zero] at ha
      subst ha
      refine wpOp_step rfl (fun K hK => ?_)
      go_simp
      exact hK _ _ ⟨_, rfl, (fun h => by cases h), (by first | rfl | (exact congrArg (Value.int .i64) (by rw [IntWalk.i64_left, IntWalk.wrap64_in _ (by omega)])) | simp), But.refl _ _, trivial⟩
    · cases ho
      intro fu act u hW hB hsz hL hdep
      replace hB := hB [] (fun j hj hd k hk => by
        by_cases xz : j = 22
        · subst xz; exact (depT_no hd (by kernel_rfl)).elim
        rw [if_neg xz] at hk; cases hk)
      have d15 := hdep { on := 15, ground := .data } (by simp) rfl _ rfl
      obtain ⟨ysl, ha, hy⟩ := hL.puts [4, 5, 6, 7, 8, 9, 10, 11, 12, 13, 14, 15, 16, 17, 18, 19, 20, 21, 22, 23, 24, 25, 26] (by kernel_rfl)
      have e15 : ysl 19 = .pointer (some ⟨X, 3, none⟩) := (hy 19).symm.trans d15
      clear hdep hL hy d15
      simp only [List.foldl, List.setIfInBounds_toArray, List.set_cons_succ, List.set_cons_zero, e15] at ha
      subst ha
      clear e15
      have c := (HX.out.but hB (by simp)).c3
      refine wpOp_step rfl (fun K hK => ?_)
      go_simp
      exact hK _ _ ⟨_, rfl, (fun h => by cases h), (by first | rfl | (exact congrArg (Value.int .i64) (by rw [IntWalk.i64_left, IntWalk.wrap64_in _ (by omega)])) | simp), But.refl _ _, trivial⟩
    · cases ho
      intro fu act u hW hB hsz hL hdep
      replace hB := hB [] (fun j hj hd k hk => by
        by_cases xz : j = 22
        · subst xz; exact (depT_no hd (by kernel_rfl)).elim
        rw [if_neg xz] at hk; cases hk)
      have d14 := hdep { on := 14, ground := .data } (by simp) rfl _ rfl
      have d16 := hdep { on := 16, ground := .data } (by simp) rfl _ rfl
      obtain ⟨ysl, ha, hy⟩ := hL.puts [4, 5, 6, 7, 8, 9, 10, 11, 12, 13, 14, 15, 16, 17, 18, 19, 20, 21, 22, 23, 24, 25, 26] (by kernel_rfl)
      have e14 : ysl 18 = .slice (some ⟨gr, 0, none⟩) 8 cr := (hy 18).symm.trans d14
      have e16 : ysl 20 = .int .i64 b := (hy 20).symm.trans d16
      clear hdep hL hy d14 d16
      simp only [List.foldl, List.setIfInBounds_toArray, List.set_cons_succ, List.set_cons_zero, e14, e16] at ha
      subst ha
      clear e14 e16
      have ix0 : 0 ≤ b := by omega
      have ix1 : b < 8 := by omega
      refine wpOp_step rfl (fun K hK => ?_)
      go_simp
      exact hK _ _ ⟨_, rfl, (fun h => by cases h), (by first | rfl | (exact congrArg (Value.int .i64) (by rw [IntWalk.i64_left, IntWalk.wrap64_in _ (by omega)])) | simp), But.refl _ _, trivial⟩
    · cases ho
      intro fu act u hW hB hsz hL hdep
      replace hB := hB [] (fun j hj hd k hk => by
        by_cases xz : j = 22
        · subst xz; exact (depT_no hd (by kernel_rfl)).elim
        rw [if_neg xz] at hk; cases hk)
      have d17 := hdep { on := 17, ground := .data } (by simp) rfl _ rfl
      obtain ⟨ysl, ha, hy⟩ := hL.puts [4, 5, 6, 7, 8, 9, 10, 11, 12, 13, 14, 15, 16, 17, 18, 19, 20, 21, 22, 23, 24, 25, 26] (by kernel_rfl)
      have e17 : ysl 21 = .pointer (some ⟨gr, b.toNat, none⟩) := (hy 21).symm.trans d17
      clear hdep hL hy d17
      simp only [List.foldl, List.setIfInBounds_toArray, List.set_cons_succ, List.set_cons_zero, e17] at ha
      subst ha
      clear e17
      have hm := HM.out.but hB (by simp) (by simp) (by simp) (by simp)
      have c := hm.ow.R.cel (b.toNat) (by have h1 := HK.out.Rl; have h2 := HK.out.Cl; have h3 := HK.out.Ml; omega)
      clear hm
      rw [hvb] at c
      refine wpOp_step rfl (fun K hK => ?_)
      go_simp
      exact hK _ _ ⟨_, rfl, (fun h => by cases h), (by first | rfl | (exact congrArg (Value.int .i64) (by rw [IntWalk.i64_left, IntWalk.wrap64_in _ (by omega)])) | simp), But.refl _ _, trivial⟩
    · cases ho
      intro fu act u hW hB hsz hL hdep
      replace hB := hB [] (fun j hj hd k hk => by
        by_cases xz : j = 22
        · subst xz; exact (depT_no hd (by kernel_rfl)).elim
        rw [if_neg xz] at hk; cases hk)
      have d9 := hdep { on := 9, ground := .data } (by simp) rfl _ rfl
      have d18 := hdep { on := 18, ground := .data } (by simp) rfl _ rfl
      obtain ⟨ysl, ha, hy⟩ := hL.puts [4, 5, 6, 7, 8, 9, 10, 11, 12, 13, 14, 15, 16, 17, 18, 19, 20, 21, 22, 23, 24, 25, 26] (by kernel_rfl)
      have e9 : ysl 13 = .int .i64 va := (hy 13).symm.trans d9
      have e18 : ysl 22 = .int .i64 vb := (hy 22).symm.trans d18
      clear hdep hL hy d9 d18
      simp only [List.foldl, List.setIfInBounds_toArray, List.set_cons_succ, List.set_cons_zero, e9, e18] at ha
      subst ha
      clear e9 e18
      refine wpOp_step rfl (fun K hK => ?_)
      go_simp
      exact hK _ _ ⟨_, rfl, (fun h => by cases h), (by first | rfl | (exact congrArg (Value.int .i64) (by rw [IntWalk.i64_left, IntWalk.wrap64_in _ (by omega)])) | simp), But.refl _ _, trivial⟩
    · cases ho
      intro fu act u hW hB hsz hL hdep
      replace hB := hB [] (fun j hj hd k hk => by
        by_cases xz : j = 22
        · subst xz; exact (depT_no hd (by kernel_rfl)).elim
        rw [if_neg xz] at hk; cases hk)
      obtain ⟨ysl, ha, hy⟩ := hL.puts [4, 5, 6, 7, 8, 9, 10, 11, 12, 13, 14, 15, 16, 17, 18, 19, 20, 21, 22, 23, 24, 25, 26] (by kernel_rfl)
      clear hdep hL hy
      simp only [List.foldl, List.setIfInBounds_toArray, List.set_cons_succ, List.set_cons_zero] at ha
      subst ha
      refine wpOp_step rfl (fun K hK => ?_)
      go_simp
      exact hK _ _ ⟨_, rfl, (fun h => by cases h), (by first | rfl | (exact congrArg (Value.int .i64) (by rw [IntWalk.i64_left, IntWalk.wrap64_in _ (by omega)])) | simp), But.refl _ _, trivial⟩
    · cases ho
      intro fu act u hW hB hsz hL hdep
      replace hB := hB [] (fun j hj hd k hk => by
        by_cases xz : j = 22
        · subst xz; exact (depT_no hd (by kernel_rfl)).elim
        rw [if_neg xz] at hk; cases hk)
      have d20 := hdep { on := 20, ground := .data } (by simp) rfl _ rfl
      obtain ⟨ysl, ha, hy⟩ := hL.puts [4, 5, 6, 7, 8, 9, 10, 11, 12, 13, 14, 15, 16, 17, 18, 19, 20, 21, 22, 23, 24, 25, 26] (by kernel_rfl)
      have e20 : ysl 24 = .pointer (some ⟨X, 5, none⟩) := (hy 24).symm.trans d20
      clear hdep hL hy d20
      simp only [List.foldl, List.setIfInBounds_toArray, List.set_cons_succ, List.set_cons_zero, e20] at ha
      subst ha
      clear e20
      have c := (HX.out.but hB (by simp)).c5
      refine wpOp_step rfl (fun K hK => ?_)
      go_simp
      exact hK _ _ ⟨_, rfl, (fun h => by cases h), (by first | rfl | (exact congrArg (Value.int .i64) (by rw [IntWalk.i64_left, IntWalk.wrap64_in _ (by omega)])) | simp), But.refl _ _, trivial⟩
    · cases ho
      intro fu act u hW hB hsz hL hdep
      replace hB := hB [] (fun j hj hd k hk => by
        rw [if_neg hj] at hk; cases hk)
      have d0 := hdep { on := 0, ground := .data } (by simp) rfl _ rfl
      have d19 := hdep { on := 19, ground := .data } (by simp) rfl _ rfl
      have d21 := hdep { on := 21, ground := .data } (by simp) rfl _ rfl
      obtain ⟨ysl, ha, hy⟩ := hL.puts [4, 5, 6, 7, 8, 9, 10, 11, 12, 13, 14, 15, 16, 17, 18, 19, 20, 21, 22, 23, 24, 25, 26] (by kernel_rfl)
      have e0 : ysl 4 = .pointer (some ⟨m, 0, none⟩) := (hy 4).symm.trans d0
      have e19 : ysl 23 = .bool (va == vb) := (hy 23).symm.trans d19
      have e21 : ysl 25 = .int .i64 n := (hy 25).symm.trans d21
      clear hdep hL hy d0 d19 d21
      simp only [List.foldl, List.setIfInBounds_toArray, List.set_cons_succ, List.set_cons_zero, e0, e19, e21] at ha
      subst ha
      clear e0 e19 e21
      refine wpOp_step rfl (fun K hK => ?_)
      go_simp
      refine (impl_branch u m gr gc gm cr cc cm s e (nx s) n (va == vb) (HM.out.but hB (by simp) (by simp) (by simp) (by simp)) hnx.1 hnx.2 (by omega) (by omega)).mono ?_
      rintro r u' ⟨rfl, hM', hB'⟩
      go_simp
      exact hK _ _ ⟨_, rfl, (fun h => by cases h), ⟨rfl, hM'⟩, hB', trivial⟩
    · exact absurd ho (by simp)
  case fin =>
    intro act u hW hsz hB hL hsf
    replace hB := hB [m] (fun j k hk => by
      by_cases yz : j = 22
      · rw [if_pos yz] at hk; exact hk
      rw [if_neg yz] at hk
      cases hk)
    have d22 := hsf 22 _ rfl
    obtain ⟨ysl, ha, hy⟩ := hL.puts [4, 5, 6, 7, 8, 9, 10, 11, 12, 13, 14, 15, 16, 17, 18, 19, 20, 21, 22, 23, 24, 25, 26] (by kernel_rfl)
    clear hL hsf hy
    simp only [List.foldl, List.setIfInBounds_toArray, List.set_cons_succ, List.set_cons_zero] at ha
    subst ha
    obtain ⟨_, hM'⟩ := d22
    rw [show (if (va == vb) = true then (nx s + n) % 65536 else nx s) = pc2 by rw [← HPC.out]; simp] at hM'
    go_wp2_with fail
    (first | refine bodyPost_end (results_none rfl _ _ _) rfl ?_ | refine bodyPost_ret (results_none rfl _ _ _) rfl ?_)
    exact ⟨rfl, hM', (((But.of HF.out).trans (hB.up (fun k hk => by simp at hk ⊢; omega))))⟩
set_option maxRecDepth 8000 in
set_option maxHeartbeats 4000000 in
theorem ef_lt (u : World) (m gr gc gm cr cc cm : Nat) (s : St) (e : Ev) (d a b f n : Int) (h : Mx u m gr gc gm cr cc cm s e (nx s)) (hk : OkS s) (hi : iok 6 d a b f n = true) :
    Calls Tryd.prog 98 #[.pointer (some ⟨m, 0, none⟩), .agg #[.int .i64 6, .int .i64 d, .int .i64 a, .int .i64 b, .int .i64 f, .int .i64 n]] u (EfP (effS s e 6 d a b f n) m gr gc gm cr cc cm s e u) := by
  rw [eff_6]
  obtain ⟨⟨d0, d7⟩, ⟨a0, a7⟩, ⟨b0, b7⟩, _⟩ := sok_bd (sok_of hi)
  obtain ⟨n0, n1⟩ := num_bd (iok_num hi)
  obtain ⟨f0, f7⟩ := f_bd (iok_f hi)
  have hlm := h.lt
  have hnx : 0 ≤ nx s ∧ nx s < 65536 := by unfold nx; omega
  have hR := Lib.hid hk.Rl
  have HK := Lib.hid hk
  have qva := ok_get hk.R a.toNat
  have qvb := ok_get hk.R b.toNat
  have F0 := Fr.alloc u (.cells #[.int .i64 6, .int .i64 d, .int .i64 a, .int .i64 b, .int .i64 f, .int .i64 n] 48)
  have HM := Lib.hid (h.fr F0)
  have HX0 := Lib.hid (Box.new u 6 d a b f n 48)
  have HF := Lib.hid F0
  have ho := h.ow
  have lr := ho.R.lt
  have lc := ho.C.lt
  have lm := ho.M.lt
  clear h hk F0 ho
  obtain ⟨va, hva⟩ : ∃ x, s.R.getD a.toNat 0 = x := ⟨_, rfl⟩
  rw [hva] at qva
  obtain ⟨qva0, qva1⟩ := qva
  obtain ⟨vb, hvb⟩ : ∃ x, s.R.getD b.toNat 0 = x := ⟨_, rfl⟩
  rw [hvb] at qvb
  obtain ⟨qvb0, qvb1⟩ := qvb
  simp only [put, goto, rg, mm, hva, hvb]
  generalize hpc : (if sgn va < sgn vb then (nx s + n) % 65536 else nx s) = pc2
  have HPC := Lib.hid hpc
  clear hpc
  go_enter Tryd.func98, Tryd.ntmps98
  go_wp2_with fail
  generalize (u.alloc (.cells #[.int .i64 6, .int .i64 d, .int .i64 a, .int .i64 b, .int .i64 f, .int .i64 n] 48)) = u0 at *
  have hz := HF.out.size
  have hXl := HX0.out.lt
  have HX := Lib.hid HX0.out
  clear HX0
  generalize hXe : u.heap.size = X at *
  refine wp_region_lots2 29 (fun i => if i = 24 then [m] else []) (fun _ _ => True) (fun i v u => match i with | 0 => v = .pointer (some ⟨m, 0, none⟩) | 1 => v = .pointer (some ⟨m, 0, none⟩) | 2 => v = .pointer (some ⟨m, 0, none⟩) | 3 => v = .pointer (some ⟨m, 0, none⟩) | 4 => v = .pointer (some ⟨m, 1, none⟩) | 5 => v = .slice (some ⟨gr, 0, none⟩) 8 cr | 6 => v = .pointer (some ⟨X, 2, none⟩) | 7 => v = .int .i64 a | 8 => v = .pointer (some ⟨gr, a.toNat, none⟩) | 9 => v = .int .i64 va | 10 => v = .int .i64 (sgn va) | 11 => v = .pointer (some ⟨m, 0, none⟩) | 12 => v = .pointer (some ⟨m, 0, none⟩) | 13 => v = .pointer (some ⟨m, 0, none⟩) | 14 => v = .pointer (some ⟨m, 1, none⟩) | 15 => v = .slice (some ⟨gr, 0, none⟩) 8 cr | 16 => v = .pointer (some ⟨X, 3, none⟩) | 17 => v = .int .i64 b | 18 => v = .pointer (some ⟨gr, b.toNat, none⟩) | 19 => v = .int .i64 vb | 20 => v = .int .i64 (sgn vb) | 21 => v = .bool (decide ((sgn va) < (sgn vb))) | 22 => v = .pointer (some ⟨X, 5, none⟩) | 23 => v = .int .i64 n | 24 => (v = .tuple #[] ∧ Mx u m gr gc gm cr cc cm s e (if (decide (sgn va < sgn vb)) = true then (nx s + n) % 65536 else nx s)) | _ => True) ?mono (by kernel_rfl) (by kernel_rfl) rfl (by kernel_rfl) trivial ?step ?fin
  case mono =>
    intro i j v u u' hij hsz h hB
    rcases j with _ | _ | _ | _ | _ | _ | _ | _ | _ | _ | _ | _ | _ | _ | _ | _ | _ | _ | _ | _ | _ | _ | _ | _ | _ | j
    · exact h
    · exact h
    · exact h
    · exact h
    · exact h
    · exact h
    · exact h
    · exact h
    · exact h
    · exact h
    · exact h
    · exact h
    · exact h
    · exact h
    · exact h
    · exact h
    · exact h
    · exact h
    · exact h
    · exact h
    · exact h
    · exact h
    · exact h
    · exact h
    · exact (by have hB2 : But [] u u' := (by have hx := hB; simp only [if_neg hij] at hx; exact hx); exact ⟨h.1, h.2.but hB2 (by simp) (by simp) (by simp) (by simp)⟩)
    · trivial
  case step =>
    intro i o ho
    rcases i with _ | _ | _ | _ | _ | _ | _ | _ | _ | _ | _ | _ | _ | _ | _ | _ | _ | _ | _ | _ | _ | _ | _ | _ | _ | i
    · cases ho
      intro fu act u hW hB hsz hL hdep
      replace hB := hB [] (fun j hj hd k hk => by
        by_cases xz : j = 24
        · subst xz; exact (depT_no hd (by kernel_rfl)).elim
        rw [if_neg xz] at hk; cases hk)
      obtain ⟨ysl, ha, hy⟩ := hL.puts [4, 5, 6, 7, 8, 9, 10, 11, 12, 13, 14, 15, 16, 17, 18, 19, 20, 21, 22, 23, 24, 25, 26, 27, 28] (by kernel_rfl)
      clear hdep hL hy
      simp only [List.foldl, List.setIfInBounds_toArray, List.set_cons_succ, List.set_cons_zero] at ha
      subst ha
      refine wpOp_step rfl (fun K hK => ?_)
      go_simp
      exact hK _ _ ⟨_, rfl, (fun h => by cases h), (by first | rfl | (exact congrArg (Value.int .i64) (by rw [IntWalk.i64_left, IntWalk.wrap64_in _ (by omega)])) | simp), But.refl _ _, trivial⟩
    · cases ho
      intro fu act u hW hB hsz hL hdep
      replace hB := hB [] (fun j hj hd k hk => by
        by_cases xz : j = 24
        · subst xz; exact (depT_no hd (by kernel_rfl)).elim
        rw [if_neg xz] at hk; cases hk)
      obtain ⟨ysl, ha, hy⟩ := hL.puts [4, 5, 6, 7, 8, 9, 10, 11, 12, 13, 14, 15, 16, 17, 18, 19, 20, 21, 22, 23, 24, 25, 26, 27, 28] (by kernel_rfl)
      clear hdep hL hy
      simp only [List.foldl, List.setIfInBounds_toArray, List.set_cons_succ, List.set_cons_zero] at ha
      subst ha
      refine wpOp_step rfl (fun K hK => ?_)
      go_simp
      exact hK _ _ ⟨_, rfl, (fun h => by cases h), (by first | rfl | (exact congrArg (Value.int .i64) (by rw [IntWalk.i64_left, IntWalk.wrap64_in _ (by omega)])) | simp), But.refl _ _, trivial⟩
    · cases ho
      intro fu act u hW hB hsz hL hdep
      replace hB := hB [] (fun j hj hd k hk => by
        by_cases xz : j = 24
        · subst xz; exact (depT_no hd (by kernel_rfl)).elim
        rw [if_neg xz] at hk; cases hk)
      have d1 := hdep { on := 1, ground := .data } (by simp) rfl _ rfl
      obtain ⟨ysl, ha, hy⟩ := hL.puts [4, 5, 6, 7, 8, 9, 10, 11, 12, 13, 14, 15, 16, 17, 18, 19, 20, 21, 22, 23, 24, 25, 26, 27, 28] (by kernel_rfl)
      have e1 : ysl 5 = .pointer (some ⟨m, 0, none⟩) := (hy 5).symm.trans d1
      clear hdep hL hy d1
      simp only [List.foldl, List.setIfInBounds_toArray, List.set_cons_succ, List.set_cons_zero, e1] at ha
      subst ha
      clear e1
      refine wpOp_step rfl (fun K hK => ?_)
      go_simp
      exact hK _ _ ⟨_, rfl, (fun h => by cases h), (by first | rfl | (exact congrArg (Value.int .i64) (by rw [IntWalk.i64_left, IntWalk.wrap64_in _ (by omega)])) | simp), But.refl _ _, trivial⟩
    · cases ho
      intro fu act u hW hB hsz hL hdep
      replace hB := hB [] (fun j hj hd k hk => by
        by_cases xz : j = 24
        · subst xz; exact (depT_no hd (by kernel_rfl)).elim
        rw [if_neg xz] at hk; cases hk)
      have d2 := hdep { on := 2, ground := .data } (by simp) rfl _ rfl
      obtain ⟨ysl, ha, hy⟩ := hL.puts [4, 5, 6, 7, 8, 9, 10, 11, 12, 13, 14, 15, 16, 17, 18, 19, 20, 21, 22, 23, 24, 25, 26, 27, 28] (by kernel_rfl)
      have e2 : ysl 6 = .pointer (some ⟨m, 0, none⟩) := (hy 6).symm.trans d2
      clear hdep hL hy d2
      simp only [List.foldl, List.setIfInBounds_toArray, List.set_cons_succ, List.set_cons_zero, e2] at ha
      subst ha
      clear e2
      refine wpOp_step rfl (fun K hK => ?_)
      go_simp
      exact hK _ _ ⟨_, rfl, (fun h => by cases h), (by first | rfl | (exact congrArg (Value.int .i64) (by rw [IntWalk.i64_left, IntWalk.wrap64_in _ (by omega)])) | simp), But.refl _ _, trivial⟩
    · cases ho
      intro fu act u hW hB hsz hL hdep
      replace hB := hB [] (fun j hj hd k hk => by
        by_cases xz : j = 24
        · subst xz; exact (depT_no hd (by kernel_rfl)).elim
        rw [if_neg xz] at hk; cases hk)
      have d3 := hdep { on := 3, ground := .data } (by simp) rfl _ rfl
      obtain ⟨ysl, ha, hy⟩ := hL.puts [4, 5, 6, 7, 8, 9, 10, 11, 12, 13, 14, 15, 16, 17, 18, 19, 20, 21, 22, 23, 24, 25, 26, 27, 28] (by kernel_rfl)
      have e3 : ysl 7 = .pointer (some ⟨m, 0, none⟩) := (hy 7).symm.trans d3
      clear hdep hL hy d3
      simp only [List.foldl, List.setIfInBounds_toArray, List.set_cons_succ, List.set_cons_zero, e3] at ha
      subst ha
      clear e3
      refine wpOp_step rfl (fun K hK => ?_)
      go_simp
      exact hK _ _ ⟨_, rfl, (fun h => by cases h), (by first | rfl | (exact congrArg (Value.int .i64) (by rw [IntWalk.i64_left, IntWalk.wrap64_in _ (by omega)])) | simp), But.refl _ _, trivial⟩
    · cases ho
      intro fu act u hW hB hsz hL hdep
      replace hB := hB [] (fun j hj hd k hk => by
        by_cases xz : j = 24
        · subst xz; exact (depT_no hd (by kernel_rfl)).elim
        rw [if_neg xz] at hk; cases hk)
      have d4 := hdep { on := 4, ground := .data } (by simp) rfl _ rfl
      obtain ⟨ysl, ha, hy⟩ := hL.puts [4, 5, 6, 7, 8, 9, 10, 11, 12, 13, 14, 15, 16, 17, 18, 19, 20, 21, 22, 23, 24, 25, 26, 27, 28] (by kernel_rfl)
      have e4 : ysl 8 = .pointer (some ⟨m, 1, none⟩) := (hy 8).symm.trans d4
      clear hdep hL hy d4
      simp only [List.foldl, List.setIfInBounds_toArray, List.set_cons_succ, List.set_cons_zero, e4] at ha
      subst ha
      clear e4
      have hm := HM.out.but hB (by simp) (by simp) (by simp) (by simp)
      have c := hm.cel 1 (by decide)
      simp only [mCells, List.getElem?_cons_succ, List.getElem?_cons_zero] at c
      clear hm
      refine wpOp_step rfl (fun K hK => ?_)
      go_simp
      exact hK _ _ ⟨_, rfl, (fun h => by cases h), (by first | rfl | (exact congrArg (Value.int .i64) (by rw [IntWalk.i64_left, IntWalk.wrap64_in _ (by omega)])) | simp), But.refl _ _, trivial⟩
    · cases ho
      intro fu act u hW hB hsz hL hdep
      replace hB := hB [] (fun j hj hd k hk => by
        by_cases xz : j = 24
        · subst xz; exact (depT_no hd (by kernel_rfl)).elim
        rw [if_neg xz] at hk; cases hk)
      obtain ⟨ysl, ha, hy⟩ := hL.puts [4, 5, 6, 7, 8, 9, 10, 11, 12, 13, 14, 15, 16, 17, 18, 19, 20, 21, 22, 23, 24, 25, 26, 27, 28] (by kernel_rfl)
      clear hdep hL hy
      simp only [List.foldl, List.setIfInBounds_toArray, List.set_cons_succ, List.set_cons_zero] at ha
      subst ha
      refine wpOp_step rfl (fun K hK => ?_)
      go_simp
      exact hK _ _ ⟨_, rfl, (fun h => by cases h), (by first | rfl | (exact congrArg (Value.int .i64) (by rw [IntWalk.i64_left, IntWalk.wrap64_in _ (by omega)])) | simp), But.refl _ _, trivial⟩
    · cases ho
      intro fu act u hW hB hsz hL hdep
      replace hB := hB [] (fun j hj hd k hk => by
        by_cases xz : j = 24
        · subst xz; exact (depT_no hd (by kernel_rfl)).elim
        rw [if_neg xz] at hk; cases hk)
      have d6 := hdep { on := 6, ground := .data } (by simp) rfl _ rfl
      obtain ⟨ysl, ha, hy⟩ := hL.puts [4, 5, 6, 7, 8, 9, 10, 11, 12, 13, 14, 15, 16, 17, 18, 19, 20, 21, 22, 23, 24, 25, 26, 27, 28] (by kernel_rfl)
      have e6 : ysl 10 = .pointer (some ⟨X, 2, none⟩) := (hy 10).symm.trans d6
      clear hdep hL hy d6
      simp only [List.foldl, List.setIfInBounds_toArray, List.set_cons_succ, List.set_cons_zero, e6] at ha
      subst ha
      clear e6
      have c := (HX.out.but hB (by simp)).c2
      refine wpOp_step rfl (fun K hK => ?_)
      go_simp
      exact hK _ _ ⟨_, rfl, (fun h => by cases h), (by first | rfl | (exact congrArg (Value.int .i64) (by rw [IntWalk.i64_left, IntWalk.wrap64_in _ (by omega)])) | simp), But.refl _ _, trivial⟩
    · cases ho
      intro fu act u hW hB hsz hL hdep
      replace hB := hB [] (fun j hj hd k hk => by
        by_cases xz : j = 24
        · subst xz; exact (depT_no hd (by kernel_rfl)).elim
        rw [if_neg xz] at hk; cases hk)
      have d5 := hdep { on := 5, ground := .data } (by simp) rfl _ rfl
      have d7 := hdep { on := 7, ground := .data } (by simp) rfl _ rfl
      obtain ⟨ysl, ha, hy⟩ := hL.puts [4, 5, 6, 7, 8, 9, 10, 11, 12, 13, 14, 15, 16, 17, 18, 19, 20, 21, 22, 23, 24, 25, 26, 27, 28] (by kernel_rfl)
      have e5 : ysl 9 = .slice (some ⟨gr, 0, none⟩) 8 cr := (hy 9).symm.trans d5
      have e7 : ysl 11 = .int .i64 a := (hy 11).symm.trans d7
      clear hdep hL hy d5 d7
      simp only [List.foldl, List.setIfInBounds_toArray, List.set_cons_succ, List.set_cons_zero, e5, e7] at ha
      subst ha
      clear e5 e7
      have ix0 : 0 ≤ a := by omega
      have ix1 : a < 8 := by omega
      refine wpOp_step rfl (fun K hK => ?_)
      go_simp
      exact hK _ _ ⟨_, rfl, (fun h => by cases h), (by first | rfl | (exact congrArg (Value.int .i64) (by rw [IntWalk.i64_left, IntWalk.wrap64_in _ (by omega)])) | simp), But.refl _ _, trivial⟩
    · cases ho
      intro fu act u hW hB hsz hL hdep
      replace hB := hB [] (fun j hj hd k hk => by
        by_cases xz : j = 24
        · subst xz; exact (depT_no hd (by kernel_rfl)).elim
        rw [if_neg xz] at hk; cases hk)
      have d8 := hdep { on := 8, ground := .data } (by simp) rfl _ rfl
      obtain ⟨ysl, ha, hy⟩ := hL.puts [4, 5, 6, 7, 8, 9, 10, 11, 12, 13, 14, 15, 16, 17, 18, 19, 20, 21, 22, 23, 24, 25, 26, 27, 28] (by kernel_rfl)
      have e8 : ysl 12 = .pointer (some ⟨gr, a.toNat, none⟩) := (hy 12).symm.trans d8
      clear hdep hL hy d8
      simp only [List.foldl, List.setIfInBounds_toArray, List.set_cons_succ, List.set_cons_zero, e8] at ha
      subst ha
      clear e8
      have hm := HM.out.but hB (by simp) (by simp) (by simp) (by simp)
      have c := hm.ow.R.cel (a.toNat) (by have h1 := HK.out.Rl; have h2 := HK.out.Cl; have h3 := HK.out.Ml; omega)
      clear hm
      rw [hva] at c
      refine wpOp_step rfl (fun K hK => ?_)
      go_simp
      exact hK _ _ ⟨_, rfl, (fun h => by cases h), (by first | rfl | (exact congrArg (Value.int .i64) (by rw [IntWalk.i64_left, IntWalk.wrap64_in _ (by omega)])) | simp), But.refl _ _, trivial⟩
    · cases ho
      intro fu act u hW hB hsz hL hdep
      replace hB := hB [] (fun j hj hd k hk => by
        by_cases xz : j = 24
        · subst xz; exact (depT_no hd (by kernel_rfl)).elim
        rw [if_neg xz] at hk; cases hk)
      have d9 := hdep { on := 9, ground := .data } (by simp) rfl _ rfl
      obtain ⟨ysl, ha, hy⟩ := hL.puts [4, 5, 6, 7, 8, 9, 10, 11, 12, 13, 14, 15, 16, 17, 18, 19, 20, 21, 22, 23, 24, 25, 26, 27, 28] (by kernel_rfl)
      have e9 : ysl 13 = .int .i64 va := (hy 13).symm.trans d9
      clear hdep hL hy d9
      simp only [List.foldl, List.setIfInBounds_toArray, List.set_cons_succ, List.set_cons_zero, e9] at ha
      subst ha
      clear e9
      refine wpOp_step rfl (fun K hK => ?_)
      go_simp
      refine (impl_WrdInt _ u).mono ?_
      rintro r u' ⟨rfl, rfl⟩
      go_simp
      exact hK _ _ ⟨_, rfl, (fun h => by cases h), rfl, But.refl _ _, trivial⟩
    · cases ho
      intro fu act u hW hB hsz hL hdep
      replace hB := hB [] (fun j hj hd k hk => by
        by_cases xz : j = 24
        · subst xz; exact (depT_no hd (by kernel_rfl)).elim
        rw [if_neg xz] at hk; cases hk)
      obtain ⟨ysl, ha, hy⟩ := hL.puts [4, 5, 6, 7, 8, 9, 10, 11, 12, 13, 14, 15, 16, 17, 18, 19, 20, 21, 22, 23, 24, 25, 26, 27, 28] (by kernel_rfl)
      clear hdep hL hy
      simp only [List.foldl, List.setIfInBounds_toArray, List.set_cons_succ, List.set_cons_zero] at ha
      subst ha
      refine wpOp_step rfl (fun K hK => ?_)
      go_simp
      exact hK _ _ ⟨_, rfl, (fun h => by cases h), (by first | rfl | (exact congrArg (Value.int .i64) (by rw [IntWalk.i64_left, IntWalk.wrap64_in _ (by omega)])) | simp), But.refl _ _, trivial⟩
    · cases ho
      intro fu act u hW hB hsz hL hdep
      replace hB := hB [] (fun j hj hd k hk => by
        by_cases xz : j = 24
        · subst xz; exact (depT_no hd (by kernel_rfl)).elim
        rw [if_neg xz] at hk; cases hk)
      have d11 := hdep { on := 11, ground := .data } (by simp) rfl _ rfl
      obtain ⟨ysl, ha, hy⟩ := hL.puts [4, 5, 6, 7, 8, 9, 10, 11, 12, 13, 14, 15, 16, 17, 18, 19, 20, 21, 22, 23, 24, 25, 26, 27, 28] (by kernel_rfl)
      have e11 : ysl 15 = .pointer (some ⟨m, 0, none⟩) := (hy 15).symm.trans d11
      clear hdep hL hy d11
      simp only [List.foldl, List.setIfInBounds_toArray, List.set_cons_succ, List.set_cons_zero, e11] at ha
      subst ha
      clear e11
      refine wpOp_step rfl (fun K hK => ?_)
      go_simp
      exact hK _ _ ⟨_, rfl, (fun h => by cases h), (by first | rfl | (exact congrArg (Value.int .i64) (by rw [IntWalk.i64_left, IntWalk.wrap64_in _ (by omega)])) | simp), But.refl _ _, trivial⟩
    · cases ho
      intro fu act u hW hB hsz hL hdep
      replace hB := hB [] (fun j hj hd k hk => by
        by_cases xz : j = 24
        · subst xz; exact (depT_no hd (by kernel_rfl)).elim
        rw [if_neg xz] at hk; cases hk)
      have d12 := hdep { on := 12, ground := .data } (by simp) rfl _ rfl
      obtain ⟨ysl, ha, hy⟩ := hL.puts [4, 5, 6, 7, 8, 9, 10, 11, 12, 13, 14, 15, 16, 17, 18, 19, 20, 21, 22, 23, 24, 25, 26, 27, 28] (by kernel_rfl)
      have e12 : ysl 16 = .pointer (some ⟨m, 0, none⟩) := (hy 16).symm.trans d12
      clear hdep hL hy d12
      simp only [List.foldl, List.setIfInBounds_toArray, List.set_cons_succ, List.set_cons_zero, e12] at ha
      subst ha
      clear e12
      refine wpOp_step rfl (fun K hK => ?_)
      go_simp
      exact hK _ _ ⟨_, rfl, (fun h => by cases h), (by first | rfl | (exact congrArg (Value.int .i64) (by rw [IntWalk.i64_left, IntWalk.wrap64_in _ (by omega)])) | simp), But.refl _ _, trivial⟩
    · cases ho
      intro fu act u hW hB hsz hL hdep
      replace hB := hB [] (fun j hj hd k hk => by
        by_cases xz : j = 24
        · subst xz; exact (depT_no hd (by kernel_rfl)).elim
        rw [if_neg xz] at hk; cases hk)
      have d13 := hdep { on := 13, ground := .data } (by simp) rfl _ rfl
      obtain ⟨ysl, ha, hy⟩ := hL.puts [4, 5, 6, 7, 8, 9, 10, 11, 12, 13, 14, 15, 16, 17, 18, 19, 20, 21, 22, 23, 24, 25, 26, 27, 28] (by kernel_rfl)
      have e13 : ysl 17 = .pointer (some ⟨m, 0, none⟩) := (hy 17).symm.trans d13
      clear hdep hL hy d13
      simp only [List.foldl, List.setIfInBounds_toArray, List.set_cons_succ, List.set_cons_zero, e13] at ha
      subst ha
      clear e13
      refine wpOp_step rfl (fun K hK => ?_)
      go_simp
      exact hK _ _ ⟨_, rfl, (fun h => by cases h), (by first | rfl | (exact congrArg (Value.int .i64) (by rw [IntWalk.i64_left, IntWalk.wrap64_in _ (by omega)])) | simp), But.refl _ _, trivial⟩
    · cases ho
      intro fu act u hW hB hsz hL hdep
      replace hB := hB [] (fun j hj hd k hk => by
        by_cases xz : j = 24
        · subst xz; exact (depT_no hd (by kernel_rfl)).elim
        rw [if_neg xz] at hk; cases hk)
      have d14 := hdep { on := 14, ground := .data } (by simp) rfl _ rfl
      obtain ⟨ysl, ha, hy⟩ := hL.puts [4, 5, 6, 7, 8, 9, 10, 11, 12, 13, 14, 15, 16, 17, 18, 19, 20, 21, 22, 23, 24, 25, 26, 27, 28] (by kernel_rfl)
      have e14 : ysl 18 = .pointer (some ⟨m, 1, none⟩) := (hy 18).symm.trans d14
      clear hdep hL hy d14
      simp only [List.foldl, List.setIfInBounds_toArray, List.set_cons_succ, List.set_cons_zero, e14] at ha
      subst ha
      clear e14
      have hm := HM.out.but hB (by simp) (by simp) (by simp) (by simp)
      have c := hm.cel 1 (by decide)
      simp only [mCells, List.getElem?_cons_succ, List.getElem?_cons_zero] at c
      clear hm
      refine wpOp_step rfl (fun K hK => ?_)
      go_simp
      exact hK _ _ ⟨_, rfl, (fun h => by cases h), (by first | rfl | (exact congrArg (Value.int .i64) (by rw [IntWalk.i64_left, IntWalk.wrap64_in _ (by omega)])) | simp), But.refl _ _, trivial⟩
    · cases ho
      intro fu act u hW hB hsz hL hdep
      replace hB := hB [] (fun j hj hd k hk => by
        by_cases xz : j = 24
        · subst xz; exact (depT_no hd (by kernel_rfl)).elim
        rw [if_neg xz] at hk; cases hk)
      obtain ⟨ysl, ha, hy⟩ := hL.puts [4, 5, 6, 7, 8, 9, 10, 11, 12, 13, 14, 15, 16, 17, 18, 19, 20, 21, 22, 23, 24, 25, 26, 27, 28] (by kernel_rfl)
      clear hdep hL hy
      simp only [List.foldl, List.setIfInBounds_toArray, List.set_cons_succ, List.set_cons_zero] at ha
      subst ha
      refine wpOp_step rfl (fun K hK => ?_)
      go_simp
      exact hK _ _ ⟨_, rfl, (fun h => by cases h), (by first | rfl | (exact congrArg (Value.int .i64) (by rw [IntWalk.i64_left, IntWalk.wrap64_in _ (by omega)])) | simp), But.refl _ _, trivial⟩
    · cases ho
      intro fu act u hW hB hsz hL hdep
      replace hB := hB [] (fun j hj hd k hk => by
        by_cases xz : j = 24
        · subst xz; exact (depT_no hd (by kernel_rfl)).elim
        rw [if_neg xz] at hk; cases hk)
      have d16 := hdep { on := 16, ground := .data } (by simp) rfl _ rfl
      obtain ⟨ysl, ha, hy⟩ := hL.puts [4, 5, 6, 7, 8, 9, 10, 11, 12, 13, 14, 15, 16, 17, 18, 19, 20, 21, 22, 23, 24, 25, 26, 27, 28] (by kernel_rfl)
      have e16 : ysl 20 = .pointer (some ⟨X, 3, none⟩) := (hy 20).symm.trans d16
      clear hdep hL hy d16
      simp only [List.foldl, List.setIfInBounds_toArray, List.set_cons_succ, List.set_cons_zero, e16] at ha
      subst ha
      clear e16
      have c := (HX.out.but hB (by simp)).c3
      refine wpOp_step rfl (fun K hK => ?_)
      go_simp
      exact hK _ _ ⟨_, rfl, (fun h => by cases h), (by first | rfl | (exact congrArg (Value.int .i64) (by rw [IntWalk.i64_left, IntWalk.wrap64_in _ (by omega)])) | simp), But.refl _ _, trivial⟩
    · cases ho
      intro fu act u hW hB hsz hL hdep
      replace hB := hB [] (fun j hj hd k hk => by
        by_cases xz : j = 24
        · subst xz; exact (depT_no hd (by kernel_rfl)).elim
        rw [if_neg xz] at hk; cases hk)
      have d15 := hdep { on := 15, ground := .data } (by simp) rfl _ rfl
      have d17 := hdep { on := 17, ground := .data } (by simp) rfl _ rfl
      obtain ⟨ysl, ha, hy⟩ := hL.puts [4, 5, 6, 7, 8, 9, 10, 11, 12, 13, 14, 15, 16, 17, 18, 19, 20, 21, 22, 23, 24, 25, 26, 27, 28] (by kernel_rfl)
      have e15 : ysl 19 = .slice (some ⟨gr, 0, none⟩) 8 cr := (hy 19).symm.trans d15
      have e17 : ysl 21 = .int .i64 b := (hy 21).symm.trans d17
      clear hdep hL hy d15 d17
      simp only [List.foldl, List.setIfInBounds_toArray, List.set_cons_succ, List.set_cons_zero, e15, e17] at ha
      subst ha
      clear e15 e17
      have ix0 : 0 ≤ b := by omega
      have ix1 : b < 8 := by omega
      refine wpOp_step rfl (fun K hK => ?_)
      go_simp
      exact hK _ _ ⟨_, rfl, (fun h => by cases h), (by first | rfl | (exact congrArg (Value.int .i64) (by rw [IntWalk.i64_left, IntWalk.wrap64_in _ (by omega)])) | simp), But.refl _ _, trivial⟩
    · cases ho
      intro fu act u hW hB hsz hL hdep
      replace hB := hB [] (fun j hj hd k hk => by
        by_cases xz : j = 24
        · subst xz; exact (depT_no hd (by kernel_rfl)).elim
        rw [if_neg xz] at hk; cases hk)
      have d18 := hdep { on := 18, ground := .data } (by simp) rfl _ rfl
      obtain ⟨ysl, ha, hy⟩ := hL.puts [4, 5, 6, 7, 8, 9, 10, 11, 12, 13, 14, 15, 16, 17, 18, 19, 20, 21, 22, 23, 24, 25, 26, 27, 28] (by kernel_rfl)
      have e18 : ysl 22 = .pointer (some ⟨gr, b.toNat, none⟩) := (hy 22).symm.trans d18
      clear hdep hL hy d18
      simp only [List.foldl, List.setIfInBounds_toArray, List.set_cons_succ, List.set_cons_zero, e18] at ha
      subst ha
      clear e18
      have hm := HM.out.but hB (by simp) (by simp) (by simp) (by simp)
      have c := hm.ow.R.cel (b.toNat) (by have h1 := HK.out.Rl; have h2 := HK.out.Cl; have h3 := HK.out.Ml; omega)
      clear hm
      rw [hvb] at c
      refine wpOp_step rfl (fun K hK => ?_)
      go_simp
      exact hK _ _ ⟨_, rfl, (fun h => by cases h), (by first | rfl | (exact congrArg (Value.int .i64) (by rw [IntWalk.i64_left, IntWalk.wrap64_in _ (by omega)])) | simp), But.refl _ _, trivial⟩
    · cases ho
      intro fu act u hW hB hsz hL hdep
      replace hB := hB [] (fun j hj hd k hk => by
        by_cases xz : j = 24
        · subst xz; exact (depT_no hd (by kernel_rfl)).elim
        rw [if_neg xz] at hk; cases hk)
      have d19 := hdep { on := 19, ground := .data } (by simp) rfl _ rfl
      obtain ⟨ysl, ha, hy⟩ := hL.puts [4, 5, 6, 7, 8, 9, 10, 11, 12, 13, 14, 15, 16, 17, 18, 19, 20, 21, 22, 23, 24, 25, 26, 27, 28] (by kernel_rfl)
      have e19 : ysl 23 = .int .i64 vb := (hy 23).symm.trans d19
      clear hdep hL hy d19
      simp only [List.foldl, List.setIfInBounds_toArray, List.set_cons_succ, List.set_cons_zero, e19] at ha
      subst ha
      clear e19
      refine wpOp_step rfl (fun K hK => ?_)
      go_simp
      refine (impl_WrdInt _ u).mono ?_
      rintro r u' ⟨rfl, rfl⟩
      go_simp
      exact hK _ _ ⟨_, rfl, (fun h => by cases h), rfl, But.refl _ _, trivial⟩
    · cases ho
      intro fu act u hW hB hsz hL hdep
      replace hB := hB [] (fun j hj hd k hk => by
        by_cases xz : j = 24
        · subst xz; exact (depT_no hd (by kernel_rfl)).elim
        rw [if_neg xz] at hk; cases hk)
      have d10 := hdep { on := 10, ground := .data } (by simp) rfl _ rfl
      have d20 := hdep { on := 20, ground := .data } (by simp) rfl _ rfl
      obtain ⟨ysl, ha, hy⟩ := hL.puts [4, 5, 6, 7, 8, 9, 10, 11, 12, 13, 14, 15, 16, 17, 18, 19, 20, 21, 22, 23, 24, 25, 26, 27, 28] (by kernel_rfl)
      have e10 : ysl 14 = .int .i64 (sgn va) := (hy 14).symm.trans d10
      have e20 : ysl 24 = .int .i64 (sgn vb) := (hy 24).symm.trans d20
      clear hdep hL hy d10 d20
      simp only [List.foldl, List.setIfInBounds_toArray, List.set_cons_succ, List.set_cons_zero, e10, e20] at ha
      subst ha
      clear e10 e20
      refine wpOp_step rfl (fun K hK => ?_)
      go_simp
      exact hK _ _ ⟨_, rfl, (fun h => by cases h), (by first | rfl | (exact congrArg (Value.int .i64) (by rw [IntWalk.i64_left, IntWalk.wrap64_in _ (by omega)])) | simp), But.refl _ _, trivial⟩
    · cases ho
      intro fu act u hW hB hsz hL hdep
      replace hB := hB [] (fun j hj hd k hk => by
        by_cases xz : j = 24
        · subst xz; exact (depT_no hd (by kernel_rfl)).elim
        rw [if_neg xz] at hk; cases hk)
      obtain ⟨ysl, ha, hy⟩ := hL.puts [4, 5, 6, 7, 8, 9, 10, 11, 12, 13, 14, 15, 16, 17, 18, 19, 20, 21, 22, 23, 24, 25, 26, 27, 28] (by kernel_rfl)
      clear hdep hL hy
      simp only [List.foldl, List.setIfInBounds_toArray, List.set_cons_succ, List.set_cons_zero] at ha
      subst ha
      refine wpOp_step rfl (fun K hK => ?_)
      go_simp
      exact hK _ _ ⟨_, rfl, (fun h => by cases h), (by first | rfl | (exact congrArg (Value.int .i64) (by rw [IntWalk.i64_left, IntWalk.wrap64_in _ (by omega)])) | simp), But.refl _ _, trivial⟩
    · cases ho
      intro fu act u hW hB hsz hL hdep
      replace hB := hB [] (fun j hj hd k hk => by
        by_cases xz : j = 24
        · subst xz; exact (depT_no hd (by kernel_rfl)).elim
        rw [if_neg xz] at hk; cases hk)
      have d22 := hdep { on := 22, ground := .data } (by simp) rfl _ rfl
      obtain ⟨ysl, ha, hy⟩ := hL.puts [4, 5, 6, 7, 8, 9, 10, 11, 12, 13, 14, 15, 16, 17, 18, 19, 20, 21, 22, 23, 24, 25, 26, 27, 28] (by kernel_rfl)
      have e22 : ysl 26 = .pointer (some ⟨X, 5, none⟩) := (hy 26).symm.trans d22
      clear hdep hL hy d22
      simp only [List.foldl, List.setIfInBounds_toArray, List.set_cons_succ, List.set_cons_zero, e22] at ha
      subst ha
      clear e22
      have c := (HX.out.but hB (by simp)).c5
      refine wpOp_step rfl (fun K hK => ?_)
      go_simp
      exact hK _ _ ⟨_, rfl, (fun h => by cases h), (by first | rfl | (exact congrArg (Value.int .i64) (by rw [IntWalk.i64_left, IntWalk.wrap64_in _ (by omega)])) | simp), But.refl _ _, trivial⟩
    · cases ho
      intro fu act u hW hB hsz hL hdep
      replace hB := hB [] (fun j hj hd k hk => by
        rw [if_neg hj] at hk; cases hk)
      have d0 := hdep { on := 0, ground := .data } (by simp) rfl _ rfl
      have d21 := hdep { on := 21, ground := .data } (by simp) rfl _ rfl
      have d23 := hdep { on := 23, ground := .data } (by simp) rfl _ rfl
      obtain ⟨ysl, ha, hy⟩ := hL.puts [4, 5, 6, 7, 8, 9, 10, 11, 12, 13, 14, 15, 16, 17, 18, 19, 20, 21, 22, 23, 24, 25, 26, 27, 28] (by kernel_rfl)
      have e0 : ysl 4 = .pointer (some ⟨m, 0, none⟩) := (hy 4).symm.trans d0
      have e21 : ysl 25 = .bool (decide ((sgn va) < (sgn vb))) := (hy 25).symm.trans d21
      have e23 : ysl 27 = .int .i64 n := (hy 27).symm.trans d23
      clear hdep hL hy d0 d21 d23
      simp only [List.foldl, List.setIfInBounds_toArray, List.set_cons_succ, List.set_cons_zero, e0, e21, e23] at ha
      subst ha
      clear e0 e21 e23
      refine wpOp_step rfl (fun K hK => ?_)
      go_simp
      refine (impl_branch u m gr gc gm cr cc cm s e (nx s) n (decide (sgn va < sgn vb)) (HM.out.but hB (by simp) (by simp) (by simp) (by simp)) hnx.1 hnx.2 (by omega) (by omega)).mono ?_
      rintro r u' ⟨rfl, hM', hB'⟩
      go_simp
      exact hK _ _ ⟨_, rfl, (fun h => by cases h), ⟨rfl, hM'⟩, hB', trivial⟩
    · exact absurd ho (by simp)
  case fin =>
    intro act u hW hsz hB hL hsf
    replace hB := hB [m] (fun j k hk => by
      by_cases yz : j = 24
      · rw [if_pos yz] at hk; exact hk
      rw [if_neg yz] at hk
      cases hk)
    have d24 := hsf 24 _ rfl
    obtain ⟨ysl, ha, hy⟩ := hL.puts [4, 5, 6, 7, 8, 9, 10, 11, 12, 13, 14, 15, 16, 17, 18, 19, 20, 21, 22, 23, 24, 25, 26, 27, 28] (by kernel_rfl)
    clear hL hsf hy
    simp only [List.foldl, List.setIfInBounds_toArray, List.set_cons_succ, List.set_cons_zero] at ha
    subst ha
    obtain ⟨_, hM'⟩ := d24
    rw [show (if (decide (sgn va < sgn vb)) = true then (nx s + n) % 65536 else nx s) = pc2 by rw [← HPC.out]; simp] at hM'
    go_wp2_with fail
    (first | refine bodyPost_end (results_none rfl _ _ _) rfl ?_ | refine bodyPost_ret (results_none rfl _ _ _) rfl ?_)
    exact ⟨rfl, hM', (((But.of HF.out).trans (hB.up (fun k hk => by simp at hk ⊢; omega))))⟩

end Go.Proofs.YtbjapncfgancoaaDoor
