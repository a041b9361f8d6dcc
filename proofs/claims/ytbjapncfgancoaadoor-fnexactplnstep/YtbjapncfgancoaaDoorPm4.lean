/- What the methods that put and go on do. -/
import Derived.Test.YtbjapncfgancoaaDoorPm3
namespace Go.Proofs.YtbjapncfgancoaaDoor
open Go.RowKit
set_option linter.unusedVariables false
set_option linter.unusedSimpArgs false
theorem fr_none {w w' : World} (h : But [] w w') : Fr w w' := fr_but (L := []) (Below.refl _ _) h (fun k hk => by cases hk)
set_option maxRecDepth 8000 in
set_option maxHeartbeats 4000000 in
theorem ef_jump (u : World) (m gr gc gm cr cc cm : Nat) (s : St) (e : Ev) (d a b f n : Int) (h : Mx u m gr gc gm cr cc cm s e (nx s)) (hk : OkS s) (hi : iok 7 d a b f n = true) :
  Calls Tryd.prog 99 #[.pointer (some ⟨m, 0, none⟩), .agg #[.int .i64 7, .int .i64 d, .int .i64 a, .int .i64 b, .int .i64 f, .int .i64 n]] u (EfP (effS s e 7 d a b f n) m gr gc gm cr cc cm s e u) := by
 rw [eff_7]
 obtain ⟨⟨d0, d7⟩, ⟨a0, a7⟩, ⟨b0, b7⟩, _⟩ := sok_bd (sok_of hi)
 obtain ⟨n0, n1⟩ := num_bd (iok_num hi)
 obtain ⟨f0, f7⟩ := f_bd (iok_f hi)
 have hlm := h.lt
 have hnx : 0 ≤ nx s ∧ nx s < 65536 := by unfold nx; omega
 have hR := Lib.hid hk.Rl
 have HK := Lib.hid hk
 have F0 := Fr.alloc u (.cells #[.int .i64 7, .int .i64 d, .int .i64 a, .int .i64 b, .int .i64 f, .int .i64 n] 48)
 have HM := Lib.hid (h.fr F0)
 have HX0 := Lib.hid (Box.new u 7 d a b f n 48)
 have HF := Lib.hid F0
 have ho := h.ow
 have lr := ho.R.lt
 have lc := ho.C.lt
 have lm := ho.M.lt
 clear h hk F0 ho
 simp only [put]
 go_enter Tryd.func99, Tryd.ntmps99
 go_wp2_with fail
 generalize (u.alloc (.cells #[.int .i64 7, .int .i64 d, .int .i64 a, .int .i64 b, .int .i64 f, .int .i64 n] 48)) = u0 at *
 have hz := HF.out.size
 have hXl := HX0.out.lt
 have HX := Lib.hid HX0.out
 clear HX0
 generalize hXe : u.heap.size = X at *
 refine wp_region_lots2 16 (fun i => if i = 7 then [m, gr] else []) (fun _ _ => True) (fun i v u => match i with | 0 => v = .pointer (some ⟨m, 0, none⟩) | 1 => v = .pointer (some ⟨X, 1, none⟩) | 2 => v = .int .i64 d | 3 => v = .pointer (some ⟨m, 0, none⟩) | 4 => v = .pointer (some ⟨m, 0, none⟩) | 5 => v = .pointer (some ⟨m, 11, none⟩) | 6 => v = .int .i64 (nx s) | 7 => (v = .tuple #[] ∧ Mx u m gr gc gm cr cc cm ⟨s.pc, putR s.R d (nx s), s.C, s.M⟩ (putE e d (nx s)) (nx s)) | _ => True) ?mono (by kernel_rfl) (by kernel_rfl) rfl (by kernel_rfl) trivial ?step ?fin
 case mono =>
  intro i j v u u' hij hsz h hB
  rcases j with _ | _ | _ | _ | _ | _ | _ | _ | j
  ·exact h
  ·exact h
  ·exact h
  ·exact h
  ·exact h
  ·exact h
  ·exact h
  ·exact (by have hB2 : But [] u u' := (by have hx := hB; simp only [if_neg hij] at hx; exact hx); exact ⟨h.1, h.2.but hB2 (by simp) (by simp) (by simp) (by simp)⟩)
  ·trivial
 case step =>
  intro i o ho
  rcases i with _ | _ | _ | _ | _ | _ | _ | _ | i
  ·cases ho
   intro fu act u hW hB hsz hL hdep
   replace hB := hB [] (fun j hj hd k hk => by
    by_cases xz : j = 7
    ·subst xz; exact (depT_no hd (by kernel_rfl)).elim
    rw [if_neg xz] at hk; cases hk)
   have x0 : act.tmps.getD 0 undef = (.pointer (some ⟨m, 0, none⟩) : Value) := (hL.2.2 0 (no_dst (by kernel_rfl))).trans rfl
   clear hdep hL
   refine wpOp_step rfl (fun K hK => ?_)
   go_simp
   exact hK _ _ ⟨_, rfl, (fun h => by cases h), (by first | rfl | (exact congrArg (Value.int .i64) (by rw [IntWalk.i64_left, IntWalk.wrap64_in _ (by omega)])) | simp), But.refl _ _, trivial⟩
  ·cases ho
   intro fu act u hW hB hsz hL hdep
   replace hB := hB [] (fun j hj hd k hk => by
    by_cases xz : j = 7
    ·subst xz; exact (depT_no hd (by kernel_rfl)).elim
    rw [if_neg xz] at hk; cases hk)
   have x3 : act.tmps.getD 3 undef = (.pointer (some ⟨X, 0, none⟩) : Value) := (hL.2.2 3 (no_dst (by kernel_rfl))).trans rfl
   clear hdep hL
   refine wpOp_step rfl (fun K hK => ?_)
   go_simp
   exact hK _ _ ⟨_, rfl, (fun h => by cases h), (by first | rfl | (exact congrArg (Value.int .i64) (by rw [IntWalk.i64_left, IntWalk.wrap64_in _ (by omega)])) | simp), But.refl _ _, trivial⟩
  ·cases ho
   intro fu act u hW hB hsz hL hdep
   replace hB := hB [] (fun j hj hd k hk => by
    by_cases xz : j = 7
    ·subst xz; exact (depT_no hd (by kernel_rfl)).elim
    rw [if_neg xz] at hk; cases hk)
   have e1 : act.tmps.getD 5 undef = (.pointer (some ⟨X, 1, none⟩) : Value) := hdep { on := 1, ground := .data } (by simp) rfl _ rfl
   clear hdep hL
   have c := (HX.out.but hB (by simp)).c1
   refine wpOp_step rfl (fun K hK => ?_)
   go_simp
   exact hK _ _ ⟨_, rfl, (fun h => by cases h), (by first | rfl | (exact congrArg (Value.int .i64) (by rw [IntWalk.i64_left, IntWalk.wrap64_in _ (by omega)])) | simp), But.refl _ _, trivial⟩
  ·cases ho
   intro fu act u hW hB hsz hL hdep
   replace hB := hB [] (fun j hj hd k hk => by
    by_cases xz : j = 7
    ·subst xz; exact (depT_no hd (by kernel_rfl)).elim
    rw [if_neg xz] at hk; cases hk)
   have x0 : act.tmps.getD 0 undef = (.pointer (some ⟨m, 0, none⟩) : Value) := (hL.2.2 0 (no_dst (by kernel_rfl))).trans rfl
   clear hdep hL
   refine wpOp_step rfl (fun K hK => ?_)
   go_simp
   exact hK _ _ ⟨_, rfl, (fun h => by cases h), (by first | rfl | (exact congrArg (Value.int .i64) (by rw [IntWalk.i64_left, IntWalk.wrap64_in _ (by omega)])) | simp), But.refl _ _, trivial⟩
  ·cases ho
   intro fu act u hW hB hsz hL hdep
   replace hB := hB [] (fun j hj hd k hk => by
    by_cases xz : j = 7
    ·subst xz; exact (depT_no hd (by kernel_rfl)).elim
    rw [if_neg xz] at hk; cases hk)
   have e3 : act.tmps.getD 7 undef = (.pointer (some ⟨m, 0, none⟩) : Value) := hdep { on := 3, ground := .data } (by simp) rfl _ rfl
   clear hdep hL
   refine wpOp_step rfl (fun K hK => ?_)
   go_simp
   exact hK _ _ ⟨_, rfl, (fun h => by cases h), (by first | rfl | (exact congrArg (Value.int .i64) (by rw [IntWalk.i64_left, IntWalk.wrap64_in _ (by omega)])) | simp), But.refl _ _, trivial⟩
  ·cases ho
   intro fu act u hW hB hsz hL hdep
   replace hB := hB [] (fun j hj hd k hk => by
    by_cases xz : j = 7
    ·subst xz; exact (depT_no hd (by kernel_rfl)).elim
    rw [if_neg xz] at hk; cases hk)
   have e4 : act.tmps.getD 8 undef = (.pointer (some ⟨m, 0, none⟩) : Value) := hdep { on := 4, ground := .data } (by simp) rfl _ rfl
   clear hdep hL
   refine wpOp_step rfl (fun K hK => ?_)
   go_simp
   exact hK _ _ ⟨_, rfl, (fun h => by cases h), (by first | rfl | (exact congrArg (Value.int .i64) (by rw [IntWalk.i64_left, IntWalk.wrap64_in _ (by omega)])) | simp), But.refl _ _, trivial⟩
  ·cases ho
   intro fu act u hW hB hsz hL hdep
   replace hB := hB [] (fun j hj hd k hk => by
    by_cases xz : j = 7
    ·subst xz; exact (depT_no hd (by kernel_rfl)).elim
    rw [if_neg xz] at hk; cases hk)
   have e5 : act.tmps.getD 9 undef = (.pointer (some ⟨m, 11, none⟩) : Value) := hdep { on := 5, ground := .data } (by simp) rfl _ rfl
   clear hdep hL
   have hm := HM.out.but hB (by simp) (by simp) (by simp) (by simp)
   have c := hm.cel 11 (by decide)
   simp only [mCells, List.getElem?_cons_succ, List.getElem?_cons_zero] at c
   clear hm
   refine wpOp_step rfl (fun K hK => ?_)
   go_simp
   exact hK _ _ ⟨_, rfl, (fun h => by cases h), (by first | rfl | (exact congrArg (Value.int .i64) (by rw [IntWalk.i64_left, IntWalk.wrap64_in _ (by omega)])) | simp), But.refl _ _, trivial⟩
  ·cases ho
   intro fu act u hW hB hsz hL hdep
   replace hB := hB [] (fun j hj hd k hk => by
    rw [if_neg hj] at hk; cases hk)
   have e0 : act.tmps.getD 4 undef = (.pointer (some ⟨m, 0, none⟩) : Value) := hdep { on := 0, ground := .data } (by simp) rfl _ rfl
   have e2 : act.tmps.getD 6 undef = (.int .i64 d : Value) := hdep { on := 2, ground := .data } (by simp) rfl _ rfl
   have e6 : act.tmps.getD 10 undef = (.int .i64 (nx s) : Value) := hdep { on := 6, ground := .data } (by simp) rfl _ rfl
   have hdf := Lib.hid (show act.defers = [] from hL.1)
   clear hdep hL
   refine wpOp_step rfl (fun K hK => ?_)
   go_simp
   refine (impl_put u m gr gc gm cr cc cm s e (nx s) d (nx s) (HM.out.but hB (by simp) (by simp) (by simp) (by simp)) hR.out d0 d7).mono ?_
   rintro r u' ⟨rfl, hM', hB'⟩
   go_simp
   exact hK _ _ ⟨_, rfl, (fun h => by cases h), ⟨rfl, hM'⟩, hB', trivial⟩
  ·exact absurd ho (by simp)
 case fin =>
  intro act u hW hsz hB hL hsf
  replace hB := hB [m, gr] (fun j k hk => by
   by_cases yz : j = 7
   ·rw [if_pos yz] at hk; exact hk
   rw [if_neg yz] at hk
   cases hk)
  have d7 := hsf 7 _ rfl
  obtain ⟨ysl, ha, hy⟩ := hL.puts [4, 5, 6, 7, 8, 9, 10, 11] (by kernel_rfl)
  clear hL hsf hy
  simp only [List.foldl, List.setIfInBounds_toArray, List.set_cons_succ, List.set_cons_zero] at ha
  subst ha
  obtain ⟨_, hM'⟩ := d7
  have x5 := (HX.out.but hB (by simp; omega)).c5
  go_wp2_with fail
  refine (impl_branch u m gr gc gm cr cc cm ⟨s.pc, putR s.R d (nx s), s.C, s.M⟩ (putE e d (nx s)) (nx s) n true hM' hnx.1 hnx.2 (by omega) (by omega)).mono ?_
  rintro r u' ⟨rfl, hM2, hB2⟩
  go_wp2_with fail
  (first | refine bodyPost_end (results_none rfl _ _ _) rfl ?_ | refine bodyPost_ret (results_none rfl _ _ _) rfl ?_)
  exact ⟨rfl, hM2, (((But.of HF.out).trans (hB.up (fun k hk => by simp at hk ⊢; omega)))).trans (hB2.up (fun k hk => by simp at hk ⊢; omega))⟩
set_option maxRecDepth 8000 in
set_option maxHeartbeats 4000000 in
theorem ef_call (u : World) (m gr gc gm cr cc cm : Nat) (s : St) (e : Ev) (d a b f n : Int) (h : Mx u m gr gc gm cr cc cm s e (nx s)) (hk : OkS s) (hi : iok 8 d a b f n = true) :
  Calls Tryd.prog 100 #[.pointer (some ⟨m, 0, none⟩), .agg #[.int .i64 8, .int .i64 d, .int .i64 a, .int .i64 b, .int .i64 f, .int .i64 n]] u (EfP (effS s e 8 d a b f n) m gr gc gm cr cc cm s e u) := by
 rw [eff_8]
 obtain ⟨⟨d0, d7⟩, ⟨a0, a7⟩, ⟨b0, b7⟩, _⟩ := sok_bd (sok_of hi)
 obtain ⟨n0, n1⟩ := num_bd (iok_num hi)
 obtain ⟨f0, f7⟩ := f_bd (iok_f hi)
 have hlm := h.lt
 have hnx : 0 ≤ nx s ∧ nx s < 65536 := by unfold nx; omega
 have hR := Lib.hid hk.Rl
 have HK := Lib.hid hk
 have qva := ok_get hk.R a.toNat
 have F0 := Fr.alloc u (.cells #[.int .i64 8, .int .i64 d, .int .i64 a, .int .i64 b, .int .i64 f, .int .i64 n] 48)
 have HM := Lib.hid (h.fr F0)
 have HX0 := Lib.hid (Box.new u 8 d a b f n 48)
 have HF := Lib.hid F0
 have ho := h.ow
 have lr := ho.R.lt
 have lc := ho.C.lt
 have lm := ho.M.lt
 clear h hk F0 ho
 obtain ⟨va, hva⟩ : ∃ x, s.R.getD a.toNat 0 = x := ⟨_, rfl⟩
 rw [hva] at qva
 obtain ⟨qva0, qva1⟩ := qva
 simp only [put, goto, rg, mm, hva]
 go_enter Tryd.func100, Tryd.ntmps100
 go_wp2_with fail
 generalize (u.alloc (.cells #[.int .i64 8, .int .i64 d, .int .i64 a, .int .i64 b, .int .i64 f, .int .i64 n] 48)) = u0 at *
 have hz := HF.out.size
 have hXl := HX0.out.lt
 have HX := Lib.hid HX0.out
 clear HX0
 generalize hXe : u.heap.size = X at *
 refine wp_region_lots2 30 (fun _ => []) (fun _ _ => True) (fun i v u => match i with | 0 => v = .pointer (some ⟨m, 0, none⟩) | 1 => v = .pointer (some ⟨m, 0, none⟩) | 2 => v = .pointer (some ⟨m, 0, none⟩) | 3 => v = .pointer (some ⟨m, 1, none⟩) | 4 => v = .slice (some ⟨gr, 0, none⟩) 8 cr | 5 => v = .pointer (some ⟨X, 2, none⟩) | 6 => v = .int .i64 a | 7 => v = .pointer (some ⟨gr, a.toNat, none⟩) | 8 => v = .int .i64 va | 9 => v = .pointer (some ⟨X, 5, none⟩) | 10 => v = .int .i64 n | 11 => v = .int .i64 (va + n) | 12 => v = .int .i64 ((va + n) % 65536) | 13 => v = .int .i64 ((va + n) % 65536) | _ => True) ?mono (by kernel_rfl) (by kernel_rfl) rfl (by kernel_rfl) trivial ?step ?fin
 case mono =>
  intro i j v u u' hij hsz h hB
  rcases j with _ | _ | _ | _ | _ | _ | _ | _ | _ | _ | _ | _ | _ | _ | j
  ·exact h
  ·exact h
  ·exact h
  ·exact h
  ·exact h
  ·exact h
  ·exact h
  ·exact h
  ·exact h
  ·exact h
  ·exact h
  ·exact h
  ·exact h
  ·exact h
  ·trivial
 case step =>
  intro i o ho
  rcases i with _ | _ | _ | _ | _ | _ | _ | _ | _ | _ | _ | _ | _ | _ | i
  ·cases ho
   intro fu act u hW hB hsz hL hdep
   replace hB := hB [] (fun j hj hd k hk => by cases hk)
   have x0 : act.tmps.getD 0 undef = (.pointer (some ⟨m, 0, none⟩) : Value) := (hL.2.2 0 (no_dst (by kernel_rfl))).trans rfl
   clear hdep hL
   refine wpOp_step rfl (fun K hK => ?_)
   go_simp
   exact hK _ _ ⟨_, rfl, (fun h => by cases h), (by first | rfl | (exact congrArg (Value.int .i64) (by rw [IntWalk.i64_left, IntWalk.wrap64_in _ (by omega)])) | simp), But.refl _ _, trivial⟩
  ·cases ho
   intro fu act u hW hB hsz hL hdep
   replace hB := hB [] (fun j hj hd k hk => by cases hk)
   have e0 : act.tmps.getD 5 undef = (.pointer (some ⟨m, 0, none⟩) : Value) := hdep { on := 0, ground := .data } (by simp) rfl _ rfl
   clear hdep hL
   refine wpOp_step rfl (fun K hK => ?_)
   go_simp
   exact hK _ _ ⟨_, rfl, (fun h => by cases h), (by first | rfl | (exact congrArg (Value.int .i64) (by rw [IntWalk.i64_left, IntWalk.wrap64_in _ (by omega)])) | simp), But.refl _ _, trivial⟩
  ·cases ho
   intro fu act u hW hB hsz hL hdep
   replace hB := hB [] (fun j hj hd k hk => by cases hk)
   have e1 : act.tmps.getD 6 undef = (.pointer (some ⟨m, 0, none⟩) : Value) := hdep { on := 1, ground := .data } (by simp) rfl _ rfl
   clear hdep hL
   refine wpOp_step rfl (fun K hK => ?_)
   go_simp
   exact hK _ _ ⟨_, rfl, (fun h => by cases h), (by first | rfl | (exact congrArg (Value.int .i64) (by rw [IntWalk.i64_left, IntWalk.wrap64_in _ (by omega)])) | simp), But.refl _ _, trivial⟩
  ·cases ho
   intro fu act u hW hB hsz hL hdep
   replace hB := hB [] (fun j hj hd k hk => by cases hk)
   have e2 : act.tmps.getD 7 undef = (.pointer (some ⟨m, 0, none⟩) : Value) := hdep { on := 2, ground := .data } (by simp) rfl _ rfl
   clear hdep hL
   refine wpOp_step rfl (fun K hK => ?_)
   go_simp
   exact hK _ _ ⟨_, rfl, (fun h => by cases h), (by first | rfl | (exact congrArg (Value.int .i64) (by rw [IntWalk.i64_left, IntWalk.wrap64_in _ (by omega)])) | simp), But.refl _ _, trivial⟩
  ·cases ho
   intro fu act u hW hB hsz hL hdep
   replace hB := hB [] (fun j hj hd k hk => by cases hk)
   have e3 : act.tmps.getD 8 undef = (.pointer (some ⟨m, 1, none⟩) : Value) := hdep { on := 3, ground := .data } (by simp) rfl _ rfl
   clear hdep hL
   have hm := HM.out.but hB (by simp) (by simp) (by simp) (by simp)
   have c := hm.cel 1 (by decide)
   simp only [mCells, List.getElem?_cons_succ, List.getElem?_cons_zero] at c
   clear hm
   refine wpOp_step rfl (fun K hK => ?_)
   go_simp
   exact hK _ _ ⟨_, rfl, (fun h => by cases h), (by first | rfl | (exact congrArg (Value.int .i64) (by rw [IntWalk.i64_left, IntWalk.wrap64_in _ (by omega)])) | simp), But.refl _ _, trivial⟩
  ·cases ho
   intro fu act u hW hB hsz hL hdep
   replace hB := hB [] (fun j hj hd k hk => by cases hk)
   have x3 : act.tmps.getD 3 undef = (.pointer (some ⟨X, 0, none⟩) : Value) := (hL.2.2 3 (no_dst (by kernel_rfl))).trans rfl
   clear hdep hL
   refine wpOp_step rfl (fun K hK => ?_)
   go_simp
   exact hK _ _ ⟨_, rfl, (fun h => by cases h), (by first | rfl | (exact congrArg (Value.int .i64) (by rw [IntWalk.i64_left, IntWalk.wrap64_in _ (by omega)])) | simp), But.refl _ _, trivial⟩
  ·cases ho
   intro fu act u hW hB hsz hL hdep
   replace hB := hB [] (fun j hj hd k hk => by cases hk)
   have e5 : act.tmps.getD 10 undef = (.pointer (some ⟨X, 2, none⟩) : Value) := hdep { on := 5, ground := .data } (by simp) rfl _ rfl
   clear hdep hL
   have c := (HX.out.but hB (by simp)).c2
   refine wpOp_step rfl (fun K hK => ?_)
   go_simp
   exact hK _ _ ⟨_, rfl, (fun h => by cases h), (by first | rfl | (exact congrArg (Value.int .i64) (by rw [IntWalk.i64_left, IntWalk.wrap64_in _ (by omega)])) | simp), But.refl _ _, trivial⟩
  ·cases ho
   intro fu act u hW hB hsz hL hdep
   replace hB := hB [] (fun j hj hd k hk => by cases hk)
   have e4 : act.tmps.getD 9 undef = (.slice (some ⟨gr, 0, none⟩) 8 cr : Value) := hdep { on := 4, ground := .data } (by simp) rfl _ rfl
   have e6 : act.tmps.getD 11 undef = (.int .i64 a : Value) := hdep { on := 6, ground := .data } (by simp) rfl _ rfl
   clear hdep hL
   have ix0 : 0 ≤ a := by omega
   have ix1 : a < 8 := by omega
   refine wpOp_step rfl (fun K hK => ?_)
   go_simp
   exact hK _ _ ⟨_, rfl, (fun h => by cases h), (by first | rfl | (exact congrArg (Value.int .i64) (by rw [IntWalk.i64_left, IntWalk.wrap64_in _ (by omega)])) | simp), But.refl _ _, trivial⟩
  ·cases ho
   intro fu act u hW hB hsz hL hdep
   replace hB := hB [] (fun j hj hd k hk => by cases hk)
   have e7 : act.tmps.getD 12 undef = (.pointer (some ⟨gr, a.toNat, none⟩) : Value) := hdep { on := 7, ground := .data } (by simp) rfl _ rfl
   clear hdep hL
   have hm := HM.out.but hB (by simp) (by simp) (by simp) (by simp)
   have c := hm.ow.R.cel (a.toNat) (by have h1 := HK.out.Rl; have h2 := HK.out.Cl; have h3 := HK.out.Ml; omega)
   clear hm
   rw [hva] at c
   refine wpOp_step rfl (fun K hK => ?_)
   go_simp
   exact hK _ _ ⟨_, rfl, (fun h => by cases h), (by first | rfl | (exact congrArg (Value.int .i64) (by rw [IntWalk.i64_left, IntWalk.wrap64_in _ (by omega)])) | simp), But.refl _ _, trivial⟩
  ·cases ho
   intro fu act u hW hB hsz hL hdep
   replace hB := hB [] (fun j hj hd k hk => by cases hk)
   have x3 : act.tmps.getD 3 undef = (.pointer (some ⟨X, 0, none⟩) : Value) := (hL.2.2 3 (no_dst (by kernel_rfl))).trans rfl
   clear hdep hL
   refine wpOp_step rfl (fun K hK => ?_)
   go_simp
   exact hK _ _ ⟨_, rfl, (fun h => by cases h), (by first | rfl | (exact congrArg (Value.int .i64) (by rw [IntWalk.i64_left, IntWalk.wrap64_in _ (by omega)])) | simp), But.refl _ _, trivial⟩
  ·cases ho
   intro fu act u hW hB hsz hL hdep
   replace hB := hB [] (fun j hj hd k hk => by cases hk)
   have e9 : act.tmps.getD 14 undef = (.pointer (some ⟨X, 5, none⟩) : Value) := hdep { on := 9, ground := .data } (by simp) rfl _ rfl
   clear hdep hL
   have c := (HX.out.but hB (by simp)).c5
   refine wpOp_step rfl (fun K hK => ?_)
   go_simp
   exact hK _ _ ⟨_, rfl, (fun h => by cases h), (by first | rfl | (exact congrArg (Value.int .i64) (by rw [IntWalk.i64_left, IntWalk.wrap64_in _ (by omega)])) | simp), But.refl _ _, trivial⟩
  ·cases ho
   intro fu act u hW hB hsz hL hdep
   replace hB := hB [] (fun j hj hd k hk => by cases hk)
   have e8 : act.tmps.getD 13 undef = (.int .i64 va : Value) := hdep { on := 8, ground := .data } (by simp) rfl _ rfl
   have e10 : act.tmps.getD 15 undef = (.int .i64 n : Value) := hdep { on := 10, ground := .data } (by simp) rfl _ rfl
   clear hdep hL
   refine wpOp_step rfl (fun K hK => ?_)
   go_simp
   exact hK _ _ ⟨_, rfl, (fun h => by cases h), (by first | rfl | (exact congrArg (Value.int .i64) (by rw [IntWalk.i64_left, IntWalk.wrap64_in _ (by omega)])) | simp), But.refl _ _, trivial⟩
  ·cases ho
   intro fu act u hW hB hsz hL hdep
   replace hB := hB [] (fun j hj hd k hk => by cases hk)
   have e11 : act.tmps.getD 16 undef = (.int .i64 (va + n) : Value) := hdep { on := 11, ground := .data } (by simp) rfl _ rfl
   have hdf := Lib.hid (show act.defers = [] from hL.1)
   clear hdep hL
   refine wpOp_step rfl (fun K hK => ?_)
   go_simp
   refine (impl_wrapped _ u (by omega) (by omega)).mono ?_
   rintro r u' ⟨rfl, rfl⟩
   go_simp
   exact hK _ _ ⟨_, rfl, (fun h => by cases h), rfl, But.refl _ _, trivial⟩
  ·cases ho
   intro fu act u hW hB hsz hL hdep
   replace hB := hB [] (fun j hj hd k hk => by cases hk)
   have e12 : act.tmps.getD 17 undef = (.int .i64 ((va + n) % 65536) : Value) := hdep { on := 12, ground := .data } (by simp) rfl _ rfl
   clear hdep hL
   refine wpOp_step rfl (fun K hK => ?_)
   go_simp
   exact hK _ _ ⟨_, rfl, (fun h => by cases h), (by first | rfl | (exact congrArg (Value.int .i64) (by rw [IntWalk.i64_left, IntWalk.wrap64_in _ (by omega)])) | simp), But.refl _ _, trivial⟩
  ·exact absurd ho (by simp)
 case fin =>
  intro act u hW hsz hB hL hsf
  replace hB := hB [] (fun j k hk => by cases hk)
  have d13 := hsf 13 _ rfl
  obtain ⟨ysl, ha, hy⟩ := hL.puts [5, 6, 7, 8, 9, 10, 11, 12, 13, 14, 15, 16, 17, 4] (by kernel_rfl)
  have e13 : ysl 4 = .int .i64 ((va + n) % 65536) := (hy 4).symm.trans d13
  clear hL hsf hy d13
  simp only [List.foldl, List.setIfInBounds_toArray, List.set_cons_succ, List.set_cons_zero, e13] at ha
  subst ha
  clear e13
  have HF2 := Lib.hid (Fr.trans HF.out (fr_none hB))
  have HM2 := Lib.hid (HM.out.but hB (by simp) (by simp) (by simp) (by simp))
  have HX2 := Lib.hid (HX.out.but hB (by simp))
  clear HF HM HX hB hW
  have HF := Lib.hid HF2.out
  have HM := Lib.hid HM2.out
  have HX := Lib.hid HX2.out
  clear HF2 HM2 HX2
  have hsz2 := HF.out.size
  go_wp2_with fail
  refine wp_region_lots2 30 (fun i => if i = 7 then [m, gr] else []) (fun _ _ => True) (fun i v u => match i with | 0 => v = .pointer (some ⟨m, 0, none⟩) | 1 => v = .pointer (some ⟨X, 1, none⟩) | 2 => v = .int .i64 d | 3 => v = .pointer (some ⟨m, 0, none⟩) | 4 => v = .pointer (some ⟨m, 0, none⟩) | 5 => v = .pointer (some ⟨m, 11, none⟩) | 6 => v = .int .i64 (nx s) | 7 => (v = .tuple #[] ∧ Mx u m gr gc gm cr cc cm ⟨s.pc, putR s.R d (nx s), s.C, s.M⟩ (putE e d (nx s)) (nx s)) | _ => True) ?mono (by kernel_rfl) (by kernel_rfl) rfl (by kernel_rfl) trivial ?step ?fin
  case mono =>
   intro i j v u u' hij hsz h hB
   rcases j with _ | _ | _ | _ | _ | _ | _ | _ | j
   ·exact h
   ·exact h
   ·exact h
   ·exact h
   ·exact h
   ·exact h
   ·exact h
   ·exact (by have hB2 : But [] u u' := (by have hx := hB; simp only [if_neg hij] at hx; exact hx); exact ⟨h.1, h.2.but hB2 (by simp) (by simp) (by simp) (by simp)⟩)
   ·trivial
  case step =>
   intro i o ho
   rcases i with _ | _ | _ | _ | _ | _ | _ | _ | i
   ·cases ho
    intro fu act u hW hB hsz hL hdep
    replace hB := hB [] (fun j hj hd k hk => by
     by_cases xz : j = 7
     ·subst xz; exact (depT_no hd (by kernel_rfl)).elim
     rw [if_neg xz] at hk; cases hk)
    have x0 : act.tmps.getD 0 undef = (.pointer (some ⟨m, 0, none⟩) : Value) := (hL.2.2 0 (no_dst (by kernel_rfl))).trans rfl
    clear hdep hL
    refine wpOp_step rfl (fun K hK => ?_)
    go_simp
    exact hK _ _ ⟨_, rfl, (fun h => by cases h), (by first | rfl | (exact congrArg (Value.int .i64) (by rw [IntWalk.i64_left, IntWalk.wrap64_in _ (by omega)])) | simp), But.refl _ _, trivial⟩
   ·cases ho
    intro fu act u hW hB hsz hL hdep
    replace hB := hB [] (fun j hj hd k hk => by
     by_cases xz : j = 7
     ·subst xz; exact (depT_no hd (by kernel_rfl)).elim
     rw [if_neg xz] at hk; cases hk)
    have x3 : act.tmps.getD 3 undef = (.pointer (some ⟨X, 0, none⟩) : Value) := (hL.2.2 3 (no_dst (by kernel_rfl))).trans rfl
    clear hdep hL
    refine wpOp_step rfl (fun K hK => ?_)
    go_simp
    exact hK _ _ ⟨_, rfl, (fun h => by cases h), (by first | rfl | (exact congrArg (Value.int .i64) (by rw [IntWalk.i64_left, IntWalk.wrap64_in _ (by omega)])) | simp), But.refl _ _, trivial⟩
   ·cases ho
    intro fu act u hW hB hsz hL hdep
    replace hB := hB [] (fun j hj hd k hk => by
     by_cases xz : j = 7
     ·subst xz; exact (depT_no hd (by kernel_rfl)).elim
     rw [if_neg xz] at hk; cases hk)
    have e1 : act.tmps.getD 19 undef = (.pointer (some ⟨X, 1, none⟩) : Value) := hdep { on := 1, ground := .data } (by simp) rfl _ rfl
    clear hdep hL
    have c := (HX.out.but hB (by simp)).c1
    refine wpOp_step rfl (fun K hK => ?_)
    go_simp
    exact hK _ _ ⟨_, rfl, (fun h => by cases h), (by first | rfl | (exact congrArg (Value.int .i64) (by rw [IntWalk.i64_left, IntWalk.wrap64_in _ (by omega)])) | simp), But.refl _ _, trivial⟩
   ·cases ho
    intro fu act u hW hB hsz hL hdep
    replace hB := hB [] (fun j hj hd k hk => by
     by_cases xz : j = 7
     ·subst xz; exact (depT_no hd (by kernel_rfl)).elim
     rw [if_neg xz] at hk; cases hk)
    have x0 : act.tmps.getD 0 undef = (.pointer (some ⟨m, 0, none⟩) : Value) := (hL.2.2 0 (no_dst (by kernel_rfl))).trans rfl
    clear hdep hL
    refine wpOp_step rfl (fun K hK => ?_)
    go_simp
    exact hK _ _ ⟨_, rfl, (fun h => by cases h), (by first | rfl | (exact congrArg (Value.int .i64) (by rw [IntWalk.i64_left, IntWalk.wrap64_in _ (by omega)])) | simp), But.refl _ _, trivial⟩
   ·cases ho
    intro fu act u hW hB hsz hL hdep
    replace hB := hB [] (fun j hj hd k hk => by
     by_cases xz : j = 7
     ·subst xz; exact (depT_no hd (by kernel_rfl)).elim
     rw [if_neg xz] at hk; cases hk)
    have e3 : act.tmps.getD 21 undef = (.pointer (some ⟨m, 0, none⟩) : Value) := hdep { on := 3, ground := .data } (by simp) rfl _ rfl
    clear hdep hL
    refine wpOp_step rfl (fun K hK => ?_)
    go_simp
    exact hK _ _ ⟨_, rfl, (fun h => by cases h), (by first | rfl | (exact congrArg (Value.int .i64) (by rw [IntWalk.i64_left, IntWalk.wrap64_in _ (by omega)])) | simp), But.refl _ _, trivial⟩
   ·cases ho
    intro fu act u hW hB hsz hL hdep
    replace hB := hB [] (fun j hj hd k hk => by
     by_cases xz : j = 7
     ·subst xz; exact (depT_no hd (by kernel_rfl)).elim
     rw [if_neg xz] at hk; cases hk)
    have e4 : act.tmps.getD 22 undef = (.pointer (some ⟨m, 0, none⟩) : Value) := hdep { on := 4, ground := .data } (by simp) rfl _ rfl
    clear hdep hL
    refine wpOp_step rfl (fun K hK => ?_)
    go_simp
    exact hK _ _ ⟨_, rfl, (fun h => by cases h), (by first | rfl | (exact congrArg (Value.int .i64) (by rw [IntWalk.i64_left, IntWalk.wrap64_in _ (by omega)])) | simp), But.refl _ _, trivial⟩
   ·cases ho
    intro fu act u hW hB hsz hL hdep
    replace hB := hB [] (fun j hj hd k hk => by
     by_cases xz : j = 7
     ·subst xz; exact (depT_no hd (by kernel_rfl)).elim
     rw [if_neg xz] at hk; cases hk)
    have e5 : act.tmps.getD 23 undef = (.pointer (some ⟨m, 11, none⟩) : Value) := hdep { on := 5, ground := .data } (by simp) rfl _ rfl
    clear hdep hL
    have hm := HM.out.but hB (by simp) (by simp) (by simp) (by simp)
    have c := hm.cel 11 (by decide)
    simp only [mCells, List.getElem?_cons_succ, List.getElem?_cons_zero] at c
    clear hm
    refine wpOp_step rfl (fun K hK => ?_)
    go_simp
    exact hK _ _ ⟨_, rfl, (fun h => by cases h), (by first | rfl | (exact congrArg (Value.int .i64) (by rw [IntWalk.i64_left, IntWalk.wrap64_in _ (by omega)])) | simp), But.refl _ _, trivial⟩
   ·cases ho
    intro fu act u hW hB hsz hL hdep
    replace hB := hB [] (fun j hj hd k hk => by
     rw [if_neg hj] at hk; cases hk)
    have e0 : act.tmps.getD 18 undef = (.pointer (some ⟨m, 0, none⟩) : Value) := hdep { on := 0, ground := .data } (by simp) rfl _ rfl
    have e2 : act.tmps.getD 20 undef = (.int .i64 d : Value) := hdep { on := 2, ground := .data } (by simp) rfl _ rfl
    have e6 : act.tmps.getD 24 undef = (.int .i64 (nx s) : Value) := hdep { on := 6, ground := .data } (by simp) rfl _ rfl
    have hdf := Lib.hid (show act.defers = [] from hL.1)
    clear hdep hL
    refine wpOp_step rfl (fun K hK => ?_)
    go_simp
    refine (impl_put u m gr gc gm cr cc cm s e (nx s) d (nx s) (HM.out.but hB (by simp) (by simp) (by simp) (by simp)) hR.out d0 d7).mono ?_
    rintro r u' ⟨rfl, hM', hB'⟩
    go_simp
    exact hK _ _ ⟨_, rfl, (fun h => by cases h), ⟨rfl, hM'⟩, hB', trivial⟩
   ·exact absurd ho (by simp)
  case fin =>
   intro act u hW hsz hB hL hsf
   replace hB := hB [m, gr] (fun j k hk => by
    by_cases yz : j = 7
    ·rw [if_pos yz] at hk; exact hk
    rw [if_neg yz] at hk
    cases hk)
   have d7 := hsf 7 _ rfl
   obtain ⟨ysl, ha, hy⟩ := hL.puts [18, 19, 20, 21, 22, 23, 24, 25] (by kernel_rfl)
   clear hL hsf hy
   simp only [List.foldl, List.setIfInBounds_toArray, List.set_cons_succ, List.set_cons_zero] at ha
   subst ha
   obtain ⟨_, hM'⟩ := d7
   have c11 := hM'.cel 11 (by decide)
   have f11 := hM'.fro 11 (by decide)
   simp only [mCells, List.getElem?_cons_succ, List.getElem?_cons_zero] at c11
   have HM3 := Lib.hid hM'
   have HB3 := Lib.hid hB
   clear hM' hB
   go_wp2_with fail
   (first | refine bodyPost_end (results_none rfl _ _ _) rfl ?_ | refine bodyPost_ret (results_none rfl _ _ _) rfl ?_)
   refine ⟨rfl, HM3.out.set (s' := ⟨s.pc, putR s.R d (nx s), s.C, s.M⟩) (e' := putE e d (nx s)) (nx' := (va + n) % 65536) 11 _ (by decide) rfl rfl rfl rfl, ?_⟩
   exact ((But.of HF.out).trans (HB3.out.up (fun k hk => by simp at hk ⊢; omega))).set m _ _ (.inl (by simp))
set_option maxRecDepth 8000 in
set_option maxHeartbeats 4000000 in
theorem ef_get (u : World) (m gr gc gm cr cc cm : Nat) (s : St) (e : Ev) (d a b f n : Int) (h : Mx u m gr gc gm cr cc cm s e (nx s)) (hk : OkS s) (hi : iok 14 d a b f n = true) :
  Calls Tryd.prog 106 #[.pointer (some ⟨m, 0, none⟩), .agg #[.int .i64 14, .int .i64 d, .int .i64 a, .int .i64 b, .int .i64 f, .int .i64 n]] u (EfP (effS s e 14 d a b f n) m gr gc gm cr cc cm s e u) := by
 rw [eff_14]
 obtain ⟨⟨d0, d7⟩, ⟨a0, a7⟩, ⟨b0, b7⟩, _⟩ := sok_bd (sok_of hi)
 obtain ⟨n0, n1⟩ := num_bd (iok_num hi)
 have hf4 := iok_f hi
 rw [show topF 14 = 4 from rfl] at hf4
 obtain ⟨f0, f7⟩ := hf4
 have hlm := h.lt
 have hnx : 0 ≤ nx s ∧ nx s < 65536 := by unfold nx; omega
 have hR := Lib.hid hk.Rl
 have HK := Lib.hid hk
 have qvf := ok_get hk.C f.toNat
 have F0 := Fr.alloc u (.cells #[.int .i64 14, .int .i64 d, .int .i64 a, .int .i64 b, .int .i64 f, .int .i64 n] 48)
 have HM := Lib.hid (h.fr F0)
 have HX0 := Lib.hid (Box.new u 14 d a b f n 48)
 have HF := Lib.hid F0
 have ho := h.ow
 have lr := ho.R.lt
 have lc := ho.C.lt
 have lm := ho.M.lt
 clear h hk F0 ho
 obtain ⟨vf, hvf⟩ : ∃ x, s.C.getD f.toNat 0 = x := ⟨_, rfl⟩
 rw [hvf] at qvf
 obtain ⟨qvf0, qvf1⟩ := qvf
 simp only [put, goto, rg, mm, hvf]
 generalize ho : (if usr s.C = true then Out.stop 6 else Out.go ⟨nx s, putR s.R d vf, s.C, s.M⟩ (putE e d vf)) = o
 have HO := Lib.hid ho
 clear ho
 go_enter Tryd.func106, Tryd.ntmps106
 go_wp2_with fail
 generalize (u.alloc (.cells #[.int .i64 14, .int .i64 d, .int .i64 a, .int .i64 b, .int .i64 f, .int .i64 n] 48)) = u0 at *
 have hz := HF.out.size
 have hXl := HX0.out.lt
 have HX := Lib.hid HX0.out
 clear HX0
 generalize hXe : u.heap.size = X at *
 go_wp2_with fail
 refine (impl_demand u0 m gr gc gm cr cc cm s e (nx s) HM.out HK.out).mono ?_
 rintro r u1 ⟨hd, f1⟩
 have HF2 := Lib.hid (Fr.trans HF.out f1)
 have HM2 := Lib.hid (HM.out.fr f1)
 have HX2 := Lib.hid (HX.out.fr f1)
 clear HF HM HX f1
 have HF := Lib.hid HF2.out
 have HM := Lib.hid HM2.out
 have HX := Lib.hid HX2.out
 clear HF2 HM2 HX2
 have hsz2 := HF.out.size
 rcases hd with ⟨hu, rfl⟩ | ⟨hu, rfl⟩
 ·have ho2 : o = .stop 6 := by rw [← HO.out, if_pos hu]
  subst ho2
  simp only [trapE]
  go_wp2_with fail
  exact ⟨rfl, rfl, HM.out, But.of HF.out⟩
 ·have ho2 : o = .go ⟨nx s, putR s.R d vf, s.C, s.M⟩ (putE e d vf) := by rw [← HO.out, if_neg (by simp [hu])]
  subst ho2
  clear hu HO
  go_wp2_with fail
  refine wp_region_lots2 19 (fun i => if i = 12 then [m, gr] else []) (fun _ _ => True) (fun i v u => match i with | 0 => v = .pointer (some ⟨m, 0, none⟩) | 1 => v = .pointer (some ⟨X, 1, none⟩) | 2 => v = .int .i64 d | 3 => v = .pointer (some ⟨m, 0, none⟩) | 4 => v = .pointer (some ⟨m, 0, none⟩) | 5 => v = .pointer (some ⟨m, 0, none⟩) | 6 => v = .pointer (some ⟨m, 2, none⟩) | 7 => v = .slice (some ⟨gc, 0, none⟩) 5 cc | 8 => v = .pointer (some ⟨X, 4, none⟩) | 9 => v = .int .i64 f | 10 => v = .pointer (some ⟨gc, f.toNat, none⟩) | 11 => v = .int .i64 vf | 12 => (v = .tuple #[] ∧ Mx u m gr gc gm cr cc cm ⟨s.pc, putR s.R d vf, s.C, s.M⟩ (putE e d vf) (nx s)) | _ => True) ?mono (by kernel_rfl) (by kernel_rfl) rfl (by kernel_rfl) trivial ?step ?fin
  case mono =>
   intro i j v u u' hij hsz h hB
   rcases j with _ | _ | _ | _ | _ | _ | _ | _ | _ | _ | _ | _ | _ | j
   ·exact h
   ·exact h
   ·exact h
   ·exact h
   ·exact h
   ·exact h
   ·exact h
   ·exact h
   ·exact h
   ·exact h
   ·exact h
   ·exact h
   ·exact (by have hB2 : But [] u u' := (by have hx := hB; simp only [if_neg hij] at hx; exact hx); exact ⟨h.1, h.2.but hB2 (by simp) (by simp) (by simp) (by simp)⟩)
   ·trivial
  case step =>
   intro i o ho
   rcases i with _ | _ | _ | _ | _ | _ | _ | _ | _ | _ | _ | _ | _ | i
   ·cases ho
    intro fu act u hW hB hsz hL hdep
    replace hB := hB [] (fun j hj hd k hk => by
     by_cases xz : j = 12
     ·subst xz; exact (depT_no hd (by kernel_rfl)).elim
     rw [if_neg xz] at hk; cases hk)
    have x0 : act.tmps.getD 0 undef = (.pointer (some ⟨m, 0, none⟩) : Value) := (hL.2.2 0 (no_dst (by kernel_rfl))).trans rfl
    clear hdep hL
    refine wpOp_step rfl (fun K hK => ?_)
    go_simp
    exact hK _ _ ⟨_, rfl, (fun h => by cases h), (by first | rfl | (exact congrArg (Value.int .i64) (by rw [IntWalk.i64_left, IntWalk.wrap64_in _ (by omega)])) | simp), But.refl _ _, trivial⟩
   ·cases ho
    intro fu act u hW hB hsz hL hdep
    replace hB := hB [] (fun j hj hd k hk => by
     by_cases xz : j = 12
     ·subst xz; exact (depT_no hd (by kernel_rfl)).elim
     rw [if_neg xz] at hk; cases hk)
    have x3 : act.tmps.getD 3 undef = (.pointer (some ⟨X, 0, none⟩) : Value) := (hL.2.2 3 (no_dst (by kernel_rfl))).trans rfl
    clear hdep hL
    refine wpOp_step rfl (fun K hK => ?_)
    go_simp
    exact hK _ _ ⟨_, rfl, (fun h => by cases h), (by first | rfl | (exact congrArg (Value.int .i64) (by rw [IntWalk.i64_left, IntWalk.wrap64_in _ (by omega)])) | simp), But.refl _ _, trivial⟩
   ·cases ho
    intro fu act u hW hB hsz hL hdep
    replace hB := hB [] (fun j hj hd k hk => by
     by_cases xz : j = 12
     ·subst xz; exact (depT_no hd (by kernel_rfl)).elim
     rw [if_neg xz] at hk; cases hk)
    have e1 : act.tmps.getD 7 undef = (.pointer (some ⟨X, 1, none⟩) : Value) := hdep { on := 1, ground := .data } (by simp) rfl _ rfl
    clear hdep hL
    have c := (HX.out.but hB (by simp)).c1
    refine wpOp_step rfl (fun K hK => ?_)
    go_simp
    exact hK _ _ ⟨_, rfl, (fun h => by cases h), (by first | rfl | (exact congrArg (Value.int .i64) (by rw [IntWalk.i64_left, IntWalk.wrap64_in _ (by omega)])) | simp), But.refl _ _, trivial⟩
   ·cases ho
    intro fu act u hW hB hsz hL hdep
    replace hB := hB [] (fun j hj hd k hk => by
     by_cases xz : j = 12
     ·subst xz; exact (depT_no hd (by kernel_rfl)).elim
     rw [if_neg xz] at hk; cases hk)
    have x0 : act.tmps.getD 0 undef = (.pointer (some ⟨m, 0, none⟩) : Value) := (hL.2.2 0 (no_dst (by kernel_rfl))).trans rfl
    clear hdep hL
    refine wpOp_step rfl (fun K hK => ?_)
    go_simp
    exact hK _ _ ⟨_, rfl, (fun h => by cases h), (by first | rfl | (exact congrArg (Value.int .i64) (by rw [IntWalk.i64_left, IntWalk.wrap64_in _ (by omega)])) | simp), But.refl _ _, trivial⟩
   ·cases ho
    intro fu act u hW hB hsz hL hdep
    replace hB := hB [] (fun j hj hd k hk => by
     by_cases xz : j = 12
     ·subst xz; exact (depT_no hd (by kernel_rfl)).elim
     rw [if_neg xz] at hk; cases hk)
    have e3 : act.tmps.getD 9 undef = (.pointer (some ⟨m, 0, none⟩) : Value) := hdep { on := 3, ground := .data } (by simp) rfl _ rfl
    clear hdep hL
    refine wpOp_step rfl (fun K hK => ?_)
    go_simp
    exact hK _ _ ⟨_, rfl, (fun h => by cases h), (by first | rfl | (exact congrArg (Value.int .i64) (by rw [IntWalk.i64_left, IntWalk.wrap64_in _ (by omega)])) | simp), But.refl _ _, trivial⟩
   ·cases ho
    intro fu act u hW hB hsz hL hdep
    replace hB := hB [] (fun j hj hd k hk => by
     by_cases xz : j = 12
     ·subst xz; exact (depT_no hd (by kernel_rfl)).elim
     rw [if_neg xz] at hk; cases hk)
    have e4 : act.tmps.getD 10 undef = (.pointer (some ⟨m, 0, none⟩) : Value) := hdep { on := 4, ground := .data } (by simp) rfl _ rfl
    clear hdep hL
    refine wpOp_step rfl (fun K hK => ?_)
    go_simp
    exact hK _ _ ⟨_, rfl, (fun h => by cases h), (by first | rfl | (exact congrArg (Value.int .i64) (by rw [IntWalk.i64_left, IntWalk.wrap64_in _ (by omega)])) | simp), But.refl _ _, trivial⟩
   ·cases ho
    intro fu act u hW hB hsz hL hdep
    replace hB := hB [] (fun j hj hd k hk => by
     by_cases xz : j = 12
     ·subst xz; exact (depT_no hd (by kernel_rfl)).elim
     rw [if_neg xz] at hk; cases hk)
    have e5 : act.tmps.getD 11 undef = (.pointer (some ⟨m, 0, none⟩) : Value) := hdep { on := 5, ground := .data } (by simp) rfl _ rfl
    clear hdep hL
    refine wpOp_step rfl (fun K hK => ?_)
    go_simp
    exact hK _ _ ⟨_, rfl, (fun h => by cases h), (by first | rfl | (exact congrArg (Value.int .i64) (by rw [IntWalk.i64_left, IntWalk.wrap64_in _ (by omega)])) | simp), But.refl _ _, trivial⟩
   ·cases ho
    intro fu act u hW hB hsz hL hdep
    replace hB := hB [] (fun j hj hd k hk => by
     by_cases xz : j = 12
     ·subst xz; exact (depT_no hd (by kernel_rfl)).elim
     rw [if_neg xz] at hk; cases hk)
    have e6 : act.tmps.getD 12 undef = (.pointer (some ⟨m, 2, none⟩) : Value) := hdep { on := 6, ground := .data } (by simp) rfl _ rfl
    clear hdep hL
    have hm := HM.out.but hB (by simp) (by simp) (by simp) (by simp)
    have c := hm.cel 2 (by decide)
    simp only [mCells, List.getElem?_cons_succ, List.getElem?_cons_zero] at c
    clear hm
    refine wpOp_step rfl (fun K hK => ?_)
    go_simp
    exact hK _ _ ⟨_, rfl, (fun h => by cases h), (by first | rfl | (exact congrArg (Value.int .i64) (by rw [IntWalk.i64_left, IntWalk.wrap64_in _ (by omega)])) | simp), But.refl _ _, trivial⟩
   ·cases ho
    intro fu act u hW hB hsz hL hdep
    replace hB := hB [] (fun j hj hd k hk => by
     by_cases xz : j = 12
     ·subst xz; exact (depT_no hd (by kernel_rfl)).elim
     rw [if_neg xz] at hk; cases hk)
    have x3 : act.tmps.getD 3 undef = (.pointer (some ⟨X, 0, none⟩) : Value) := (hL.2.2 3 (no_dst (by kernel_rfl))).trans rfl
    clear hdep hL
    refine wpOp_step rfl (fun K hK => ?_)
    go_simp
    exact hK _ _ ⟨_, rfl, (fun h => by cases h), (by first | rfl | (exact congrArg (Value.int .i64) (by rw [IntWalk.i64_left, IntWalk.wrap64_in _ (by omega)])) | simp), But.refl _ _, trivial⟩
   ·cases ho
    intro fu act u hW hB hsz hL hdep
    replace hB := hB [] (fun j hj hd k hk => by
     by_cases xz : j = 12
     ·subst xz; exact (depT_no hd (by kernel_rfl)).elim
     rw [if_neg xz] at hk; cases hk)
    have e8 : act.tmps.getD 14 undef = (.pointer (some ⟨X, 4, none⟩) : Value) := hdep { on := 8, ground := .data } (by simp) rfl _ rfl
    clear hdep hL
    have c := (HX.out.but hB (by simp)).c4
    refine wpOp_step rfl (fun K hK => ?_)
    go_simp
    exact hK _ _ ⟨_, rfl, (fun h => by cases h), (by first | rfl | (exact congrArg (Value.int .i64) (by rw [IntWalk.i64_left, IntWalk.wrap64_in _ (by omega)])) | simp), But.refl _ _, trivial⟩
   ·cases ho
    intro fu act u hW hB hsz hL hdep
    replace hB := hB [] (fun j hj hd k hk => by
     by_cases xz : j = 12
     ·subst xz; exact (depT_no hd (by kernel_rfl)).elim
     rw [if_neg xz] at hk; cases hk)
    have e7 : act.tmps.getD 13 undef = (.slice (some ⟨gc, 0, none⟩) 5 cc : Value) := hdep { on := 7, ground := .data } (by simp) rfl _ rfl
    have e9 : act.tmps.getD 15 undef = (.int .i64 f : Value) := hdep { on := 9, ground := .data } (by simp) rfl _ rfl
    clear hdep hL
    have ix0 : 0 ≤ f := by omega
    have ix1 : f < 5 := by omega
    refine wpOp_step rfl (fun K hK => ?_)
    go_simp
    exact hK _ _ ⟨_, rfl, (fun h => by cases h), (by first | rfl | (exact congrArg (Value.int .i64) (by rw [IntWalk.i64_left, IntWalk.wrap64_in _ (by omega)])) | simp), But.refl _ _, trivial⟩
   ·cases ho
    intro fu act u hW hB hsz hL hdep
    replace hB := hB [] (fun j hj hd k hk => by
     by_cases xz : j = 12
     ·subst xz; exact (depT_no hd (by kernel_rfl)).elim
     rw [if_neg xz] at hk; cases hk)
    have e10 : act.tmps.getD 16 undef = (.pointer (some ⟨gc, f.toNat, none⟩) : Value) := hdep { on := 10, ground := .data } (by simp) rfl _ rfl
    clear hdep hL
    have hm := HM.out.but hB (by simp) (by simp) (by simp) (by simp)
    have c := hm.ow.C.cel (f.toNat) (by have h1 := HK.out.Rl; have h2 := HK.out.Cl; have h3 := HK.out.Ml; omega)
    clear hm
    rw [hvf] at c
    refine wpOp_step rfl (fun K hK => ?_)
    go_simp
    exact hK _ _ ⟨_, rfl, (fun h => by cases h), (by first | rfl | (exact congrArg (Value.int .i64) (by rw [IntWalk.i64_left, IntWalk.wrap64_in _ (by omega)])) | simp), But.refl _ _, trivial⟩
   ·cases ho
    intro fu act u hW hB hsz hL hdep
    replace hB := hB [] (fun j hj hd k hk => by
     rw [if_neg hj] at hk; cases hk)
    have e0 : act.tmps.getD 6 undef = (.pointer (some ⟨m, 0, none⟩) : Value) := hdep { on := 0, ground := .data } (by simp) rfl _ rfl
    have e2 : act.tmps.getD 8 undef = (.int .i64 d : Value) := hdep { on := 2, ground := .data } (by simp) rfl _ rfl
    have e11 : act.tmps.getD 17 undef = (.int .i64 vf : Value) := hdep { on := 11, ground := .data } (by simp) rfl _ rfl
    have hdf := Lib.hid (show act.defers = [] from hL.1)
    clear hdep hL
    refine wpOp_step rfl (fun K hK => ?_)
    go_simp
    refine (impl_put u m gr gc gm cr cc cm s e (nx s) d vf (HM.out.but hB (by simp) (by simp) (by simp) (by simp)) hR.out d0 d7).mono ?_
    rintro r u' ⟨rfl, hM', hB'⟩
    go_simp
    exact hK _ _ ⟨_, rfl, (fun h => by cases h), ⟨rfl, hM'⟩, hB', trivial⟩
   ·exact absurd ho (by simp)
  case fin =>
   intro act u hW hsz hB hL hsf
   replace hB := hB [m, gr] (fun j k hk => by
    by_cases yz : j = 12
    ·rw [if_pos yz] at hk; exact hk
    rw [if_neg yz] at hk
    cases hk)
   have d12 := hsf 12 _ rfl
   obtain ⟨ysl, ha, hy⟩ := hL.puts [6, 7, 8, 9, 10, 11, 12, 13, 14, 15, 16, 17, 18] (by kernel_rfl)
   clear hL hsf hy
   simp only [List.foldl, List.setIfInBounds_toArray, List.set_cons_succ, List.set_cons_zero] at ha
   subst ha
   obtain ⟨_, hM'⟩ := d12
   go_wp2_with fail
   (first | refine bodyPost_end (results_none rfl _ _ _) rfl ?_ | refine bodyPost_ret (results_none rfl _ _ _) rfl ?_)
   exact ⟨rfl, hM', (((But.of HF.out).trans (hB.up (fun k hk => by simp at hk ⊢; omega))))⟩

end Go.Proofs.YtbjapncfgancoaaDoor
