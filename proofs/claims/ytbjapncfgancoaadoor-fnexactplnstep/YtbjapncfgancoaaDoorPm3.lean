/- What the methods that branch do. -/
import Derived.Test.YtbjapncfgancoaaDoorPm2
namespace Go.Proofs.YtbjapncfgancoaaDoor
open Go.RowKit
set_option linter.unusedVariables false
set_option linter.unusedSimpArgs false
set_option maxRecDepth 8000 in
set_option maxHeartbeats 4000000 in
theorem ef_eq (u : World) (m gr gc gm cr cc cm : Nat) (s : St) (e : Ev) (d a b f n : Int) (h : Mx u m gr gc gm cr cc cm s e (nx s)) (hk : OkS s) (hi : iok 5 d a b f n = true) :
  Calls Tryd.prog 97 #[.pointer (some ⟨m, 0, none⟩), .agg #[.int .i64 5, .int .i64 d, .int .i64 a, .int .i64 b, .int .i64 f, .int .i64 n]] u (EfP (effS s e 5 d a b f n) m gr gc gm cr cc cm s e u) := by
 rw [eff_5]
 obtain ⟨⟨d0, d7⟩, ⟨a0, a7⟩, ⟨b0, b7⟩, _⟩ := sok_bd (sok_of hi)
 obtain ⟨n0, n1⟩ := num_bd (iok_num hi)
 obtain ⟨f0, f7⟩ := f_bd (iok_f hi)
 have hlm := h.lt
 have hnx : 0 ≤ nx s ∧ nx s < 65536 := by unfold nx; omega
 have hR := Lib.hid hk.Rl
 have HK := Lib.hid hk
 have qva := ok_get hk.R a.toNat
 have qvb := ok_get hk.R b.toNat
 have F0 := Fr.alloc u (.cells #[.int .i64 5, .int .i64 d, .int .i64 a, .int .i64 b, .int .i64 f, .int .i64 n] 48)
 have HM := Lib.hid (h.fr F0)
 have HX0 := Lib.hid (Box.new u 5 d a b f n 48)
 have HF := Lib.hid F0
 have ho := h.ow
 have lr := ho.R.lt
 have lc := ho.C.lt
 have lm := ho.M.lt
 clear h hk F0 ho
 obtain ⟨va, hva⟩ : ∃ x, s.R.getD a.toNat 0 = x := ⟨_, rfl⟩
 rw [hva] at qva
 obtain ⟨qva0, qva1⟩ := qva
 obtain ⟨vb, hvb⟩ : ∃ x, s.R.getD b.toNat 0 = x := ⟨_, rfl⟩
 rw [hvb] at qvb
 obtain ⟨qvb0, qvb1⟩ := qvb
 simp only [put, goto, rg, mm, hva, hvb]
 generalize hpc : (if va = vb then (nx s + n) % 65536 else nx s) = pc2
 have HPC := Lib.hid hpc
 clear hpc
 go_enter Tryd.func97, Tryd.ntmps97
 go_wp2_with fail
 generalize (u.alloc (.cells #[.int .i64 5, .int .i64 d, .int .i64 a, .int .i64 b, .int .i64 f, .int .i64 n] 48)) = u0 at *
 have hz := HF.out.size
 have hXl := HX0.out.lt
 have HX := Lib.hid HX0.out
 clear HX0
 generalize hXe : u.heap.size = X at *
 refine wp_region_lots2 27 (fun i => if i = 22 then [m] else []) (fun _ _ => True) (fun i v u => match i with | 0 => v = .pointer (some ⟨m, 0, none⟩) | 1 => v = .pointer (some ⟨m, 0, none⟩) | 2 => v = .pointer (some ⟨m, 0, none⟩) | 3 => v = .pointer (some ⟨m, 0, none⟩) | 4 => v = .pointer (some ⟨m, 1, none⟩) | 5 => v = .slice (some ⟨gr, 0, none⟩) 8 cr | 6 => v = .pointer (some ⟨X, 2, none⟩) | 7 => v = .int .i64 a | 8 => v = .pointer (some ⟨gr, a.toNat, none⟩) | 9 => v = .int .i64 va | 10 => v = .pointer (some ⟨m, 0, none⟩) | 11 => v = .pointer (some ⟨m, 0, none⟩) | 12 => v = .pointer (some ⟨m, 0, none⟩) | 13 => v = .pointer (some ⟨m, 1, none⟩) | 14 => v = .slice (some ⟨gr, 0, none⟩) 8 cr | 15 => v = .pointer (some ⟨X, 3, none⟩) | 16 => v = .int .i64 b | 17 => v = .pointer (some ⟨gr, b.toNat, none⟩) | 18 => v = .int .i64 vb | 19 => v = .bool (va == vb) | 20 => v = .pointer (some ⟨X, 5, none⟩) | 21 => v = .int .i64 n | 22 => (v = .tuple #[] ∧ Mx u m gr gc gm cr cc cm s e (if (va == vb) = true then (nx s + n) % 65536 else nx s)) | _ => True) ?mono (by kernel_rfl) (by kernel_rfl) rfl (by kernel_rfl) trivial ?step ?fin
 case mono =>
  intro i j v u u' hij hsz h hB
  rcases j with _ | _ | _ | _ | _ | _ | _ | _ | _ | _ | _ | _ | _ | _ | _ | _ | _ | _ | _ | _ | _ | _ | _ | j
  ·exact h
  ·exact h
  ·exact h
  ·exact h
  ·exact h
  ·exact h
  ·exact h
  ·exact h
  ·exact h
  ·exact h
  ·exact h
  ·exact h
  ·exact h
  ·exact h
  ·exact h
  ·exact h
  ·exact h
  ·exact h
  ·exact h
  ·exact h
  ·exact h
  ·exact h
  ·exact (by have hB2 : But [] u u' := (by have hx := hB; simp only [if_neg hij] at hx; exact hx); exact ⟨h.1, h.2.but hB2 (by simp) (by simp) (by simp) (by simp)⟩)
  ·trivial
 case step =>
  intro i o ho
  rcases i with _ | _ | _ | _ | _ | _ | _ | _ | _ | _ | _ | _ | _ | _ | _ | _ | _ | _ | _ | _ | _ | _ | _ | i
  ·cases ho
   intro fu act u hW hB hsz hL hdep
   replace hB := hB [] (fun j hj hd k hk => by
    by_cases xz : j = 22
    ·subst xz; exact (depT_no hd (by kernel_rfl)).elim
    rw [if_neg xz] at hk; cases hk)
   have x0 : act.tmps.getD 0 undef = (.pointer (some ⟨m, 0, none⟩) : Value) := (hL.2.2 0 (no_dst (by kernel_rfl))).trans rfl
   clear hdep hL
   refine wpOp_step rfl (fun K hK => ?_)
   go_simp
   exact hK _ _ ⟨_, rfl, (fun h => by cases h), (by first | rfl | (exact congrArg (Value.int .i64) (by rw [IntWalk.i64_left, IntWalk.wrap64_in _ (by omega)])) | simp), But.refl _ _, trivial⟩
  ·cases ho
   intro fu act u hW hB hsz hL hdep
   replace hB := hB [] (fun j hj hd k hk => by
    by_cases xz : j = 22
    ·subst xz; exact (depT_no hd (by kernel_rfl)).elim
    rw [if_neg xz] at hk; cases hk)
   have x0 : act.tmps.getD 0 undef = (.pointer (some ⟨m, 0, none⟩) : Value) := (hL.2.2 0 (no_dst (by kernel_rfl))).trans rfl
   clear hdep hL
   refine wpOp_step rfl (fun K hK => ?_)
   go_simp
   exact hK _ _ ⟨_, rfl, (fun h => by cases h), (by first | rfl | (exact congrArg (Value.int .i64) (by rw [IntWalk.i64_left, IntWalk.wrap64_in _ (by omega)])) | simp), But.refl _ _, trivial⟩
  ·cases ho
   intro fu act u hW hB hsz hL hdep
   replace hB := hB [] (fun j hj hd k hk => by
    by_cases xz : j = 22
    ·subst xz; exact (depT_no hd (by kernel_rfl)).elim
    rw [if_neg xz] at hk; cases hk)
   have e1 : act.tmps.getD 5 undef = (.pointer (some ⟨m, 0, none⟩) : Value) := hdep { on := 1, ground := .data } (by simp) rfl _ rfl
   clear hdep hL
   refine wpOp_step rfl (fun K hK => ?_)
   go_simp
   exact hK _ _ ⟨_, rfl, (fun h => by cases h), (by first | rfl | (exact congrArg (Value.int .i64) (by rw [IntWalk.i64_left, IntWalk.wrap64_in _ (by omega)])) | simp), But.refl _ _, trivial⟩
  ·cases ho
   intro fu act u hW hB hsz hL hdep
   replace hB := hB [] (fun j hj hd k hk => by
    by_cases xz : j = 22
    ·subst xz; exact (depT_no hd (by kernel_rfl)).elim
    rw [if_neg xz] at hk; cases hk)
   have e2 : act.tmps.getD 6 undef = (.pointer (some ⟨m, 0, none⟩) : Value) := hdep { on := 2, ground := .data } (by simp) rfl _ rfl
   clear hdep hL
   refine wpOp_step rfl (fun K hK => ?_)
   go_simp
   exact hK _ _ ⟨_, rfl, (fun h => by cases h), (by first | rfl | (exact congrArg (Value.int .i64) (by rw [IntWalk.i64_left, IntWalk.wrap64_in _ (by omega)])) | simp), But.refl _ _, trivial⟩
  ·cases ho
   intro fu act u hW hB hsz hL hdep
   replace hB := hB [] (fun j hj hd k hk => by
    by_cases xz : j = 22
    ·subst xz; exact (depT_no hd (by kernel_rfl)).elim
    rw [if_neg xz] at hk; cases hk)
   have e3 : act.tmps.getD 7 undef = (.pointer (some ⟨m, 0, none⟩) : Value) := hdep { on := 3, ground := .data } (by simp) rfl _ rfl
   clear hdep hL
   refine wpOp_step rfl (fun K hK => ?_)
   go_simp
   exact hK _ _ ⟨_, rfl, (fun h => by cases h), (by first | rfl | (exact congrArg (Value.int .i64) (by rw [IntWalk.i64_left, IntWalk.wrap64_in _ (by omega)])) | simp), But.refl _ _, trivial⟩
  ·cases ho
   intro fu act u hW hB hsz hL hdep
   replace hB := hB [] (fun j hj hd k hk => by
    by_cases xz : j = 22
    ·subst xz; exact (depT_no hd (by kernel_rfl)).elim
    rw [if_neg xz] at hk; cases hk)
   have e4 : act.tmps.getD 8 undef = (.pointer (some ⟨m, 1, none⟩) : Value) := hdep { on := 4, ground := .data } (by simp) rfl _ rfl
   clear hdep hL
   have hm := HM.out.but hB (by simp) (by simp) (by simp) (by simp)
   have c := hm.cel 1 (by decide)
   simp only [mCells, List.getElem?_cons_succ, List.getElem?_cons_zero] at c
   clear hm
   refine wpOp_step rfl (fun K hK => ?_)
   go_simp
   exact hK _ _ ⟨_, rfl, (fun h => by cases h), (by first | rfl | (exact congrArg (Value.int .i64) (by rw [IntWalk.i64_left, IntWalk.wrap64_in _ (by omega)])) | simp), But.refl _ _, trivial⟩
  ·cases ho
   intro fu act u hW hB hsz hL hdep
   replace hB := hB [] (fun j hj hd k hk => by
    by_cases xz : j = 22
    ·subst xz; exact (depT_no hd (by kernel_rfl)).elim
    rw [if_neg xz] at hk; cases hk)
   have x3 : act.tmps.getD 3 undef = (.pointer (some ⟨X, 0, none⟩) : Value) := (hL.2.2 3 (no_dst (by kernel_rfl))).trans rfl
   clear hdep hL
   refine wpOp_step rfl (fun K hK => ?_)
   go_simp
   exact hK _ _ ⟨_, rfl, (fun h => by cases h), (by first | rfl | (exact congrArg (Value.int .i64) (by rw [IntWalk.i64_left, IntWalk.wrap64_in _ (by omega)])) | simp), But.refl _ _, trivial⟩
  ·cases ho
   intro fu act u hW hB hsz hL hdep
   replace hB := hB [] (fun j hj hd k hk => by
    by_cases xz : j = 22
    ·subst xz; exact (depT_no hd (by kernel_rfl)).elim
    rw [if_neg xz] at hk; cases hk)
   have e6 : act.tmps.getD 10 undef = (.pointer (some ⟨X, 2, none⟩) : Value) := hdep { on := 6, ground := .data } (by simp) rfl _ rfl
   clear hdep hL
   have c := (HX.out.but hB (by simp)).c2
   refine wpOp_step rfl (fun K hK => ?_)
   go_simp
   exact hK _ _ ⟨_, rfl, (fun h => by cases h), (by first | rfl | (exact congrArg (Value.int .i64) (by rw [IntWalk.i64_left, IntWalk.wrap64_in _ (by omega)])) | simp), But.refl _ _, trivial⟩
  ·cases ho
   intro fu act u hW hB hsz hL hdep
   replace hB := hB [] (fun j hj hd k hk => by
    by_cases xz : j = 22
    ·subst xz; exact (depT_no hd (by kernel_rfl)).elim
    rw [if_neg xz] at hk; cases hk)
   have e5 : act.tmps.getD 9 undef = (.slice (some ⟨gr, 0, none⟩) 8 cr : Value) := hdep { on := 5, ground := .data } (by simp) rfl _ rfl
   have e7 : act.tmps.getD 11 undef = (.int .i64 a : Value) := hdep { on := 7, ground := .data } (by simp) rfl _ rfl
   clear hdep hL
   have ix0 : 0 ≤ a := by omega
   have ix1 : a < 8 := by omega
   refine wpOp_step rfl (fun K hK => ?_)
   go_simp
   exact hK _ _ ⟨_, rfl, (fun h => by cases h), (by first | rfl | (exact congrArg (Value.int .i64) (by rw [IntWalk.i64_left, IntWalk.wrap64_in _ (by omega)])) | simp), But.refl _ _, trivial⟩
  ·cases ho
   intro fu act u hW hB hsz hL hdep
   replace hB := hB [] (fun j hj hd k hk => by
    by_cases xz : j = 22
    ·subst xz; exact (depT_no hd (by kernel_rfl)).elim
    rw [if_neg xz] at hk; cases hk)
   have e8 : act.tmps.getD 12 undef = (.pointer (some ⟨gr, a.toNat, none⟩) : Value) := hdep { on := 8, ground := .data } (by simp) rfl _ rfl
   clear hdep hL
   have hm := HM.out.but hB (by simp) (by simp) (by simp) (by simp)
   have c := hm.ow.R.cel (a.toNat) (by have h1 := HK.out.Rl; have h2 := HK.out.Cl; have h3 := HK.out.Ml; omega)
   clear hm
   rw [hva] at c
   refine wpOp_step rfl (fun K hK => ?_)
   go_simp
   exact hK _ _ ⟨_, rfl, (fun h => by cases h), (by first | rfl | (exact congrArg (Value.int .i64) (by rw [IntWalk.i64_left, IntWalk.wrap64_in _ (by omega)])) | simp), But.refl _ _, trivial⟩
  ·cases ho
   intro fu act u hW hB hsz hL hdep
   replace hB := hB [] (fun j hj hd k hk => by
    by_cases xz : j = 22
    ·subst xz; exact (depT_no hd (by kernel_rfl)).elim
    rw [if_neg xz] at hk; cases hk)
   have x0 : act.tmps.getD 0 undef = (.pointer (some ⟨m, 0, none⟩) : Value) := (hL.2.2 0 (no_dst (by kernel_rfl))).trans rfl
   clear hdep hL
   refine wpOp_step rfl (fun K hK => ?_)
   go_simp
   exact hK _ _ ⟨_, rfl, (fun h => by cases h), (by first | rfl | (exact congrArg (Value.int .i64) (by rw [IntWalk.i64_left, IntWalk.wrap64_in _ (by omega)])) | simp), But.refl _ _, trivial⟩
  ·cases ho
   intro fu act u hW hB hsz hL hdep
   replace hB := hB [] (fun j hj hd k hk => by
    by_cases xz : j = 22
    ·subst xz; exact (depT_no hd (by kernel_rfl)).elim
    rw [if_neg xz] at hk; cases hk)
   have e10 : act.tmps.getD 14 undef = (.pointer (some ⟨m, 0, none⟩) : Value) := hdep { on := 10, ground := .data } (by simp) rfl _ rfl
   clear hdep hL
   refine wpOp_step rfl (fun K hK => ?_)
   go_simp
   exact hK _ _ ⟨_, rfl, (fun h => by cases h), (by first | rfl | (exact congrArg (Value.int .i64) (by rw [IntWalk.i64_left, IntWalk.wrap64_in _ (by omega)])) | simp), But.refl _ _, trivial⟩
  ·cases ho
   intro fu act u hW hB hsz hL hdep
   replace hB := hB [] (fun j hj hd k hk => by
    by_cases xz : j = 22
    ·subst xz; exact (depT_no hd (by kernel_rfl)).elim
    rw [if_neg xz] at hk; cases hk)
   have e11 : act.tmps.getD 15 undef = (.pointer (some ⟨m, 0, none⟩) : Value) := hdep { on := 11, ground := .data } (by simp) rfl _ rfl
   clear hdep hL
   refine wpOp_step rfl (fun K hK => ?_)
   go_simp
   exact hK _ _ ⟨_, rfl, (fun h => by cases h), (by first | rfl | (exact congrArg (Value.int .i64) (by rw [IntWalk.i64_left, IntWalk.wrap64_in _ (by omega)])) | simp), But.refl _ _, trivial⟩
  ·cases ho
   intro fu act u hW hB hsz hL hdep
   replace hB := hB [] (fun j hj hd k hk => by
    by_cases xz : j = 22
    ·subst xz; exact (depT_no hd (by kernel_rfl)).elim
    rw [if_neg xz] at hk; cases hk)
   have e12 : act.tmps.getD 16 undef = (.pointer (some ⟨m, 0, none⟩) : Value) := hdep { on := 12, ground := .data } (by simp) rfl _ rfl
   clear hdep hL
   refine wpOp_step rfl (fun K hK => ?_)
   go_simp
   exact hK _ _ ⟨_, rfl, (fun h => by cases h), (by first | rfl | (exact congrArg (Value.int .i64) (by rw [IntWalk.i64_left, IntWalk.wrap64_in _ (by omega)])) | simp), But.refl _ _, trivial⟩
  ·cases ho
   intro fu act u hW hB hsz hL hdep
   replace hB := hB [] (fun j hj hd k hk => by
    by_cases xz : j = 22
    ·subst xz; exact (depT_no hd (by kernel_rfl)).elim
    rw [if_neg xz] at hk; cases hk)
   have e13 : act.tmps.getD 17 undef = (.pointer (some ⟨m, 1, none⟩) : Value) := hdep { on := 13, ground := .data } (by simp) rfl _ rfl
   clear hdep hL
   have hm := HM.out.but hB (by simp) (by simp) (by simp) (by simp)
   have c := hm.cel 1 (by decide)
   simp only [mCells, List.getElem?_cons_succ, List.getElem?_cons_zero] at c
   clear hm
   refine wpOp_step rfl (fun K hK => ?_)
   go_simp
   exact hK _ _ ⟨_, rfl, (fun h => by cases h), (by first | rfl | (exact congrArg (Value.int .i64) (by rw [IntWalk.i64_left, IntWalk.wrap64_in _ (by omega)])) | simp), But.refl _ _, trivial⟩
  ·cases ho
   intro fu act u hW hB hsz hL hdep
   replace hB := hB [] (fun j hj hd k hk => by
    by_cases xz : j = 22
    ·subst xz; exact (depT_no hd (by kernel_rfl)).elim
    rw [if_neg xz] at hk; cases hk)
   have x3 : act.tmps.getD 3 undef = (.pointer (some ⟨X, 0, none⟩) : Value) := (hL.2.2 3 (no_dst (by kernel_rfl))).trans rfl
   clear hdep hL
   refine wpOp_step rfl (fun K hK => ?_)
   go_simp
   exact hK _ _ ⟨_, rfl, (fun h => by cases h), (by first | rfl | (exact congrArg (Value.int .i64) (by rw [IntWalk.i64_left, IntWalk.wrap64_in _ (by omega)])) | simp), But.refl _ _, trivial⟩
  ·cases ho
   intro fu act u hW hB hsz hL hdep
   replace hB := hB [] (fun j hj hd k hk => by
    by_cases xz : j = 22
    ·subst xz; exact (depT_no hd (by kernel_rfl)).elim
    rw [if_neg xz] at hk; cases hk)
   have e15 : act.tmps.getD 19 undef = (.pointer (some ⟨X, 3, none⟩) : Value) := hdep { on := 15, ground := .data } (by simp) rfl _ rfl
   clear hdep hL
   have c := (HX.out.but hB (by simp)).c3
   refine wpOp_step rfl (fun K hK => ?_)
   go_simp
   exact hK _ _ ⟨_, rfl, (fun h => by cases h), (by first | rfl | (exact congrArg (Value.int .i64) (by rw [IntWalk.i64_left, IntWalk.wrap64_in _ (by omega)])) | simp), But.refl _ _, trivial⟩
  ·cases ho
   intro fu act u hW hB hsz hL hdep
   replace hB := hB [] (fun j hj hd k hk => by
    by_cases xz : j = 22
    ·subst xz; exact (depT_no hd (by kernel_rfl)).elim
    rw [if_neg xz] at hk; cases hk)
   have e14 : act.tmps.getD 18 undef = (.slice (some ⟨gr, 0, none⟩) 8 cr : Value) := hdep { on := 14, ground := .data } (by simp) rfl _ rfl
   have e16 : act.tmps.getD 20 undef = (.int .i64 b : Value) := hdep { on := 16, ground := .data } (by simp) rfl _ rfl
   clear hdep hL
   have ix0 : 0 ≤ b := by omega
   have ix1 : b < 8 := by omega
   refine wpOp_step rfl (fun K hK => ?_)
   go_simp
   exact hK _ _ ⟨_, rfl, (fun h => by cases h), (by first | rfl | (exact congrArg (Value.int .i64) (by rw [IntWalk.i64_left, IntWalk.wrap64_in _ (by omega)])) | simp), But.refl _ _, trivial⟩
  ·cases ho
   intro fu act u hW hB hsz hL hdep
   replace hB := hB [] (fun j hj hd k hk => by
    by_cases xz : j = 22
    ·subst xz; exact (depT_no hd (by kernel_rfl)).elim
    rw [if_neg xz] at hk; cases hk)
   have e17 : act.tmps.getD 21 undef = (.pointer (some ⟨gr, b.toNat, none⟩) : Value) := hdep { on := 17, ground := .data } (by simp) rfl _ rfl
   clear hdep hL
   have hm := HM.out.but hB (by simp) (by simp) (by simp) (by simp)
   have c := hm.ow.R.cel (b.toNat) (by have h1 := HK.out.Rl; have h2 := HK.out.Cl; have h3 := HK.out.Ml; omega)
   clear hm
   rw [hvb] at c
   refine wpOp_step rfl (fun K hK => ?_)
   go_simp
   exact hK _ _ ⟨_, rfl, (fun h => by cases h), (by first | rfl | (exact congrArg (Value.int .i64) (by rw [IntWalk.i64_left, IntWalk.wrap64_in _ (by omega)])) | simp), But.refl _ _, trivial⟩
  ·cases ho
   intro fu act u hW hB hsz hL hdep
   replace hB := hB [] (fun j hj hd k hk => by
    by_cases xz : j = 22
    ·subst xz; exact (depT_no hd (by kernel_rfl)).elim
    rw [if_neg xz] at hk; cases hk)
   have e9 : act.tmps.getD 13 undef = (.int .i64 va : Value) := hdep { on := 9, ground := .data } (by simp) rfl _ rfl
   have e18 : act.tmps.getD 22 undef = (.int .i64 vb : Value) := hdep { on := 18, ground := .data } (by simp) rfl _ rfl
   clear hdep hL
   refine wpOp_step rfl (fun K hK => ?_)
   go_simp
   exact hK _ _ ⟨_, rfl, (fun h => by cases h), (by first | rfl | (exact congrArg (Value.int .i64) (by rw [IntWalk.i64_left, IntWalk.wrap64_in _ (by omega)])) | simp), But.refl _ _, trivial⟩
  ·cases ho
   intro fu act u hW hB hsz hL hdep
   replace hB := hB [] (fun j hj hd k hk => by
    by_cases xz : j = 22
    ·subst xz; exact (depT_no hd (by kernel_rfl)).elim
    rw [if_neg xz] at hk; cases hk)
   have x3 : act.tmps.getD 3 undef = (.pointer (some ⟨X, 0, none⟩) : Value) := (hL.2.2 3 (no_dst (by kernel_rfl))).trans rfl
   clear hdep hL
   refine wpOp_step rfl (fun K hK => ?_)
   go_simp
   exact hK _ _ ⟨_, rfl, (fun h => by cases h), (by first | rfl | (exact congrArg (Value.int .i64) (by rw [IntWalk.i64_left, IntWalk.wrap64_in _ (by omega)])) | simp), But.refl _ _, trivial⟩
  ·cases ho
   intro fu act u hW hB hsz hL hdep
   replace hB := hB [] (fun j hj hd k hk => by
    by_cases xz : j = 22
    ·subst xz; exact (depT_no hd (by kernel_rfl)).elim
    rw [if_neg xz] at hk; cases hk)
   have e20 : act.tmps.getD 24 undef = (.pointer (some ⟨X, 5, none⟩) : Value) := hdep { on := 20, ground := .data } (by simp) rfl _ rfl
   clear hdep hL
   have c := (HX.out.but hB (by simp)).c5
   refine wpOp_step rfl (fun K hK => ?_)
   go_simp
   exact hK _ _ ⟨_, rfl, (fun h => by cases h), (by first | rfl | (exact congrArg (Value.int .i64) (by rw [IntWalk.i64_left, IntWalk.wrap64_in _ (by omega)])) | simp), But.refl _ _, trivial⟩
  ·cases ho
   intro fu act u hW hB hsz hL hdep
   replace hB := hB [] (fun j hj hd k hk => by
    rw [if_neg hj] at hk; cases hk)
   have e0 : act.tmps.getD 4 undef = (.pointer (some ⟨m, 0, none⟩) : Value) := hdep { on := 0, ground := .data } (by simp) rfl _ rfl
   have e19 : act.tmps.getD 23 undef = (.bool (va == vb) : Value) := hdep { on := 19, ground := .data } (by simp) rfl _ rfl
   have e21 : act.tmps.getD 25 undef = (.int .i64 n : Value) := hdep { on := 21, ground := .data } (by simp) rfl _ rfl
   have hdf := Lib.hid (show act.defers = [] from hL.1)
   clear hdep hL
   refine wpOp_step rfl (fun K hK => ?_)
   go_simp
   refine (impl_branch u m gr gc gm cr cc cm s e (nx s) n (va == vb) (HM.out.but hB (by simp) (by simp) (by simp) (by simp)) hnx.1 hnx.2 (by omega) (by omega)).mono ?_
   rintro r u' ⟨rfl, hM', hB'⟩
   go_simp
   exact hK _ _ ⟨_, rfl, (fun h => by cases h), ⟨rfl, hM'⟩, hB', trivial⟩
  ·exact absurd ho (by simp)
 case fin =>
  intro act u hW hsz hB hL hsf
  replace hB := hB [m] (fun j k hk => by
   by_cases yz : j = 22
   ·rw [if_pos yz] at hk; exact hk
   rw [if_neg yz] at hk
   cases hk)
  have d22 := hsf 22 _ rfl
  obtain ⟨ysl, ha, hy⟩ := hL.puts [4, 5, 6, 7, 8, 9, 10, 11, 12, 13, 14, 15, 16, 17, 18, 19, 20, 21, 22, 23, 24, 25, 26] (by kernel_rfl)
  clear hL hsf hy
  simp only [List.foldl, List.setIfInBounds_toArray, List.set_cons_succ, List.set_cons_zero] at ha
  subst ha
  obtain ⟨_, hM'⟩ := d22
  rw [show (if (va == vb) = true then (nx s + n) % 65536 else nx s) = pc2 by rw [← HPC.out]; simp] at hM'
  go_wp2_with fail
  (first | refine bodyPost_end (results_none rfl _ _ _) rfl ?_ | refine bodyPost_ret (results_none rfl _ _ _) rfl ?_)
  exact ⟨rfl, hM', (((But.of HF.out).trans (hB.up (fun k hk => by simp at hk ⊢; omega))))⟩
set_option maxRecDepth 8000 in
set_option maxHeartbeats 4000000 in
theorem ef_lt (u : World) (m gr gc gm cr cc cm : Nat) (s : St) (e : Ev) (d a b f n : Int) (h : Mx u m gr gc gm cr cc cm s e (nx s)) (hk : OkS s) (hi : iok 6 d a b f n = true) :
  Calls Tryd.prog 98 #[.pointer (some ⟨m, 0, none⟩), .agg #[.int .i64 6, .int .i64 d, .int .i64 a, .int .i64 b, .int .i64 f, .int .i64 n]] u (EfP (effS s e 6 d a b f n) m gr gc gm cr cc cm s e u) := by
 rw [eff_6]
 obtain ⟨⟨d0, d7⟩, ⟨a0, a7⟩, ⟨b0, b7⟩, _⟩ := sok_bd (sok_of hi)
 obtain ⟨n0, n1⟩ := num_bd (iok_num hi)
 obtain ⟨f0, f7⟩ := f_bd (iok_f hi)
 have hlm := h.lt
 have hnx : 0 ≤ nx s ∧ nx s < 65536 := by unfold nx; omega
 have hR := Lib.hid hk.Rl
 have HK := Lib.hid hk
 have qva := ok_get hk.R a.toNat
 have qvb := ok_get hk.R b.toNat
 have F0 := Fr.alloc u (.cells #[.int .i64 6, .int .i64 d, .int .i64 a, .int .i64 b, .int .i64 f, .int .i64 n] 48)
 have HM := Lib.hid (h.fr F0)
 have HX0 := Lib.hid (Box.new u 6 d a b f n 48)
 have HF := Lib.hid F0
 have ho := h.ow
 have lr := ho.R.lt
 have lc := ho.C.lt
 have lm := ho.M.lt
 clear h hk F0 ho
 obtain ⟨va, hva⟩ : ∃ x, s.R.getD a.toNat 0 = x := ⟨_, rfl⟩
 rw [hva] at qva
 obtain ⟨qva0, qva1⟩ := qva
 obtain ⟨vb, hvb⟩ : ∃ x, s.R.getD b.toNat 0 = x := ⟨_, rfl⟩
 rw [hvb] at qvb
 obtain ⟨qvb0, qvb1⟩ := qvb
 simp only [put, goto, rg, mm, hva, hvb]
 generalize hpc : (if sgn va < sgn vb then (nx s + n) % 65536 else nx s) = pc2
 have HPC := Lib.hid hpc
 clear hpc
 go_enter Tryd.func98, Tryd.ntmps98
 go_wp2_with fail
 generalize (u.alloc (.cells #[.int .i64 6, .int .i64 d, .int .i64 a, .int .i64 b, .int .i64 f, .int .i64 n] 48)) = u0 at *
 have hz := HF.out.size
 have hXl := HX0.out.lt
 have HX := Lib.hid HX0.out
 clear HX0
 generalize hXe : u.heap.size = X at *
 refine wp_region_lots2 29 (fun i => if i = 24 then [m] else []) (fun _ _ => True) (fun i v u => match i with | 0 => v = .pointer (some ⟨m, 0, none⟩) | 1 => v = .pointer (some ⟨m, 0, none⟩) | 2 => v = .pointer (some ⟨m, 0, none⟩) | 3 => v = .pointer (some ⟨m, 0, none⟩) | 4 => v = .pointer (some ⟨m, 1, none⟩) | 5 => v = .slice (some ⟨gr, 0, none⟩) 8 cr | 6 => v = .pointer (some ⟨X, 2, none⟩) | 7 => v = .int .i64 a | 8 => v = .pointer (some ⟨gr, a.toNat, none⟩) | 9 => v = .int .i64 va | 10 => v = .int .i64 (sgn va) | 11 => v = .pointer (some ⟨m, 0, none⟩) | 12 => v = .pointer (some ⟨m, 0, none⟩) | 13 => v = .pointer (some ⟨m, 0, none⟩) | 14 => v = .pointer (some ⟨m, 1, none⟩) | 15 => v = .slice (some ⟨gr, 0, none⟩) 8 cr | 16 => v = .pointer (some ⟨X, 3, none⟩) | 17 => v = .int .i64 b | 18 => v = .pointer (some ⟨gr, b.toNat, none⟩) | 19 => v = .int .i64 vb | 20 => v = .int .i64 (sgn vb) | 21 => v = .bool (decide ((sgn va) < (sgn vb))) | 22 => v = .pointer (some ⟨X, 5, none⟩) | 23 => v = .int .i64 n | 24 => (v = .tuple #[] ∧ Mx u m gr gc gm cr cc cm s e (if (decide (sgn va < sgn vb)) = true then (nx s + n) % 65536 else nx s)) | _ => True) ?mono (by kernel_rfl) (by kernel_rfl) rfl (by kernel_rfl) trivial ?step ?fin
 case mono =>
  intro i j v u u' hij hsz h hB
  rcases j with _ | _ | _ | _ | _ | _ | _ | _ | _ | _ | _ | _ | _ | _ | _ | _ | _ | _ | _ | _ | _ | _ | _ | _ | _ | j
  ·exact h
  ·exact h
  ·exact h
  ·exact h
  ·exact h
  ·exact h
  ·exact h
  ·exact h
  ·exact h
  ·exact h
  ·exact h
  ·exact h
  ·exact h
  ·exact h
  ·exact h
  ·exact h
  ·exact h
  ·exact h
  ·exact h
  ·exact h
  ·exact h
  ·exact h
  ·exact h
  ·exact h
  ·exact (by have hB2 : But [] u u' := (by have hx := hB; simp only [if_neg hij] at hx; exact hx); exact ⟨h.1, h.2.but hB2 (by simp) (by simp) (by simp) (by simp)⟩)
  ·trivial
 case step =>
  intro i o ho
  rcases i with _ | _ | _ | _ | _ | _ | _ | _ | _ | _ | _ | _ | _ | _ | _ | _ | _ | _ | _ | _ | _ | _ | _ | _ | _ | i
  ·cases ho
   intro fu act u hW hB hsz hL hdep
   replace hB := hB [] (fun j hj hd k hk => by
    by_cases xz : j = 24
    ·subst xz; exact (depT_no hd (by kernel_rfl)).elim
    rw [if_neg xz] at hk; cases hk)
   have x0 : act.tmps.getD 0 undef = (.pointer (some ⟨m, 0, none⟩) : Value) := (hL.2.2 0 (no_dst (by kernel_rfl))).trans rfl
   clear hdep hL
   refine wpOp_step rfl (fun K hK => ?_)
   go_simp
   exact hK _ _ ⟨_, rfl, (fun h => by cases h), (by first | rfl | (exact congrArg (Value.int .i64) (by rw [IntWalk.i64_left, IntWalk.wrap64_in _ (by omega)])) | simp), But.refl _ _, trivial⟩
  ·cases ho
   intro fu act u hW hB hsz hL hdep
   replace hB := hB [] (fun j hj hd k hk => by
    by_cases xz : j = 24
    ·subst xz; exact (depT_no hd (by kernel_rfl)).elim
    rw [if_neg xz] at hk; cases hk)
   have x0 : act.tmps.getD 0 undef = (.pointer (some ⟨m, 0, none⟩) : Value) := (hL.2.2 0 (no_dst (by kernel_rfl))).trans rfl
   clear hdep hL
   refine wpOp_step rfl (fun K hK => ?_)
   go_simp
   exact hK _ _ ⟨_, rfl, (fun h => by cases h), (by first | rfl | (exact congrArg (Value.int .i64) (by rw [IntWalk.i64_left, IntWalk.wrap64_in _ (by omega)])) | simp), But.refl _ _, trivial⟩
  ·cases ho
   intro fu act u hW hB hsz hL hdep
   replace hB := hB [] (fun j hj hd k hk => by
    by_cases xz : j = 24
    ·subst xz; exact (depT_no hd (by kernel_rfl)).elim
    rw [if_neg xz] at hk; cases hk)
   have e1 : act.tmps.getD 5 undef = (.pointer (some ⟨m, 0, none⟩) : Value) := hdep { on := 1, ground := .data } (by simp) rfl _ rfl
   clear hdep hL
   refine wpOp_step rfl (fun K hK => ?_)
   go_simp
   exact hK _ _ ⟨_, rfl, (fun h => by cases h), (by first | rfl | (exact congrArg (Value.int .i64) (by rw [IntWalk.i64_left, IntWalk.wrap64_in _ (by omega)])) | simp), But.refl _ _, trivial⟩
  ·cases ho
   intro fu act u hW hB hsz hL hdep
   replace hB := hB [] (fun j hj hd k hk => by
    by_cases xz : j = 24
    ·subst xz; exact (depT_no hd (by kernel_rfl)).elim
    rw [if_neg xz] at hk; cases hk)
   have e2 : act.tmps.getD 6 undef = (.pointer (some ⟨m, 0, none⟩) : Value) := hdep { on := 2, ground := .data } (by simp) rfl _ rfl
   clear hdep hL
   refine wpOp_step rfl (fun K hK => ?_)
   go_simp
   exact hK _ _ ⟨_, rfl, (fun h => by cases h), (by first | rfl | (exact congrArg (Value.int .i64) (by rw [IntWalk.i64_left, IntWalk.wrap64_in _ (by omega)])) | simp), But.refl _ _, trivial⟩
  ·cases ho
   intro fu act u hW hB hsz hL hdep
   replace hB := hB [] (fun j hj hd k hk => by
    by_cases xz : j = 24
    ·subst xz; exact (depT_no hd (by kernel_rfl)).elim
    rw [if_neg xz] at hk; cases hk)
   have e3 : act.tmps.getD 7 undef = (.pointer (some ⟨m, 0, none⟩) : Value) := hdep { on := 3, ground := .data } (by simp) rfl _ rfl
   clear hdep hL
   refine wpOp_step rfl (fun K hK => ?_)
   go_simp
   exact hK _ _ ⟨_, rfl, (fun h => by cases h), (by first | rfl | (exact congrArg (Value.int .i64) (by rw [IntWalk.i64_left, IntWalk.wrap64_in _ (by omega)])) | simp), But.refl _ _, trivial⟩
  ·cases ho
   intro fu act u hW hB hsz hL hdep
   replace hB := hB [] (fun j hj hd k hk => by
    by_cases xz : j = 24
    ·subst xz; exact (depT_no hd (by kernel_rfl)).elim
    rw [if_neg xz] at hk; cases hk)
   have e4 : act.tmps.getD 8 undef = (.pointer (some ⟨m, 1, none⟩) : Value) := hdep { on := 4, ground := .data } (by simp) rfl _ rfl
   clear hdep hL
   have hm := HM.out.but hB (by simp) (by simp) (by simp) (by simp)
   have c := hm.cel 1 (by decide)
   simp only [mCells, List.getElem?_cons_succ, List.getElem?_cons_zero] at c
   clear hm
   refine wpOp_step rfl (fun K hK => ?_)
   go_simp
   exact hK _ _ ⟨_, rfl, (fun h => by cases h), (by first | rfl | (exact congrArg (Value.int .i64) (by rw [IntWalk.i64_left, IntWalk.wrap64_in _ (by omega)])) | simp), But.refl _ _, trivial⟩
  ·cases ho
   intro fu act u hW hB hsz hL hdep
   replace hB := hB [] (fun j hj hd k hk => by
    by_cases xz : j = 24
    ·subst xz; exact (depT_no hd (by kernel_rfl)).elim
    rw [if_neg xz] at hk; cases hk)
   have x3 : act.tmps.getD 3 undef = (.pointer (some ⟨X, 0, none⟩) : Value) := (hL.2.2 3 (no_dst (by kernel_rfl))).trans rfl
   clear hdep hL
   refine wpOp_step rfl (fun K hK => ?_)
   go_simp
   exact hK _ _ ⟨_, rfl, (fun h => by cases h), (by first | rfl | (exact congrArg (Value.int .i64) (by rw [IntWalk.i64_left, IntWalk.wrap64_in _ (by omega)])) | simp), But.refl _ _, trivial⟩
  ·cases ho
   intro fu act u hW hB hsz hL hdep
   replace hB := hB [] (fun j hj hd k hk => by
    by_cases xz : j = 24
    ·subst xz; exact (depT_no hd (by kernel_rfl)).elim
    rw [if_neg xz] at hk; cases hk)
   have e6 : act.tmps.getD 10 undef = (.pointer (some ⟨X, 2, none⟩) : Value) := hdep { on := 6, ground := .data } (by simp) rfl _ rfl
   clear hdep hL
   have c := (HX.out.but hB (by simp)).c2
   refine wpOp_step rfl (fun K hK => ?_)
   go_simp
   exact hK _ _ ⟨_, rfl, (fun h => by cases h), (by first | rfl | (exact congrArg (Value.int .i64) (by rw [IntWalk.i64_left, IntWalk.wrap64_in _ (by omega)])) | simp), But.refl _ _, trivial⟩
  ·cases ho
   intro fu act u hW hB hsz hL hdep
   replace hB := hB [] (fun j hj hd k hk => by
    by_cases xz : j = 24
    ·subst xz; exact (depT_no hd (by kernel_rfl)).elim
    rw [if_neg xz] at hk; cases hk)
   have e5 : act.tmps.getD 9 undef = (.slice (some ⟨gr, 0, none⟩) 8 cr : Value) := hdep { on := 5, ground := .data } (by simp) rfl _ rfl
   have e7 : act.tmps.getD 11 undef = (.int .i64 a : Value) := hdep { on := 7, ground := .data } (by simp) rfl _ rfl
   clear hdep hL
   have ix0 : 0 ≤ a := by omega
   have ix1 : a < 8 := by omega
   refine wpOp_step rfl (fun K hK => ?_)
   go_simp
   exact hK _ _ ⟨_, rfl, (fun h => by cases h), (by first | rfl | (exact congrArg (Value.int .i64) (by rw [IntWalk.i64_left, IntWalk.wrap64_in _ (by omega)])) | simp), But.refl _ _, trivial⟩
  ·cases ho
   intro fu act u hW hB hsz hL hdep
   replace hB := hB [] (fun j hj hd k hk => by
    by_cases xz : j = 24
    ·subst xz; exact (depT_no hd (by kernel_rfl)).elim
    rw [if_neg xz] at hk; cases hk)
   have e8 : act.tmps.getD 12 undef = (.pointer (some ⟨gr, a.toNat, none⟩) : Value) := hdep { on := 8, ground := .data } (by simp) rfl _ rfl
   clear hdep hL
   have hm := HM.out.but hB (by simp) (by simp) (by simp) (by simp)
   have c := hm.ow.R.cel (a.toNat) (by have h1 := HK.out.Rl; have h2 := HK.out.Cl; have h3 := HK.out.Ml; omega)
   clear hm
   rw [hva] at c
   refine wpOp_step rfl (fun K hK => ?_)
   go_simp
   exact hK _ _ ⟨_, rfl, (fun h => by cases h), (by first | rfl | (exact congrArg (Value.int .i64) (by rw [IntWalk.i64_left, IntWalk.wrap64_in _ (by omega)])) | simp), But.refl _ _, trivial⟩
  ·cases ho
   intro fu act u hW hB hsz hL hdep
   replace hB := hB [] (fun j hj hd k hk => by
    by_cases xz : j = 24
    ·subst xz; exact (depT_no hd (by kernel_rfl)).elim
    rw [if_neg xz] at hk; cases hk)
   have e9 : act.tmps.getD 13 undef = (.int .i64 va : Value) := hdep { on := 9, ground := .data } (by simp) rfl _ rfl
   have hdf := Lib.hid (show act.defers = [] from hL.1)
   clear hdep hL
   refine wpOp_step rfl (fun K hK => ?_)
   go_simp
   refine (impl_WrdInt _ u).mono ?_
   rintro r u' ⟨rfl, rfl⟩
   go_simp
   exact hK _ _ ⟨_, rfl, (fun h => by cases h), rfl, But.refl _ _, trivial⟩
  ·cases ho
   intro fu act u hW hB hsz hL hdep
   replace hB := hB [] (fun j hj hd k hk => by
    by_cases xz : j = 24
    ·subst xz; exact (depT_no hd (by kernel_rfl)).elim
    rw [if_neg xz] at hk; cases hk)
   have x0 : act.tmps.getD 0 undef = (.pointer (some ⟨m, 0, none⟩) : Value) := (hL.2.2 0 (no_dst (by kernel_rfl))).trans rfl
   clear hdep hL
   refine wpOp_step rfl (fun K hK => ?_)
   go_simp
   exact hK _ _ ⟨_, rfl, (fun h => by cases h), (by first | rfl | (exact congrArg (Value.int .i64) (by rw [IntWalk.i64_left, IntWalk.wrap64_in _ (by omega)])) | simp), But.refl _ _, trivial⟩
  ·cases ho
   intro fu act u hW hB hsz hL hdep
   replace hB := hB [] (fun j hj hd k hk => by
    by_cases xz : j = 24
    ·subst xz; exact (depT_no hd (by kernel_rfl)).elim
    rw [if_neg xz] at hk; cases hk)
   have e11 : act.tmps.getD 15 undef = (.pointer (some ⟨m, 0, none⟩) : Value) := hdep { on := 11, ground := .data } (by simp) rfl _ rfl
   clear hdep hL
   refine wpOp_step rfl (fun K hK => ?_)
   go_simp
   exact hK _ _ ⟨_, rfl, (fun h => by cases h), (by first | rfl | (exact congrArg (Value.int .i64) (by rw [IntWalk.i64_left, IntWalk.wrap64_in _ (by omega)])) | simp), But.refl _ _, trivial⟩
  ·cases ho
   intro fu act u hW hB hsz hL hdep
   replace hB := hB [] (fun j hj hd k hk => by
    by_cases xz : j = 24
    ·subst xz; exact (depT_no hd (by kernel_rfl)).elim
    rw [if_neg xz] at hk; cases hk)
   have e12 : act.tmps.getD 16 undef = (.pointer (some ⟨m, 0, none⟩) : Value) := hdep { on := 12, ground := .data } (by simp) rfl _ rfl
   clear hdep hL
   refine wpOp_step rfl (fun K hK => ?_)
   go_simp
   exact hK _ _ ⟨_, rfl, (fun h => by cases h), (by first | rfl | (exact congrArg (Value.int .i64) (by rw [IntWalk.i64_left, IntWalk.wrap64_in _ (by omega)])) | simp), But.refl _ _, trivial⟩
  ·cases ho
   intro fu act u hW hB hsz hL hdep
   replace hB := hB [] (fun j hj hd k hk => by
    by_cases xz : j = 24
    ·subst xz; exact (depT_no hd (by kernel_rfl)).elim
    rw [if_neg xz] at hk; cases hk)
   have e13 : act.tmps.getD 17 undef = (.pointer (some ⟨m, 0, none⟩) : Value) := hdep { on := 13, ground := .data } (by simp) rfl _ rfl
   clear hdep hL
   refine wpOp_step rfl (fun K hK => ?_)
   go_simp
   exact hK _ _ ⟨_, rfl, (fun h => by cases h), (by first | rfl | (exact congrArg (Value.int .i64) (by rw [IntWalk.i64_left, IntWalk.wrap64_in _ (by omega)])) | simp), But.refl _ _, trivial⟩
  ·cases ho
   intro fu act u hW hB hsz hL hdep
   replace hB := hB [] (fun j hj hd k hk => by
    by_cases xz : j = 24
    ·subst xz; exact (depT_no hd (by kernel_rfl)).elim
    rw [if_neg xz] at hk; cases hk)
   have e14 : act.tmps.getD 18 undef = (.pointer (some ⟨m, 1, none⟩) : Value) := hdep { on := 14, ground := .data } (by simp) rfl _ rfl
   clear hdep hL
   have hm := HM.out.but hB (by simp) (by simp) (by simp) (by simp)
   have c := hm.cel 1 (by decide)
   simp only [mCells, List.getElem?_cons_succ, List.getElem?_cons_zero] at c
   clear hm
   refine wpOp_step rfl (fun K hK => ?_)
   go_simp
   exact hK _ _ ⟨_, rfl, (fun h => by cases h), (by first | rfl | (exact congrArg (Value.int .i64) (by rw [IntWalk.i64_left, IntWalk.wrap64_in _ (by omega)])) | simp), But.refl _ _, trivial⟩
  ·cases ho
   intro fu act u hW hB hsz hL hdep
   replace hB := hB [] (fun j hj hd k hk => by
    by_cases xz : j = 24
    ·subst xz; exact (depT_no hd (by kernel_rfl)).elim
    rw [if_neg xz] at hk; cases hk)
   have x3 : act.tmps.getD 3 undef = (.pointer (some ⟨X, 0, none⟩) : Value) := (hL.2.2 3 (no_dst (by kernel_rfl))).trans rfl
   clear hdep hL
   refine wpOp_step rfl (fun K hK => ?_)
   go_simp
   exact hK _ _ ⟨_, rfl, (fun h => by cases h), (by first | rfl | (exact congrArg (Value.int .i64) (by rw [IntWalk.i64_left, IntWalk.wrap64_in _ (by omega)])) | simp), But.refl _ _, trivial⟩
  ·cases ho
   intro fu act u hW hB hsz hL hdep
   replace hB := hB [] (fun j hj hd k hk => by
    by_cases xz : j = 24
    ·subst xz; exact (depT_no hd (by kernel_rfl)).elim
    rw [if_neg xz] at hk; cases hk)
   have e16 : act.tmps.getD 20 undef = (.pointer (some ⟨X, 3, none⟩) : Value) := hdep { on := 16, ground := .data } (by simp) rfl _ rfl
   clear hdep hL
   have c := (HX.out.but hB (by simp)).c3
   refine wpOp_step rfl (fun K hK => ?_)
   go_simp
   exact hK _ _ ⟨_, rfl, (fun h => by cases h), (by first | rfl | (exact congrArg (Value.int .i64) (by rw [IntWalk.i64_left, IntWalk.wrap64_in _ (by omega)])) | simp), But.refl _ _, trivial⟩
  ·cases ho
   intro fu act u hW hB hsz hL hdep
   replace hB := hB [] (fun j hj hd k hk => by
    by_cases xz : j = 24
    ·subst xz; exact (depT_no hd (by kernel_rfl)).elim
    rw [if_neg xz] at hk; cases hk)
   have e15 : act.tmps.getD 19 undef = (.slice (some ⟨gr, 0, none⟩) 8 cr : Value) := hdep { on := 15, ground := .data } (by simp) rfl _ rfl
   have e17 : act.tmps.getD 21 undef = (.int .i64 b : Value) := hdep { on := 17, ground := .data } (by simp) rfl _ rfl
   clear hdep hL
   have ix0 : 0 ≤ b := by omega
   have ix1 : b < 8 := by omega
   refine wpOp_step rfl (fun K hK => ?_)
   go_simp
   exact hK _ _ ⟨_, rfl, (fun h => by cases h), (by first | rfl | (exact congrArg (Value.int .i64) (by rw [IntWalk.i64_left, IntWalk.wrap64_in _ (by omega)])) | simp), But.refl _ _, trivial⟩
  ·cases ho
   intro fu act u hW hB hsz hL hdep
   replace hB := hB [] (fun j hj hd k hk => by
    by_cases xz : j = 24
    ·subst xz; exact (depT_no hd (by kernel_rfl)).elim
    rw [if_neg xz] at hk; cases hk)
   have e18 : act.tmps.getD 22 undef = (.pointer (some ⟨gr, b.toNat, none⟩) : Value) := hdep { on := 18, ground := .data } (by simp) rfl _ rfl
   clear hdep hL
   have hm := HM.out.but hB (by simp) (by simp) (by simp) (by simp)
   have c := hm.ow.R.cel (b.toNat) (by have h1 := HK.out.Rl; have h2 := HK.out.Cl; have h3 := HK.out.Ml; omega)
   clear hm
   rw [hvb] at c
   refine wpOp_step rfl (fun K hK => ?_)
   go_simp
   exact hK _ _ ⟨_, rfl, (fun h => by cases h), (by first | rfl | (exact congrArg (Value.int .i64) (by rw [IntWalk.i64_left, IntWalk.wrap64_in _ (by omega)])) | simp), But.refl _ _, trivial⟩
  ·cases ho
   intro fu act u hW hB hsz hL hdep
   replace hB := hB [] (fun j hj hd k hk => by
    by_cases xz : j = 24
    ·subst xz; exact (depT_no hd (by kernel_rfl)).elim
    rw [if_neg xz] at hk; cases hk)
   have e19 : act.tmps.getD 23 undef = (.int .i64 vb : Value) := hdep { on := 19, ground := .data } (by simp) rfl _ rfl
   have hdf := Lib.hid (show act.defers = [] from hL.1)
   clear hdep hL
   refine wpOp_step rfl (fun K hK => ?_)
   go_simp
   refine (impl_WrdInt _ u).mono ?_
   rintro r u' ⟨rfl, rfl⟩
   go_simp
   exact hK _ _ ⟨_, rfl, (fun h => by cases h), rfl, But.refl _ _, trivial⟩
  ·cases ho
   intro fu act u hW hB hsz hL hdep
   replace hB := hB [] (fun j hj hd k hk => by
    by_cases xz : j = 24
    ·subst xz; exact (depT_no hd (by kernel_rfl)).elim
    rw [if_neg xz] at hk; cases hk)
   have e10 : act.tmps.getD 14 undef = (.int .i64 (sgn va) : Value) := hdep { on := 10, ground := .data } (by simp) rfl _ rfl
   have e20 : act.tmps.getD 24 undef = (.int .i64 (sgn vb) : Value) := hdep { on := 20, ground := .data } (by simp) rfl _ rfl
   clear hdep hL
   refine wpOp_step rfl (fun K hK => ?_)
   go_simp
   exact hK _ _ ⟨_, rfl, (fun h => by cases h), (by first | rfl | (exact congrArg (Value.int .i64) (by rw [IntWalk.i64_left, IntWalk.wrap64_in _ (by omega)])) | simp), But.refl _ _, trivial⟩
  ·cases ho
   intro fu act u hW hB hsz hL hdep
   replace hB := hB [] (fun j hj hd k hk => by
    by_cases xz : j = 24
    ·subst xz; exact (depT_no hd (by kernel_rfl)).elim
    rw [if_neg xz] at hk; cases hk)
   have x3 : act.tmps.getD 3 undef = (.pointer (some ⟨X, 0, none⟩) : Value) := (hL.2.2 3 (no_dst (by kernel_rfl))).trans rfl
   clear hdep hL
   refine wpOp_step rfl (fun K hK => ?_)
   go_simp
   exact hK _ _ ⟨_, rfl, (fun h => by cases h), (by first | rfl | (exact congrArg (Value.int .i64) (by rw [IntWalk.i64_left, IntWalk.wrap64_in _ (by omega)])) | simp), But.refl _ _, trivial⟩
  ·cases ho
   intro fu act u hW hB hsz hL hdep
   replace hB := hB [] (fun j hj hd k hk => by
    by_cases xz : j = 24
    ·subst xz; exact (depT_no hd (by kernel_rfl)).elim
    rw [if_neg xz] at hk; cases hk)
   have e22 : act.tmps.getD 26 undef = (.pointer (some ⟨X, 5, none⟩) : Value) := hdep { on := 22, ground := .data } (by simp) rfl _ rfl
   clear hdep hL
   have c := (HX.out.but hB (by simp)).c5
   refine wpOp_step rfl (fun K hK => ?_)
   go_simp
   exact hK _ _ ⟨_, rfl, (fun h => by cases h), (by first | rfl | (exact congrArg (Value.int .i64) (by rw [IntWalk.i64_left, IntWalk.wrap64_in _ (by omega)])) | simp), But.refl _ _, trivial⟩
  ·cases ho
   intro fu act u hW hB hsz hL hdep
   replace hB := hB [] (fun j hj hd k hk => by
    rw [if_neg hj] at hk; cases hk)
   have e0 : act.tmps.getD 4 undef = (.pointer (some ⟨m, 0, none⟩) : Value) := hdep { on := 0, ground := .data } (by simp) rfl _ rfl
   have e21 : act.tmps.getD 25 undef = (.bool (decide ((sgn va) < (sgn vb))) : Value) := hdep { on := 21, ground := .data } (by simp) rfl _ rfl
   have e23 : act.tmps.getD 27 undef = (.int .i64 n : Value) := hdep { on := 23, ground := .data } (by simp) rfl _ rfl
   have hdf := Lib.hid (show act.defers = [] from hL.1)
   clear hdep hL
   refine wpOp_step rfl (fun K hK => ?_)
   go_simp
   refine (impl_branch u m gr gc gm cr cc cm s e (nx s) n (decide (sgn va < sgn vb)) (HM.out.but hB (by simp) (by simp) (by simp) (by simp)) hnx.1 hnx.2 (by omega) (by omega)).mono ?_
   rintro r u' ⟨rfl, hM', hB'⟩
   go_simp
   exact hK _ _ ⟨_, rfl, (fun h => by cases h), ⟨rfl, hM'⟩, hB', trivial⟩
  ·exact absurd ho (by simp)
 case fin =>
  intro act u hW hsz hB hL hsf
  replace hB := hB [m] (fun j k hk => by
   by_cases yz : j = 24
   ·rw [if_pos yz] at hk; exact hk
   rw [if_neg yz] at hk
   cases hk)
  have d24 := hsf 24 _ rfl
  obtain ⟨ysl, ha, hy⟩ := hL.puts [4, 5, 6, 7, 8, 9, 10, 11, 12, 13, 14, 15, 16, 17, 18, 19, 20, 21, 22, 23, 24, 25, 26, 27, 28] (by kernel_rfl)
  clear hL hsf hy
  simp only [List.foldl, List.setIfInBounds_toArray, List.set_cons_succ, List.set_cons_zero] at ha
  subst ha
  obtain ⟨_, hM'⟩ := d24
  rw [show (if (decide (sgn va < sgn vb)) = true then (nx s + n) % 65536 else nx s) = pc2 by rw [← HPC.out]; simp] at hM'
  go_wp2_with fail
  (first | refine bodyPost_end (results_none rfl _ _ _) rfl ?_ | refine bodyPost_ret (results_none rfl _ _ _) rfl ?_)
  exact ⟨rfl, hM', (((But.of HF.out).trans (hB.up (fun k hk => by simp at hk ⊢; omega))))⟩

end Go.Proofs.YtbjapncfgancoaaDoor
