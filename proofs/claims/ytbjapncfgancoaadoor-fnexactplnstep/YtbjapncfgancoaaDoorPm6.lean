/- What the methods that the machine alone may do. -/
import Derived.Test.YtbjapncfgancoaaDoorPm5
namespace Go.Proofs.YtbjapncfgancoaaDoor
open Go.RowKit
set_option linter.unusedVariables false
set_option linter.unusedSimpArgs false
set_option maxRecDepth 8000 in
set_option maxHeartbeats 4000000 in
theorem ef_back (u : World) (m gr gc gm cr cc cm : Nat) (s : St) (e : Ev) (d a b f n : Int) (h : Mx u m gr gc gm cr cc cm s e (nx s)) (hk : OkS s) (hi : iok 13 d a b f n = true) :
  Calls Tryd.prog 105 #[.pointer (some ⟨m, 0, none⟩), .agg #[.int .i64 13, .int .i64 d, .int .i64 a, .int .i64 b, .int .i64 f, .int .i64 n]] u (EfP (effS s e 13 d a b f n) m gr gc gm cr cc cm s e u) := by
 rw [eff_13]
 obtain ⟨⟨d0, d7⟩, ⟨a0, a7⟩, ⟨b0, b7⟩, _⟩ := sok_bd (sok_of hi)
 obtain ⟨n0, n1⟩ := num_bd (iok_num hi)
 obtain ⟨f0, f7⟩ := f_bd (iok_f hi)
 have hlm := h.lt
 have hnx : 0 ≤ nx s ∧ nx s < 65536 := by unfold nx; omega
 have hR := Lib.hid hk.Rl
 have HK := Lib.hid hk
 have qv0 := ok_get hk.C 0
 have qv3 := ok_get hk.C 3
 have F0 := Fr.alloc u (.cells #[.int .i64 13, .int .i64 d, .int .i64 a, .int .i64 b, .int .i64 f, .int .i64 n] 48)
 have HM := Lib.hid (h.fr F0)
 have HX0 := Lib.hid (Box.new u 13 d a b f n 48)
 have HF := Lib.hid F0
 have ho := h.ow
 have lr := ho.R.lt
 have lc := ho.C.lt
 have lm := ho.M.lt
 clear h hk F0 ho
 obtain ⟨v0, hv0⟩ : ∃ x, s.C.getD 0 0 = x := ⟨_, rfl⟩
 rw [hv0] at qv0
 obtain ⟨qv00, qv01⟩ := qv0
 obtain ⟨v3, hv3⟩ : ∃ x, s.C.getD 3 0 = x := ⟨_, rfl⟩
 rw [hv3] at qv3
 obtain ⟨qv30, qv31⟩ := qv3
 simp only [put, goto, rg, mm, hv0, hv3]
 have hdv : v3.tdiv 2 = v3 / 2 := Int.tdiv_eq_ediv_of_nonneg qv30
 generalize ho : (if usr s.C = true then Out.stop 6 else Out.go ⟨v0, s.R, s.C.set 3 (v3 / 2), s.M⟩ e) = o
 have HO := Lib.hid ho
 clear ho
 go_enter Tryd.func105, Tryd.ntmps105
 go_wp2_with fail
 generalize (u.alloc (.cells #[.int .i64 13, .int .i64 d, .int .i64 a, .int .i64 b, .int .i64 f, .int .i64 n] 48)) = u0 at *
 have hz := HF.out.size
 have hXl := HX0.out.lt
 have HX := Lib.hid HX0.out
 clear HX0
 generalize hXe : u.heap.size = X at *
 go_wp2_with fail
 refine (impl_demand u0 m gr gc gm cr cc cm s e (nx s) HM.out HK.out).mono ?_
 rintro r u1 ⟨hd, f1⟩
 have HF2 := Lib.hid (Fr.trans HF.out f1)
 have HM2 := Lib.hid (HM.out.fr f1)
 clear HF HM HX f1
 rcases hd with ⟨hu, rfl⟩ | ⟨hu, rfl⟩
 ·have ho2 : o = .stop 6 := by rw [← HO.out, if_pos hu]
  subst ho2
  simp only [trapE]
  go_wp2_with fail
  exact ⟨rfl, rfl, HM2.out, But.of HF2.out⟩
 ·have ho2 : o = .go ⟨v0, s.R, s.C.set 3 (v3 / 2), s.M⟩ e := by rw [← HO.out, if_neg (by simp [hu])]
  subst ho2
  clear hu HO
  have c2 := HM2.out.cel 2 (by decide)
  have c11 := HM2.out.cel 11 (by decide)
  have f11 := HM2.out.fro 11 (by decide)
  simp only [mCells, List.getElem?_cons_succ, List.getElem?_cons_zero] at c2 c11
  have g0 := HM2.out.ow.C.cel 0 (by rw [HK.out.Cl]; decide)
  have g3 := HM2.out.ow.C.cel 3 (by rw [HK.out.Cl]; decide)
  have k3 := HM2.out.ow.C.fro 3 (by rw [HK.out.Cl]; decide)
  rw [hv0] at g0
  rw [hv3] at g3
  have n1 : ¬ m = gc := HM2.out.nc
  have n2 : ¬ gc = m := fun ee => HM2.out.nc ee.symm
  go_wp2_with fail
  (first | refine bodyPost_end (results_none rfl _ _ _) rfl ?_ | refine bodyPost_ret (results_none rfl _ _ _) rfl ?_)
  exact ⟨rfl, (HM2.out.set (s' := s) (e' := e) (nx' := v0) 11 _ (by decide) rfl rfl rfl rfl).setC 3 _ (by rw [HK.out.Cl]; decide), ((But.of HF2.out).set m _ _ (.inl (by simp))).set gc _ _ (.inl (by simp))⟩
set_option maxRecDepth 8000 in
set_option maxHeartbeats 4000000 in
theorem ef_set (u : World) (m gr gc gm cr cc cm : Nat) (s : St) (e : Ev) (d a b f n : Int) (h : Mx u m gr gc gm cr cc cm s e (nx s)) (hk : OkS s) (hi : iok 15 d a b f n = true) :
  Calls Tryd.prog 107 #[.pointer (some ⟨m, 0, none⟩), .agg #[.int .i64 15, .int .i64 d, .int .i64 a, .int .i64 b, .int .i64 f, .int .i64 n]] u (EfP (effS s e 15 d a b f n) m gr gc gm cr cc cm s e u) := by
 rw [eff_15]
 obtain ⟨⟨d0, d7⟩, ⟨a0, a7⟩, ⟨b0, b7⟩, _⟩ := sok_bd (sok_of hi)
 obtain ⟨n0, n1⟩ := num_bd (iok_num hi)
 have hf4 := iok_f hi
 rw [show topF 15 = 4 from rfl] at hf4
 obtain ⟨f0, f7⟩ := hf4
 have hlm := h.lt
 have hnx : 0 ≤ nx s ∧ nx s < 65536 := by unfold nx; omega
 have hR := Lib.hid hk.Rl
 have HK := Lib.hid hk
 have qva := ok_get hk.R a.toNat
 have F0 := Fr.alloc u (.cells #[.int .i64 15, .int .i64 d, .int .i64 a, .int .i64 b, .int .i64 f, .int .i64 n] 48)
 have HM := Lib.hid (h.fr F0)
 have HX0 := Lib.hid (Box.new u 15 d a b f n 48)
 have HF := Lib.hid F0
 have ho := h.ow
 have lr := ho.R.lt
 have lc := ho.C.lt
 have lm := ho.M.lt
 clear h hk F0 ho
 obtain ⟨va, hva⟩ : ∃ x, s.R.getD a.toNat 0 = x := ⟨_, rfl⟩
 rw [hva] at qva
 obtain ⟨qva0, qva1⟩ := qva
 simp only [put, goto, rg, mm, hva]
 have hvv : ∃ vv, (if f = 3 then va % 4 / 2 * 2 else va) = vv := ⟨_, rfl⟩
 obtain ⟨vv, hvv⟩ := hvv
 rw [show setF s f va = s.C.set f.toNat vv by unfold setF; rw [hvv]]
 have hq : (va.tmod 4).tdiv 2 * 2 = va % 4 / 2 * 2 := by rw [Int.tmod_eq_emod_of_nonneg qva0, Int.tdiv_eq_ediv_of_nonneg (by omega)]
 have HVV := Lib.hid hvv
 clear hvv
 generalize ho : (if usr s.C = true then Out.stop 6 else Out.go ⟨nx s, s.R, s.C.set f.toNat vv, s.M⟩ e) = o
 have HO := Lib.hid ho
 clear ho
 go_enter Tryd.func107, Tryd.ntmps107
 go_wp2_with fail
 generalize (u.alloc (.cells #[.int .i64 15, .int .i64 d, .int .i64 a, .int .i64 b, .int .i64 f, .int .i64 n] 48)) = u0 at *
 have hz := HF.out.size
 have hXl := HX0.out.lt
 have HX := Lib.hid HX0.out
 clear HX0
 generalize hXe : u.heap.size = X at *
 go_wp2_with fail
 refine (impl_demand u0 m gr gc gm cr cc cm s e (nx s) HM.out HK.out).mono ?_
 rintro r u1 ⟨hd, f1⟩
 have HF2 := Lib.hid (Fr.trans HF.out f1)
 have HM2 := Lib.hid (HM.out.fr f1)
 have HX2 := Lib.hid (HX.out.fr f1)
 clear HF HM HX f1
 have HF := Lib.hid HF2.out
 have HM := Lib.hid HM2.out
 have HX := Lib.hid HX2.out
 clear HF2 HM2 HX2
 have hsz2 := HF.out.size
 rcases hd with ⟨hu, rfl⟩ | ⟨hu, rfl⟩
 ·have ho2 : o = .stop 6 := by rw [← HO.out, if_pos hu]
  subst ho2
  simp only [trapE]
  go_wp2_with fail
  exact ⟨rfl, rfl, HM.out, But.of HF.out⟩
 ·have ho2 : o = .go ⟨nx s, s.R, s.C.set f.toNat vv, s.M⟩ e := by rw [← HO.out, if_neg (by simp [hu])]
  subst ho2
  clear hu HO
  go_wp2_with fail
  refine wp_region_lots2 32 (fun _ => []) (fun _ _ => True) (fun i v u => match i with | 0 => v = .pointer (some ⟨m, 0, none⟩) | 1 => v = .pointer (some ⟨m, 0, none⟩) | 2 => v = .pointer (some ⟨m, 0, none⟩) | 3 => v = .pointer (some ⟨m, 1, none⟩) | 4 => v = .slice (some ⟨gr, 0, none⟩) 8 cr | 5 => v = .pointer (some ⟨X, 2, none⟩) | 6 => v = .int .i64 a | 7 => v = .pointer (some ⟨gr, a.toNat, none⟩) | 8 => v = .int .i64 va | 9 => v = .int .i64 va | _ => True) ?mono (by kernel_rfl) (by kernel_rfl) rfl (by kernel_rfl) trivial ?step ?fin
  case mono =>
   intro i j v u u' hij hsz h hB
   rcases j with _ | _ | _ | _ | _ | _ | _ | _ | _ | _ | j
   ·exact h
   ·exact h
   ·exact h
   ·exact h
   ·exact h
   ·exact h
   ·exact h
   ·exact h
   ·exact h
   ·exact h
   ·trivial
  case step =>
   intro i o ho
   rcases i with _ | _ | _ | _ | _ | _ | _ | _ | _ | _ | i
   ·cases ho
    intro fu act u hW hB hsz hL hdep
    replace hB := hB [] (fun j hj hd k hk => by cases hk)
    have x0 : act.tmps.getD 0 undef = (.pointer (some ⟨m, 0, none⟩) : Value) := (hL.2.2 0 (no_dst (by kernel_rfl))).trans rfl
    clear hdep hL
    refine wpOp_step rfl (fun K hK => ?_)
    go_simp
    exact hK _ _ ⟨_, rfl, (fun h => by cases h), (by first | rfl | (exact congrArg (Value.int .i64) (by rw [IntWalk.i64_left, IntWalk.wrap64_in _ (by omega)])) | simp), But.refl _ _, trivial⟩
   ·cases ho
    intro fu act u hW hB hsz hL hdep
    replace hB := hB [] (fun j hj hd k hk => by cases hk)
    have e0 : act.tmps.getD 7 undef = (.pointer (some ⟨m, 0, none⟩) : Value) := hdep { on := 0, ground := .data } (by simp) rfl _ rfl
    clear hdep hL
    refine wpOp_step rfl (fun K hK => ?_)
    go_simp
    exact hK _ _ ⟨_, rfl, (fun h => by cases h), (by first | rfl | (exact congrArg (Value.int .i64) (by rw [IntWalk.i64_left, IntWalk.wrap64_in _ (by omega)])) | simp), But.refl _ _, trivial⟩
   ·cases ho
    intro fu act u hW hB hsz hL hdep
    replace hB := hB [] (fun j hj hd k hk => by cases hk)
    have e1 : act.tmps.getD 8 undef = (.pointer (some ⟨m, 0, none⟩) : Value) := hdep { on := 1, ground := .data } (by simp) rfl _ rfl
    clear hdep hL
    refine wpOp_step rfl (fun K hK => ?_)
    go_simp
    exact hK _ _ ⟨_, rfl, (fun h => by cases h), (by first | rfl | (exact congrArg (Value.int .i64) (by rw [IntWalk.i64_left, IntWalk.wrap64_in _ (by omega)])) | simp), But.refl _ _, trivial⟩
   ·cases ho
    intro fu act u hW hB hsz hL hdep
    replace hB := hB [] (fun j hj hd k hk => by cases hk)
    have e2 : act.tmps.getD 9 undef = (.pointer (some ⟨m, 0, none⟩) : Value) := hdep { on := 2, ground := .data } (by simp) rfl _ rfl
    clear hdep hL
    refine wpOp_step rfl (fun K hK => ?_)
    go_simp
    exact hK _ _ ⟨_, rfl, (fun h => by cases h), (by first | rfl | (exact congrArg (Value.int .i64) (by rw [IntWalk.i64_left, IntWalk.wrap64_in _ (by omega)])) | simp), But.refl _ _, trivial⟩
   ·cases ho
    intro fu act u hW hB hsz hL hdep
    replace hB := hB [] (fun j hj hd k hk => by cases hk)
    have e3 : act.tmps.getD 10 undef = (.pointer (some ⟨m, 1, none⟩) : Value) := hdep { on := 3, ground := .data } (by simp) rfl _ rfl
    clear hdep hL
    have hm := HM.out.but hB (by simp) (by simp) (by simp) (by simp)
    have c := hm.cel 1 (by decide)
    simp only [mCells, List.getElem?_cons_succ, List.getElem?_cons_zero] at c
    clear hm
    refine wpOp_step rfl (fun K hK => ?_)
    go_simp
    exact hK _ _ ⟨_, rfl, (fun h => by cases h), (by first | rfl | (exact congrArg (Value.int .i64) (by rw [IntWalk.i64_left, IntWalk.wrap64_in _ (by omega)])) | simp), But.refl _ _, trivial⟩
   ·cases ho
    intro fu act u hW hB hsz hL hdep
    replace hB := hB [] (fun j hj hd k hk => by cases hk)
    have x3 : act.tmps.getD 3 undef = (.pointer (some ⟨X, 0, none⟩) : Value) := (hL.2.2 3 (no_dst (by kernel_rfl))).trans rfl
    clear hdep hL
    refine wpOp_step rfl (fun K hK => ?_)
    go_simp
    exact hK _ _ ⟨_, rfl, (fun h => by cases h), (by first | rfl | (exact congrArg (Value.int .i64) (by rw [IntWalk.i64_left, IntWalk.wrap64_in _ (by omega)])) | simp), But.refl _ _, trivial⟩
   ·cases ho
    intro fu act u hW hB hsz hL hdep
    replace hB := hB [] (fun j hj hd k hk => by cases hk)
    have e5 : act.tmps.getD 12 undef = (.pointer (some ⟨X, 2, none⟩) : Value) := hdep { on := 5, ground := .data } (by simp) rfl _ rfl
    clear hdep hL
    have c := (HX.out.but hB (by simp)).c2
    refine wpOp_step rfl (fun K hK => ?_)
    go_simp
    exact hK _ _ ⟨_, rfl, (fun h => by cases h), (by first | rfl | (exact congrArg (Value.int .i64) (by rw [IntWalk.i64_left, IntWalk.wrap64_in _ (by omega)])) | simp), But.refl _ _, trivial⟩
   ·cases ho
    intro fu act u hW hB hsz hL hdep
    replace hB := hB [] (fun j hj hd k hk => by cases hk)
    have e4 : act.tmps.getD 11 undef = (.slice (some ⟨gr, 0, none⟩) 8 cr : Value) := hdep { on := 4, ground := .data } (by simp) rfl _ rfl
    have e6 : act.tmps.getD 13 undef = (.int .i64 a : Value) := hdep { on := 6, ground := .data } (by simp) rfl _ rfl
    clear hdep hL
    have ix0 : 0 ≤ a := by omega
    have ix1 : a < 8 := by omega
    refine wpOp_step rfl (fun K hK => ?_)
    go_simp
    exact hK _ _ ⟨_, rfl, (fun h => by cases h), (by first | rfl | (exact congrArg (Value.int .i64) (by rw [IntWalk.i64_left, IntWalk.wrap64_in _ (by omega)])) | simp), But.refl _ _, trivial⟩
   ·cases ho
    intro fu act u hW hB hsz hL hdep
    replace hB := hB [] (fun j hj hd k hk => by cases hk)
    have e7 : act.tmps.getD 14 undef = (.pointer (some ⟨gr, a.toNat, none⟩) : Value) := hdep { on := 7, ground := .data } (by simp) rfl _ rfl
    clear hdep hL
    have hm := HM.out.but hB (by simp) (by simp) (by simp) (by simp)
    have c := hm.ow.R.cel (a.toNat) (by have h1 := HK.out.Rl; have h2 := HK.out.Cl; have h3 := HK.out.Ml; omega)
    clear hm
    rw [hva] at c
    refine wpOp_step rfl (fun K hK => ?_)
    go_simp
    exact hK _ _ ⟨_, rfl, (fun h => by cases h), (by first | rfl | (exact congrArg (Value.int .i64) (by rw [IntWalk.i64_left, IntWalk.wrap64_in _ (by omega)])) | simp), But.refl _ _, trivial⟩
   ·cases ho
    intro fu act u hW hB hsz hL hdep
    replace hB := hB [] (fun j hj hd k hk => by cases hk)
    have e8 : act.tmps.getD 15 undef = (.int .i64 va : Value) := hdep { on := 8, ground := .data } (by simp) rfl _ rfl
    clear hdep hL
    refine wpOp_step rfl (fun K hK => ?_)
    go_simp
    exact hK _ _ ⟨_, rfl, (fun h => by cases h), (by first | rfl | (exact congrArg (Value.int .i64) (by rw [IntWalk.i64_left, IntWalk.wrap64_in _ (by omega)])) | simp), But.refl _ _, trivial⟩
   ·exact absurd ho (by simp)
  case fin =>
   intro act u hW hsz hB hL hsf
   replace hB := hB [] (fun j k hk => by cases hk)
   have d9 := hsf 9 _ rfl
   obtain ⟨ysl, ha, hy⟩ := hL.puts [7, 8, 9, 10, 11, 12, 13, 14, 15, 4] (by kernel_rfl)
   have e9 : ysl 4 = .int .i64 va := (hy 4).symm.trans d9
   clear hL hsf hy d9
   simp only [List.foldl, List.setIfInBounds_toArray, List.set_cons_succ, List.set_cons_zero, e9] at ha
   subst ha
   clear e9
   have HF2 := Lib.hid (Fr.trans HF.out (fr_none hB))
   have HM2 := Lib.hid (HM.out.but hB (by simp) (by simp) (by simp) (by simp))
   have HX2 := Lib.hid (HX.out.but hB (by simp))
   clear HF HM HX hB hW
   have HF := Lib.hid HF2.out
   have HM := Lib.hid HM2.out
   have HX := Lib.hid HX2.out
   clear HF2 HM2 HX2
   have hsz2 := HF.out.size
   have x4 := HX.out.c4
   by_cases hf3 : f = 3
   ·have hv : va % 4 / 2 * 2 = vv := by rw [← HVV.out, if_pos hf3]
    rw [hv] at hq
    have hfb : (f == 3) = true := by simp [hf3]
    clear hf3
    go_upto_region 5 with fail
    refine wp_region_lots2 32 (fun i => if i = 9 then [gc] else []) (fun _ _ => True) (fun i v u => match i with | 0 => v = .pointer (some ⟨m, 0, none⟩) | 1 => v = .pointer (some ⟨m, 0, none⟩) | 2 => v = .pointer (some ⟨m, 0, none⟩) | 3 => v = .pointer (some ⟨m, 2, none⟩) | 4 => v = .slice (some ⟨gc, 0, none⟩) 5 cc | 5 => v = .pointer (some ⟨X, 4, none⟩) | 6 => v = .int .i64 f | 7 => v = .int .i64 vv | 8 => v = .pointer (some ⟨gc, f.toNat, none⟩) | 9 => (True ∧ Mx u m gr gc gm cr cc cm ⟨s.pc, s.R, s.C.set f.toNat vv, s.M⟩ e (nx s)) | _ => True) ?mono (by kernel_rfl) (by kernel_rfl) rfl (by kernel_rfl) trivial ?step ?fin
    case mono =>
     intro i j v u u' hij hsz h hB
     rcases j with _ | _ | _ | _ | _ | _ | _ | _ | _ | _ | j
     ·exact h
     ·exact h
     ·exact h
     ·exact h
     ·exact h
     ·exact h
     ·exact h
     ·exact h
     ·exact h
     ·exact (by have hB2 : But [] u u' := (by have hx := hB; simp only [if_neg hij] at hx; exact hx); exact ⟨h.1, h.2.but hB2 (by simp) (by simp) (by simp) (by simp)⟩)
     ·trivial
    case step =>
     intro i o ho
     rcases i with _ | _ | _ | _ | _ | _ | _ | _ | _ | _ | i
     ·cases ho
      intro fu act u hW hB hsz hL hdep
      replace hB := hB [] (fun j hj hd k hk => by
       by_cases xz : j = 9
       ·subst xz; exact (depT_no hd (by kernel_rfl)).elim
       rw [if_neg xz] at hk; cases hk)
      have x0 : act.tmps.getD 0 undef = (.pointer (some ⟨m, 0, none⟩) : Value) := (hL.2.2 0 (no_dst (by kernel_rfl))).trans rfl
      clear hdep hL
      refine wpOp_step rfl (fun K hK => ?_)
      go_simp
      exact hK _ _ ⟨_, rfl, (fun h => by cases h), (by first | rfl | (exact congrArg (Value.int .i64) (by rw [IntWalk.i64_left, IntWalk.wrap64_in _ (by omega)])) | simp), But.refl _ _, trivial⟩
     ·cases ho
      intro fu act u hW hB hsz hL hdep
      replace hB := hB [] (fun j hj hd k hk => by
       by_cases xz : j = 9
       ·subst xz; exact (depT_no hd (by kernel_rfl)).elim
       rw [if_neg xz] at hk; cases hk)
      have e0 : act.tmps.getD 23 undef = (.pointer (some ⟨m, 0, none⟩) : Value) := hdep { on := 0, ground := .data } (by simp) rfl _ rfl
      clear hdep hL
      refine wpOp_step rfl (fun K hK => ?_)
      go_simp
      exact hK _ _ ⟨_, rfl, (fun h => by cases h), (by first | rfl | (exact congrArg (Value.int .i64) (by rw [IntWalk.i64_left, IntWalk.wrap64_in _ (by omega)])) | simp), But.refl _ _, trivial⟩
     ·cases ho
      intro fu act u hW hB hsz hL hdep
      replace hB := hB [] (fun j hj hd k hk => by
       by_cases xz : j = 9
       ·subst xz; exact (depT_no hd (by kernel_rfl)).elim
       rw [if_neg xz] at hk; cases hk)
      have e1 : act.tmps.getD 24 undef = (.pointer (some ⟨m, 0, none⟩) : Value) := hdep { on := 1, ground := .data } (by simp) rfl _ rfl
      clear hdep hL
      refine wpOp_step rfl (fun K hK => ?_)
      go_simp
      exact hK _ _ ⟨_, rfl, (fun h => by cases h), (by first | rfl | (exact congrArg (Value.int .i64) (by rw [IntWalk.i64_left, IntWalk.wrap64_in _ (by omega)])) | simp), But.refl _ _, trivial⟩
     ·cases ho
      intro fu act u hW hB hsz hL hdep
      replace hB := hB [] (fun j hj hd k hk => by
       by_cases xz : j = 9
       ·subst xz; exact (depT_no hd (by kernel_rfl)).elim
       rw [if_neg xz] at hk; cases hk)
      have e2 : act.tmps.getD 25 undef = (.pointer (some ⟨m, 0, none⟩) : Value) := hdep { on := 2, ground := .data } (by simp) rfl _ rfl
      clear hdep hL
      refine wpOp_step rfl (fun K hK => ?_)
      go_simp
      exact hK _ _ ⟨_, rfl, (fun h => by cases h), (by first | rfl | (exact congrArg (Value.int .i64) (by rw [IntWalk.i64_left, IntWalk.wrap64_in _ (by omega)])) | simp), But.refl _ _, trivial⟩
     ·cases ho
      intro fu act u hW hB hsz hL hdep
      replace hB := hB [] (fun j hj hd k hk => by
       by_cases xz : j = 9
       ·subst xz; exact (depT_no hd (by kernel_rfl)).elim
       rw [if_neg xz] at hk; cases hk)
      have e3 : act.tmps.getD 26 undef = (.pointer (some ⟨m, 2, none⟩) : Value) := hdep { on := 3, ground := .data } (by simp) rfl _ rfl
      clear hdep hL
      have hm := HM.out.but hB (by simp) (by simp) (by simp) (by simp)
      have c := hm.cel 2 (by decide)
      simp only [mCells, List.getElem?_cons_succ, List.getElem?_cons_zero] at c
      clear hm
      refine wpOp_step rfl (fun K hK => ?_)
      go_simp
      exact hK _ _ ⟨_, rfl, (fun h => by cases h), (by first | rfl | (exact congrArg (Value.int .i64) (by rw [IntWalk.i64_left, IntWalk.wrap64_in _ (by omega)])) | simp), But.refl _ _, trivial⟩
     ·cases ho
      intro fu act u hW hB hsz hL hdep
      replace hB := hB [] (fun j hj hd k hk => by
       by_cases xz : j = 9
       ·subst xz; exact (depT_no hd (by kernel_rfl)).elim
       rw [if_neg xz] at hk; cases hk)
      have x3 : act.tmps.getD 3 undef = (.pointer (some ⟨X, 0, none⟩) : Value) := (hL.2.2 3 (no_dst (by kernel_rfl))).trans rfl
      clear hdep hL
      refine wpOp_step rfl (fun K hK => ?_)
      go_simp
      exact hK _ _ ⟨_, rfl, (fun h => by cases h), (by first | rfl | (exact congrArg (Value.int .i64) (by rw [IntWalk.i64_left, IntWalk.wrap64_in _ (by omega)])) | simp), But.refl _ _, trivial⟩
     ·cases ho
      intro fu act u hW hB hsz hL hdep
      replace hB := hB [] (fun j hj hd k hk => by
       by_cases xz : j = 9
       ·subst xz; exact (depT_no hd (by kernel_rfl)).elim
       rw [if_neg xz] at hk; cases hk)
      have e5 : act.tmps.getD 28 undef = (.pointer (some ⟨X, 4, none⟩) : Value) := hdep { on := 5, ground := .data } (by simp) rfl _ rfl
      clear hdep hL
      have c := (HX.out.but hB (by simp)).c4
      refine wpOp_step rfl (fun K hK => ?_)
      go_simp
      exact hK _ _ ⟨_, rfl, (fun h => by cases h), (by first | rfl | (exact congrArg (Value.int .i64) (by rw [IntWalk.i64_left, IntWalk.wrap64_in _ (by omega)])) | simp), But.refl _ _, trivial⟩
     ·cases ho
      intro fu act u hW hB hsz hL hdep
      replace hB := hB [] (fun j hj hd k hk => by
       by_cases xz : j = 9
       ·subst xz; exact (depT_no hd (by kernel_rfl)).elim
       rw [if_neg xz] at hk; cases hk)
      have x4 : act.tmps.getD 4 undef = (.int .i64 vv : Value) := (hL.2.2 4 (no_dst (by kernel_rfl))).trans rfl
      clear hdep hL
      refine wpOp_step rfl (fun K hK => ?_)
      go_simp
      exact hK _ _ ⟨_, rfl, (fun h => by cases h), (by first | rfl | (exact congrArg (Value.int .i64) (by rw [IntWalk.i64_left, IntWalk.wrap64_in _ (by omega)])) | simp), But.refl _ _, trivial⟩
     ·cases ho
      intro fu act u hW hB hsz hL hdep
      replace hB := hB [] (fun j hj hd k hk => by
       by_cases xz : j = 9
       ·subst xz; exact (depT_no hd (by kernel_rfl)).elim
       rw [if_neg xz] at hk; cases hk)
      have e4 : act.tmps.getD 27 undef = (.slice (some ⟨gc, 0, none⟩) 5 cc : Value) := hdep { on := 4, ground := .data } (by simp) rfl _ rfl
      have e6 : act.tmps.getD 29 undef = (.int .i64 f : Value) := hdep { on := 6, ground := .data } (by simp) rfl _ rfl
      clear hdep hL
      have ix0 : 0 ≤ f := by omega
      have ix1 : f < 5 := by omega
      refine wpOp_step rfl (fun K hK => ?_)
      go_simp
      exact hK _ _ ⟨_, rfl, (fun h => by cases h), (by first | rfl | (exact congrArg (Value.int .i64) (by rw [IntWalk.i64_left, IntWalk.wrap64_in _ (by omega)])) | simp), But.refl _ _, trivial⟩
     ·cases ho
      intro fu act u hW hB hsz hL hdep
      replace hB := hB [] (fun j hj hd k hk => by
       rw [if_neg hj] at hk; cases hk)
      have e7 : act.tmps.getD 30 undef = (.int .i64 vv : Value) := hdep { on := 7, ground := .data } (by simp) rfl _ rfl
      have e8 : act.tmps.getD 31 undef = (.pointer (some ⟨gc, f.toNat, none⟩) : Value) := hdep { on := 8, ground := .data } (by simp) rfl _ rfl
      clear hdep hL
      have hm := (HM.out.but hB (by simp) (by simp) (by simp) (by simp))
      have c := hm.ow.C.cel f.toNat (by rw [HK.out.Cl]; omega)
      have c' := hm.ow.C.fro f.toNat (by rw [HK.out.Cl]; omega)
      refine wpOp_step rfl (fun K hK => ?_)
      go_simp
      exact hK _ _ ⟨undef, rfl, (fun _ => rfl), ⟨trivial, hm.setC f.toNat vv (by rw [HK.out.Cl]; omega)⟩, (But.refl [gc] u).set gc _ _ (.inl (by simp)), trivial⟩
     ·exact absurd ho (by simp)
    case fin =>
     intro act u hW hsz hB hL hsf
     replace hB := hB [gc] (fun j k hk => by
      by_cases yz : j = 9
      ·rw [if_pos yz] at hk; exact hk
      rw [if_neg yz] at hk
      cases hk)
     have d9 := hsf 9 _ rfl
     obtain ⟨ysl, ha, hy⟩ := hL.puts [23, 24, 25, 26, 27, 28, 29, 30, 31] (by kernel_rfl)
     clear hL hsf hy
     simp only [List.foldl, List.setIfInBounds_toArray, List.set_cons_succ, List.set_cons_zero] at ha
     subst ha
     obtain ⟨_, hM'⟩ := d9
     go_wp2_with fail
     (first | refine bodyPost_end (results_none rfl _ _ _) rfl ?_ | refine bodyPost_ret (results_none rfl _ _ _) rfl ?_)
     exact ⟨rfl, hM', (((But.of HF.out).trans (hB.up (fun k hk => by simp at hk ⊢; omega))))⟩
   ·have hv : va = vv := by rw [← HVV.out, if_neg hf3]
    have hfb : (f == 3) = false := by simp [hf3]
    subst hv
    go_upto_region 5 with fail
    refine wp_region_lots2 32 (fun i => if i = 9 then [gc] else []) (fun _ _ => True) (fun i v u => match i with | 0 => v = .pointer (some ⟨m, 0, none⟩) | 1 => v = .pointer (some ⟨m, 0, none⟩) | 2 => v = .pointer (some ⟨m, 0, none⟩) | 3 => v = .pointer (some ⟨m, 2, none⟩) | 4 => v = .slice (some ⟨gc, 0, none⟩) 5 cc | 5 => v = .pointer (some ⟨X, 4, none⟩) | 6 => v = .int .i64 f | 7 => v = .int .i64 va | 8 => v = .pointer (some ⟨gc, f.toNat, none⟩) | 9 => (True ∧ Mx u m gr gc gm cr cc cm ⟨s.pc, s.R, s.C.set f.toNat va, s.M⟩ e (nx s)) | _ => True) ?mono (by kernel_rfl) (by kernel_rfl) rfl (by kernel_rfl) trivial ?step ?fin
    case mono =>
     intro i j v u u' hij hsz h hB
     rcases j with _ | _ | _ | _ | _ | _ | _ | _ | _ | _ | j
     ·exact h
     ·exact h
     ·exact h
     ·exact h
     ·exact h
     ·exact h
     ·exact h
     ·exact h
     ·exact h
     ·exact (by have hB2 : But [] u u' := (by have hx := hB; simp only [if_neg hij] at hx; exact hx); exact ⟨h.1, h.2.but hB2 (by simp) (by simp) (by simp) (by simp)⟩)
     ·trivial
    case step =>
     intro i o ho
     rcases i with _ | _ | _ | _ | _ | _ | _ | _ | _ | _ | i
     ·cases ho
      intro fu act u hW hB hsz hL hdep
      replace hB := hB [] (fun j hj hd k hk => by
       by_cases xz : j = 9
       ·subst xz; exact (depT_no hd (by kernel_rfl)).elim
       rw [if_neg xz] at hk; cases hk)
      have x0 : act.tmps.getD 0 undef = (.pointer (some ⟨m, 0, none⟩) : Value) := (hL.2.2 0 (no_dst (by kernel_rfl))).trans rfl
      clear hdep hL
      refine wpOp_step rfl (fun K hK => ?_)
      go_simp
      exact hK _ _ ⟨_, rfl, (fun h => by cases h), (by first | rfl | (exact congrArg (Value.int .i64) (by rw [IntWalk.i64_left, IntWalk.wrap64_in _ (by omega)])) | simp), But.refl _ _, trivial⟩
     ·cases ho
      intro fu act u hW hB hsz hL hdep
      replace hB := hB [] (fun j hj hd k hk => by
       by_cases xz : j = 9
       ·subst xz; exact (depT_no hd (by kernel_rfl)).elim
       rw [if_neg xz] at hk; cases hk)
      have e0 : act.tmps.getD 23 undef = (.pointer (some ⟨m, 0, none⟩) : Value) := hdep { on := 0, ground := .data } (by simp) rfl _ rfl
      clear hdep hL
      refine wpOp_step rfl (fun K hK => ?_)
      go_simp
      exact hK _ _ ⟨_, rfl, (fun h => by cases h), (by first | rfl | (exact congrArg (Value.int .i64) (by rw [IntWalk.i64_left, IntWalk.wrap64_in _ (by omega)])) | simp), But.refl _ _, trivial⟩
     ·cases ho
      intro fu act u hW hB hsz hL hdep
      replace hB := hB [] (fun j hj hd k hk => by
       by_cases xz : j = 9
       ·subst xz; exact (depT_no hd (by kernel_rfl)).elim
       rw [if_neg xz] at hk; cases hk)
      have e1 : act.tmps.getD 24 undef = (.pointer (some ⟨m, 0, none⟩) : Value) := hdep { on := 1, ground := .data } (by simp) rfl _ rfl
      clear hdep hL
      refine wpOp_step rfl (fun K hK => ?_)
      go_simp
      exact hK _ _ ⟨_, rfl, (fun h => by cases h), (by first | rfl | (exact congrArg (Value.int .i64) (by rw [IntWalk.i64_left, IntWalk.wrap64_in _ (by omega)])) | simp), But.refl _ _, trivial⟩
     ·cases ho
      intro fu act u hW hB hsz hL hdep
      replace hB := hB [] (fun j hj hd k hk => by
       by_cases xz : j = 9
       ·subst xz; exact (depT_no hd (by kernel_rfl)).elim
       rw [if_neg xz] at hk; cases hk)
      have e2 : act.tmps.getD 25 undef = (.pointer (some ⟨m, 0, none⟩) : Value) := hdep { on := 2, ground := .data } (by simp) rfl _ rfl
      clear hdep hL
      refine wpOp_step rfl (fun K hK => ?_)
      go_simp
      exact hK _ _ ⟨_, rfl, (fun h => by cases h), (by first | rfl | (exact congrArg (Value.int .i64) (by rw [IntWalk.i64_left, IntWalk.wrap64_in _ (by omega)])) | simp), But.refl _ _, trivial⟩
     ·cases ho
      intro fu act u hW hB hsz hL hdep
      replace hB := hB [] (fun j hj hd k hk => by
       by_cases xz : j = 9
       ·subst xz; exact (depT_no hd (by kernel_rfl)).elim
       rw [if_neg xz] at hk; cases hk)
      have e3 : act.tmps.getD 26 undef = (.pointer (some ⟨m, 2, none⟩) : Value) := hdep { on := 3, ground := .data } (by simp) rfl _ rfl
      clear hdep hL
      have hm := HM.out.but hB (by simp) (by simp) (by simp) (by simp)
      have c := hm.cel 2 (by decide)
      simp only [mCells, List.getElem?_cons_succ, List.getElem?_cons_zero] at c
      clear hm
      refine wpOp_step rfl (fun K hK => ?_)
      go_simp
      exact hK _ _ ⟨_, rfl, (fun h => by cases h), (by first | rfl | (exact congrArg (Value.int .i64) (by rw [IntWalk.i64_left, IntWalk.wrap64_in _ (by omega)])) | simp), But.refl _ _, trivial⟩
     ·cases ho
      intro fu act u hW hB hsz hL hdep
      replace hB := hB [] (fun j hj hd k hk => by
       by_cases xz : j = 9
       ·subst xz; exact (depT_no hd (by kernel_rfl)).elim
       rw [if_neg xz] at hk; cases hk)
      have x3 : act.tmps.getD 3 undef = (.pointer (some ⟨X, 0, none⟩) : Value) := (hL.2.2 3 (no_dst (by kernel_rfl))).trans rfl
      clear hdep hL
      refine wpOp_step rfl (fun K hK => ?_)
      go_simp
      exact hK _ _ ⟨_, rfl, (fun h => by cases h), (by first | rfl | (exact congrArg (Value.int .i64) (by rw [IntWalk.i64_left, IntWalk.wrap64_in _ (by omega)])) | simp), But.refl _ _, trivial⟩
     ·cases ho
      intro fu act u hW hB hsz hL hdep
      replace hB := hB [] (fun j hj hd k hk => by
       by_cases xz : j = 9
       ·subst xz; exact (depT_no hd (by kernel_rfl)).elim
       rw [if_neg xz] at hk; cases hk)
      have e5 : act.tmps.getD 28 undef = (.pointer (some ⟨X, 4, none⟩) : Value) := hdep { on := 5, ground := .data } (by simp) rfl _ rfl
      clear hdep hL
      have c := (HX.out.but hB (by simp)).c4
      refine wpOp_step rfl (fun K hK => ?_)
      go_simp
      exact hK _ _ ⟨_, rfl, (fun h => by cases h), (by first | rfl | (exact congrArg (Value.int .i64) (by rw [IntWalk.i64_left, IntWalk.wrap64_in _ (by omega)])) | simp), But.refl _ _, trivial⟩
     ·cases ho
      intro fu act u hW hB hsz hL hdep
      replace hB := hB [] (fun j hj hd k hk => by
       by_cases xz : j = 9
       ·subst xz; exact (depT_no hd (by kernel_rfl)).elim
       rw [if_neg xz] at hk; cases hk)
      have x4 : act.tmps.getD 4 undef = (.int .i64 va : Value) := (hL.2.2 4 (no_dst (by kernel_rfl))).trans rfl
      clear hdep hL
      refine wpOp_step rfl (fun K hK => ?_)
      go_simp
      exact hK _ _ ⟨_, rfl, (fun h => by cases h), (by first | rfl | (exact congrArg (Value.int .i64) (by rw [IntWalk.i64_left, IntWalk.wrap64_in _ (by omega)])) | simp), But.refl _ _, trivial⟩
     ·cases ho
      intro fu act u hW hB hsz hL hdep
      replace hB := hB [] (fun j hj hd k hk => by
       by_cases xz : j = 9
       ·subst xz; exact (depT_no hd (by kernel_rfl)).elim
       rw [if_neg xz] at hk; cases hk)
      have e4 : act.tmps.getD 27 undef = (.slice (some ⟨gc, 0, none⟩) 5 cc : Value) := hdep { on := 4, ground := .data } (by simp) rfl _ rfl
      have e6 : act.tmps.getD 29 undef = (.int .i64 f : Value) := hdep { on := 6, ground := .data } (by simp) rfl _ rfl
      clear hdep hL
      have ix0 : 0 ≤ f := by omega
      have ix1 : f < 5 := by omega
      refine wpOp_step rfl (fun K hK => ?_)
      go_simp
      exact hK _ _ ⟨_, rfl, (fun h => by cases h), (by first | rfl | (exact congrArg (Value.int .i64) (by rw [IntWalk.i64_left, IntWalk.wrap64_in _ (by omega)])) | simp), But.refl _ _, trivial⟩
     ·cases ho
      intro fu act u hW hB hsz hL hdep
      replace hB := hB [] (fun j hj hd k hk => by
       rw [if_neg hj] at hk; cases hk)
      have e7 : act.tmps.getD 30 undef = (.int .i64 va : Value) := hdep { on := 7, ground := .data } (by simp) rfl _ rfl
      have e8 : act.tmps.getD 31 undef = (.pointer (some ⟨gc, f.toNat, none⟩) : Value) := hdep { on := 8, ground := .data } (by simp) rfl _ rfl
      clear hdep hL
      have hm := (HM.out.but hB (by simp) (by simp) (by simp) (by simp))
      have c := hm.ow.C.cel f.toNat (by rw [HK.out.Cl]; omega)
      have c' := hm.ow.C.fro f.toNat (by rw [HK.out.Cl]; omega)
      refine wpOp_step rfl (fun K hK => ?_)
      go_simp
      exact hK _ _ ⟨undef, rfl, (fun _ => rfl), ⟨trivial, hm.setC f.toNat va (by rw [HK.out.Cl]; omega)⟩, (But.refl [gc] u).set gc _ _ (.inl (by simp)), trivial⟩
     ·exact absurd ho (by simp)
    case fin =>
     intro act u hW hsz hB hL hsf
     replace hB := hB [gc] (fun j k hk => by
      by_cases yz : j = 9
      ·rw [if_pos yz] at hk; exact hk
      rw [if_neg yz] at hk
      cases hk)
     have d9 := hsf 9 _ rfl
     obtain ⟨ysl, ha, hy⟩ := hL.puts [23, 24, 25, 26, 27, 28, 29, 30, 31] (by kernel_rfl)
     clear hL hsf hy
     simp only [List.foldl, List.setIfInBounds_toArray, List.set_cons_succ, List.set_cons_zero] at ha
     subst ha
     obtain ⟨_, hM'⟩ := d9
     go_wp2_with fail
     (first | refine bodyPost_end (results_none rfl _ _ _) rfl ?_ | refine bodyPost_ret (results_none rfl _ _ _) rfl ?_)
     exact ⟨rfl, hM', (((But.of HF.out).trans (hB.up (fun k hk => by simp at hk ⊢; omega))))⟩

end Go.Proofs.YtbjapncfgancoaaDoor
