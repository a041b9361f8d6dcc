/- What the methods that load, save and swap do. -/
import Derived.Test.YtbjapncfgancoaaDoorPm4
namespace Go.Proofs.YtbjapncfgancoaaDoor
open Go.RowKit
set_option linter.unusedVariables false
set_option linter.unusedSimpArgs false
set_option maxRecDepth 8000 in
set_option maxHeartbeats 4000000 in
theorem ef_load (u : World) (m gr gc gm cr cc cm : Nat) (s : St) (e : Ev) (d a b f n : Int) (h : Mx u m gr gc gm cr cc cm s e (nx s)) (hk : OkS s) (hi : iok 3 d a b f n = true) :
  Calls Tryd.prog 95 #[.pointer (some ⟨m, 0, none⟩), .agg #[.int .i64 3, .int .i64 d, .int .i64 a, .int .i64 b, .int .i64 f, .int .i64 n]] u (EfP (effS s e 3 d a b f n) m gr gc gm cr cc cm s e u) := by
 rw [eff_3]
 obtain ⟨⟨d0, d7⟩, ⟨a0, a7⟩, ⟨b0, b7⟩, _⟩ := sok_bd (sok_of hi)
 obtain ⟨n0, n1⟩ := num_bd (iok_num hi)
 obtain ⟨f0, f7⟩ := f_bd (iok_f hi)
 have hlm := h.lt
 have hnx : 0 ≤ nx s ∧ nx s < 65536 := by unfold nx; omega
 have hR := Lib.hid hk.Rl
 have HK := Lib.hid hk
 have qva := ok_get hk.R a.toNat
 have F0 := Fr.alloc u (.cells #[.int .i64 3, .int .i64 d, .int .i64 a, .int .i64 b, .int .i64 f, .int .i64 n] 48)
 have HM := Lib.hid (h.fr F0)
 have HX0 := Lib.hid (Box.new u 3 d a b f n 48)
 have HF := Lib.hid F0
 have ho := h.ow
 have lr := ho.R.lt
 have lc := ho.C.lt
 have lm := ho.M.lt
 clear h hk F0 ho
 obtain ⟨va, hva⟩ : ∃ x, s.R.getD a.toNat 0 = x := ⟨_, rfl⟩
 rw [hva] at qva
 obtain ⟨qva0, qva1⟩ := qva
 simp only [put, goto, rg, mm, hva]
 have hsb := see_bd s.C s.M ((va + n) % 65536) false (by omega)
 obtain ⟨AT0, hAT⟩ : ∃ x, (see s.C s.M ((va + n) % 65536) false) = x := ⟨_, rfl⟩
 rw [hAT] at hsb ⊢
 have HAT := Lib.hid hAT
 clear hAT
 obtain ⟨vm, hvm⟩ : ∃ x, s.M.getD AT0.toNat 0 = x := ⟨_, rfl⟩
 rw [hvm]
 generalize ho : (if AT0 < 0 then Out.stop 3 else Out.go ⟨nx s, putR s.R d vm, s.C, s.M⟩ (putE e d vm)) = o
 have HO := Lib.hid ho
 clear ho
 go_enter Tryd.func95, Tryd.ntmps95
 go_wp2_with fail
 generalize (u.alloc (.cells #[.int .i64 3, .int .i64 d, .int .i64 a, .int .i64 b, .int .i64 f, .int .i64 n] 48)) = u0 at *
 have hz := HF.out.size
 have hXl := HX0.out.lt
 have HX := Lib.hid HX0.out
 clear HX0
 generalize hXe : u.heap.size = X at *
 by_cases hneg : AT0 < 0
 ·have ho2 : o = .stop 3 := by rw [← HO.out, if_pos hneg]
  subst ho2
  clear HO
  refine wp_region_lots2 32 (fun _ => []) (fun _ _ => True) (fun i v u => match i with | 0 => v = .pointer (some ⟨m, 0, none⟩) | 1 => v = .pointer (some ⟨m, 0, none⟩) | 2 => v = .pointer (some ⟨m, 0, none⟩) | 3 => v = .pointer (some ⟨m, 0, none⟩) | 4 => v = .pointer (some ⟨m, 1, none⟩) | 5 => v = .slice (some ⟨gr, 0, none⟩) 8 cr | 6 => v = .pointer (some ⟨X, 2, none⟩) | 7 => v = .int .i64 a | 8 => v = .pointer (some ⟨gr, a.toNat, none⟩) | 9 => v = .int .i64 va | 10 => v = .pointer (some ⟨X, 5, none⟩) | 11 => v = .int .i64 n | 12 => v = .int .i64 (va + n) | 13 => v = .int .i64 ((va + n) % 65536) | 14 => False | 15 => v = .int .i64 AT0 | _ => True) ?mono (by kernel_rfl) (by kernel_rfl) rfl (by kernel_rfl) trivial ?step ?fin
  case mono =>
   intro i j v u u' hij hsz h hB
   rcases j with _ | _ | _ | _ | _ | _ | _ | _ | _ | _ | _ | _ | _ | _ | _ | _ | j
   ·exact h
   ·exact h
   ·exact h
   ·exact h
   ·exact h
   ·exact h
   ·exact h
   ·exact h
   ·exact h
   ·exact h
   ·exact h
   ·exact h
   ·exact h
   ·exact h
   ·exact h
   ·exact h
   ·trivial
  case step =>
   intro i o ho
   rcases i with _ | _ | _ | _ | _ | _ | _ | _ | _ | _ | _ | _ | _ | _ | _ | _ | i
   ·cases ho
    intro fu act u hW hB hsz hL hdep
    replace hB := hB [] (fun j hj hd k hk => by cases hk)
    have x0 : act.tmps.getD 0 undef = (.pointer (some ⟨m, 0, none⟩) : Value) := (hL.2.2 0 (no_dst (by kernel_rfl))).trans rfl
    clear hdep hL
    refine wpOp_step rfl (fun K hK => ?_)
    go_simp
    exact hK _ _ ⟨_, rfl, (fun h => by cases h), (by first | rfl | (exact congrArg (Value.int .i64) (by rw [IntWalk.i64_left, IntWalk.wrap64_in _ (by omega)])) | simp), But.refl _ _, trivial⟩
   ·cases ho
    intro fu act u hW hB hsz hL hdep
    replace hB := hB [] (fun j hj hd k hk => by cases hk)
    have x0 : act.tmps.getD 0 undef = (.pointer (some ⟨m, 0, none⟩) : Value) := (hL.2.2 0 (no_dst (by kernel_rfl))).trans rfl
    clear hdep hL
    refine wpOp_step rfl (fun K hK => ?_)
    go_simp
    exact hK _ _ ⟨_, rfl, (fun h => by cases h), (by first | rfl | (exact congrArg (Value.int .i64) (by rw [IntWalk.i64_left, IntWalk.wrap64_in _ (by omega)])) | simp), But.refl _ _, trivial⟩
   ·cases ho
    intro fu act u hW hB hsz hL hdep
    replace hB := hB [] (fun j hj hd k hk => by cases hk)
    have e1 : act.tmps.getD 6 undef = (.pointer (some ⟨m, 0, none⟩) : Value) := hdep { on := 1, ground := .data } (by simp) rfl _ rfl
    clear hdep hL
    refine wpOp_step rfl (fun K hK => ?_)
    go_simp
    exact hK _ _ ⟨_, rfl, (fun h => by cases h), (by first | rfl | (exact congrArg (Value.int .i64) (by rw [IntWalk.i64_left, IntWalk.wrap64_in _ (by omega)])) | simp), But.refl _ _, trivial⟩
   ·cases ho
    intro fu act u hW hB hsz hL hdep
    replace hB := hB [] (fun j hj hd k hk => by cases hk)
    have e2 : act.tmps.getD 7 undef = (.pointer (some ⟨m, 0, none⟩) : Value) := hdep { on := 2, ground := .data } (by simp) rfl _ rfl
    clear hdep hL
    refine wpOp_step rfl (fun K hK => ?_)
    go_simp
    exact hK _ _ ⟨_, rfl, (fun h => by cases h), (by first | rfl | (exact congrArg (Value.int .i64) (by rw [IntWalk.i64_left, IntWalk.wrap64_in _ (by omega)])) | simp), But.refl _ _, trivial⟩
   ·cases ho
    intro fu act u hW hB hsz hL hdep
    replace hB := hB [] (fun j hj hd k hk => by cases hk)
    have e3 : act.tmps.getD 8 undef = (.pointer (some ⟨m, 0, none⟩) : Value) := hdep { on := 3, ground := .data } (by simp) rfl _ rfl
    clear hdep hL
    refine wpOp_step rfl (fun K hK => ?_)
    go_simp
    exact hK _ _ ⟨_, rfl, (fun h => by cases h), (by first | rfl | (exact congrArg (Value.int .i64) (by rw [IntWalk.i64_left, IntWalk.wrap64_in _ (by omega)])) | simp), But.refl _ _, trivial⟩
   ·cases ho
    intro fu act u hW hB hsz hL hdep
    replace hB := hB [] (fun j hj hd k hk => by cases hk)
    have e4 : act.tmps.getD 9 undef = (.pointer (some ⟨m, 1, none⟩) : Value) := hdep { on := 4, ground := .data } (by simp) rfl _ rfl
    clear hdep hL
    have hm := HM.out.but hB (by simp) (by simp) (by simp) (by simp)
    have c := hm.cel 1 (by decide)
    simp only [mCells, List.getElem?_cons_succ, List.getElem?_cons_zero] at c
    clear hm
    refine wpOp_step rfl (fun K hK => ?_)
    go_simp
    exact hK _ _ ⟨_, rfl, (fun h => by cases h), (by first | rfl | (exact congrArg (Value.int .i64) (by rw [IntWalk.i64_left, IntWalk.wrap64_in _ (by omega)])) | simp), But.refl _ _, trivial⟩
   ·cases ho
    intro fu act u hW hB hsz hL hdep
    replace hB := hB [] (fun j hj hd k hk => by cases hk)
    have x3 : act.tmps.getD 3 undef = (.pointer (some ⟨X, 0, none⟩) : Value) := (hL.2.2 3 (no_dst (by kernel_rfl))).trans rfl
    clear hdep hL
    refine wpOp_step rfl (fun K hK => ?_)
    go_simp
    exact hK _ _ ⟨_, rfl, (fun h => by cases h), (by first | rfl | (exact congrArg (Value.int .i64) (by rw [IntWalk.i64_left, IntWalk.wrap64_in _ (by omega)])) | simp), But.refl _ _, trivial⟩
   ·cases ho
    intro fu act u hW hB hsz hL hdep
    replace hB := hB [] (fun j hj hd k hk => by cases hk)
    have e6 : act.tmps.getD 11 undef = (.pointer (some ⟨X, 2, none⟩) : Value) := hdep { on := 6, ground := .data } (by simp) rfl _ rfl
    clear hdep hL
    have c := (HX.out.but hB (by simp)).c2
    refine wpOp_step rfl (fun K hK => ?_)
    go_simp
    exact hK _ _ ⟨_, rfl, (fun h => by cases h), (by first | rfl | (exact congrArg (Value.int .i64) (by rw [IntWalk.i64_left, IntWalk.wrap64_in _ (by omega)])) | simp), But.refl _ _, trivial⟩
   ·cases ho
    intro fu act u hW hB hsz hL hdep
    replace hB := hB [] (fun j hj hd k hk => by cases hk)
    have e5 : act.tmps.getD 10 undef = (.slice (some ⟨gr, 0, none⟩) 8 cr : Value) := hdep { on := 5, ground := .data } (by simp) rfl _ rfl
    have e7 : act.tmps.getD 12 undef = (.int .i64 a : Value) := hdep { on := 7, ground := .data } (by simp) rfl _ rfl
    clear hdep hL
    have ix0 : 0 ≤ a := by omega
    have ix1 : a < 8 := by omega
    refine wpOp_step rfl (fun K hK => ?_)
    go_simp
    exact hK _ _ ⟨_, rfl, (fun h => by cases h), (by first | rfl | (exact congrArg (Value.int .i64) (by rw [IntWalk.i64_left, IntWalk.wrap64_in _ (by omega)])) | simp), But.refl _ _, trivial⟩
   ·cases ho
    intro fu act u hW hB hsz hL hdep
    replace hB := hB [] (fun j hj hd k hk => by cases hk)
    have e8 : act.tmps.getD 13 undef = (.pointer (some ⟨gr, a.toNat, none⟩) : Value) := hdep { on := 8, ground := .data } (by simp) rfl _ rfl
    clear hdep hL
    have hm := HM.out.but hB (by simp) (by simp) (by simp) (by simp)
    have c := hm.ow.R.cel (a.toNat) (by have h1 := HK.out.Rl; have h2 := HK.out.Cl; have h3 := HK.out.Ml; omega)
    clear hm
    rw [hva] at c
    refine wpOp_step rfl (fun K hK => ?_)
    go_simp
    exact hK _ _ ⟨_, rfl, (fun h => by cases h), (by first | rfl | (exact congrArg (Value.int .i64) (by rw [IntWalk.i64_left, IntWalk.wrap64_in _ (by omega)])) | simp), But.refl _ _, trivial⟩
   ·cases ho
    intro fu act u hW hB hsz hL hdep
    replace hB := hB [] (fun j hj hd k hk => by cases hk)
    have x3 : act.tmps.getD 3 undef = (.pointer (some ⟨X, 0, none⟩) : Value) := (hL.2.2 3 (no_dst (by kernel_rfl))).trans rfl
    clear hdep hL
    refine wpOp_step rfl (fun K hK => ?_)
    go_simp
    exact hK _ _ ⟨_, rfl, (fun h => by cases h), (by first | rfl | (exact congrArg (Value.int .i64) (by rw [IntWalk.i64_left, IntWalk.wrap64_in _ (by omega)])) | simp), But.refl _ _, trivial⟩
   ·cases ho
    intro fu act u hW hB hsz hL hdep
    replace hB := hB [] (fun j hj hd k hk => by cases hk)
    have e10 : act.tmps.getD 15 undef = (.pointer (some ⟨X, 5, none⟩) : Value) := hdep { on := 10, ground := .data } (by simp) rfl _ rfl
    clear hdep hL
    have c := (HX.out.but hB (by simp)).c5
    refine wpOp_step rfl (fun K hK => ?_)
    go_simp
    exact hK _ _ ⟨_, rfl, (fun h => by cases h), (by first | rfl | (exact congrArg (Value.int .i64) (by rw [IntWalk.i64_left, IntWalk.wrap64_in _ (by omega)])) | simp), But.refl _ _, trivial⟩
   ·cases ho
    intro fu act u hW hB hsz hL hdep
    replace hB := hB [] (fun j hj hd k hk => by cases hk)
    have e9 : act.tmps.getD 14 undef = (.int .i64 va : Value) := hdep { on := 9, ground := .data } (by simp) rfl _ rfl
    have e11 : act.tmps.getD 16 undef = (.int .i64 n : Value) := hdep { on := 11, ground := .data } (by simp) rfl _ rfl
    clear hdep hL
    refine wpOp_step rfl (fun K hK => ?_)
    go_simp
    exact hK _ _ ⟨_, rfl, (fun h => by cases h), (by first | rfl | (exact congrArg (Value.int .i64) (by rw [IntWalk.i64_left, IntWalk.wrap64_in _ (by omega)])) | simp), But.refl _ _, trivial⟩
   ·cases ho
    intro fu act u hW hB hsz hL hdep
    replace hB := hB [] (fun j hj hd k hk => by cases hk)
    have e12 : act.tmps.getD 17 undef = (.int .i64 (va + n) : Value) := hdep { on := 12, ground := .data } (by simp) rfl _ rfl
    have hdf := Lib.hid (show act.defers = [] from hL.1)
    clear hdep hL
    refine wpOp_step rfl (fun K hK => ?_)
    go_simp
    refine (impl_wrapped _ u (by omega) (by omega)).mono ?_
    rintro r u' ⟨rfl, rfl⟩
    go_simp
    exact hK _ _ ⟨_, rfl, (fun h => by cases h), rfl, But.refl _ _, trivial⟩
   ·cases ho
    intro fu act u hW hB hsz hL hdep
    replace hB := hB [] (fun j hj hd k hk => by cases hk)
    have e0 : act.tmps.getD 5 undef = (.pointer (some ⟨m, 0, none⟩) : Value) := hdep { on := 0, ground := .data } (by simp) rfl _ rfl
    have e13 : act.tmps.getD 18 undef = (.int .i64 ((va + n) % 65536) : Value) := hdep { on := 13, ground := .data } (by simp) rfl _ rfl
    have hdf := Lib.hid (show act.defers = [] from hL.1)
    clear hdep hL
    refine wpOp_step rfl (fun K hK => ?_)
    go_simp
    have E := impl_see u m gr gc gm cr cc cm s e (nx s) (HM.out.but hB (by simp) (by simp) (by simp) (by simp)) HK.out ((va + n) % 65536) false 3 (by omega) (by omega)
    rw [HAT.out] at E
    refine E.mono ?_
    clear E
    rintro r u' ⟨hd, f'⟩
    rcases hd with ⟨hn, rfl⟩ | ⟨hn, rfl⟩
    ·simp only [trapE]
     go_simp
     exact ⟨hdf.out, rfl, (HM.out.but hB (by simp) (by simp) (by simp) (by simp)).fr f', (But.of HF.out).trans ((hB.up (fun k hk => by cases hk)).trans (But.of f'))⟩
    ·exact absurd hneg (by omega)
   ·cases ho
    intro fu act u hW hB hsz hL hdep
    replace hB := hB [] (fun j hj hd k hk => by cases hk)
    exact (show False from hdep { on := 14, ground := .data } (by simp) rfl _ rfl).elim
   ·exact absurd ho (by simp)
  case fin =>
   intro act u hW hsz hB hL hsf
   exact (show False from hsf 14 _ rfl).elim
 ·have ho2 : o = Out.go ⟨nx s, putR s.R d vm, s.C, s.M⟩ (putE e d vm) := by rw [← HO.out, if_neg hneg]
  subst ho2
  clear HO
  refine wp_region_lots2 32 (fun _ => []) (fun _ _ => True) (fun i v u => match i with | 0 => v = .pointer (some ⟨m, 0, none⟩) | 1 => v = .pointer (some ⟨m, 0, none⟩) | 2 => v = .pointer (some ⟨m, 0, none⟩) | 3 => v = .pointer (some ⟨m, 0, none⟩) | 4 => v = .pointer (some ⟨m, 1, none⟩) | 5 => v = .slice (some ⟨gr, 0, none⟩) 8 cr | 6 => v = .pointer (some ⟨X, 2, none⟩) | 7 => v = .int .i64 a | 8 => v = .pointer (some ⟨gr, a.toNat, none⟩) | 9 => v = .int .i64 va | 10 => v = .pointer (some ⟨X, 5, none⟩) | 11 => v = .int .i64 n | 12 => v = .int .i64 (va + n) | 13 => v = .int .i64 ((va + n) % 65536) | 14 => v = .int .i64 AT0 | 15 => v = .int .i64 AT0 | _ => True) ?mono (by kernel_rfl) (by kernel_rfl) rfl (by kernel_rfl) trivial ?step ?fin
  case mono =>
   intro i j v u u' hij hsz h hB
   rcases j with _ | _ | _ | _ | _ | _ | _ | _ | _ | _ | _ | _ | _ | _ | _ | _ | j
   ·exact h
   ·exact h
   ·exact h
   ·exact h
   ·exact h
   ·exact h
   ·exact h
   ·exact h
   ·exact h
   ·exact h
   ·exact h
   ·exact h
   ·exact h
   ·exact h
   ·exact h
   ·exact h
   ·trivial
  case step =>
   intro i o ho
   rcases i with _ | _ | _ | _ | _ | _ | _ | _ | _ | _ | _ | _ | _ | _ | _ | _ | i
   ·cases ho
    intro fu act u hW hB hsz hL hdep
    replace hB := hB [] (fun j hj hd k hk => by cases hk)
    have x0 : act.tmps.getD 0 undef = (.pointer (some ⟨m, 0, none⟩) : Value) := (hL.2.2 0 (no_dst (by kernel_rfl))).trans rfl
    clear hdep hL
    refine wpOp_step rfl (fun K hK => ?_)
    go_simp
    exact hK _ _ ⟨_, rfl, (fun h => by cases h), (by first | rfl | (exact congrArg (Value.int .i64) (by rw [IntWalk.i64_left, IntWalk.wrap64_in _ (by omega)])) | simp), But.refl _ _, trivial⟩
   ·cases ho
    intro fu act u hW hB hsz hL hdep
    replace hB := hB [] (fun j hj hd k hk => by cases hk)
    have x0 : act.tmps.getD 0 undef = (.pointer (some ⟨m, 0, none⟩) : Value) := (hL.2.2 0 (no_dst (by kernel_rfl))).trans rfl
    clear hdep hL
    refine wpOp_step rfl (fun K hK => ?_)
    go_simp
    exact hK _ _ ⟨_, rfl, (fun h => by cases h), (by first | rfl | (exact congrArg (Value.int .i64) (by rw [IntWalk.i64_left, IntWalk.wrap64_in _ (by omega)])) | simp), But.refl _ _, trivial⟩
   ·cases ho
    intro fu act u hW hB hsz hL hdep
    replace hB := hB [] (fun j hj hd k hk => by cases hk)
    have e1 : act.tmps.getD 6 undef = (.pointer (some ⟨m, 0, none⟩) : Value) := hdep { on := 1, ground := .data } (by simp) rfl _ rfl
    clear hdep hL
    refine wpOp_step rfl (fun K hK => ?_)
    go_simp
    exact hK _ _ ⟨_, rfl, (fun h => by cases h), (by first | rfl | (exact congrArg (Value.int .i64) (by rw [IntWalk.i64_left, IntWalk.wrap64_in _ (by omega)])) | simp), But.refl _ _, trivial⟩
   ·cases ho
    intro fu act u hW hB hsz hL hdep
    replace hB := hB [] (fun j hj hd k hk => by cases hk)
    have e2 : act.tmps.getD 7 undef = (.pointer (some ⟨m, 0, none⟩) : Value) := hdep { on := 2, ground := .data } (by simp) rfl _ rfl
    clear hdep hL
    refine wpOp_step rfl (fun K hK => ?_)
    go_simp
    exact hK _ _ ⟨_, rfl, (fun h => by cases h), (by first | rfl | (exact congrArg (Value.int .i64) (by rw [IntWalk.i64_left, IntWalk.wrap64_in _ (by omega)])) | simp), But.refl _ _, trivial⟩
   ·cases ho
    intro fu act u hW hB hsz hL hdep
    replace hB := hB [] (fun j hj hd k hk => by cases hk)
    have e3 : act.tmps.getD 8 undef = (.pointer (some ⟨m, 0, none⟩) : Value) := hdep { on := 3, ground := .data } (by simp) rfl _ rfl
    clear hdep hL
    refine wpOp_step rfl (fun K hK => ?_)
    go_simp
    exact hK _ _ ⟨_, rfl, (fun h => by cases h), (by first | rfl | (exact congrArg (Value.int .i64) (by rw [IntWalk.i64_left, IntWalk.wrap64_in _ (by omega)])) | simp), But.refl _ _, trivial⟩
   ·cases ho
    intro fu act u hW hB hsz hL hdep
    replace hB := hB [] (fun j hj hd k hk => by cases hk)
    have e4 : act.tmps.getD 9 undef = (.pointer (some ⟨m, 1, none⟩) : Value) := hdep { on := 4, ground := .data } (by simp) rfl _ rfl
    clear hdep hL
    have hm := HM.out.but hB (by simp) (by simp) (by simp) (by simp)
    have c := hm.cel 1 (by decide)
    simp only [mCells, List.getElem?_cons_succ, List.getElem?_cons_zero] at c
    clear hm
    refine wpOp_step rfl (fun K hK => ?_)
    go_simp
    exact hK _ _ ⟨_, rfl, (fun h => by cases h), (by first | rfl | (exact congrArg (Value.int .i64) (by rw [IntWalk.i64_left, IntWalk.wrap64_in _ (by omega)])) | simp), But.refl _ _, trivial⟩
   ·cases ho
    intro fu act u hW hB hsz hL hdep
    replace hB := hB [] (fun j hj hd k hk => by cases hk)
    have x3 : act.tmps.getD 3 undef = (.pointer (some ⟨X, 0, none⟩) : Value) := (hL.2.2 3 (no_dst (by kernel_rfl))).trans rfl
    clear hdep hL
    refine wpOp_step rfl (fun K hK => ?_)
    go_simp
    exact hK _ _ ⟨_, rfl, (fun h => by cases h), (by first | rfl | (exact congrArg (Value.int .i64) (by rw [IntWalk.i64_left, IntWalk.wrap64_in _ (by omega)])) | simp), But.refl _ _, trivial⟩
   ·cases ho
    intro fu act u hW hB hsz hL hdep
    replace hB := hB [] (fun j hj hd k hk => by cases hk)
    have e6 : act.tmps.getD 11 undef = (.pointer (some ⟨X, 2, none⟩) : Value) := hdep { on := 6, ground := .data } (by simp) rfl _ rfl
    clear hdep hL
    have c := (HX.out.but hB (by simp)).c2
    refine wpOp_step rfl (fun K hK => ?_)
    go_simp
    exact hK _ _ ⟨_, rfl, (fun h => by cases h), (by first | rfl | (exact congrArg (Value.int .i64) (by rw [IntWalk.i64_left, IntWalk.wrap64_in _ (by omega)])) | simp), But.refl _ _, trivial⟩
   ·cases ho
    intro fu act u hW hB hsz hL hdep
    replace hB := hB [] (fun j hj hd k hk => by cases hk)
    have e5 : act.tmps.getD 10 undef = (.slice (some ⟨gr, 0, none⟩) 8 cr : Value) := hdep { on := 5, ground := .data } (by simp) rfl _ rfl
    have e7 : act.tmps.getD 12 undef = (.int .i64 a : Value) := hdep { on := 7, ground := .data } (by simp) rfl _ rfl
    clear hdep hL
    have ix0 : 0 ≤ a := by omega
    have ix1 : a < 8 := by omega
    refine wpOp_step rfl (fun K hK => ?_)
    go_simp
    exact hK _ _ ⟨_, rfl, (fun h => by cases h), (by first | rfl | (exact congrArg (Value.int .i64) (by rw [IntWalk.i64_left, IntWalk.wrap64_in _ (by omega)])) | simp), But.refl _ _, trivial⟩
   ·cases ho
    intro fu act u hW hB hsz hL hdep
    replace hB := hB [] (fun j hj hd k hk => by cases hk)
    have e8 : act.tmps.getD 13 undef = (.pointer (some ⟨gr, a.toNat, none⟩) : Value) := hdep { on := 8, ground := .data } (by simp) rfl _ rfl
    clear hdep hL
    have hm := HM.out.but hB (by simp) (by simp) (by simp) (by simp)
    have c := hm.ow.R.cel (a.toNat) (by have h1 := HK.out.Rl; have h2 := HK.out.Cl; have h3 := HK.out.Ml; omega)
    clear hm
    rw [hva] at c
    refine wpOp_step rfl (fun K hK => ?_)
    go_simp
    exact hK _ _ ⟨_, rfl, (fun h => by cases h), (by first | rfl | (exact congrArg (Value.int .i64) (by rw [IntWalk.i64_left, IntWalk.wrap64_in _ (by omega)])) | simp), But.refl _ _, trivial⟩
   ·cases ho
    intro fu act u hW hB hsz hL hdep
    replace hB := hB [] (fun j hj hd k hk => by cases hk)
    have x3 : act.tmps.getD 3 undef = (.pointer (some ⟨X, 0, none⟩) : Value) := (hL.2.2 3 (no_dst (by kernel_rfl))).trans rfl
    clear hdep hL
    refine wpOp_step rfl (fun K hK => ?_)
    go_simp
    exact hK _ _ ⟨_, rfl, (fun h => by cases h), (by first | rfl | (exact congrArg (Value.int .i64) (by rw [IntWalk.i64_left, IntWalk.wrap64_in _ (by omega)])) | simp), But.refl _ _, trivial⟩
   ·cases ho
    intro fu act u hW hB hsz hL hdep
    replace hB := hB [] (fun j hj hd k hk => by cases hk)
    have e10 : act.tmps.getD 15 undef = (.pointer (some ⟨X, 5, none⟩) : Value) := hdep { on := 10, ground := .data } (by simp) rfl _ rfl
    clear hdep hL
    have c := (HX.out.but hB (by simp)).c5
    refine wpOp_step rfl (fun K hK => ?_)
    go_simp
    exact hK _ _ ⟨_, rfl, (fun h => by cases h), (by first | rfl | (exact congrArg (Value.int .i64) (by rw [IntWalk.i64_left, IntWalk.wrap64_in _ (by omega)])) | simp), But.refl _ _, trivial⟩
   ·cases ho
    intro fu act u hW hB hsz hL hdep
    replace hB := hB [] (fun j hj hd k hk => by cases hk)
    have e9 : act.tmps.getD 14 undef = (.int .i64 va : Value) := hdep { on := 9, ground := .data } (by simp) rfl _ rfl
    have e11 : act.tmps.getD 16 undef = (.int .i64 n : Value) := hdep { on := 11, ground := .data } (by simp) rfl _ rfl
    clear hdep hL
    refine wpOp_step rfl (fun K hK => ?_)
    go_simp
    exact hK _ _ ⟨_, rfl, (fun h => by cases h), (by first | rfl | (exact congrArg (Value.int .i64) (by rw [IntWalk.i64_left, IntWalk.wrap64_in _ (by omega)])) | simp), But.refl _ _, trivial⟩
   ·cases ho
    intro fu act u hW hB hsz hL hdep
    replace hB := hB [] (fun j hj hd k hk => by cases hk)
    have e12 : act.tmps.getD 17 undef = (.int .i64 (va + n) : Value) := hdep { on := 12, ground := .data } (by simp) rfl _ rfl
    have hdf := Lib.hid (show act.defers = [] from hL.1)
    clear hdep hL
    refine wpOp_step rfl (fun K hK => ?_)
    go_simp
    refine (impl_wrapped _ u (by omega) (by omega)).mono ?_
    rintro r u' ⟨rfl, rfl⟩
    go_simp
    exact hK _ _ ⟨_, rfl, (fun h => by cases h), rfl, But.refl _ _, trivial⟩
   ·cases ho
    intro fu act u hW hB hsz hL hdep
    replace hB := hB [] (fun j hj hd k hk => by cases hk)
    have e0 : act.tmps.getD 5 undef = (.pointer (some ⟨m, 0, none⟩) : Value) := hdep { on := 0, ground := .data } (by simp) rfl _ rfl
    have e13 : act.tmps.getD 18 undef = (.int .i64 ((va + n) % 65536) : Value) := hdep { on := 13, ground := .data } (by simp) rfl _ rfl
    have hdf := Lib.hid (show act.defers = [] from hL.1)
    clear hdep hL
    refine wpOp_step rfl (fun K hK => ?_)
    go_simp
    have E := impl_see u m gr gc gm cr cc cm s e (nx s) (HM.out.but hB (by simp) (by simp) (by simp) (by simp)) HK.out ((va + n) % 65536) false 3 (by omega) (by omega)
    rw [HAT.out] at E
    refine E.mono ?_
    clear E
    rintro r u' ⟨hd, f'⟩
    rcases hd with ⟨hn, rfl⟩ | ⟨hn, rfl⟩
    ·exact absurd hn (by omega)
    ·go_simp
     exact hK _ _ ⟨_, rfl, (fun h => by cases h), rfl, But.of f', trivial⟩
   ·cases ho
    intro fu act u hW hB hsz hL hdep
    replace hB := hB [] (fun j hj hd k hk => by cases hk)
    have e14 : act.tmps.getD 19 undef = (.int .i64 AT0 : Value) := hdep { on := 14, ground := .data } (by simp) rfl _ rfl
    clear hdep hL
    refine wpOp_step rfl (fun K hK => ?_)
    go_simp
    exact hK _ _ ⟨_, rfl, (fun h => by cases h), (by first | rfl | (exact congrArg (Value.int .i64) (by rw [IntWalk.i64_left, IntWalk.wrap64_in _ (by omega)])) | simp), But.refl _ _, trivial⟩
   ·exact absurd ho (by simp)
  case fin =>
   intro act u hW hsz hB hL hsf
   replace hB := hB [] (fun j k hk => by cases hk)
   have d15 := hsf 15 _ rfl
   obtain ⟨ysl, ha, hy⟩ := hL.puts [5, 6, 7, 8, 9, 10, 11, 12, 13, 14, 15, 16, 17, 18, 19, 4] (by kernel_rfl)
   have e15 : ysl 4 = .int .i64 AT0 := (hy 4).symm.trans d15
   clear hL hsf hy d15
   simp only [List.foldl, List.setIfInBounds_toArray, List.set_cons_succ, List.set_cons_zero, e15] at ha
   subst ha
   clear e15
   have HF2 := Lib.hid (Fr.trans HF.out (fr_none hB))
   have HM2 := Lib.hid (HM.out.but hB (by simp) (by simp) (by simp) (by simp))
   have HX2 := Lib.hid (HX.out.but hB (by simp))
   clear HF HM HX hB hW
   have HF := Lib.hid HF2.out
   have HM := Lib.hid HM2.out
   have HX := Lib.hid HX2.out
   clear HF2 HM2 HX2
   have hsz2 := HF.out.size
   go_wp2_with fail
   refine wp_region_lots2 32 (fun i => if i = 11 then [m, gr] else []) (fun _ _ => True) (fun i v u => match i with | 0 => v = .pointer (some ⟨m, 0, none⟩) | 1 => v = .pointer (some ⟨X, 1, none⟩) | 2 => v = .int .i64 d | 3 => v = .pointer (some ⟨m, 0, none⟩) | 4 => v = .pointer (some ⟨m, 0, none⟩) | 5 => v = .pointer (some ⟨m, 0, none⟩) | 6 => v = .pointer (some ⟨m, 3, none⟩) | 7 => v = .slice (some ⟨gm, 0, none⟩) 256 cm | 8 => v = .int .i64 AT0 | 9 => v = .pointer (some ⟨gm, AT0.toNat, none⟩) | 10 => v = .int .i64 vm | 11 => (v = .tuple #[] ∧ Mx u m gr gc gm cr cc cm ⟨s.pc, putR s.R d vm, s.C, s.M⟩ (putE e d vm) (nx s)) | _ => True) ?mono (by kernel_rfl) (by kernel_rfl) rfl (by kernel_rfl) trivial ?step ?fin
   case mono =>
    intro i j v u u' hij hsz h hB
    rcases j with _ | _ | _ | _ | _ | _ | _ | _ | _ | _ | _ | _ | j
    ·exact h
    ·exact h
    ·exact h
    ·exact h
    ·exact h
    ·exact h
    ·exact h
    ·exact h
    ·exact h
    ·exact h
    ·exact h
    ·exact (by have hB2 : But [] u u' := (by have hx := hB; simp only [if_neg hij] at hx; exact hx); exact ⟨h.1, h.2.but hB2 (by simp) (by simp) (by simp) (by simp)⟩)
    ·trivial
   case step =>
    intro i o ho
    rcases i with _ | _ | _ | _ | _ | _ | _ | _ | _ | _ | _ | _ | i
    ·cases ho
     intro fu act u hW hB hsz hL hdep
     replace hB := hB [] (fun j hj hd k hk => by
      by_cases xz : j = 11
      ·subst xz; exact (depT_no hd (by kernel_rfl)).elim
      rw [if_neg xz] at hk; cases hk)
     have x0 : act.tmps.getD 0 undef = (.pointer (some ⟨m, 0, none⟩) : Value) := (hL.2.2 0 (no_dst (by kernel_rfl))).trans rfl
     clear hdep hL
     refine wpOp_step rfl (fun K hK => ?_)
     go_simp
     exact hK _ _ ⟨_, rfl, (fun h => by cases h), (by first | rfl | (exact congrArg (Value.int .i64) (by rw [IntWalk.i64_left, IntWalk.wrap64_in _ (by omega)])) | simp), But.refl _ _, trivial⟩
    ·cases ho
     intro fu act u hW hB hsz hL hdep
     replace hB := hB [] (fun j hj hd k hk => by
      by_cases xz : j = 11
      ·subst xz; exact (depT_no hd (by kernel_rfl)).elim
      rw [if_neg xz] at hk; cases hk)
     have x3 : act.tmps.getD 3 undef = (.pointer (some ⟨X, 0, none⟩) : Value) := (hL.2.2 3 (no_dst (by kernel_rfl))).trans rfl
     clear hdep hL
     refine wpOp_step rfl (fun K hK => ?_)
     go_simp
     exact hK _ _ ⟨_, rfl, (fun h => by cases h), (by first | rfl | (exact congrArg (Value.int .i64) (by rw [IntWalk.i64_left, IntWalk.wrap64_in _ (by omega)])) | simp), But.refl _ _, trivial⟩
    ·cases ho
     intro fu act u hW hB hsz hL hdep
     replace hB := hB [] (fun j hj hd k hk => by
      by_cases xz : j = 11
      ·subst xz; exact (depT_no hd (by kernel_rfl)).elim
      rw [if_neg xz] at hk; cases hk)
     have e1 : act.tmps.getD 21 undef = (.pointer (some ⟨X, 1, none⟩) : Value) := hdep { on := 1, ground := .data } (by simp) rfl _ rfl
     clear hdep hL
     have c := (HX.out.but hB (by simp)).c1
     refine wpOp_step rfl (fun K hK => ?_)
     go_simp
     exact hK _ _ ⟨_, rfl, (fun h => by cases h), (by first | rfl | (exact congrArg (Value.int .i64) (by rw [IntWalk.i64_left, IntWalk.wrap64_in _ (by omega)])) | simp), But.refl _ _, trivial⟩
    ·cases ho
     intro fu act u hW hB hsz hL hdep
     replace hB := hB [] (fun j hj hd k hk => by
      by_cases xz : j = 11
      ·subst xz; exact (depT_no hd (by kernel_rfl)).elim
      rw [if_neg xz] at hk; cases hk)
     have x0 : act.tmps.getD 0 undef = (.pointer (some ⟨m, 0, none⟩) : Value) := (hL.2.2 0 (no_dst (by kernel_rfl))).trans rfl
     clear hdep hL
     refine wpOp_step rfl (fun K hK => ?_)
     go_simp
     exact hK _ _ ⟨_, rfl, (fun h => by cases h), (by first | rfl | (exact congrArg (Value.int .i64) (by rw [IntWalk.i64_left, IntWalk.wrap64_in _ (by omega)])) | simp), But.refl _ _, trivial⟩
    ·cases ho
     intro fu act u hW hB hsz hL hdep
     replace hB := hB [] (fun j hj hd k hk => by
      by_cases xz : j = 11
      ·subst xz; exact (depT_no hd (by kernel_rfl)).elim
      rw [if_neg xz] at hk; cases hk)
     have e3 : act.tmps.getD 23 undef = (.pointer (some ⟨m, 0, none⟩) : Value) := hdep { on := 3, ground := .data } (by simp) rfl _ rfl
     clear hdep hL
     refine wpOp_step rfl (fun K hK => ?_)
     go_simp
     exact hK _ _ ⟨_, rfl, (fun h => by cases h), (by first | rfl | (exact congrArg (Value.int .i64) (by rw [IntWalk.i64_left, IntWalk.wrap64_in _ (by omega)])) | simp), But.refl _ _, trivial⟩
    ·cases ho
     intro fu act u hW hB hsz hL hdep
     replace hB := hB [] (fun j hj hd k hk => by
      by_cases xz : j = 11
      ·subst xz; exact (depT_no hd (by kernel_rfl)).elim
      rw [if_neg xz] at hk; cases hk)
     have e4 : act.tmps.getD 24 undef = (.pointer (some ⟨m, 0, none⟩) : Value) := hdep { on := 4, ground := .data } (by simp) rfl _ rfl
     clear hdep hL
     refine wpOp_step rfl (fun K hK => ?_)
     go_simp
     exact hK _ _ ⟨_, rfl, (fun h => by cases h), (by first | rfl | (exact congrArg (Value.int .i64) (by rw [IntWalk.i64_left, IntWalk.wrap64_in _ (by omega)])) | simp), But.refl _ _, trivial⟩
    ·cases ho
     intro fu act u hW hB hsz hL hdep
     replace hB := hB [] (fun j hj hd k hk => by
      by_cases xz : j = 11
      ·subst xz; exact (depT_no hd (by kernel_rfl)).elim
      rw [if_neg xz] at hk; cases hk)
     have e5 : act.tmps.getD 25 undef = (.pointer (some ⟨m, 0, none⟩) : Value) := hdep { on := 5, ground := .data } (by simp) rfl _ rfl
     clear hdep hL
     refine wpOp_step rfl (fun K hK => ?_)
     go_simp
     exact hK _ _ ⟨_, rfl, (fun h => by cases h), (by first | rfl | (exact congrArg (Value.int .i64) (by rw [IntWalk.i64_left, IntWalk.wrap64_in _ (by omega)])) | simp), But.refl _ _, trivial⟩
    ·cases ho
     intro fu act u hW hB hsz hL hdep
     replace hB := hB [] (fun j hj hd k hk => by
      by_cases xz : j = 11
      ·subst xz; exact (depT_no hd (by kernel_rfl)).elim
      rw [if_neg xz] at hk; cases hk)
     have e6 : act.tmps.getD 26 undef = (.pointer (some ⟨m, 3, none⟩) : Value) := hdep { on := 6, ground := .data } (by simp) rfl _ rfl
     clear hdep hL
     have hm := HM.out.but hB (by simp) (by simp) (by simp) (by simp)
     have c := hm.cel 3 (by decide)
     simp only [mCells, List.getElem?_cons_succ, List.getElem?_cons_zero] at c
     clear hm
     refine wpOp_step rfl (fun K hK => ?_)
     go_simp
     exact hK _ _ ⟨_, rfl, (fun h => by cases h), (by first | rfl | (exact congrArg (Value.int .i64) (by rw [IntWalk.i64_left, IntWalk.wrap64_in _ (by omega)])) | simp), But.refl _ _, trivial⟩
    ·cases ho
     intro fu act u hW hB hsz hL hdep
     replace hB := hB [] (fun j hj hd k hk => by
      by_cases xz : j = 11
      ·subst xz; exact (depT_no hd (by kernel_rfl)).elim
      rw [if_neg xz] at hk; cases hk)
     have x4 : act.tmps.getD 4 undef = (.int .i64 AT0 : Value) := (hL.2.2 4 (no_dst (by kernel_rfl))).trans rfl
     clear hdep hL
     refine wpOp_step rfl (fun K hK => ?_)
     go_simp
     exact hK _ _ ⟨_, rfl, (fun h => by cases h), (by first | rfl | (exact congrArg (Value.int .i64) (by rw [IntWalk.i64_left, IntWalk.wrap64_in _ (by omega)])) | simp), But.refl _ _, trivial⟩
    ·cases ho
     intro fu act u hW hB hsz hL hdep
     replace hB := hB [] (fun j hj hd k hk => by
      by_cases xz : j = 11
      ·subst xz; exact (depT_no hd (by kernel_rfl)).elim
      rw [if_neg xz] at hk; cases hk)
     have e7 : act.tmps.getD 27 undef = (.slice (some ⟨gm, 0, none⟩) 256 cm : Value) := hdep { on := 7, ground := .data } (by simp) rfl _ rfl
     have e8 : act.tmps.getD 28 undef = (.int .i64 AT0 : Value) := hdep { on := 8, ground := .data } (by simp) rfl _ rfl
     clear hdep hL
     have ix0 : 0 ≤ AT0 := by omega
     have ix1 : AT0 < 256 := by omega
     refine wpOp_step rfl (fun K hK => ?_)
     go_simp
     exact hK _ _ ⟨_, rfl, (fun h => by cases h), (by first | rfl | (exact congrArg (Value.int .i64) (by rw [IntWalk.i64_left, IntWalk.wrap64_in _ (by omega)])) | simp), But.refl _ _, trivial⟩
    ·cases ho
     intro fu act u hW hB hsz hL hdep
     replace hB := hB [] (fun j hj hd k hk => by
      by_cases xz : j = 11
      ·subst xz; exact (depT_no hd (by kernel_rfl)).elim
      rw [if_neg xz] at hk; cases hk)
     have e9 : act.tmps.getD 29 undef = (.pointer (some ⟨gm, AT0.toNat, none⟩) : Value) := hdep { on := 9, ground := .data } (by simp) rfl _ rfl
     clear hdep hL
     have hm := HM.out.but hB (by simp) (by simp) (by simp) (by simp)
     have c := hm.ow.M.cel (AT0.toNat) (by have h1 := HK.out.Rl; have h2 := HK.out.Cl; have h3 := HK.out.Ml; omega)
     clear hm
     rw [hvm] at c
     refine wpOp_step rfl (fun K hK => ?_)
     go_simp
     exact hK _ _ ⟨_, rfl, (fun h => by cases h), (by first | rfl | (exact congrArg (Value.int .i64) (by rw [IntWalk.i64_left, IntWalk.wrap64_in _ (by omega)])) | simp), But.refl _ _, trivial⟩
    ·cases ho
     intro fu act u hW hB hsz hL hdep
     replace hB := hB [] (fun j hj hd k hk => by
      rw [if_neg hj] at hk; cases hk)
     have e0 : act.tmps.getD 20 undef = (.pointer (some ⟨m, 0, none⟩) : Value) := hdep { on := 0, ground := .data } (by simp) rfl _ rfl
     have e2 : act.tmps.getD 22 undef = (.int .i64 d : Value) := hdep { on := 2, ground := .data } (by simp) rfl _ rfl
     have e10 : act.tmps.getD 30 undef = (.int .i64 vm : Value) := hdep { on := 10, ground := .data } (by simp) rfl _ rfl
     have hdf := Lib.hid (show act.defers = [] from hL.1)
     clear hdep hL
     refine wpOp_step rfl (fun K hK => ?_)
     go_simp
     refine (impl_put u m gr gc gm cr cc cm s e (nx s) d vm (HM.out.but hB (by simp) (by simp) (by simp) (by simp)) hR.out d0 d7).mono ?_
     rintro r u' ⟨rfl, hM', hB'⟩
     go_simp
     exact hK _ _ ⟨_, rfl, (fun h => by cases h), ⟨rfl, hM'⟩, hB', trivial⟩
    ·exact absurd ho (by simp)
   case fin =>
    intro act u hW hsz hB hL hsf
    replace hB := hB [m, gr] (fun j k hk => by
     by_cases yz : j = 11
     ·rw [if_pos yz] at hk; exact hk
     rw [if_neg yz] at hk
     cases hk)
    have d11 := hsf 11 _ rfl
    obtain ⟨ysl, ha, hy⟩ := hL.puts [20, 21, 22, 23, 24, 25, 26, 27, 28, 29, 30, 31] (by kernel_rfl)
    clear hL hsf hy
    simp only [List.foldl, List.setIfInBounds_toArray, List.set_cons_succ, List.set_cons_zero] at ha
    subst ha
    obtain ⟨_, hM'⟩ := d11
    go_wp2_with fail
    (first | refine bodyPost_end (results_none rfl _ _ _) rfl ?_ | refine bodyPost_ret (results_none rfl _ _ _) rfl ?_)
    exact ⟨rfl, hM', (((But.of HF.out).trans (hB.up (fun k hk => by simp at hk ⊢; omega))))⟩
set_option maxRecDepth 8000 in
set_option maxHeartbeats 4000000 in
theorem ef_save (u : World) (m gr gc gm cr cc cm : Nat) (s : St) (e : Ev) (d a b f n : Int) (h : Mx u m gr gc gm cr cc cm s e (nx s)) (hk : OkS s) (hi : iok 4 d a b f n = true) :
  Calls Tryd.prog 96 #[.pointer (some ⟨m, 0, none⟩), .agg #[.int .i64 4, .int .i64 d, .int .i64 a, .int .i64 b, .int .i64 f, .int .i64 n]] u (EfP (effS s e 4 d a b f n) m gr gc gm cr cc cm s e u) := by
 rw [eff_4]
 obtain ⟨⟨d0, d7⟩, ⟨a0, a7⟩, ⟨b0, b7⟩, _⟩ := sok_bd (sok_of hi)
 obtain ⟨n0, n1⟩ := num_bd (iok_num hi)
 obtain ⟨f0, f7⟩ := f_bd (iok_f hi)
 have hlm := h.lt
 have hnx : 0 ≤ nx s ∧ nx s < 65536 := by unfold nx; omega
 have hR := Lib.hid hk.Rl
 have HK := Lib.hid hk
 have qva := ok_get hk.R a.toNat
 have qvb := ok_get hk.R b.toNat
 have F0 := Fr.alloc u (.cells #[.int .i64 4, .int .i64 d, .int .i64 a, .int .i64 b, .int .i64 f, .int .i64 n] 48)
 have HM := Lib.hid (h.fr F0)
 have HX0 := Lib.hid (Box.new u 4 d a b f n 48)
 have HF := Lib.hid F0
 have ho := h.ow
 have lr := ho.R.lt
 have lc := ho.C.lt
 have lm := ho.M.lt
 clear h hk F0 ho
 obtain ⟨va, hva⟩ : ∃ x, s.R.getD a.toNat 0 = x := ⟨_, rfl⟩
 rw [hva] at qva
 obtain ⟨qva0, qva1⟩ := qva
 obtain ⟨vb, hvb⟩ : ∃ x, s.R.getD b.toNat 0 = x := ⟨_, rfl⟩
 rw [hvb] at qvb
 obtain ⟨qvb0, qvb1⟩ := qvb
 simp only [put, goto, rg, mm, hva, hvb]
 have hsb := see_bd s.C s.M ((va + n) % 65536) true (by omega)
 obtain ⟨AT0, hAT⟩ : ∃ x, (see s.C s.M ((va + n) % 65536) true) = x := ⟨_, rfl⟩
 rw [hAT] at hsb ⊢
 have HAT := Lib.hid hAT
 clear hAT
 generalize ho : (if AT0 < 0 then Out.stop 4 else Out.go ⟨nx s, s.R, s.C, s.M.set AT0.toNat vb⟩ { e with ad := AT0, dt := vb }) = o
 have HO := Lib.hid ho
 clear ho
 go_enter Tryd.func96, Tryd.ntmps96
 go_wp2_with fail
 generalize (u.alloc (.cells #[.int .i64 4, .int .i64 d, .int .i64 a, .int .i64 b, .int .i64 f, .int .i64 n] 48)) = u0 at *
 have hz := HF.out.size
 have hXl := HX0.out.lt
 have HX := Lib.hid HX0.out
 clear HX0
 generalize hXe : u.heap.size = X at *
 by_cases hneg : AT0 < 0
 ·have ho2 : o = .stop 4 := by rw [← HO.out, if_pos hneg]
  subst ho2
  clear HO
  refine wp_region_lots2 32 (fun _ => []) (fun _ _ => True) (fun i v u => match i with | 0 => v = .pointer (some ⟨m, 0, none⟩) | 1 => v = .pointer (some ⟨m, 0, none⟩) | 2 => v = .pointer (some ⟨m, 0, none⟩) | 3 => v = .pointer (some ⟨m, 0, none⟩) | 4 => v = .pointer (some ⟨m, 1, none⟩) | 5 => v = .slice (some ⟨gr, 0, none⟩) 8 cr | 6 => v = .pointer (some ⟨X, 2, none⟩) | 7 => v = .int .i64 a | 8 => v = .pointer (some ⟨gr, a.toNat, none⟩) | 9 => v = .int .i64 va | 10 => v = .pointer (some ⟨X, 5, none⟩) | 11 => v = .int .i64 n | 12 => v = .int .i64 (va + n) | 13 => v = .int .i64 ((va + n) % 65536) | 14 => False | 15 => v = .int .i64 AT0 | _ => True) ?mono (by kernel_rfl) (by kernel_rfl) rfl (by kernel_rfl) trivial ?step ?fin
  case mono =>
   intro i j v u u' hij hsz h hB
   rcases j with _ | _ | _ | _ | _ | _ | _ | _ | _ | _ | _ | _ | _ | _ | _ | _ | j
   ·exact h
   ·exact h
   ·exact h
   ·exact h
   ·exact h
   ·exact h
   ·exact h
   ·exact h
   ·exact h
   ·exact h
   ·exact h
   ·exact h
   ·exact h
   ·exact h
   ·exact h
   ·exact h
   ·trivial
  case step =>
   intro i o ho
   rcases i with _ | _ | _ | _ | _ | _ | _ | _ | _ | _ | _ | _ | _ | _ | _ | _ | i
   ·cases ho
    intro fu act u hW hB hsz hL hdep
    replace hB := hB [] (fun j hj hd k hk => by cases hk)
    have x0 : act.tmps.getD 0 undef = (.pointer (some ⟨m, 0, none⟩) : Value) := (hL.2.2 0 (no_dst (by kernel_rfl))).trans rfl
    clear hdep hL
    refine wpOp_step rfl (fun K hK => ?_)
    go_simp
    exact hK _ _ ⟨_, rfl, (fun h => by cases h), (by first | rfl | (exact congrArg (Value.int .i64) (by rw [IntWalk.i64_left, IntWalk.wrap64_in _ (by omega)])) | simp), But.refl _ _, trivial⟩
   ·cases ho
    intro fu act u hW hB hsz hL hdep
    replace hB := hB [] (fun j hj hd k hk => by cases hk)
    have x0 : act.tmps.getD 0 undef = (.pointer (some ⟨m, 0, none⟩) : Value) := (hL.2.2 0 (no_dst (by kernel_rfl))).trans rfl
    clear hdep hL
    refine wpOp_step rfl (fun K hK => ?_)
    go_simp
    exact hK _ _ ⟨_, rfl, (fun h => by cases h), (by first | rfl | (exact congrArg (Value.int .i64) (by rw [IntWalk.i64_left, IntWalk.wrap64_in _ (by omega)])) | simp), But.refl _ _, trivial⟩
   ·cases ho
    intro fu act u hW hB hsz hL hdep
    replace hB := hB [] (fun j hj hd k hk => by cases hk)
    have e1 : act.tmps.getD 6 undef = (.pointer (some ⟨m, 0, none⟩) : Value) := hdep { on := 1, ground := .data } (by simp) rfl _ rfl
    clear hdep hL
    refine wpOp_step rfl (fun K hK => ?_)
    go_simp
    exact hK _ _ ⟨_, rfl, (fun h => by cases h), (by first | rfl | (exact congrArg (Value.int .i64) (by rw [IntWalk.i64_left, IntWalk.wrap64_in _ (by omega)])) | simp), But.refl _ _, trivial⟩
   ·cases ho
    intro fu act u hW hB hsz hL hdep
    replace hB := hB [] (fun j hj hd k hk => by cases hk)
    have e2 : act.tmps.getD 7 undef = (.pointer (some ⟨m, 0, none⟩) : Value) := hdep { on := 2, ground := .data } (by simp) rfl _ rfl
    clear hdep hL
    refine wpOp_step rfl (fun K hK => ?_)
    go_simp
    exact hK _ _ ⟨_, rfl, (fun h => by cases h), (by first | rfl | (exact congrArg (Value.int .i64) (by rw [IntWalk.i64_left, IntWalk.wrap64_in _ (by omega)])) | simp), But.refl _ _, trivial⟩
   ·cases ho
    intro fu act u hW hB hsz hL hdep
    replace hB := hB [] (fun j hj hd k hk => by cases hk)
    have e3 : act.tmps.getD 8 undef = (.pointer (some ⟨m, 0, none⟩) : Value) := hdep { on := 3, ground := .data } (by simp) rfl _ rfl
    clear hdep hL
    refine wpOp_step rfl (fun K hK => ?_)
    go_simp
    exact hK _ _ ⟨_, rfl, (fun h => by cases h), (by first | rfl | (exact congrArg (Value.int .i64) (by rw [IntWalk.i64_left, IntWalk.wrap64_in _ (by omega)])) | simp), But.refl _ _, trivial⟩
   ·cases ho
    intro fu act u hW hB hsz hL hdep
    replace hB := hB [] (fun j hj hd k hk => by cases hk)
    have e4 : act.tmps.getD 9 undef = (.pointer (some ⟨m, 1, none⟩) : Value) := hdep { on := 4, ground := .data } (by simp) rfl _ rfl
    clear hdep hL
    have hm := HM.out.but hB (by simp) (by simp) (by simp) (by simp)
    have c := hm.cel 1 (by decide)
    simp only [mCells, List.getElem?_cons_succ, List.getElem?_cons_zero] at c
    clear hm
    refine wpOp_step rfl (fun K hK => ?_)
    go_simp
    exact hK _ _ ⟨_, rfl, (fun h => by cases h), (by first | rfl | (exact congrArg (Value.int .i64) (by rw [IntWalk.i64_left, IntWalk.wrap64_in _ (by omega)])) | simp), But.refl _ _, trivial⟩
   ·cases ho
    intro fu act u hW hB hsz hL hdep
    replace hB := hB [] (fun j hj hd k hk => by cases hk)
    have x3 : act.tmps.getD 3 undef = (.pointer (some ⟨X, 0, none⟩) : Value) := (hL.2.2 3 (no_dst (by kernel_rfl))).trans rfl
    clear hdep hL
    refine wpOp_step rfl (fun K hK => ?_)
    go_simp
    exact hK _ _ ⟨_, rfl, (fun h => by cases h), (by first | rfl | (exact congrArg (Value.int .i64) (by rw [IntWalk.i64_left, IntWalk.wrap64_in _ (by omega)])) | simp), But.refl _ _, trivial⟩
   ·cases ho
    intro fu act u hW hB hsz hL hdep
    replace hB := hB [] (fun j hj hd k hk => by cases hk)
    have e6 : act.tmps.getD 11 undef = (.pointer (some ⟨X, 2, none⟩) : Value) := hdep { on := 6, ground := .data } (by simp) rfl _ rfl
    clear hdep hL
    have c := (HX.out.but hB (by simp)).c2
    refine wpOp_step rfl (fun K hK => ?_)
    go_simp
    exact hK _ _ ⟨_, rfl, (fun h => by cases h), (by first | rfl | (exact congrArg (Value.int .i64) (by rw [IntWalk.i64_left, IntWalk.wrap64_in _ (by omega)])) | simp), But.refl _ _, trivial⟩
   ·cases ho
    intro fu act u hW hB hsz hL hdep
    replace hB := hB [] (fun j hj hd k hk => by cases hk)
    have e5 : act.tmps.getD 10 undef = (.slice (some ⟨gr, 0, none⟩) 8 cr : Value) := hdep { on := 5, ground := .data } (by simp) rfl _ rfl
    have e7 : act.tmps.getD 12 undef = (.int .i64 a : Value) := hdep { on := 7, ground := .data } (by simp) rfl _ rfl
    clear hdep hL
    have ix0 : 0 ≤ a := by omega
    have ix1 : a < 8 := by omega
    refine wpOp_step rfl (fun K hK => ?_)
    go_simp
    exact hK _ _ ⟨_, rfl, (fun h => by cases h), (by first | rfl | (exact congrArg (Value.int .i64) (by rw [IntWalk.i64_left, IntWalk.wrap64_in _ (by omega)])) | simp), But.refl _ _, trivial⟩
   ·cases ho
    intro fu act u hW hB hsz hL hdep
    replace hB := hB [] (fun j hj hd k hk => by cases hk)
    have e8 : act.tmps.getD 13 undef = (.pointer (some ⟨gr, a.toNat, none⟩) : Value) := hdep { on := 8, ground := .data } (by simp) rfl _ rfl
    clear hdep hL
    have hm := HM.out.but hB (by simp) (by simp) (by simp) (by simp)
    have c := hm.ow.R.cel (a.toNat) (by have h1 := HK.out.Rl; have h2 := HK.out.Cl; have h3 := HK.out.Ml; omega)
    clear hm
    rw [hva] at c
    refine wpOp_step rfl (fun K hK => ?_)
    go_simp
    exact hK _ _ ⟨_, rfl, (fun h => by cases h), (by first | rfl | (exact congrArg (Value.int .i64) (by rw [IntWalk.i64_left, IntWalk.wrap64_in _ (by omega)])) | simp), But.refl _ _, trivial⟩
   ·cases ho
    intro fu act u hW hB hsz hL hdep
    replace hB := hB [] (fun j hj hd k hk => by cases hk)
    have x3 : act.tmps.getD 3 undef = (.pointer (some ⟨X, 0, none⟩) : Value) := (hL.2.2 3 (no_dst (by kernel_rfl))).trans rfl
    clear hdep hL
    refine wpOp_step rfl (fun K hK => ?_)
    go_simp
    exact hK _ _ ⟨_, rfl, (fun h => by cases h), (by first | rfl | (exact congrArg (Value.int .i64) (by rw [IntWalk.i64_left, IntWalk.wrap64_in _ (by omega)])) | simp), But.refl _ _, trivial⟩
   ·cases ho
    intro fu act u hW hB hsz hL hdep
    replace hB := hB [] (fun j hj hd k hk => by cases hk)
    have e10 : act.tmps.getD 15 undef = (.pointer (some ⟨X, 5, none⟩) : Value) := hdep { on := 10, ground := .data } (by simp) rfl _ rfl
    clear hdep hL
    have c := (HX.out.but hB (by simp)).c5
    refine wpOp_step rfl (fun K hK => ?_)
    go_simp
    exact hK _ _ ⟨_, rfl, (fun h => by cases h), (by first | rfl | (exact congrArg (Value.int .i64) (by rw [IntWalk.i64_left, IntWalk.wrap64_in _ (by omega)])) | simp), But.refl _ _, trivial⟩
   ·cases ho
    intro fu act u hW hB hsz hL hdep
    replace hB := hB [] (fun j hj hd k hk => by cases hk)
    have e9 : act.tmps.getD 14 undef = (.int .i64 va : Value) := hdep { on := 9, ground := .data } (by simp) rfl _ rfl
    have e11 : act.tmps.getD 16 undef = (.int .i64 n : Value) := hdep { on := 11, ground := .data } (by simp) rfl _ rfl
    clear hdep hL
    refine wpOp_step rfl (fun K hK => ?_)
    go_simp
    exact hK _ _ ⟨_, rfl, (fun h => by cases h), (by first | rfl | (exact congrArg (Value.int .i64) (by rw [IntWalk.i64_left, IntWalk.wrap64_in _ (by omega)])) | simp), But.refl _ _, trivial⟩
   ·cases ho
    intro fu act u hW hB hsz hL hdep
    replace hB := hB [] (fun j hj hd k hk => by cases hk)
    have e12 : act.tmps.getD 17 undef = (.int .i64 (va + n) : Value) := hdep { on := 12, ground := .data } (by simp) rfl _ rfl
    have hdf := Lib.hid (show act.defers = [] from hL.1)
    clear hdep hL
    refine wpOp_step rfl (fun K hK => ?_)
    go_simp
    refine (impl_wrapped _ u (by omega) (by omega)).mono ?_
    rintro r u' ⟨rfl, rfl⟩
    go_simp
    exact hK _ _ ⟨_, rfl, (fun h => by cases h), rfl, But.refl _ _, trivial⟩
   ·cases ho
    intro fu act u hW hB hsz hL hdep
    replace hB := hB [] (fun j hj hd k hk => by cases hk)
    have e0 : act.tmps.getD 5 undef = (.pointer (some ⟨m, 0, none⟩) : Value) := hdep { on := 0, ground := .data } (by simp) rfl _ rfl
    have e13 : act.tmps.getD 18 undef = (.int .i64 ((va + n) % 65536) : Value) := hdep { on := 13, ground := .data } (by simp) rfl _ rfl
    have hdf := Lib.hid (show act.defers = [] from hL.1)
    clear hdep hL
    refine wpOp_step rfl (fun K hK => ?_)
    go_simp
    have E := impl_see u m gr gc gm cr cc cm s e (nx s) (HM.out.but hB (by simp) (by simp) (by simp) (by simp)) HK.out ((va + n) % 65536) true 4 (by omega) (by omega)
    rw [HAT.out] at E
    refine E.mono ?_
    clear E
    rintro r u' ⟨hd, f'⟩
    rcases hd with ⟨hn, rfl⟩ | ⟨hn, rfl⟩
    ·simp only [trapE]
     go_simp
     exact ⟨hdf.out, rfl, (HM.out.but hB (by simp) (by simp) (by simp) (by simp)).fr f', (But.of HF.out).trans ((hB.up (fun k hk => by cases hk)).trans (But.of f'))⟩
    ·exact absurd hneg (by omega)
   ·cases ho
    intro fu act u hW hB hsz hL hdep
    replace hB := hB [] (fun j hj hd k hk => by cases hk)
    exact (show False from hdep { on := 14, ground := .data } (by simp) rfl _ rfl).elim
   ·exact absurd ho (by simp)
  case fin =>
   intro act u hW hsz hB hL hsf
   exact (show False from hsf 14 _ rfl).elim
 ·have ho2 : o = Out.go ⟨nx s, s.R, s.C, s.M.set AT0.toNat vb⟩ { e with ad := AT0, dt := vb } := by rw [← HO.out, if_neg hneg]
  subst ho2
  clear HO
  refine wp_region_lots2 32 (fun _ => []) (fun _ _ => True) (fun i v u => match i with | 0 => v = .pointer (some ⟨m, 0, none⟩) | 1 => v = .pointer (some ⟨m, 0, none⟩) | 2 => v = .pointer (some ⟨m, 0, none⟩) | 3 => v = .pointer (some ⟨m, 0, none⟩) | 4 => v = .pointer (some ⟨m, 1, none⟩) | 5 => v = .slice (some ⟨gr, 0, none⟩) 8 cr | 6 => v = .pointer (some ⟨X, 2, none⟩) | 7 => v = .int .i64 a | 8 => v = .pointer (some ⟨gr, a.toNat, none⟩) | 9 => v = .int .i64 va | 10 => v = .pointer (some ⟨X, 5, none⟩) | 11 => v = .int .i64 n | 12 => v = .int .i64 (va + n) | 13 => v = .int .i64 ((va + n) % 65536) | 14 => v = .int .i64 AT0 | 15 => v = .int .i64 AT0 | _ => True) ?mono (by kernel_rfl) (by kernel_rfl) rfl (by kernel_rfl) trivial ?step ?fin
  case mono =>
   intro i j v u u' hij hsz h hB
   rcases j with _ | _ | _ | _ | _ | _ | _ | _ | _ | _ | _ | _ | _ | _ | _ | _ | j
   ·exact h
   ·exact h
   ·exact h
   ·exact h
   ·exact h
   ·exact h
   ·exact h
   ·exact h
   ·exact h
   ·exact h
   ·exact h
   ·exact h
   ·exact h
   ·exact h
   ·exact h
   ·exact h
   ·trivial
  case step =>
   intro i o ho
   rcases i with _ | _ | _ | _ | _ | _ | _ | _ | _ | _ | _ | _ | _ | _ | _ | _ | i
   ·cases ho
    intro fu act u hW hB hsz hL hdep
    replace hB := hB [] (fun j hj hd k hk => by cases hk)
    have x0 : act.tmps.getD 0 undef = (.pointer (some ⟨m, 0, none⟩) : Value) := (hL.2.2 0 (no_dst (by kernel_rfl))).trans rfl
    clear hdep hL
    refine wpOp_step rfl (fun K hK => ?_)
    go_simp
    exact hK _ _ ⟨_, rfl, (fun h => by cases h), (by first | rfl | (exact congrArg (Value.int .i64) (by rw [IntWalk.i64_left, IntWalk.wrap64_in _ (by omega)])) | simp), But.refl _ _, trivial⟩
   ·cases ho
    intro fu act u hW hB hsz hL hdep
    replace hB := hB [] (fun j hj hd k hk => by cases hk)
    have x0 : act.tmps.getD 0 undef = (.pointer (some ⟨m, 0, none⟩) : Value) := (hL.2.2 0 (no_dst (by kernel_rfl))).trans rfl
    clear hdep hL
    refine wpOp_step rfl (fun K hK => ?_)
    go_simp
    exact hK _ _ ⟨_, rfl, (fun h => by cases h), (by first | rfl | (exact congrArg (Value.int .i64) (by rw [IntWalk.i64_left, IntWalk.wrap64_in _ (by omega)])) | simp), But.refl _ _, trivial⟩
   ·cases ho
    intro fu act u hW hB hsz hL hdep
    replace hB := hB [] (fun j hj hd k hk => by cases hk)
    have e1 : act.tmps.getD 6 undef = (.pointer (some ⟨m, 0, none⟩) : Value) := hdep { on := 1, ground := .data } (by simp) rfl _ rfl
    clear hdep hL
    refine wpOp_step rfl (fun K hK => ?_)
    go_simp
    exact hK _ _ ⟨_, rfl, (fun h => by cases h), (by first | rfl | (exact congrArg (Value.int .i64) (by rw [IntWalk.i64_left, IntWalk.wrap64_in _ (by omega)])) | simp), But.refl _ _, trivial⟩
   ·cases ho
    intro fu act u hW hB hsz hL hdep
    replace hB := hB [] (fun j hj hd k hk => by cases hk)
    have e2 : act.tmps.getD 7 undef = (.pointer (some ⟨m, 0, none⟩) : Value) := hdep { on := 2, ground := .data } (by simp) rfl _ rfl
    clear hdep hL
    refine wpOp_step rfl (fun K hK => ?_)
    go_simp
    exact hK _ _ ⟨_, rfl, (fun h => by cases h), (by first | rfl | (exact congrArg (Value.int .i64) (by rw [IntWalk.i64_left, IntWalk.wrap64_in _ (by omega)])) | simp), But.refl _ _, trivial⟩
   ·cases ho
    intro fu act u hW hB hsz hL hdep
    replace hB := hB [] (fun j hj hd k hk => by cases hk)
    have e3 : act.tmps.getD 8 undef = (.pointer (some ⟨m, 0, none⟩) : Value) := hdep { on := 3, ground := .data } (by simp) rfl _ rfl
    clear hdep hL
    refine wpOp_step rfl (fun K hK => ?_)
    go_simp
    exact hK _ _ ⟨_, rfl, (fun h => by cases h), (by first | rfl | (exact congrArg (Value.int .i64) (by rw [IntWalk.i64_left, IntWalk.wrap64_in _ (by omega)])) | simp), But.refl _ _, trivial⟩
   ·cases ho
    intro fu act u hW hB hsz hL hdep
    replace hB := hB [] (fun j hj hd k hk => by cases hk)
    have e4 : act.tmps.getD 9 undef = (.pointer (some ⟨m, 1, none⟩) : Value) := hdep { on := 4, ground := .data } (by simp) rfl _ rfl
    clear hdep hL
    have hm := HM.out.but hB (by simp) (by simp) (by simp) (by simp)
    have c := hm.cel 1 (by decide)
    simp only [mCells, List.getElem?_cons_succ, List.getElem?_cons_zero] at c
    clear hm
    refine wpOp_step rfl (fun K hK => ?_)
    go_simp
    exact hK _ _ ⟨_, rfl, (fun h => by cases h), (by first | rfl | (exact congrArg (Value.int .i64) (by rw [IntWalk.i64_left, IntWalk.wrap64_in _ (by omega)])) | simp), But.refl _ _, trivial⟩
   ·cases ho
    intro fu act u hW hB hsz hL hdep
    replace hB := hB [] (fun j hj hd k hk => by cases hk)
    have x3 : act.tmps.getD 3 undef = (.pointer (some ⟨X, 0, none⟩) : Value) := (hL.2.2 3 (no_dst (by kernel_rfl))).trans rfl
    clear hdep hL
    refine wpOp_step rfl (fun K hK => ?_)
    go_simp
    exact hK _ _ ⟨_, rfl, (fun h => by cases h), (by first | rfl | (exact congrArg (Value.int .i64) (by rw [IntWalk.i64_left, IntWalk.wrap64_in _ (by omega)])) | simp), But.refl _ _, trivial⟩
   ·cases ho
    intro fu act u hW hB hsz hL hdep
    replace hB := hB [] (fun j hj hd k hk => by cases hk)
    have e6 : act.tmps.getD 11 undef = (.pointer (some ⟨X, 2, none⟩) : Value) := hdep { on := 6, ground := .data } (by simp) rfl _ rfl
    clear hdep hL
    have c := (HX.out.but hB (by simp)).c2
    refine wpOp_step rfl (fun K hK => ?_)
    go_simp
    exact hK _ _ ⟨_, rfl, (fun h => by cases h), (by first | rfl | (exact congrArg (Value.int .i64) (by rw [IntWalk.i64_left, IntWalk.wrap64_in _ (by omega)])) | simp), But.refl _ _, trivial⟩
   ·cases ho
    intro fu act u hW hB hsz hL hdep
    replace hB := hB [] (fun j hj hd k hk => by cases hk)
    have e5 : act.tmps.getD 10 undef = (.slice (some ⟨gr, 0, none⟩) 8 cr : Value) := hdep { on := 5, ground := .data } (by simp) rfl _ rfl
    have e7 : act.tmps.getD 12 undef = (.int .i64 a : Value) := hdep { on := 7, ground := .data } (by simp) rfl _ rfl
    clear hdep hL
    have ix0 : 0 ≤ a := by omega
    have ix1 : a < 8 := by omega
    refine wpOp_step rfl (fun K hK => ?_)
    go_simp
    exact hK _ _ ⟨_, rfl, (fun h => by cases h), (by first | rfl | (exact congrArg (Value.int .i64) (by rw [IntWalk.i64_left, IntWalk.wrap64_in _ (by omega)])) | simp), But.refl _ _, trivial⟩
   ·cases ho
    intro fu act u hW hB hsz hL hdep
    replace hB := hB [] (fun j hj hd k hk => by cases hk)
    have e8 : act.tmps.getD 13 undef = (.pointer (some ⟨gr, a.toNat, none⟩) : Value) := hdep { on := 8, ground := .data } (by simp) rfl _ rfl
    clear hdep hL
    have hm := HM.out.but hB (by simp) (by simp) (by simp) (by simp)
    have c := hm.ow.R.cel (a.toNat) (by have h1 := HK.out.Rl; have h2 := HK.out.Cl; have h3 := HK.out.Ml; omega)
    clear hm
    rw [hva] at c
    refine wpOp_step rfl (fun K hK => ?_)
    go_simp
    exact hK _ _ ⟨_, rfl, (fun h => by cases h), (by first | rfl | (exact congrArg (Value.int .i64) (by rw [IntWalk.i64_left, IntWalk.wrap64_in _ (by omega)])) | simp), But.refl _ _, trivial⟩
   ·cases ho
    intro fu act u hW hB hsz hL hdep
    replace hB := hB [] (fun j hj hd k hk => by cases hk)
    have x3 : act.tmps.getD 3 undef = (.pointer (some ⟨X, 0, none⟩) : Value) := (hL.2.2 3 (no_dst (by kernel_rfl))).trans rfl
    clear hdep hL
    refine wpOp_step rfl (fun K hK => ?_)
    go_simp
    exact hK _ _ ⟨_, rfl, (fun h => by cases h), (by first | rfl | (exact congrArg (Value.int .i64) (by rw [IntWalk.i64_left, IntWalk.wrap64_in _ (by omega)])) | simp), But.refl _ _, trivial⟩
   ·cases ho
    intro fu act u hW hB hsz hL hdep
    replace hB := hB [] (fun j hj hd k hk => by cases hk)
    have e10 : act.tmps.getD 15 undef = (.pointer (some ⟨X, 5, none⟩) : Value) := hdep { on := 10, ground := .data } (by simp) rfl _ rfl
    clear hdep hL
    have c := (HX.out.but hB (by simp)).c5
    refine wpOp_step rfl (fun K hK => ?_)
    go_simp
    exact hK _ _ ⟨_, rfl, (fun h => by cases h), (by first | rfl | (exact congrArg (Value.int .i64) (by rw [IntWalk.i64_left, IntWalk.wrap64_in _ (by omega)])) | simp), But.refl _ _, trivial⟩
   ·cases ho
    intro fu act u hW hB hsz hL hdep
    replace hB := hB [] (fun j hj hd k hk => by cases hk)
    have e9 : act.tmps.getD 14 undef = (.int .i64 va : Value) := hdep { on := 9, ground := .data } (by simp) rfl _ rfl
    have e11 : act.tmps.getD 16 undef = (.int .i64 n : Value) := hdep { on := 11, ground := .data } (by simp) rfl _ rfl
    clear hdep hL
    refine wpOp_step rfl (fun K hK => ?_)
    go_simp
    exact hK _ _ ⟨_, rfl, (fun h => by cases h), (by first | rfl | (exact congrArg (Value.int .i64) (by rw [IntWalk.i64_left, IntWalk.wrap64_in _ (by omega)])) | simp), But.refl _ _, trivial⟩
   ·cases ho
    intro fu act u hW hB hsz hL hdep
    replace hB := hB [] (fun j hj hd k hk => by cases hk)
    have e12 : act.tmps.getD 17 undef = (.int .i64 (va + n) : Value) := hdep { on := 12, ground := .data } (by simp) rfl _ rfl
    have hdf := Lib.hid (show act.defers = [] from hL.1)
    clear hdep hL
    refine wpOp_step rfl (fun K hK => ?_)
    go_simp
    refine (impl_wrapped _ u (by omega) (by omega)).mono ?_
    rintro r u' ⟨rfl, rfl⟩
    go_simp
    exact hK _ _ ⟨_, rfl, (fun h => by cases h), rfl, But.refl _ _, trivial⟩
   ·cases ho
    intro fu act u hW hB hsz hL hdep
    replace hB := hB [] (fun j hj hd k hk => by cases hk)
    have e0 : act.tmps.getD 5 undef = (.pointer (some ⟨m, 0, none⟩) : Value) := hdep { on := 0, ground := .data } (by simp) rfl _ rfl
    have e13 : act.tmps.getD 18 undef = (.int .i64 ((va + n) % 65536) : Value) := hdep { on := 13, ground := .data } (by simp) rfl _ rfl
    have hdf := Lib.hid (show act.defers = [] from hL.1)
    clear hdep hL
    refine wpOp_step rfl (fun K hK => ?_)
    go_simp
    have E := impl_see u m gr gc gm cr cc cm s e (nx s) (HM.out.but hB (by simp) (by simp) (by simp) (by simp)) HK.out ((va + n) % 65536) true 4 (by omega) (by omega)
    rw [HAT.out] at E
    refine E.mono ?_
    clear E
    rintro r u' ⟨hd, f'⟩
    rcases hd with ⟨hn, rfl⟩ | ⟨hn, rfl⟩
    ·exact absurd hn (by omega)
    ·go_simp
     exact hK _ _ ⟨_, rfl, (fun h => by cases h), rfl, But.of f', trivial⟩
   ·cases ho
    intro fu act u hW hB hsz hL hdep
    replace hB := hB [] (fun j hj hd k hk => by cases hk)
    have e14 : act.tmps.getD 19 undef = (.int .i64 AT0 : Value) := hdep { on := 14, ground := .data } (by simp) rfl _ rfl
    clear hdep hL
    refine wpOp_step rfl (fun K hK => ?_)
    go_simp
    exact hK _ _ ⟨_, rfl, (fun h => by cases h), (by first | rfl | (exact congrArg (Value.int .i64) (by rw [IntWalk.i64_left, IntWalk.wrap64_in _ (by omega)])) | simp), But.refl _ _, trivial⟩
   ·exact absurd ho (by simp)
  case fin =>
   intro act u hW hsz hB hL hsf
   replace hB := hB [] (fun j k hk => by cases hk)
   have d15 := hsf 15 _ rfl
   obtain ⟨ysl, ha, hy⟩ := hL.puts [5, 6, 7, 8, 9, 10, 11, 12, 13, 14, 15, 16, 17, 18, 19, 4] (by kernel_rfl)
   have e15 : ysl 4 = .int .i64 AT0 := (hy 4).symm.trans d15
   clear hL hsf hy d15
   simp only [List.foldl, List.setIfInBounds_toArray, List.set_cons_succ, List.set_cons_zero, e15] at ha
   subst ha
   clear e15
   have HF2 := Lib.hid (Fr.trans HF.out (fr_none hB))
   have HM2 := Lib.hid (HM.out.but hB (by simp) (by simp) (by simp) (by simp))
   have HX2 := Lib.hid (HX.out.but hB (by simp))
   clear HF HM HX hB hW
   have HF := Lib.hid HF2.out
   have HM := Lib.hid HM2.out
   have HX := Lib.hid HX2.out
   clear HF2 HM2 HX2
   have hsz2 := HF.out.size
   go_wp2_with fail
   refine wp_region_lots2 32 (fun i => if i = 11 then [m, gm] else []) (fun _ _ => True) (fun i v u => match i with | 0 => v = .pointer (some ⟨m, 0, none⟩) | 1 => v = .int .i64 AT0 | 2 => v = .pointer (some ⟨m, 0, none⟩) | 3 => v = .pointer (some ⟨m, 0, none⟩) | 4 => v = .pointer (some ⟨m, 0, none⟩) | 5 => v = .pointer (some ⟨m, 1, none⟩) | 6 => v = .slice (some ⟨gr, 0, none⟩) 8 cr | 7 => v = .pointer (some ⟨X, 3, none⟩) | 8 => v = .int .i64 b | 9 => v = .pointer (some ⟨gr, b.toNat, none⟩) | 10 => v = .int .i64 vb | 11 => (v = .tuple #[] ∧ Mx u m gr gc gm cr cc cm ⟨s.pc, s.R, s.C, s.M.set AT0.toNat vb⟩ { e with ad := AT0, dt := vb } (nx s)) | _ => True) ?mono (by kernel_rfl) (by kernel_rfl) rfl (by kernel_rfl) trivial ?step ?fin
   case mono =>
    intro i j v u u' hij hsz h hB
    rcases j with _ | _ | _ | _ | _ | _ | _ | _ | _ | _ | _ | _ | j
    ·exact h
    ·exact h
    ·exact h
    ·exact h
    ·exact h
    ·exact h
    ·exact h
    ·exact h
    ·exact h
    ·exact h
    ·exact h
    ·exact (by have hB2 : But [] u u' := (by have hx := hB; simp only [if_neg hij] at hx; exact hx); exact ⟨h.1, h.2.but hB2 (by simp) (by simp) (by simp) (by simp)⟩)
    ·trivial
   case step =>
    intro i o ho
    rcases i with _ | _ | _ | _ | _ | _ | _ | _ | _ | _ | _ | _ | i
    ·cases ho
     intro fu act u hW hB hsz hL hdep
     replace hB := hB [] (fun j hj hd k hk => by
      by_cases xz : j = 11
      ·subst xz; exact (depT_no hd (by kernel_rfl)).elim
      rw [if_neg xz] at hk; cases hk)
     have x0 : act.tmps.getD 0 undef = (.pointer (some ⟨m, 0, none⟩) : Value) := (hL.2.2 0 (no_dst (by kernel_rfl))).trans rfl
     clear hdep hL
     refine wpOp_step rfl (fun K hK => ?_)
     go_simp
     exact hK _ _ ⟨_, rfl, (fun h => by cases h), (by first | rfl | (exact congrArg (Value.int .i64) (by rw [IntWalk.i64_left, IntWalk.wrap64_in _ (by omega)])) | simp), But.refl _ _, trivial⟩
    ·cases ho
     intro fu act u hW hB hsz hL hdep
     replace hB := hB [] (fun j hj hd k hk => by
      by_cases xz : j = 11
      ·subst xz; exact (depT_no hd (by kernel_rfl)).elim
      rw [if_neg xz] at hk; cases hk)
     have x4 : act.tmps.getD 4 undef = (.int .i64 AT0 : Value) := (hL.2.2 4 (no_dst (by kernel_rfl))).trans rfl
     clear hdep hL
     refine wpOp_step rfl (fun K hK => ?_)
     go_simp
     exact hK _ _ ⟨_, rfl, (fun h => by cases h), (by first | rfl | (exact congrArg (Value.int .i64) (by rw [IntWalk.i64_left, IntWalk.wrap64_in _ (by omega)])) | simp), But.refl _ _, trivial⟩
    ·cases ho
     intro fu act u hW hB hsz hL hdep
     replace hB := hB [] (fun j hj hd k hk => by
      by_cases xz : j = 11
      ·subst xz; exact (depT_no hd (by kernel_rfl)).elim
      rw [if_neg xz] at hk; cases hk)
     have x0 : act.tmps.getD 0 undef = (.pointer (some ⟨m, 0, none⟩) : Value) := (hL.2.2 0 (no_dst (by kernel_rfl))).trans rfl
     clear hdep hL
     refine wpOp_step rfl (fun K hK => ?_)
     go_simp
     exact hK _ _ ⟨_, rfl, (fun h => by cases h), (by first | rfl | (exact congrArg (Value.int .i64) (by rw [IntWalk.i64_left, IntWalk.wrap64_in _ (by omega)])) | simp), But.refl _ _, trivial⟩
    ·cases ho
     intro fu act u hW hB hsz hL hdep
     replace hB := hB [] (fun j hj hd k hk => by
      by_cases xz : j = 11
      ·subst xz; exact (depT_no hd (by kernel_rfl)).elim
      rw [if_neg xz] at hk; cases hk)
     have e2 : act.tmps.getD 22 undef = (.pointer (some ⟨m, 0, none⟩) : Value) := hdep { on := 2, ground := .data } (by simp) rfl _ rfl
     clear hdep hL
     refine wpOp_step rfl (fun K hK => ?_)
     go_simp
     exact hK _ _ ⟨_, rfl, (fun h => by cases h), (by first | rfl | (exact congrArg (Value.int .i64) (by rw [IntWalk.i64_left, IntWalk.wrap64_in _ (by omega)])) | simp), But.refl _ _, trivial⟩
    ·cases ho
     intro fu act u hW hB hsz hL hdep
     replace hB := hB [] (fun j hj hd k hk => by
      by_cases xz : j = 11
      ·subst xz; exact (depT_no hd (by kernel_rfl)).elim
      rw [if_neg xz] at hk; cases hk)
     have e3 : act.tmps.getD 23 undef = (.pointer (some ⟨m, 0, none⟩) : Value) := hdep { on := 3, ground := .data } (by simp) rfl _ rfl
     clear hdep hL
     refine wpOp_step rfl (fun K hK => ?_)
     go_simp
     exact hK _ _ ⟨_, rfl, (fun h => by cases h), (by first | rfl | (exact congrArg (Value.int .i64) (by rw [IntWalk.i64_left, IntWalk.wrap64_in _ (by omega)])) | simp), But.refl _ _, trivial⟩
    ·cases ho
     intro fu act u hW hB hsz hL hdep
     replace hB := hB [] (fun j hj hd k hk => by
      by_cases xz : j = 11
      ·subst xz; exact (depT_no hd (by kernel_rfl)).elim
      rw [if_neg xz] at hk; cases hk)
     have e4 : act.tmps.getD 24 undef = (.pointer (some ⟨m, 0, none⟩) : Value) := hdep { on := 4, ground := .data } (by simp) rfl _ rfl
     clear hdep hL
     refine wpOp_step rfl (fun K hK => ?_)
     go_simp
     exact hK _ _ ⟨_, rfl, (fun h => by cases h), (by first | rfl | (exact congrArg (Value.int .i64) (by rw [IntWalk.i64_left, IntWalk.wrap64_in _ (by omega)])) | simp), But.refl _ _, trivial⟩
    ·cases ho
     intro fu act u hW hB hsz hL hdep
     replace hB := hB [] (fun j hj hd k hk => by
      by_cases xz : j = 11
      ·subst xz; exact (depT_no hd (by kernel_rfl)).elim
      rw [if_neg xz] at hk; cases hk)
     have e5 : act.tmps.getD 25 undef = (.pointer (some ⟨m, 1, none⟩) : Value) := hdep { on := 5, ground := .data } (by simp) rfl _ rfl
     clear hdep hL
     have hm := HM.out.but hB (by simp) (by simp) (by simp) (by simp)
     have c := hm.cel 1 (by decide)
     simp only [mCells, List.getElem?_cons_succ, List.getElem?_cons_zero] at c
     clear hm
     refine wpOp_step rfl (fun K hK => ?_)
     go_simp
     exact hK _ _ ⟨_, rfl, (fun h => by cases h), (by first | rfl | (exact congrArg (Value.int .i64) (by rw [IntWalk.i64_left, IntWalk.wrap64_in _ (by omega)])) | simp), But.refl _ _, trivial⟩
    ·cases ho
     intro fu act u hW hB hsz hL hdep
     replace hB := hB [] (fun j hj hd k hk => by
      by_cases xz : j = 11
      ·subst xz; exact (depT_no hd (by kernel_rfl)).elim
      rw [if_neg xz] at hk; cases hk)
     have x3 : act.tmps.getD 3 undef = (.pointer (some ⟨X, 0, none⟩) : Value) := (hL.2.2 3 (no_dst (by kernel_rfl))).trans rfl
     clear hdep hL
     refine wpOp_step rfl (fun K hK => ?_)
     go_simp
     exact hK _ _ ⟨_, rfl, (fun h => by cases h), (by first | rfl | (exact congrArg (Value.int .i64) (by rw [IntWalk.i64_left, IntWalk.wrap64_in _ (by omega)])) | simp), But.refl _ _, trivial⟩
    ·cases ho
     intro fu act u hW hB hsz hL hdep
     replace hB := hB [] (fun j hj hd k hk => by
      by_cases xz : j = 11
      ·subst xz; exact (depT_no hd (by kernel_rfl)).elim
      rw [if_neg xz] at hk; cases hk)
     have e7 : act.tmps.getD 27 undef = (.pointer (some ⟨X, 3, none⟩) : Value) := hdep { on := 7, ground := .data } (by simp) rfl _ rfl
     clear hdep hL
     have c := (HX.out.but hB (by simp)).c3
     refine wpOp_step rfl (fun K hK => ?_)
     go_simp
     exact hK _ _ ⟨_, rfl, (fun h => by cases h), (by first | rfl | (exact congrArg (Value.int .i64) (by rw [IntWalk.i64_left, IntWalk.wrap64_in _ (by omega)])) | simp), But.refl _ _, trivial⟩
    ·cases ho
     intro fu act u hW hB hsz hL hdep
     replace hB := hB [] (fun j hj hd k hk => by
      by_cases xz : j = 11
      ·subst xz; exact (depT_no hd (by kernel_rfl)).elim
      rw [if_neg xz] at hk; cases hk)
     have e6 : act.tmps.getD 26 undef = (.slice (some ⟨gr, 0, none⟩) 8 cr : Value) := hdep { on := 6, ground := .data } (by simp) rfl _ rfl
     have e8 : act.tmps.getD 28 undef = (.int .i64 b : Value) := hdep { on := 8, ground := .data } (by simp) rfl _ rfl
     clear hdep hL
     have ix0 : 0 ≤ b := by omega
     have ix1 : b < 8 := by omega
     refine wpOp_step rfl (fun K hK => ?_)
     go_simp
     exact hK _ _ ⟨_, rfl, (fun h => by cases h), (by first | rfl | (exact congrArg (Value.int .i64) (by rw [IntWalk.i64_left, IntWalk.wrap64_in _ (by omega)])) | simp), But.refl _ _, trivial⟩
    ·cases ho
     intro fu act u hW hB hsz hL hdep
     replace hB := hB [] (fun j hj hd k hk => by
      by_cases xz : j = 11
      ·subst xz; exact (depT_no hd (by kernel_rfl)).elim
      rw [if_neg xz] at hk; cases hk)
     have e9 : act.tmps.getD 29 undef = (.pointer (some ⟨gr, b.toNat, none⟩) : Value) := hdep { on := 9, ground := .data } (by simp) rfl _ rfl
     clear hdep hL
     have hm := HM.out.but hB (by simp) (by simp) (by simp) (by simp)
     have c := hm.ow.R.cel (b.toNat) (by have h1 := HK.out.Rl; have h2 := HK.out.Cl; have h3 := HK.out.Ml; omega)
     clear hm
     rw [hvb] at c
     refine wpOp_step rfl (fun K hK => ?_)
     go_simp
     exact hK _ _ ⟨_, rfl, (fun h => by cases h), (by first | rfl | (exact congrArg (Value.int .i64) (by rw [IntWalk.i64_left, IntWalk.wrap64_in _ (by omega)])) | simp), But.refl _ _, trivial⟩
    ·cases ho
     intro fu act u hW hB hsz hL hdep
     replace hB := hB [] (fun j hj hd k hk => by
      rw [if_neg hj] at hk; cases hk)
     have e0 : act.tmps.getD 20 undef = (.pointer (some ⟨m, 0, none⟩) : Value) := hdep { on := 0, ground := .data } (by simp) rfl _ rfl
     have e1 : act.tmps.getD 21 undef = (.int .i64 AT0 : Value) := hdep { on := 1, ground := .data } (by simp) rfl _ rfl
     have e10 : act.tmps.getD 30 undef = (.int .i64 vb : Value) := hdep { on := 10, ground := .data } (by simp) rfl _ rfl
     have hdf := Lib.hid (show act.defers = [] from hL.1)
     clear hdep hL
     refine wpOp_step rfl (fun K hK => ?_)
     go_simp
     refine (impl_write u m gr gc gm cr cc cm s e (nx s) AT0 vb (HM.out.but hB (by simp) (by simp) (by simp) (by simp)) HK.out.Ml (by omega) (by omega)).mono ?_
     rintro r u' ⟨rfl, hM', hB'⟩
     go_simp
     exact hK _ _ ⟨_, rfl, (fun h => by cases h), ⟨rfl, hM'⟩, hB', trivial⟩
    ·exact absurd ho (by simp)
   case fin =>
    intro act u hW hsz hB hL hsf
    replace hB := hB [m, gm] (fun j k hk => by
     by_cases yz : j = 11
     ·rw [if_pos yz] at hk; exact hk
     rw [if_neg yz] at hk
     cases hk)
    have d11 := hsf 11 _ rfl
    obtain ⟨ysl, ha, hy⟩ := hL.puts [20, 21, 22, 23, 24, 25, 26, 27, 28, 29, 30, 31] (by kernel_rfl)
    clear hL hsf hy
    simp only [List.foldl, List.setIfInBounds_toArray, List.set_cons_succ, List.set_cons_zero] at ha
    subst ha
    obtain ⟨_, hM'⟩ := d11
    go_wp2_with fail
    (first | refine bodyPost_end (results_none rfl _ _ _) rfl ?_ | refine bodyPost_ret (results_none rfl _ _ _) rfl ?_)
    exact ⟨rfl, hM', (((But.of HF.out).trans (hB.up (fun k hk => by simp at hk ⊢; omega))))⟩

end Go.Proofs.YtbjapncfgancoaaDoor
