/- GueNext, of the program and of the model. -/
import Derived.Test.YtpdlcjjmhcfkjaaDoorGn
namespace Go.Proofs.YtpdlcjjmhcfkjaaDoor
open Go.RowKit
set_option linter.unusedVariables false
set_option linter.unusedSimpArgs false
theorem Box.fr5 {w w' : World} {g : Nat} {k d a b f n : Int} (h : Box w g k d a b f n) (hb : Fr w w') : Box w' g k d a b f n := h.below hb h.lt
set_option maxRecDepth 8000 in
set_option maxHeartbeats 4000000 in
theorem impl_GueNext_ok (x : Gu) (aS aC : Option Addr) (cS cC : Nat) (pc m : Int) (w : World) (hT : Tabs w) (h : Src4 w x.S aS) (hc : Src w x.C.length (ivl x.C) aC) (ho : OkG x) (hp : okB pc = true) (hm : okB m = true) :
    Calls Tryd.prog 11 #[.agg #[.slice aS x.S.length cS, .slice aC x.C.length cC], .int .i64 pc, .int .i64 m] w fun e w' => e = .returned (.int .i64 (nextG x pc m)) ∧ Fr w w' := by
  obtain ⟨b0, b1⟩ := okB_true hp
  have hN : -256 ≤ rI m (rdv m 4) ∧ rI m (rdv m 4) ≤ 511 := kN_bd m
  have ER := fun w (ht : Tabs w) => impl_CodRead m w ht
  simp only [rV] at ER
  have HS := Lib.hid h
  have HC := Lib.hid hc
  have HO := Lib.hid ho
  have HTb := Lib.hid hT
  unfold nextG kK kD kN
  generalize rI m (m / 4096) = k at *
  generalize rI m (rdv m 0) = d at *
  generalize rI m (rdv m 4) = n at *
  generalize rI m (rdv m 1) = a at *
  generalize rI m (rdv m 2) = b at *
  generalize rI m (rdv m 3) = f at *
  generalize gd m = gm at *
  obtain ⟨p1, h1⟩ : ∃ p, topP x.C k d = p := ⟨_, rfl⟩
  obtain ⟨p2, h2⟩ : ∃ p, tgtP pc k n = p := ⟨_, rfl⟩
  obtain ⟨p3, h3⟩ : ∃ p, prdP (x.S.getD (ix pc) sl0) pc = p := ⟨_, rfl⟩
  unfold nextK
  rw [h1, h2, h3]
  obtain ⟨z, hz⟩ : ∃ z, (if (orP (orP p1 p2) p3).2 = true then (orP (orP p1 p2) p3).1 else (pc + 1) % 65536) = z := ⟨_, rfl⟩
  rw [hz]
  have HZ := Lib.hid hz
  have ET := fun u (fu : Fr w u) => impl_topOf x.C aC cC k d a b f n u (HC.out.fr fu) (by have := HO.out.Cl; omega)
  have EG := fun u => impl_targetOf pc k d a b f n u b0 b1 hN.1 hN.2
  have EP := fun u => impl_slots_predict x.S pc u HO.out.Sl b0
  have ES := fun u (fu : Fr w u) => impl_slotsOf x aS aC cS cC u (HS.out.fr fu) HO.out.Sl
  rw [h1] at ET
  rw [h2] at EG
  rw [h3] at EP
  have HT := Lib.hid ET
  have HG := Lib.hid EG
  have HPr := Lib.hid EP
  have HSo := Lib.hid ES
  have HER := Lib.hid ER
  have F1 := Fr.alloc w (.cells #[.slice aS x.S.length cS, .slice aC x.C.length cC] 30)
  have HF1 := Lib.hid F1
  have HB1 := Lib.hid (Box2.new w (.slice aS x.S.length cS) (.slice aC x.C.length cC) 30 _ rfl)
  have E1 := impl_GueOk x aS aC cS cC _ (h.fr F1) (hc.fr F1) (by have := ho.Sl; omega) (by have := ho.Cl; omega)
  rw [(okG_iff x).2 ho] at E1
  have W1 := fun w => impl_WrdOk pc w
  have W2 := fun w => impl_WrdOk m w
  rw [hp] at W1
  rw [hm] at W2
  have HE1 := Lib.hid E1
  have HW1 := Lib.hid W1
  have HW2 := Lib.hid W2
  clear ET EG EP ES ER h1 h2 h3 hz E1 W1 W2 h hc ho hT hp hm F1 hN
  go_enter Tryd.func11, Tryd.ntmps11
  go_upto_region 1 with fail
  generalize (w.alloc (.cells #[.slice aS x.S.length cS, .slice aC x.C.length cC] 30)) = u2 at *
  obtain ⟨_, c0, c1, _, _⟩ := HB1.out
  go_wp2_with fail
  refine HE1.out.mono ?_
  rintro e u3 ⟨rfl, f3⟩
  have HF3 := Lib.hid (HF1.out.trans f3)
  have HB3 := Lib.hid (HB1.out.fr f3)
  clear HF1 HB1 f3 c0 c1 HE1
  go_wp2_with fail
  refine (HW1.out _).mono ?_
  rintro e u3' ⟨rfl, rfl⟩
  go_wp2_with fail
  refine (HW2.out _).mono ?_
  rintro e u3' ⟨rfl, rfl⟩
  go_wp2_with fail
  refine (HER.out _ (HTb.out.fr HF3.out)).mono ?_
  rintro e u4 ⟨rfl, f4⟩
  have HF4 := Lib.hid (HF3.out.trans f4)
  have HB4 := Lib.hid (HB3.out.fr f4)
  clear HF3 HB3 f4 HER HW1 HW2
  go_upto_region 4 with fail
  have HI : Hid (Box (u4.alloc (.cells #[.int .i64 k, .int .i64 d, .int .i64 a, .int .i64 b, .int .i64 f, .int .i64 n] 43)) u4.heap.size k d a b f n) := Lib.hid ⟨(alloc_at u4 _ _ _ rfl 0).1, (alloc_at u4 _ _ _ rfl 1).1, (alloc_at u4 _ _ _ rfl 2).1, (alloc_at u4 _ _ _ rfl 3).1, (alloc_at u4 _ _ _ rfl 4).1, (alloc_at u4 _ _ _ rfl 5).1⟩
  have HF := Lib.hid (HF4.out.trans (Fr.alloc u4 (.cells #[.int .i64 k, .int .i64 d, .int .i64 a, .int .i64 b, .int .i64 f, .int .i64 n] 43)))
  have HB := Lib.hid (HB4.out.fr (Fr.alloc u4 (.cells #[.int .i64 k, .int .i64 d, .int .i64 a, .int .i64 b, .int .i64 f, .int .i64 n] 43)))
  clear HF4 HB4
  generalize (u4.alloc (.cells #[.int .i64 k, .int .i64 d, .int .i64 a, .int .i64 b, .int .i64 f, .int .i64 n] 43)) = u0 at *
  refine wp_region_plan 0 44 (fun _ u => Fr u0 u) (fun i v _ => v = ([.pointer (some ⟨w.heap.size, 1, none⟩), .slice aC x.C.length cC, .agg #[.int .i64 k, .int .i64 d, .int .i64 a, .int .i64 b, .int .i64 f, .int .i64 n], pv p1, .int .i64 pc, .agg #[.int .i64 k, .int .i64 d, .int .i64 a, .int .i64 b, .int .i64 f, .int .i64 n], pv p2, pv (orP p1 p2), .agg #[.slice aS x.S.length cS, .slice aC x.C.length cC], .agg (cls x.S).toArray, .int .i64 pc, pv p3, pv (orP (orP p1 p2) p3), .int .i64 pc, .int .i64 (pc + 1), .int .i64 ((pc + 1) % 65536), .int .i64 z, .int .i64 z] : List Value).getD i undef) (by kernel_rfl) (by kernel_rfl) rfl (by kernel_rfl) (fun _ _ _ _ h _ => h) (Below.drew (Below.refl _ _)) ?step ?fin
  case step =>
    intro i o ho
    rcases i with _ | _ | _ | _ | _ | _ | _ | _ | _ | _ | _ | _ | _ | _ | _ | _ | _ | _ | i
    · cases ho
      intro fu act u hW hsz hL hdep
      obtain ⟨ysl, ha, hy⟩ := hL.puts [27, 28, 29, 30, 31, 32, 33, 34, 35, 36, 37, 38, 39, 40, 41, 42, 43, 6] (by kernel_rfl)
      clear hdep hL hy
      simp only [List.foldl, List.setIfInBounds_toArray, List.set_cons_succ, List.set_cons_zero] at ha
      subst ha
      refine wpOp_step rfl (fun K hK => ?_)
      go_simp
      exact hK _ _ ⟨_, rfl, (by first | rfl | simp), grown_refl _ _, hW⟩
    · cases ho
      intro fu act u hW hsz hL hdep
      have d0 : _ = (.pointer (some ⟨w.heap.size, 1, none⟩) : Value) := hdep { on := 0, ground := .data } (by simp) rfl _ rfl
      obtain ⟨ysl, ha, hy⟩ := hL.puts [27, 28, 29, 30, 31, 32, 33, 34, 35, 36, 37, 38, 39, 40, 41, 42, 43, 6] (by kernel_rfl)
      have e0 : ysl 27 = (.pointer (some ⟨w.heap.size, 1, none⟩) : Value) := (hy 27).symm.trans d0
      clear hdep hL hy d0
      simp only [List.foldl, List.setIfInBounds_toArray, List.set_cons_succ, List.set_cons_zero, e0] at ha
      subst ha
      clear e0
      obtain ⟨_, c0, c1, _, _⟩ := HB.out.fr hW
      refine wpOp_step rfl (fun K hK => ?_)
      go_simp
      exact hK _ _ ⟨_, rfl, (by first | rfl | simp), grown_refl _ _, hW⟩
    · cases ho
      intro fu act u hW hsz hL hdep
      obtain ⟨ysl, ha, hy⟩ := hL.puts [27, 28, 29, 30, 31, 32, 33, 34, 35, 36, 37, 38, 39, 40, 41, 42, 43, 6] (by kernel_rfl)
      clear hdep hL hy
      simp only [List.foldl, List.setIfInBounds_toArray, List.set_cons_succ, List.set_cons_zero] at ha
      subst ha
      obtain ⟨i0, i1, i2, i3, i4, i5⟩ := (HI.out.fr5 hW)
      refine wpOp_step rfl (fun K hK => ?_)
      go_simp
      exact hK _ _ ⟨_, rfl, (by first | rfl | simp), grown_refl _ _, hW⟩
    · cases ho
      intro fu act u hW hsz hL hdep
      have d1 : _ = (.slice aC x.C.length cC : Value) := hdep { on := 1, ground := .data } (by simp) rfl _ rfl
      have d2 : _ = (.agg #[.int .i64 k, .int .i64 d, .int .i64 a, .int .i64 b, .int .i64 f, .int .i64 n] : Value) := hdep { on := 2, ground := .data } (by simp) rfl _ rfl
      obtain ⟨ysl, ha, hy⟩ := hL.puts [27, 28, 29, 30, 31, 32, 33, 34, 35, 36, 37, 38, 39, 40, 41, 42, 43, 6] (by kernel_rfl)
      have e1 : ysl 28 = (.slice aC x.C.length cC : Value) := (hy 28).symm.trans d1
      have e2 : ysl 29 = (.agg #[.int .i64 k, .int .i64 d, .int .i64 a, .int .i64 b, .int .i64 f, .int .i64 n] : Value) := (hy 29).symm.trans d2
      clear hdep hL hy d1 d2
      simp only [List.foldl, List.setIfInBounds_toArray, List.set_cons_succ, List.set_cons_zero, e1, e2] at ha
      subst ha
      clear e1 e2
      refine wpOp_step rfl (fun K hK => ?_)
      go_simp
      refine (HT.out u (HF.out.trans hW)).mono ?_
      rintro e u' ⟨rfl, fu2⟩
      go_simp
      exact hK _ _ ⟨_, rfl, (by first | rfl | simp), fr_grown fu2, Fr.trans hW fu2⟩
    · cases ho
      intro fu act u hW hsz hL hdep
      obtain ⟨ysl, ha, hy⟩ := hL.puts [27, 28, 29, 30, 31, 32, 33, 34, 35, 36, 37, 38, 39, 40, 41, 42, 43, 6] (by kernel_rfl)
      clear hdep hL hy
      simp only [List.foldl, List.setIfInBounds_toArray, List.set_cons_succ, List.set_cons_zero] at ha
      subst ha
      refine wpOp_step rfl (fun K hK => ?_)
      go_simp
      exact hK _ _ ⟨_, rfl, (by first | rfl | simp), grown_refl _ _, hW⟩
    · cases ho
      intro fu act u hW hsz hL hdep
      obtain ⟨ysl, ha, hy⟩ := hL.puts [27, 28, 29, 30, 31, 32, 33, 34, 35, 36, 37, 38, 39, 40, 41, 42, 43, 6] (by kernel_rfl)
      clear hdep hL hy
      simp only [List.foldl, List.setIfInBounds_toArray, List.set_cons_succ, List.set_cons_zero] at ha
      subst ha
      obtain ⟨i0, i1, i2, i3, i4, i5⟩ := (HI.out.fr5 hW)
      refine wpOp_step rfl (fun K hK => ?_)
      go_simp
      exact hK _ _ ⟨_, rfl, (by first | rfl | simp), grown_refl _ _, hW⟩
    · cases ho
      intro fu act u hW hsz hL hdep
      have d4 : _ = (.int .i64 pc : Value) := hdep { on := 4, ground := .data } (by simp) rfl _ rfl
      have d5 : _ = (.agg #[.int .i64 k, .int .i64 d, .int .i64 a, .int .i64 b, .int .i64 f, .int .i64 n] : Value) := hdep { on := 5, ground := .data } (by simp) rfl _ rfl
      obtain ⟨ysl, ha, hy⟩ := hL.puts [27, 28, 29, 30, 31, 32, 33, 34, 35, 36, 37, 38, 39, 40, 41, 42, 43, 6] (by kernel_rfl)
      have e4 : ysl 31 = (.int .i64 pc : Value) := (hy 31).symm.trans d4
      have e5 : ysl 32 = (.agg #[.int .i64 k, .int .i64 d, .int .i64 a, .int .i64 b, .int .i64 f, .int .i64 n] : Value) := (hy 32).symm.trans d5
      clear hdep hL hy d4 d5
      simp only [List.foldl, List.setIfInBounds_toArray, List.set_cons_succ, List.set_cons_zero, e4, e5] at ha
      subst ha
      clear e4 e5
      refine wpOp_step rfl (fun K hK => ?_)
      go_simp
      refine (HG.out u).mono ?_
      rintro e u' ⟨rfl, fu2⟩
      go_simp
      exact hK _ _ ⟨_, rfl, (by first | rfl | simp), fr_grown fu2, Fr.trans hW fu2⟩
    · cases ho
      intro fu act u hW hsz hL hdep
      have d3 : _ = (pv p1 : Value) := hdep { on := 3, ground := .data } (by simp) rfl _ rfl
      have d6 : _ = (pv p2 : Value) := hdep { on := 6, ground := .data } (by simp) rfl _ rfl
      obtain ⟨ysl, ha, hy⟩ := hL.puts [27, 28, 29, 30, 31, 32, 33, 34, 35, 36, 37, 38, 39, 40, 41, 42, 43, 6] (by kernel_rfl)
      have e3 : ysl 30 = (pv p1 : Value) := (hy 30).symm.trans d3
      have e6 : ysl 33 = (pv p2 : Value) := (hy 33).symm.trans d6
      clear hdep hL hy d3 d6
      simp only [List.foldl, List.setIfInBounds_toArray, List.set_cons_succ, List.set_cons_zero, e3, e6] at ha
      subst ha
      clear e3 e6
      refine wpOp_step rfl (fun K hK => ?_)
      go_simp
      refine (impl_or p1 p2 u).mono ?_
      rintro e u' ⟨rfl, fu2⟩
      go_simp
      exact hK _ _ ⟨_, rfl, (by first | rfl | simp), fr_grown fu2, Fr.trans hW fu2⟩
    · cases ho
      intro fu act u hW hsz hL hdep
      obtain ⟨ysl, ha, hy⟩ := hL.puts [27, 28, 29, 30, 31, 32, 33, 34, 35, 36, 37, 38, 39, 40, 41, 42, 43, 6] (by kernel_rfl)
      clear hdep hL hy
      simp only [List.foldl, List.setIfInBounds_toArray, List.set_cons_succ, List.set_cons_zero] at ha
      subst ha
      obtain ⟨_, c0, c1, _, _⟩ := HB.out.fr hW
      refine wpOp_step rfl (fun K hK => ?_)
      go_simp
      exact hK _ _ ⟨_, rfl, (by first | rfl | simp), grown_refl _ _, hW⟩
    · cases ho
      intro fu act u hW hsz hL hdep
      have d8 : _ = (.agg #[.slice aS x.S.length cS, .slice aC x.C.length cC] : Value) := hdep { on := 8, ground := .data } (by simp) rfl _ rfl
      obtain ⟨ysl, ha, hy⟩ := hL.puts [27, 28, 29, 30, 31, 32, 33, 34, 35, 36, 37, 38, 39, 40, 41, 42, 43, 6] (by kernel_rfl)
      have e8 : ysl 35 = (.agg #[.slice aS x.S.length cS, .slice aC x.C.length cC] : Value) := (hy 35).symm.trans d8
      clear hdep hL hy d8
      simp only [List.foldl, List.setIfInBounds_toArray, List.set_cons_succ, List.set_cons_zero, e8] at ha
      subst ha
      clear e8
      refine wpOp_step rfl (fun K hK => ?_)
      go_simp
      refine (HSo.out u (HF.out.trans hW)).mono ?_
      rintro e u' ⟨rfl, fu2⟩
      go_simp
      exact hK _ _ ⟨_, rfl, (by first | rfl | simp), fr_grown fu2, Fr.trans hW fu2⟩
    · cases ho
      intro fu act u hW hsz hL hdep
      obtain ⟨ysl, ha, hy⟩ := hL.puts [27, 28, 29, 30, 31, 32, 33, 34, 35, 36, 37, 38, 39, 40, 41, 42, 43, 6] (by kernel_rfl)
      clear hdep hL hy
      simp only [List.foldl, List.setIfInBounds_toArray, List.set_cons_succ, List.set_cons_zero] at ha
      subst ha
      refine wpOp_step rfl (fun K hK => ?_)
      go_simp
      exact hK _ _ ⟨_, rfl, (by first | rfl | simp), grown_refl _ _, hW⟩
    · cases ho
      intro fu act u hW hsz hL hdep
      have d9 : _ = (.agg (cls x.S).toArray : Value) := hdep { on := 9, ground := .data } (by simp) rfl _ rfl
      have d10 : _ = (.int .i64 pc : Value) := hdep { on := 10, ground := .data } (by simp) rfl _ rfl
      obtain ⟨ysl, ha, hy⟩ := hL.puts [27, 28, 29, 30, 31, 32, 33, 34, 35, 36, 37, 38, 39, 40, 41, 42, 43, 6] (by kernel_rfl)
      have e9 : ysl 36 = (.agg (cls x.S).toArray : Value) := (hy 36).symm.trans d9
      have e10 : ysl 37 = (.int .i64 pc : Value) := (hy 37).symm.trans d10
      clear hdep hL hy d9 d10
      simp only [List.foldl, List.setIfInBounds_toArray, List.set_cons_succ, List.set_cons_zero, e9, e10] at ha
      subst ha
      clear e9 e10
      refine wpOp_step rfl (fun K hK => ?_)
      go_simp
      refine (HPr.out u).mono ?_
      rintro e u' ⟨rfl, fu2⟩
      go_simp
      exact hK _ _ ⟨_, rfl, (by first | rfl | simp), fr_grown fu2, Fr.trans hW fu2⟩
    · cases ho
      intro fu act u hW hsz hL hdep
      have d7 : _ = (pv (orP p1 p2) : Value) := hdep { on := 7, ground := .data } (by simp) rfl _ rfl
      have d11 : _ = (pv p3 : Value) := hdep { on := 11, ground := .data } (by simp) rfl _ rfl
      obtain ⟨ysl, ha, hy⟩ := hL.puts [27, 28, 29, 30, 31, 32, 33, 34, 35, 36, 37, 38, 39, 40, 41, 42, 43, 6] (by kernel_rfl)
      have e7 : ysl 34 = (pv (orP p1 p2) : Value) := (hy 34).symm.trans d7
      have e11 : ysl 38 = (pv p3 : Value) := (hy 38).symm.trans d11
      clear hdep hL hy d7 d11
      simp only [List.foldl, List.setIfInBounds_toArray, List.set_cons_succ, List.set_cons_zero, e7, e11] at ha
      subst ha
      clear e7 e11
      refine wpOp_step rfl (fun K hK => ?_)
      go_simp
      refine (impl_or (orP p1 p2) p3 u).mono ?_
      rintro e u' ⟨rfl, fu2⟩
      go_simp
      exact hK _ _ ⟨_, rfl, (by first | rfl | simp), fr_grown fu2, Fr.trans hW fu2⟩
    · cases ho
      intro fu act u hW hsz hL hdep
      obtain ⟨ysl, ha, hy⟩ := hL.puts [27, 28, 29, 30, 31, 32, 33, 34, 35, 36, 37, 38, 39, 40, 41, 42, 43, 6] (by kernel_rfl)
      clear hdep hL hy
      simp only [List.foldl, List.setIfInBounds_toArray, List.set_cons_succ, List.set_cons_zero] at ha
      subst ha
      refine wpOp_step rfl (fun K hK => ?_)
      go_simp
      exact hK _ _ ⟨_, rfl, (by first | rfl | simp), grown_refl _ _, hW⟩
    · cases ho
      intro fu act u hW hsz hL hdep
      have d13 : _ = (.int .i64 pc : Value) := hdep { on := 13, ground := .data } (by simp) rfl _ rfl
      obtain ⟨ysl, ha, hy⟩ := hL.puts [27, 28, 29, 30, 31, 32, 33, 34, 35, 36, 37, 38, 39, 40, 41, 42, 43, 6] (by kernel_rfl)
      have e13 : ysl 40 = (.int .i64 pc : Value) := (hy 40).symm.trans d13
      clear hdep hL hy d13
      simp only [List.foldl, List.setIfInBounds_toArray, List.set_cons_succ, List.set_cons_zero, e13] at ha
      subst ha
      clear e13
      refine wpOp_step rfl (fun K hK => ?_)
      go_simp
      exact hK _ _ ⟨_, rfl, (by simp; exact IntWalk.i64_in (pc + 1) (by omega)), grown_refl _ _, hW⟩
    · cases ho
      intro fu act u hW hsz hL hdep
      have d14 : _ = (.int .i64 (pc + 1) : Value) := hdep { on := 14, ground := .data } (by simp) rfl _ rfl
      obtain ⟨ysl, ha, hy⟩ := hL.puts [27, 28, 29, 30, 31, 32, 33, 34, 35, 36, 37, 38, 39, 40, 41, 42, 43, 6] (by kernel_rfl)
      have e14 : ysl 41 = (.int .i64 (pc + 1) : Value) := (hy 41).symm.trans d14
      clear hdep hL hy d14
      simp only [List.foldl, List.setIfInBounds_toArray, List.set_cons_succ, List.set_cons_zero, e14] at ha
      subst ha
      clear e14
      refine wpOp_step rfl (fun K hK => ?_)
      go_simp
      refine (impl_wrapped5 _ u (by omega) (by omega)).mono ?_
      rintro e u' ⟨rfl, rfl⟩
      go_simp
      exact hK _ _ ⟨_, rfl, (by first | rfl | simp), grown_refl _ _, hW⟩
    · cases ho
      intro fu act u hW hsz hL hdep
      have d12 : _ = (pv (orP (orP p1 p2) p3) : Value) := hdep { on := 12, ground := .data } (by simp) rfl _ rfl
      have d15 : _ = (.int .i64 ((pc + 1) % 65536) : Value) := hdep { on := 15, ground := .data } (by simp) rfl _ rfl
      obtain ⟨ysl, ha, hy⟩ := hL.puts [27, 28, 29, 30, 31, 32, 33, 34, 35, 36, 37, 38, 39, 40, 41, 42, 43, 6] (by kernel_rfl)
      have e12 : ysl 39 = (pv (orP (orP p1 p2) p3) : Value) := (hy 39).symm.trans d12
      have e15 : ysl 42 = (.int .i64 ((pc + 1) % 65536) : Value) := (hy 42).symm.trans d15
      clear hdep hL hy d12 d15
      simp only [List.foldl, List.setIfInBounds_toArray, List.set_cons_succ, List.set_cons_zero, e12, e15] at ha
      subst ha
      clear e12 e15
      refine wpOp_step rfl (fun K hK => ?_)
      go_simp
      have EO := impl_otherwise (orP (orP p1 p2) p3) ((pc + 1) % 65536) u
      rw [HZ.out] at EO
      refine EO.mono ?_
      rintro e u' ⟨rfl, fu2⟩
      go_simp
      exact hK _ _ ⟨_, rfl, (by first | rfl | simp), fr_grown fu2, Fr.trans hW fu2⟩
    · cases ho
      intro fu act u hW hsz hL hdep
      have d16 : _ = (.int .i64 z : Value) := hdep { on := 16, ground := .data } (by simp) rfl _ rfl
      obtain ⟨ysl, ha, hy⟩ := hL.puts [27, 28, 29, 30, 31, 32, 33, 34, 35, 36, 37, 38, 39, 40, 41, 42, 43, 6] (by kernel_rfl)
      have e16 : ysl 43 = (.int .i64 z : Value) := (hy 43).symm.trans d16
      clear hdep hL hy d16
      simp only [List.foldl, List.setIfInBounds_toArray, List.set_cons_succ, List.set_cons_zero, e16] at ha
      subst ha
      clear e16
      refine wpOp_step rfl (fun K hK => ?_)
      go_simp
      exact hK _ _ ⟨_, rfl, (by first | rfl | simp), grown_refl _ _, hW⟩
    · exact absurd ho (by simp)
  case fin =>
    intro fu act u hW hg hL hF
    have d17 : _ = (.int .i64 z : Value) := hF 17 _ rfl
    obtain ⟨ysl, ha, hy⟩ := hL.puts [27, 28, 29, 30, 31, 32, 33, 34, 35, 36, 37, 38, 39, 40, 41, 42, 43, 6] (by kernel_rfl)
    have e17 : ysl 6 = (.int .i64 z : Value) := (hy 6).symm.trans d17
    clear hL hF hy d17
    simp only [List.foldl, List.setIfInBounds_toArray, List.set_cons_succ, List.set_cons_zero, e17] at ha
    subst ha
    clear e17
    have HG2 := Lib.hid (HF.out.trans hW)
    clear hW hg
    go_wp2_with fail
    go_ret
    exact ⟨rfl, HG2.out⟩
set_option maxRecDepth 8000 in
set_option maxHeartbeats 1000000 in
theorem impl_GueNext_n1 (x : Gu) (aS aC : Option Addr) (cS cC : Nat) (pc m : Int) (w : World) (h : Src4 w x.S aS) (hc : Src w x.C.length (ivl x.C) aC) (hS : x.S.length ≤ 100000000) (hC : x.C.length ≤ 100000000) (h1 : okG x = false) :
    Calls Tryd.prog 11 #[.agg #[.slice aS x.S.length cS, .slice aC x.C.length cC], .int .i64 pc, .int .i64 m] w fun e w' => e = .returned (.int .i64 (-1)) ∧ Fr w w' := by
  have F1 := Fr.alloc w (.cells #[.slice aS x.S.length cS, .slice aC x.C.length cC] 30)
  have HF1 := Lib.hid F1
  have HB1 := Lib.hid (Box2.new w (.slice aS x.S.length cS) (.slice aC x.C.length cC) 30 _ rfl)
  have E1 := impl_GueOk x aS aC cS cC _ (h.fr F1) (hc.fr F1) hS hC
  have W1 := fun w => impl_WrdOk pc w
  have W2 := fun w => impl_WrdOk m w
  rw [h1] at E1
  have HE1 := Lib.hid E1
  have HW1 := Lib.hid W1
  have HW2 := Lib.hid W2
  clear F1 h hc hS hC E1 W1 W2 h1
  go_enter Tryd.func11, Tryd.ntmps11
  go_upto_region 1 with fail
  generalize (w.alloc (.cells #[.slice aS x.S.length cS, .slice aC x.C.length cC] 30)) = u2 at *
  obtain ⟨_, c0, c1, _, _⟩ := HB1.out
  go_wp2_with fail
  refine HE1.out.mono ?_
  rintro e u3 ⟨rfl, f3⟩
  have HF3 := Lib.hid (HF1.out.trans f3)
  clear HF1 HB1 f3 c0 c1 HE1
  go_wp2_with (first | (go_at_call 24; refine (HW1.out _).mono ?_; rintro e w' ⟨rfl, rfl⟩) | (go_at_call 24; refine (HW2.out _).mono ?_; rintro e w' ⟨rfl, rfl⟩))
  go_ret
  exact ⟨rfl, HF3.out⟩
set_option maxRecDepth 8000 in
set_option maxHeartbeats 1000000 in
theorem impl_GueNext_n2 (x : Gu) (aS aC : Option Addr) (cS cC : Nat) (pc m : Int) (w : World) (h : Src4 w x.S aS) (hc : Src w x.C.length (ivl x.C) aC) (hS : x.S.length ≤ 100000000) (hC : x.C.length ≤ 100000000) (h1 : okG x = true) (h2 : okB pc = false) :
    Calls Tryd.prog 11 #[.agg #[.slice aS x.S.length cS, .slice aC x.C.length cC], .int .i64 pc, .int .i64 m] w fun e w' => e = .returned (.int .i64 (-1)) ∧ Fr w w' := by
  have F1 := Fr.alloc w (.cells #[.slice aS x.S.length cS, .slice aC x.C.length cC] 30)
  have HF1 := Lib.hid F1
  have HB1 := Lib.hid (Box2.new w (.slice aS x.S.length cS) (.slice aC x.C.length cC) 30 _ rfl)
  have E1 := impl_GueOk x aS aC cS cC _ (h.fr F1) (hc.fr F1) hS hC
  have W1 := fun w => impl_WrdOk pc w
  have W2 := fun w => impl_WrdOk m w
  rw [h1] at E1
  rw [h2] at W1
  have HE1 := Lib.hid E1
  have HW1 := Lib.hid W1
  have HW2 := Lib.hid W2
  clear F1 h hc hS hC E1 W1 W2 h1 h2
  go_enter Tryd.func11, Tryd.ntmps11
  go_upto_region 1 with fail
  generalize (w.alloc (.cells #[.slice aS x.S.length cS, .slice aC x.C.length cC] 30)) = u2 at *
  obtain ⟨_, c0, c1, _, _⟩ := HB1.out
  go_wp2_with fail
  refine HE1.out.mono ?_
  rintro e u3 ⟨rfl, f3⟩
  have HF3 := Lib.hid (HF1.out.trans f3)
  clear HF1 HB1 f3 c0 c1 HE1
  go_wp2_with (first | (go_at_call 24; refine (HW1.out _).mono ?_; rintro e w' ⟨rfl, rfl⟩) | (go_at_call 24; refine (HW2.out _).mono ?_; rintro e w' ⟨rfl, rfl⟩))
  go_ret
  exact ⟨rfl, HF3.out⟩
set_option maxRecDepth 8000 in
set_option maxHeartbeats 1000000 in
theorem impl_GueNext_n3 (x : Gu) (aS aC : Option Addr) (cS cC : Nat) (pc m : Int) (w : World) (h : Src4 w x.S aS) (hc : Src w x.C.length (ivl x.C) aC) (hS : x.S.length ≤ 100000000) (hC : x.C.length ≤ 100000000) (h1 : okG x = true) (h2 : okB pc = true) (h3 : okB m = false) :
    Calls Tryd.prog 11 #[.agg #[.slice aS x.S.length cS, .slice aC x.C.length cC], .int .i64 pc, .int .i64 m] w fun e w' => e = .returned (.int .i64 (-1)) ∧ Fr w w' := by
  have F1 := Fr.alloc w (.cells #[.slice aS x.S.length cS, .slice aC x.C.length cC] 30)
  have HF1 := Lib.hid F1
  have HB1 := Lib.hid (Box2.new w (.slice aS x.S.length cS) (.slice aC x.C.length cC) 30 _ rfl)
  have E1 := impl_GueOk x aS aC cS cC _ (h.fr F1) (hc.fr F1) hS hC
  have W1 := fun w => impl_WrdOk pc w
  have W2 := fun w => impl_WrdOk m w
  rw [h1] at E1
  rw [h2] at W1
  rw [h3] at W2
  have HE1 := Lib.hid E1
  have HW1 := Lib.hid W1
  have HW2 := Lib.hid W2
  clear F1 h hc hS hC E1 W1 W2 h1 h2 h3
  go_enter Tryd.func11, Tryd.ntmps11
  go_upto_region 1 with fail
  generalize (w.alloc (.cells #[.slice aS x.S.length cS, .slice aC x.C.length cC] 30)) = u2 at *
  obtain ⟨_, c0, c1, _, _⟩ := HB1.out
  go_wp2_with fail
  refine HE1.out.mono ?_
  rintro e u3 ⟨rfl, f3⟩
  have HF3 := Lib.hid (HF1.out.trans f3)
  clear HF1 HB1 f3 c0 c1 HE1
  go_wp2_with (first | (go_at_call 24; refine (HW1.out _).mono ?_; rintro e w' ⟨rfl, rfl⟩) | (go_at_call 24; refine (HW2.out _).mono ?_; rintro e w' ⟨rfl, rfl⟩))
  go_ret
  exact ⟨rfl, HF3.out⟩
set_option maxRecDepth 8000 in
set_option maxHeartbeats 1000000 in
theorem spec_GueNext_n1 (x : Gu) (aS aC : Option Addr) (cS cC : Nat) (pc m : Int) (w : World) (h : Src4 w x.S aS) (hc : Src w x.C.length (ivl x.C) aC) (hS : x.S.length ≤ 100000000) (hC : x.C.length ≤ 100000000) (h1 : okG x = false) :
    Calls Tryd.prog 9 #[.agg #[.slice aS x.S.length cS, .slice aC x.C.length cC], .int .i64 pc, .int .i64 m] w fun e w' => e = .returned (.int .i64 (-1)) ∧ Fr w w' := by
  have F1 := Fr.alloc w (.cells #[.slice aS x.S.length cS, .slice aC x.C.length cC] 30)
  have HF1 := Lib.hid F1
  have HB1 := Lib.hid (Box2.new w (.slice aS x.S.length cS) (.slice aC x.C.length cC) 30 _ rfl)
  have E1 := spec_GueOk x aS aC cS cC _ (h.fr F1) (hc.fr F1) hS hC
  have W1 := fun w => spec_WrdOk pc w
  have W2 := fun w => spec_WrdOk m w
  rw [h1] at E1
  have HE1 := Lib.hid E1
  have HW1 := Lib.hid W1
  have HW2 := Lib.hid W2
  clear F1 h hc hS hC E1 W1 W2 h1
  go_enter Tryd.func9, Tryd.ntmps9
  go_upto_region 1 with fail
  generalize (w.alloc (.cells #[.slice aS x.S.length cS, .slice aC x.C.length cC] 30)) = u2 at *
  obtain ⟨_, c0, c1, _, _⟩ := HB1.out
  go_wp2_with fail
  refine HE1.out.mono ?_
  rintro e u3 ⟨rfl, f3⟩
  have HF3 := Lib.hid (HF1.out.trans f3)
  clear HF1 HB1 f3 c0 c1 HE1
  go_wp2_with (first | (go_at_call 19; refine (HW1.out _).mono ?_; rintro e w' ⟨rfl, rfl⟩) | (go_at_call 19; refine (HW2.out _).mono ?_; rintro e w' ⟨rfl, rfl⟩))
  go_ret
  exact ⟨rfl, HF3.out⟩
set_option maxRecDepth 8000 in
set_option maxHeartbeats 1000000 in
theorem spec_GueNext_n2 (x : Gu) (aS aC : Option Addr) (cS cC : Nat) (pc m : Int) (w : World) (h : Src4 w x.S aS) (hc : Src w x.C.length (ivl x.C) aC) (hS : x.S.length ≤ 100000000) (hC : x.C.length ≤ 100000000) (h1 : okG x = true) (h2 : okB pc = false) :
    Calls Tryd.prog 9 #[.agg #[.slice aS x.S.length cS, .slice aC x.C.length cC], .int .i64 pc, .int .i64 m] w fun e w' => e = .returned (.int .i64 (-1)) ∧ Fr w w' := by
  have F1 := Fr.alloc w (.cells #[.slice aS x.S.length cS, .slice aC x.C.length cC] 30)
  have HF1 := Lib.hid F1
  have HB1 := Lib.hid (Box2.new w (.slice aS x.S.length cS) (.slice aC x.C.length cC) 30 _ rfl)
  have E1 := spec_GueOk x aS aC cS cC _ (h.fr F1) (hc.fr F1) hS hC
  have W1 := fun w => spec_WrdOk pc w
  have W2 := fun w => spec_WrdOk m w
  rw [h1] at E1
  rw [h2] at W1
  have HE1 := Lib.hid E1
  have HW1 := Lib.hid W1
  have HW2 := Lib.hid W2
  clear F1 h hc hS hC E1 W1 W2 h1 h2
  go_enter Tryd.func9, Tryd.ntmps9
  go_upto_region 1 with fail
  generalize (w.alloc (.cells #[.slice aS x.S.length cS, .slice aC x.C.length cC] 30)) = u2 at *
  obtain ⟨_, c0, c1, _, _⟩ := HB1.out
  go_wp2_with fail
  refine HE1.out.mono ?_
  rintro e u3 ⟨rfl, f3⟩
  have HF3 := Lib.hid (HF1.out.trans f3)
  clear HF1 HB1 f3 c0 c1 HE1
  go_wp2_with (first | (go_at_call 19; refine (HW1.out _).mono ?_; rintro e w' ⟨rfl, rfl⟩) | (go_at_call 19; refine (HW2.out _).mono ?_; rintro e w' ⟨rfl, rfl⟩))
  go_ret
  exact ⟨rfl, HF3.out⟩
set_option maxRecDepth 8000 in
set_option maxHeartbeats 1000000 in
theorem spec_GueNext_n3 (x : Gu) (aS aC : Option Addr) (cS cC : Nat) (pc m : Int) (w : World) (h : Src4 w x.S aS) (hc : Src w x.C.length (ivl x.C) aC) (hS : x.S.length ≤ 100000000) (hC : x.C.length ≤ 100000000) (h1 : okG x = true) (h2 : okB pc = true) (h3 : okB m = false) :
    Calls Tryd.prog 9 #[.agg #[.slice aS x.S.length cS, .slice aC x.C.length cC], .int .i64 pc, .int .i64 m] w fun e w' => e = .returned (.int .i64 (-1)) ∧ Fr w w' := by
  have F1 := Fr.alloc w (.cells #[.slice aS x.S.length cS, .slice aC x.C.length cC] 30)
  have HF1 := Lib.hid F1
  have HB1 := Lib.hid (Box2.new w (.slice aS x.S.length cS) (.slice aC x.C.length cC) 30 _ rfl)
  have E1 := spec_GueOk x aS aC cS cC _ (h.fr F1) (hc.fr F1) hS hC
  have W1 := fun w => spec_WrdOk pc w
  have W2 := fun w => spec_WrdOk m w
  rw [h1] at E1
  rw [h2] at W1
  rw [h3] at W2
  have HE1 := Lib.hid E1
  have HW1 := Lib.hid W1
  have HW2 := Lib.hid W2
  clear F1 h hc hS hC E1 W1 W2 h1 h2 h3
  go_enter Tryd.func9, Tryd.ntmps9
  go_upto_region 1 with fail
  generalize (w.alloc (.cells #[.slice aS x.S.length cS, .slice aC x.C.length cC] 30)) = u2 at *
  obtain ⟨_, c0, c1, _, _⟩ := HB1.out
  go_wp2_with fail
  refine HE1.out.mono ?_
  rintro e u3 ⟨rfl, f3⟩
  have HF3 := Lib.hid (HF1.out.trans f3)
  clear HF1 HB1 f3 c0 c1 HE1
  go_wp2_with (first | (go_at_call 19; refine (HW1.out _).mono ?_; rintro e w' ⟨rfl, rfl⟩) | (go_at_call 19; refine (HW2.out _).mono ?_; rintro e w' ⟨rfl, rfl⟩))
  go_ret
  exact ⟨rfl, HF3.out⟩
set_option maxRecDepth 8000 in
set_option maxHeartbeats 2000000 in
theorem l5Next_top (x : Gu) (aS aC : Option Addr) (cS cC : Nat) (pc m k d a b f n : Int) (g : Bool) (w : World) (h : Src4 w x.S aS) (hc : Src w x.C.length (ivl x.C) aC) (ho : OkG x) (p0 : 0 ≤ pc) (p1 : pc < 65536) (n0 : -256 ≤ n) (n1 : n ≤ 511)
    (hr : ∀ w, Calls Tryd.prog 72 #[.int .i64 m] w fun e w' => e = .returned (.tuple #[.agg #[.int .i64 k, .int .i64 d, .int .i64 a, .int .i64 b, .int .i64 f, .int .i64 n], .bool g]) ∧ Fr w w') (hg : g = true) (hk : k = 8) (hd : d = 0) (h0 : 0 < x.C.length) :
    Calls Tryd.prog 34 #[.agg #[.slice aS x.S.length cS, .slice aC x.C.length cC], .int .i64 pc, .int .i64 m] w fun e w' => e = .returned (.int .i64 (x.C.getD (x.C.length - 1) 0)) ∧ Fr w w' := by
  have F1 := Fr.alloc w (.cells #[.slice aS x.S.length cS, .slice aC x.C.length cC] 30)
  have HF1 := Lib.hid F1
  have HB1 := Lib.hid (Box2.new w (.slice aS x.S.length cS) (.slice aC x.C.length cC) 30 _ rfl)
  have HS := Lib.hid h
  have HC := Lib.hid hc
  have HO := Lib.hid ho
  have HR := Lib.hid hr
  clear F1 h hc ho hr
  subst hg hk hd
  obtain ⟨z, hzz⟩ : ∃ z, x.C.getD (x.C.length - 1) 0 = z := ⟨_, rfl⟩
  rw [hzz]
  go_enter Tryd.func34, Tryd.ntmps34
  go_wp2_with fail
  generalize (w.alloc (.cells #[.slice aS x.S.length cS, .slice aC x.C.length cC] 30)) = u1 at *
  refine (HR.out _).mono ?_
  rintro e u2 ⟨rfl, f2⟩
  have HF2 := Lib.hid (HF1.out.trans f2)
  have HB2 := Lib.hid (HB1.out.fr f2)
  clear HF1 HB1 f2 HR
  go_upto_region 2 with fail
  have HI : Hid (Box (u2.alloc (.cells #[.int .i64 8, .int .i64 0, .int .i64 a, .int .i64 b, .int .i64 f, .int .i64 n] 43)) u2.heap.size 8 0 a b f n) := Lib.hid ⟨(alloc_at u2 _ _ _ rfl 0).1, (alloc_at u2 _ _ _ rfl 1).1, (alloc_at u2 _ _ _ rfl 2).1, (alloc_at u2 _ _ _ rfl 3).1, (alloc_at u2 _ _ _ rfl 4).1, (alloc_at u2 _ _ _ rfl 5).1⟩
  have HF3 := Lib.hid (HF2.out.trans (Fr.alloc u2 (.cells #[.int .i64 8, .int .i64 0, .int .i64 a, .int .i64 b, .int .i64 f, .int .i64 n] 43)))
  have HB3 := Lib.hid (HB2.out.fr (Fr.alloc u2 (.cells #[.int .i64 8, .int .i64 0, .int .i64 a, .int .i64 b, .int .i64 f, .int .i64 n] 43)))
  clear HF2 HB2
  generalize (u2.alloc (.cells #[.int .i64 8, .int .i64 0, .int .i64 a, .int .i64 b, .int .i64 f, .int .i64 n] 43)) = u3 at *
  obtain ⟨_, c0, c1, _, _⟩ := HB3.out
  obtain ⟨i0, i1, i2, i3, i4, i5⟩ := HI.out
  obtain ⟨gg, o, rfl, hgl, hcc⟩ := (HC.out.fr HF3.out) h0
  obtain ⟨q, hq⟩ : ∃ q : Nat, x.C.length = q + 1 := ⟨x.C.length - 1, by omega⟩
  have d0 := hcc q (by omega)
  simp only [ivl] at d0
  have hm' : (x.C.length : Int) - 1 = (q : Int) := by omega
  have hm2 : (q : Int) < (x.C.length : Int) := by omega
  have h00 : (0 : Int) < (x.C.length : Int) := by omega
  have hcl := HO.out.Cl
  rw [show q = x.C.length - 1 by omega, hzz] at d0
  rw [show o + (x.C.length - 1) = o + q by omega] at d0
  clear hcc hq
  go_wp2_with fail
  all_goals first | (exfalso; omega) | skip
  go_ret
  exact ⟨ret_int (by first | rfl | omega), HF3.out⟩
set_option maxRecDepth 8000 in
set_option maxHeartbeats 2000000 in
theorem l5Next_jmp (x : Gu) (aS aC : Option Addr) (cS cC : Nat) (pc m k d a b f n : Int) (g : Bool) (w : World) (h : Src4 w x.S aS) (hc : Src w x.C.length (ivl x.C) aC) (ho : OkG x) (p0 : 0 ≤ pc) (p1 : pc < 65536) (n0 : -256 ≤ n) (n1 : n ≤ 511)
    (hr : ∀ w, Calls Tryd.prog 72 #[.int .i64 m] w fun e w' => e = .returned (.tuple #[.agg #[.int .i64 k, .int .i64 d, .int .i64 a, .int .i64 b, .int .i64 f, .int .i64 n], .bool g]) ∧ Fr w w') (hg : g = true) (hk : k = 7) :
    Calls Tryd.prog 34 #[.agg #[.slice aS x.S.length cS, .slice aC x.C.length cC], .int .i64 pc, .int .i64 m] w fun e w' => e = .returned (.int .i64 ((pc + 1 + n) % 65536)) ∧ Fr w w' := by
  have F1 := Fr.alloc w (.cells #[.slice aS x.S.length cS, .slice aC x.C.length cC] 30)
  have HF1 := Lib.hid F1
  have HB1 := Lib.hid (Box2.new w (.slice aS x.S.length cS) (.slice aC x.C.length cC) 30 _ rfl)
  have HS := Lib.hid h
  have HC := Lib.hid hc
  have HO := Lib.hid ho
  have HR := Lib.hid hr
  clear F1 h hc ho hr
  subst hg hk
  go_enter Tryd.func34, Tryd.ntmps34
  go_wp2_with fail
  generalize (w.alloc (.cells #[.slice aS x.S.length cS, .slice aC x.C.length cC] 30)) = u1 at *
  refine (HR.out _).mono ?_
  rintro e u2 ⟨rfl, f2⟩
  have HF2 := Lib.hid (HF1.out.trans f2)
  have HB2 := Lib.hid (HB1.out.fr f2)
  clear HF1 HB1 f2 HR
  go_upto_region 2 with fail
  have HI : Hid (Box (u2.alloc (.cells #[.int .i64 7, .int .i64 d, .int .i64 a, .int .i64 b, .int .i64 f, .int .i64 n] 43)) u2.heap.size 7 d a b f n) := Lib.hid ⟨(alloc_at u2 _ _ _ rfl 0).1, (alloc_at u2 _ _ _ rfl 1).1, (alloc_at u2 _ _ _ rfl 2).1, (alloc_at u2 _ _ _ rfl 3).1, (alloc_at u2 _ _ _ rfl 4).1, (alloc_at u2 _ _ _ rfl 5).1⟩
  have HF3 := Lib.hid (HF2.out.trans (Fr.alloc u2 (.cells #[.int .i64 7, .int .i64 d, .int .i64 a, .int .i64 b, .int .i64 f, .int .i64 n] 43)))
  have HB3 := Lib.hid (HB2.out.fr (Fr.alloc u2 (.cells #[.int .i64 7, .int .i64 d, .int .i64 a, .int .i64 b, .int .i64 f, .int .i64 n] 43)))
  clear HF2 HB2
  generalize (u2.alloc (.cells #[.int .i64 7, .int .i64 d, .int .i64 a, .int .i64 b, .int .i64 f, .int .i64 n] 43)) = u3 at *
  obtain ⟨_, c0, c1, _, _⟩ := HB3.out
  obtain ⟨i0, i1, i2, i3, i4, i5⟩ := HI.out
  go_wp2_with (go_at_call 73; refine (spec_l1Wrap _ _).mono ?_; rintro e w' ⟨rfl, rfl⟩)
  all_goals first | (exfalso; omega) | skip
  go_ret
  exact ⟨ret_int (by first | rfl | omega), HF3.out⟩
set_option maxRecDepth 8000 in
set_option maxHeartbeats 2000000 in
theorem l5Next_a1 (x : Gu) (aS aC : Option Addr) (cS cC : Nat) (pc m k d a b f n p t s : Int) (g : Bool) (w : World) (h : Src4 w x.S aS) (hc : Src w x.C.length (ivl x.C) aC) (ho : OkG x) (p0 : 0 ≤ pc) (p1 : pc < 65536) (n0 : -256 ≤ n) (n1 : n ≤ 511)
    (hr : ∀ w, Calls Tryd.prog 72 #[.int .i64 m] w fun e w' => e = .returned (.tuple #[.agg #[.int .i64 k, .int .i64 d, .int .i64 a, .int .i64 b, .int .i64 f, .int .i64 n], .bool g]) ∧ Fr w w') (hg : g = false) (hs : x.S.getD (ix pc) sl0 = ⟨true, pc, t, s⟩) (hs2 : 2 ≤ s) :
    Calls Tryd.prog 34 #[.agg #[.slice aS x.S.length cS, .slice aC x.C.length cC], .int .i64 pc, .int .i64 m] w fun e w' => e = .returned (.int .i64 (t)) ∧ Fr w w' := by
  have F1 := Fr.alloc w (.cells #[.slice aS x.S.length cS, .slice aC x.C.length cC] 30)
  have HF1 := Lib.hid F1
  have HB1 := Lib.hid (Box2.new w (.slice aS x.S.length cS) (.slice aC x.C.length cC) 30 _ rfl)
  have HS := Lib.hid h
  have HC := Lib.hid hc
  have HO := Lib.hid ho
  have HR := Lib.hid hr
  clear F1 h hc ho hr
  subst hg
  go_enter Tryd.func34, Tryd.ntmps34
  go_wp2_with fail
  generalize (w.alloc (.cells #[.slice aS x.S.length cS, .slice aC x.C.length cC] 30)) = u1 at *
  refine (HR.out _).mono ?_
  rintro e u2 ⟨rfl, f2⟩
  have HF2 := Lib.hid (HF1.out.trans f2)
  have HB2 := Lib.hid (HB1.out.fr f2)
  clear HF1 HB1 f2 HR
  go_upto_region 2 with fail
  have HI : Hid (Box (u2.alloc (.cells #[.int .i64 k, .int .i64 d, .int .i64 a, .int .i64 b, .int .i64 f, .int .i64 n] 43)) u2.heap.size k d a b f n) := Lib.hid ⟨(alloc_at u2 _ _ _ rfl 0).1, (alloc_at u2 _ _ _ rfl 1).1, (alloc_at u2 _ _ _ rfl 2).1, (alloc_at u2 _ _ _ rfl 3).1, (alloc_at u2 _ _ _ rfl 4).1, (alloc_at u2 _ _ _ rfl 5).1⟩
  have HF3 := Lib.hid (HF2.out.trans (Fr.alloc u2 (.cells #[.int .i64 k, .int .i64 d, .int .i64 a, .int .i64 b, .int .i64 f, .int .i64 n] 43)))
  have HB3 := Lib.hid (HB2.out.fr (Fr.alloc u2 (.cells #[.int .i64 k, .int .i64 d, .int .i64 a, .int .i64 b, .int .i64 f, .int .i64 n] 43)))
  clear HF2 HB2
  generalize (u2.alloc (.cells #[.int .i64 k, .int .i64 d, .int .i64 a, .int .i64 b, .int .i64 f, .int .i64 n] 43)) = u3 at *
  obtain ⟨_, c0, c1, _, _⟩ := HB3.out
  obtain ⟨i0, i1, i2, i3, i4, i5⟩ := HI.out
  obtain ⟨q, hk8, hkm⟩ : ∃ q : Nat, q < 8 ∧ Int.tmod pc 8 = (q : Int) := ⟨(pc % 8).toNat, by omega, by rw [Int.tmod_eq_emod_of_nonneg p0]; omega⟩
  have hix : ix pc = q := by unfold ix; rw [Int.tmod_eq_emod_of_nonneg p0] at hkm; omega
  rw [hix] at hs
  have hk8' : (q : Int) < (x.S.length : Int) := by have := HO.out.Sl; omega
  have hk0' : 0 ≤ (q : Int) := by omega
  obtain ⟨gg, o, rfl, hgl, hcc⟩ := (HS.out.fr HF3.out) (by have := HO.out.Sl; omega)
  have hsl := slot_at hcc q (by have := HO.out.Sl; omega)
  have hcl := HO.out.Cl
  rw [hs] at hsl
  obtain ⟨d0, d1, d2, d3⟩ := hsl
  simp only at d0 d1 d2 d3
  clear hcc hix hs
  go_wp2_with (go_at_call 73; refine (spec_l1Wrap _ _).mono ?_; rintro e w' ⟨rfl, rfl⟩)
  all_goals first | (exfalso; omega) | skip
  all_goals (go_ret; exact ⟨ret_int (by first | rfl | omega), HF3.out.trans (Fr.alloc _ _)⟩)
set_option maxRecDepth 8000 in
set_option maxHeartbeats 2000000 in
theorem l5Next_a2 (x : Gu) (aS aC : Option Addr) (cS cC : Nat) (pc m k d a b f n p t s : Int) (g : Bool) (w : World) (h : Src4 w x.S aS) (hc : Src w x.C.length (ivl x.C) aC) (ho : OkG x) (p0 : 0 ≤ pc) (p1 : pc < 65536) (n0 : -256 ≤ n) (n1 : n ≤ 511)
    (hr : ∀ w, Calls Tryd.prog 72 #[.int .i64 m] w fun e w' => e = .returned (.tuple #[.agg #[.int .i64 k, .int .i64 d, .int .i64 a, .int .i64 b, .int .i64 f, .int .i64 n], .bool g]) ∧ Fr w w') (hg : g = false) (hs : x.S.getD (ix pc) sl0 = ⟨true, pc, t, s⟩) (hs2 : ¬ 2 ≤ s) :
    Calls Tryd.prog 34 #[.agg #[.slice aS x.S.length cS, .slice aC x.C.length cC], .int .i64 pc, .int .i64 m] w fun e w' => e = .returned (.int .i64 ((pc + 1) % 65536)) ∧ Fr w w' := by
  have F1 := Fr.alloc w (.cells #[.slice aS x.S.length cS, .slice aC x.C.length cC] 30)
  have HF1 := Lib.hid F1
  have HB1 := Lib.hid (Box2.new w (.slice aS x.S.length cS) (.slice aC x.C.length cC) 30 _ rfl)
  have HS := Lib.hid h
  have HC := Lib.hid hc
  have HO := Lib.hid ho
  have HR := Lib.hid hr
  clear F1 h hc ho hr
  subst hg
  go_enter Tryd.func34, Tryd.ntmps34
  go_wp2_with fail
  generalize (w.alloc (.cells #[.slice aS x.S.length cS, .slice aC x.C.length cC] 30)) = u1 at *
  refine (HR.out _).mono ?_
  rintro e u2 ⟨rfl, f2⟩
  have HF2 := Lib.hid (HF1.out.trans f2)
  have HB2 := Lib.hid (HB1.out.fr f2)
  clear HF1 HB1 f2 HR
  go_upto_region 2 with fail
  have HI : Hid (Box (u2.alloc (.cells #[.int .i64 k, .int .i64 d, .int .i64 a, .int .i64 b, .int .i64 f, .int .i64 n] 43)) u2.heap.size k d a b f n) := Lib.hid ⟨(alloc_at u2 _ _ _ rfl 0).1, (alloc_at u2 _ _ _ rfl 1).1, (alloc_at u2 _ _ _ rfl 2).1, (alloc_at u2 _ _ _ rfl 3).1, (alloc_at u2 _ _ _ rfl 4).1, (alloc_at u2 _ _ _ rfl 5).1⟩
  have HF3 := Lib.hid (HF2.out.trans (Fr.alloc u2 (.cells #[.int .i64 k, .int .i64 d, .int .i64 a, .int .i64 b, .int .i64 f, .int .i64 n] 43)))
  have HB3 := Lib.hid (HB2.out.fr (Fr.alloc u2 (.cells #[.int .i64 k, .int .i64 d, .int .i64 a, .int .i64 b, .int .i64 f, .int .i64 n] 43)))
  clear HF2 HB2
  generalize (u2.alloc (.cells #[.int .i64 k, .int .i64 d, .int .i64 a, .int .i64 b, .int .i64 f, .int .i64 n] 43)) = u3 at *
  obtain ⟨_, c0, c1, _, _⟩ := HB3.out
  obtain ⟨i0, i1, i2, i3, i4, i5⟩ := HI.out
  obtain ⟨q, hk8, hkm⟩ : ∃ q : Nat, q < 8 ∧ Int.tmod pc 8 = (q : Int) := ⟨(pc % 8).toNat, by omega, by rw [Int.tmod_eq_emod_of_nonneg p0]; omega⟩
  have hix : ix pc = q := by unfold ix; rw [Int.tmod_eq_emod_of_nonneg p0] at hkm; omega
  rw [hix] at hs
  have hk8' : (q : Int) < (x.S.length : Int) := by have := HO.out.Sl; omega
  have hk0' : 0 ≤ (q : Int) := by omega
  obtain ⟨gg, o, rfl, hgl, hcc⟩ := (HS.out.fr HF3.out) (by have := HO.out.Sl; omega)
  have hsl := slot_at hcc q (by have := HO.out.Sl; omega)
  have hcl := HO.out.Cl
  rw [hs] at hsl
  obtain ⟨d0, d1, d2, d3⟩ := hsl
  simp only at d0 d1 d2 d3
  clear hcc hix hs
  go_wp2_with (go_at_call 73; refine (spec_l1Wrap _ _).mono ?_; rintro e w' ⟨rfl, rfl⟩)
  all_goals first | (exfalso; omega) | skip
  all_goals (go_ret; exact ⟨ret_int (by first | rfl | omega), HF3.out.trans (Fr.alloc _ _)⟩)
set_option maxRecDepth 8000 in
set_option maxHeartbeats 2000000 in
theorem l5Next_a3 (x : Gu) (aS aC : Option Addr) (cS cC : Nat) (pc m k d a b f n p t s : Int) (g : Bool) (w : World) (h : Src4 w x.S aS) (hc : Src w x.C.length (ivl x.C) aC) (ho : OkG x) (p0 : 0 ≤ pc) (p1 : pc < 65536) (n0 : -256 ≤ n) (n1 : n ≤ 511)
    (hr : ∀ w, Calls Tryd.prog 72 #[.int .i64 m] w fun e w' => e = .returned (.tuple #[.agg #[.int .i64 k, .int .i64 d, .int .i64 a, .int .i64 b, .int .i64 f, .int .i64 n], .bool g]) ∧ Fr w w') (hg : g = false) (hs : x.S.getD (ix pc) sl0 = ⟨true, p, t, s⟩) (hp : (p == pc) = false) :
    Calls Tryd.prog 34 #[.agg #[.slice aS x.S.length cS, .slice aC x.C.length cC], .int .i64 pc, .int .i64 m] w fun e w' => e = .returned (.int .i64 ((pc + 1) % 65536)) ∧ Fr w w' := by
  have F1 := Fr.alloc w (.cells #[.slice aS x.S.length cS, .slice aC x.C.length cC] 30)
  have HF1 := Lib.hid F1
  have HB1 := Lib.hid (Box2.new w (.slice aS x.S.length cS) (.slice aC x.C.length cC) 30 _ rfl)
  have HS := Lib.hid h
  have HC := Lib.hid hc
  have HO := Lib.hid ho
  have HR := Lib.hid hr
  clear F1 h hc ho hr
  subst hg
  go_enter Tryd.func34, Tryd.ntmps34
  go_wp2_with fail
  generalize (w.alloc (.cells #[.slice aS x.S.length cS, .slice aC x.C.length cC] 30)) = u1 at *
  refine (HR.out _).mono ?_
  rintro e u2 ⟨rfl, f2⟩
  have HF2 := Lib.hid (HF1.out.trans f2)
  have HB2 := Lib.hid (HB1.out.fr f2)
  clear HF1 HB1 f2 HR
  go_upto_region 2 with fail
  have HI : Hid (Box (u2.alloc (.cells #[.int .i64 k, .int .i64 d, .int .i64 a, .int .i64 b, .int .i64 f, .int .i64 n] 43)) u2.heap.size k d a b f n) := Lib.hid ⟨(alloc_at u2 _ _ _ rfl 0).1, (alloc_at u2 _ _ _ rfl 1).1, (alloc_at u2 _ _ _ rfl 2).1, (alloc_at u2 _ _ _ rfl 3).1, (alloc_at u2 _ _ _ rfl 4).1, (alloc_at u2 _ _ _ rfl 5).1⟩
  have HF3 := Lib.hid (HF2.out.trans (Fr.alloc u2 (.cells #[.int .i64 k, .int .i64 d, .int .i64 a, .int .i64 b, .int .i64 f, .int .i64 n] 43)))
  have HB3 := Lib.hid (HB2.out.fr (Fr.alloc u2 (.cells #[.int .i64 k, .int .i64 d, .int .i64 a, .int .i64 b, .int .i64 f, .int .i64 n] 43)))
  clear HF2 HB2
  generalize (u2.alloc (.cells #[.int .i64 k, .int .i64 d, .int .i64 a, .int .i64 b, .int .i64 f, .int .i64 n] 43)) = u3 at *
  obtain ⟨_, c0, c1, _, _⟩ := HB3.out
  obtain ⟨i0, i1, i2, i3, i4, i5⟩ := HI.out
  obtain ⟨q, hk8, hkm⟩ : ∃ q : Nat, q < 8 ∧ Int.tmod pc 8 = (q : Int) := ⟨(pc % 8).toNat, by omega, by rw [Int.tmod_eq_emod_of_nonneg p0]; omega⟩
  have hix : ix pc = q := by unfold ix; rw [Int.tmod_eq_emod_of_nonneg p0] at hkm; omega
  rw [hix] at hs
  have hk8' : (q : Int) < (x.S.length : Int) := by have := HO.out.Sl; omega
  have hk0' : 0 ≤ (q : Int) := by omega
  obtain ⟨gg, o, rfl, hgl, hcc⟩ := (HS.out.fr HF3.out) (by have := HO.out.Sl; omega)
  have hsl := slot_at hcc q (by have := HO.out.Sl; omega)
  have hcl := HO.out.Cl
  rw [hs] at hsl
  obtain ⟨d0, d1, d2, d3⟩ := hsl
  simp only at d0 d1 d2 d3
  clear hcc hix hs
  have hpn : ¬ p = pc := by simpa using hp
  go_wp2_with (go_at_call 73; refine (spec_l1Wrap _ _).mono ?_; rintro e w' ⟨rfl, rfl⟩)
  all_goals first | (exfalso; omega) | skip
  all_goals (go_ret; exact ⟨ret_int (by first | rfl | omega), HF3.out.trans (Fr.alloc _ _)⟩)
set_option maxRecDepth 8000 in
set_option maxHeartbeats 2000000 in
theorem l5Next_a4 (x : Gu) (aS aC : Option Addr) (cS cC : Nat) (pc m k d a b f n p t s : Int) (g : Bool) (w : World) (h : Src4 w x.S aS) (hc : Src w x.C.length (ivl x.C) aC) (ho : OkG x) (p0 : 0 ≤ pc) (p1 : pc < 65536) (n0 : -256 ≤ n) (n1 : n ≤ 511)
    (hr : ∀ w, Calls Tryd.prog 72 #[.int .i64 m] w fun e w' => e = .returned (.tuple #[.agg #[.int .i64 k, .int .i64 d, .int .i64 a, .int .i64 b, .int .i64 f, .int .i64 n], .bool g]) ∧ Fr w w') (hg : g = false) (hs : x.S.getD (ix pc) sl0 = ⟨false, p, t, s⟩) :
    Calls Tryd.prog 34 #[.agg #[.slice aS x.S.length cS, .slice aC x.C.length cC], .int .i64 pc, .int .i64 m] w fun e w' => e = .returned (.int .i64 ((pc + 1) % 65536)) ∧ Fr w w' := by
  have F1 := Fr.alloc w (.cells #[.slice aS x.S.length cS, .slice aC x.C.length cC] 30)
  have HF1 := Lib.hid F1
  have HB1 := Lib.hid (Box2.new w (.slice aS x.S.length cS) (.slice aC x.C.length cC) 30 _ rfl)
  have HS := Lib.hid h
  have HC := Lib.hid hc
  have HO := Lib.hid ho
  have HR := Lib.hid hr
  clear F1 h hc ho hr
  subst hg
  go_enter Tryd.func34, Tryd.ntmps34
  go_wp2_with fail
  generalize (w.alloc (.cells #[.slice aS x.S.length cS, .slice aC x.C.length cC] 30)) = u1 at *
  refine (HR.out _).mono ?_
  rintro e u2 ⟨rfl, f2⟩
  have HF2 := Lib.hid (HF1.out.trans f2)
  have HB2 := Lib.hid (HB1.out.fr f2)
  clear HF1 HB1 f2 HR
  go_upto_region 2 with fail
  have HI : Hid (Box (u2.alloc (.cells #[.int .i64 k, .int .i64 d, .int .i64 a, .int .i64 b, .int .i64 f, .int .i64 n] 43)) u2.heap.size k d a b f n) := Lib.hid ⟨(alloc_at u2 _ _ _ rfl 0).1, (alloc_at u2 _ _ _ rfl 1).1, (alloc_at u2 _ _ _ rfl 2).1, (alloc_at u2 _ _ _ rfl 3).1, (alloc_at u2 _ _ _ rfl 4).1, (alloc_at u2 _ _ _ rfl 5).1⟩
  have HF3 := Lib.hid (HF2.out.trans (Fr.alloc u2 (.cells #[.int .i64 k, .int .i64 d, .int .i64 a, .int .i64 b, .int .i64 f, .int .i64 n] 43)))
  have HB3 := Lib.hid (HB2.out.fr (Fr.alloc u2 (.cells #[.int .i64 k, .int .i64 d, .int .i64 a, .int .i64 b, .int .i64 f, .int .i64 n] 43)))
  clear HF2 HB2
  generalize (u2.alloc (.cells #[.int .i64 k, .int .i64 d, .int .i64 a, .int .i64 b, .int .i64 f, .int .i64 n] 43)) = u3 at *
  obtain ⟨_, c0, c1, _, _⟩ := HB3.out
  obtain ⟨i0, i1, i2, i3, i4, i5⟩ := HI.out
  obtain ⟨q, hk8, hkm⟩ : ∃ q : Nat, q < 8 ∧ Int.tmod pc 8 = (q : Int) := ⟨(pc % 8).toNat, by omega, by rw [Int.tmod_eq_emod_of_nonneg p0]; omega⟩
  have hix : ix pc = q := by unfold ix; rw [Int.tmod_eq_emod_of_nonneg p0] at hkm; omega
  rw [hix] at hs
  have hk8' : (q : Int) < (x.S.length : Int) := by have := HO.out.Sl; omega
  have hk0' : 0 ≤ (q : Int) := by omega
  obtain ⟨gg, o, rfl, hgl, hcc⟩ := (HS.out.fr HF3.out) (by have := HO.out.Sl; omega)
  have hsl := slot_at hcc q (by have := HO.out.Sl; omega)
  have hcl := HO.out.Cl
  rw [hs] at hsl
  obtain ⟨d0, d1, d2, d3⟩ := hsl
  simp only at d0 d1 d2 d3
  clear hcc hix hs
  go_wp2_with (go_at_call 73; refine (spec_l1Wrap _ _).mono ?_; rintro e w' ⟨rfl, rfl⟩)
  all_goals first | (exfalso; omega) | skip
  all_goals (go_ret; exact ⟨ret_int (by first | rfl | omega), HF3.out.trans (Fr.alloc _ _)⟩)
set_option maxRecDepth 8000 in
set_option maxHeartbeats 2000000 in
theorem l5Next_b1 (x : Gu) (aS aC : Option Addr) (cS cC : Nat) (pc m k d a b f n p t s : Int) (g : Bool) (w : World) (h : Src4 w x.S aS) (hc : Src w x.C.length (ivl x.C) aC) (ho : OkG x) (p0 : 0 ≤ pc) (p1 : pc < 65536) (n0 : -256 ≤ n) (n1 : n ≤ 511)
    (hr : ∀ w, Calls Tryd.prog 72 #[.int .i64 m] w fun e w' => e = .returned (.tuple #[.agg #[.int .i64 k, .int .i64 d, .int .i64 a, .int .i64 b, .int .i64 f, .int .i64 n], .bool g]) ∧ Fr w w') (hg : g = true) (hk : (k == 8) = false) (hk7 : (k == 7) = false) (hs : x.S.getD (ix pc) sl0 = ⟨true, pc, t, s⟩) (hs2 : 2 ≤ s) :
    Calls Tryd.prog 34 #[.agg #[.slice aS x.S.length cS, .slice aC x.C.length cC], .int .i64 pc, .int .i64 m] w fun e w' => e = .returned (.int .i64 (t)) ∧ Fr w w' := by
  have F1 := Fr.alloc w (.cells #[.slice aS x.S.length cS, .slice aC x.C.length cC] 30)
  have HF1 := Lib.hid F1
  have HB1 := Lib.hid (Box2.new w (.slice aS x.S.length cS) (.slice aC x.C.length cC) 30 _ rfl)
  have HS := Lib.hid h
  have HC := Lib.hid hc
  have HO := Lib.hid ho
  have HR := Lib.hid hr
  clear F1 h hc ho hr
  subst hg
  have hk8n : ¬ k = 8 := by simpa using hk
  have hk7n : ¬ k = 7 := by simpa using hk7
  go_enter Tryd.func34, Tryd.ntmps34
  go_wp2_with fail
  generalize (w.alloc (.cells #[.slice aS x.S.length cS, .slice aC x.C.length cC] 30)) = u1 at *
  refine (HR.out _).mono ?_
  rintro e u2 ⟨rfl, f2⟩
  have HF2 := Lib.hid (HF1.out.trans f2)
  have HB2 := Lib.hid (HB1.out.fr f2)
  clear HF1 HB1 f2 HR
  go_upto_region 2 with fail
  have HI : Hid (Box (u2.alloc (.cells #[.int .i64 k, .int .i64 d, .int .i64 a, .int .i64 b, .int .i64 f, .int .i64 n] 43)) u2.heap.size k d a b f n) := Lib.hid ⟨(alloc_at u2 _ _ _ rfl 0).1, (alloc_at u2 _ _ _ rfl 1).1, (alloc_at u2 _ _ _ rfl 2).1, (alloc_at u2 _ _ _ rfl 3).1, (alloc_at u2 _ _ _ rfl 4).1, (alloc_at u2 _ _ _ rfl 5).1⟩
  have HF3 := Lib.hid (HF2.out.trans (Fr.alloc u2 (.cells #[.int .i64 k, .int .i64 d, .int .i64 a, .int .i64 b, .int .i64 f, .int .i64 n] 43)))
  have HB3 := Lib.hid (HB2.out.fr (Fr.alloc u2 (.cells #[.int .i64 k, .int .i64 d, .int .i64 a, .int .i64 b, .int .i64 f, .int .i64 n] 43)))
  clear HF2 HB2
  generalize (u2.alloc (.cells #[.int .i64 k, .int .i64 d, .int .i64 a, .int .i64 b, .int .i64 f, .int .i64 n] 43)) = u3 at *
  obtain ⟨_, c0, c1, _, _⟩ := HB3.out
  obtain ⟨i0, i1, i2, i3, i4, i5⟩ := HI.out
  obtain ⟨q, hk8, hkm⟩ : ∃ q : Nat, q < 8 ∧ Int.tmod pc 8 = (q : Int) := ⟨(pc % 8).toNat, by omega, by rw [Int.tmod_eq_emod_of_nonneg p0]; omega⟩
  have hix : ix pc = q := by unfold ix; rw [Int.tmod_eq_emod_of_nonneg p0] at hkm; omega
  rw [hix] at hs
  have hk8' : (q : Int) < (x.S.length : Int) := by have := HO.out.Sl; omega
  have hk0' : 0 ≤ (q : Int) := by omega
  obtain ⟨gg, o, rfl, hgl, hcc⟩ := (HS.out.fr HF3.out) (by have := HO.out.Sl; omega)
  have hsl := slot_at hcc q (by have := HO.out.Sl; omega)
  have hcl := HO.out.Cl
  rw [hs] at hsl
  obtain ⟨d0, d1, d2, d3⟩ := hsl
  simp only at d0 d1 d2 d3
  clear hcc hix hs
  go_wp2_with (go_at_call 73; refine (spec_l1Wrap _ _).mono ?_; rintro e w' ⟨rfl, rfl⟩)
  all_goals first | (exfalso; omega) | skip
  all_goals (go_ret; exact ⟨ret_int (by first | rfl | omega), HF3.out.trans (Fr.alloc _ _)⟩)
set_option maxRecDepth 8000 in
set_option maxHeartbeats 2000000 in
theorem l5Next_b2 (x : Gu) (aS aC : Option Addr) (cS cC : Nat) (pc m k d a b f n p t s : Int) (g : Bool) (w : World) (h : Src4 w x.S aS) (hc : Src w x.C.length (ivl x.C) aC) (ho : OkG x) (p0 : 0 ≤ pc) (p1 : pc < 65536) (n0 : -256 ≤ n) (n1 : n ≤ 511)
    (hr : ∀ w, Calls Tryd.prog 72 #[.int .i64 m] w fun e w' => e = .returned (.tuple #[.agg #[.int .i64 k, .int .i64 d, .int .i64 a, .int .i64 b, .int .i64 f, .int .i64 n], .bool g]) ∧ Fr w w') (hg : g = true) (hk : (k == 8) = false) (hk7 : (k == 7) = false) (hs : x.S.getD (ix pc) sl0 = ⟨true, pc, t, s⟩) (hs2 : ¬ 2 ≤ s) :
    Calls Tryd.prog 34 #[.agg #[.slice aS x.S.length cS, .slice aC x.C.length cC], .int .i64 pc, .int .i64 m] w fun e w' => e = .returned (.int .i64 ((pc + 1) % 65536)) ∧ Fr w w' := by
  have F1 := Fr.alloc w (.cells #[.slice aS x.S.length cS, .slice aC x.C.length cC] 30)
  have HF1 := Lib.hid F1
  have HB1 := Lib.hid (Box2.new w (.slice aS x.S.length cS) (.slice aC x.C.length cC) 30 _ rfl)
  have HS := Lib.hid h
  have HC := Lib.hid hc
  have HO := Lib.hid ho
  have HR := Lib.hid hr
  clear F1 h hc ho hr
  subst hg
  have hk8n : ¬ k = 8 := by simpa using hk
  have hk7n : ¬ k = 7 := by simpa using hk7
  go_enter Tryd.func34, Tryd.ntmps34
  go_wp2_with fail
  generalize (w.alloc (.cells #[.slice aS x.S.length cS, .slice aC x.C.length cC] 30)) = u1 at *
  refine (HR.out _).mono ?_
  rintro e u2 ⟨rfl, f2⟩
  have HF2 := Lib.hid (HF1.out.trans f2)
  have HB2 := Lib.hid (HB1.out.fr f2)
  clear HF1 HB1 f2 HR
  go_upto_region 2 with fail
  have HI : Hid (Box (u2.alloc (.cells #[.int .i64 k, .int .i64 d, .int .i64 a, .int .i64 b, .int .i64 f, .int .i64 n] 43)) u2.heap.size k d a b f n) := Lib.hid ⟨(alloc_at u2 _ _ _ rfl 0).1, (alloc_at u2 _ _ _ rfl 1).1, (alloc_at u2 _ _ _ rfl 2).1, (alloc_at u2 _ _ _ rfl 3).1, (alloc_at u2 _ _ _ rfl 4).1, (alloc_at u2 _ _ _ rfl 5).1⟩
  have HF3 := Lib.hid (HF2.out.trans (Fr.alloc u2 (.cells #[.int .i64 k, .int .i64 d, .int .i64 a, .int .i64 b, .int .i64 f, .int .i64 n] 43)))
  have HB3 := Lib.hid (HB2.out.fr (Fr.alloc u2 (.cells #[.int .i64 k, .int .i64 d, .int .i64 a, .int .i64 b, .int .i64 f, .int .i64 n] 43)))
  clear HF2 HB2
  generalize (u2.alloc (.cells #[.int .i64 k, .int .i64 d, .int .i64 a, .int .i64 b, .int .i64 f, .int .i64 n] 43)) = u3 at *
  obtain ⟨_, c0, c1, _, _⟩ := HB3.out
  obtain ⟨i0, i1, i2, i3, i4, i5⟩ := HI.out
  obtain ⟨q, hk8, hkm⟩ : ∃ q : Nat, q < 8 ∧ Int.tmod pc 8 = (q : Int) := ⟨(pc % 8).toNat, by omega, by rw [Int.tmod_eq_emod_of_nonneg p0]; omega⟩
  have hix : ix pc = q := by unfold ix; rw [Int.tmod_eq_emod_of_nonneg p0] at hkm; omega
  rw [hix] at hs
  have hk8' : (q : Int) < (x.S.length : Int) := by have := HO.out.Sl; omega
  have hk0' : 0 ≤ (q : Int) := by omega
  obtain ⟨gg, o, rfl, hgl, hcc⟩ := (HS.out.fr HF3.out) (by have := HO.out.Sl; omega)
  have hsl := slot_at hcc q (by have := HO.out.Sl; omega)
  have hcl := HO.out.Cl
  rw [hs] at hsl
  obtain ⟨d0, d1, d2, d3⟩ := hsl
  simp only at d0 d1 d2 d3
  clear hcc hix hs
  go_wp2_with (go_at_call 73; refine (spec_l1Wrap _ _).mono ?_; rintro e w' ⟨rfl, rfl⟩)
  all_goals first | (exfalso; omega) | skip
  all_goals (go_ret; exact ⟨ret_int (by first | rfl | omega), HF3.out.trans (Fr.alloc _ _)⟩)
set_option maxRecDepth 8000 in
set_option maxHeartbeats 2000000 in
theorem l5Next_b3 (x : Gu) (aS aC : Option Addr) (cS cC : Nat) (pc m k d a b f n p t s : Int) (g : Bool) (w : World) (h : Src4 w x.S aS) (hc : Src w x.C.length (ivl x.C) aC) (ho : OkG x) (p0 : 0 ≤ pc) (p1 : pc < 65536) (n0 : -256 ≤ n) (n1 : n ≤ 511)
    (hr : ∀ w, Calls Tryd.prog 72 #[.int .i64 m] w fun e w' => e = .returned (.tuple #[.agg #[.int .i64 k, .int .i64 d, .int .i64 a, .int .i64 b, .int .i64 f, .int .i64 n], .bool g]) ∧ Fr w w') (hg : g = true) (hk : (k == 8) = false) (hk7 : (k == 7) = false) (hs : x.S.getD (ix pc) sl0 = ⟨true, p, t, s⟩) (hp : (p == pc) = false) :
    Calls Tryd.prog 34 #[.agg #[.slice aS x.S.length cS, .slice aC x.C.length cC], .int .i64 pc, .int .i64 m] w fun e w' => e = .returned (.int .i64 ((pc + 1) % 65536)) ∧ Fr w w' := by
  have F1 := Fr.alloc w (.cells #[.slice aS x.S.length cS, .slice aC x.C.length cC] 30)
  have HF1 := Lib.hid F1
  have HB1 := Lib.hid (Box2.new w (.slice aS x.S.length cS) (.slice aC x.C.length cC) 30 _ rfl)
  have HS := Lib.hid h
  have HC := Lib.hid hc
  have HO := Lib.hid ho
  have HR := Lib.hid hr
  clear F1 h hc ho hr
  subst hg
  have hk8n : ¬ k = 8 := by simpa using hk
  have hk7n : ¬ k = 7 := by simpa using hk7
  go_enter Tryd.func34, Tryd.ntmps34
  go_wp2_with fail
  generalize (w.alloc (.cells #[.slice aS x.S.length cS, .slice aC x.C.length cC] 30)) = u1 at *
  refine (HR.out _).mono ?_
  rintro e u2 ⟨rfl, f2⟩
  have HF2 := Lib.hid (HF1.out.trans f2)
  have HB2 := Lib.hid (HB1.out.fr f2)
  clear HF1 HB1 f2 HR
  go_upto_region 2 with fail
  have HI : Hid (Box (u2.alloc (.cells #[.int .i64 k, .int .i64 d, .int .i64 a, .int .i64 b, .int .i64 f, .int .i64 n] 43)) u2.heap.size k d a b f n) := Lib.hid ⟨(alloc_at u2 _ _ _ rfl 0).1, (alloc_at u2 _ _ _ rfl 1).1, (alloc_at u2 _ _ _ rfl 2).1, (alloc_at u2 _ _ _ rfl 3).1, (alloc_at u2 _ _ _ rfl 4).1, (alloc_at u2 _ _ _ rfl 5).1⟩
  have HF3 := Lib.hid (HF2.out.trans (Fr.alloc u2 (.cells #[.int .i64 k, .int .i64 d, .int .i64 a, .int .i64 b, .int .i64 f, .int .i64 n] 43)))
  have HB3 := Lib.hid (HB2.out.fr (Fr.alloc u2 (.cells #[.int .i64 k, .int .i64 d, .int .i64 a, .int .i64 b, .int .i64 f, .int .i64 n] 43)))
  clear HF2 HB2
  generalize (u2.alloc (.cells #[.int .i64 k, .int .i64 d, .int .i64 a, .int .i64 b, .int .i64 f, .int .i64 n] 43)) = u3 at *
  obtain ⟨_, c0, c1, _, _⟩ := HB3.out
  obtain ⟨i0, i1, i2, i3, i4, i5⟩ := HI.out
  obtain ⟨q, hk8, hkm⟩ : ∃ q : Nat, q < 8 ∧ Int.tmod pc 8 = (q : Int) := ⟨(pc % 8).toNat, by omega, by rw [Int.tmod_eq_emod_of_nonneg p0]; omega⟩
  have hix : ix pc = q := by unfold ix; rw [Int.tmod_eq_emod_of_nonneg p0] at hkm; omega
  rw [hix] at hs
  have hk8' : (q : Int) < (x.S.length : Int) := by have := HO.out.Sl; omega
  have hk0' : 0 ≤ (q : Int) := by omega
  obtain ⟨gg, o, rfl, hgl, hcc⟩ := (HS.out.fr HF3.out) (by have := HO.out.Sl; omega)
  have hsl := slot_at hcc q (by have := HO.out.Sl; omega)
  have hcl := HO.out.Cl
  rw [hs] at hsl
  obtain ⟨d0, d1, d2, d3⟩ := hsl
  simp only at d0 d1 d2 d3
  clear hcc hix hs
  have hpn : ¬ p = pc := by simpa using hp
  go_wp2_with (go_at_call 73; refine (spec_l1Wrap _ _).mono ?_; rintro e w' ⟨rfl, rfl⟩)
  all_goals first | (exfalso; omega) | skip
  all_goals (go_ret; exact ⟨ret_int (by first | rfl | omega), HF3.out.trans (Fr.alloc _ _)⟩)
set_option maxRecDepth 8000 in
set_option maxHeartbeats 2000000 in
theorem l5Next_b4 (x : Gu) (aS aC : Option Addr) (cS cC : Nat) (pc m k d a b f n p t s : Int) (g : Bool) (w : World) (h : Src4 w x.S aS) (hc : Src w x.C.length (ivl x.C) aC) (ho : OkG x) (p0 : 0 ≤ pc) (p1 : pc < 65536) (n0 : -256 ≤ n) (n1 : n ≤ 511)
    (hr : ∀ w, Calls Tryd.prog 72 #[.int .i64 m] w fun e w' => e = .returned (.tuple #[.agg #[.int .i64 k, .int .i64 d, .int .i64 a, .int .i64 b, .int .i64 f, .int .i64 n], .bool g]) ∧ Fr w w') (hg : g = true) (hk : (k == 8) = false) (hk7 : (k == 7) = false) (hs : x.S.getD (ix pc) sl0 = ⟨false, p, t, s⟩) :
    Calls Tryd.prog 34 #[.agg #[.slice aS x.S.length cS, .slice aC x.C.length cC], .int .i64 pc, .int .i64 m] w fun e w' => e = .returned (.int .i64 ((pc + 1) % 65536)) ∧ Fr w w' := by
  have F1 := Fr.alloc w (.cells #[.slice aS x.S.length cS, .slice aC x.C.length cC] 30)
  have HF1 := Lib.hid F1
  have HB1 := Lib.hid (Box2.new w (.slice aS x.S.length cS) (.slice aC x.C.length cC) 30 _ rfl)
  have HS := Lib.hid h
  have HC := Lib.hid hc
  have HO := Lib.hid ho
  have HR := Lib.hid hr
  clear F1 h hc ho hr
  subst hg
  have hk8n : ¬ k = 8 := by simpa using hk
  have hk7n : ¬ k = 7 := by simpa using hk7
  go_enter Tryd.func34, Tryd.ntmps34
  go_wp2_with fail
  generalize (w.alloc (.cells #[.slice aS x.S.length cS, .slice aC x.C.length cC] 30)) = u1 at *
  refine (HR.out _).mono ?_
  rintro e u2 ⟨rfl, f2⟩
  have HF2 := Lib.hid (HF1.out.trans f2)
  have HB2 := Lib.hid (HB1.out.fr f2)
  clear HF1 HB1 f2 HR
  go_upto_region 2 with fail
  have HI : Hid (Box (u2.alloc (.cells #[.int .i64 k, .int .i64 d, .int .i64 a, .int .i64 b, .int .i64 f, .int .i64 n] 43)) u2.heap.size k d a b f n) := Lib.hid ⟨(alloc_at u2 _ _ _ rfl 0).1, (alloc_at u2 _ _ _ rfl 1).1, (alloc_at u2 _ _ _ rfl 2).1, (alloc_at u2 _ _ _ rfl 3).1, (alloc_at u2 _ _ _ rfl 4).1, (alloc_at u2 _ _ _ rfl 5).1⟩
  have HF3 := Lib.hid (HF2.out.trans (Fr.alloc u2 (.cells #[.int .i64 k, .int .i64 d, .int .i64 a, .int .i64 b, .int .i64 f, .int .i64 n] 43)))
  have HB3 := Lib.hid (HB2.out.fr (Fr.alloc u2 (.cells #[.int .i64 k, .int .i64 d, .int .i64 a, .int .i64 b, .int .i64 f, .int .i64 n] 43)))
  clear HF2 HB2
  generalize (u2.alloc (.cells #[.int .i64 k, .int .i64 d, .int .i64 a, .int .i64 b, .int .i64 f, .int .i64 n] 43)) = u3 at *
  obtain ⟨_, c0, c1, _, _⟩ := HB3.out
  obtain ⟨i0, i1, i2, i3, i4, i5⟩ := HI.out
  obtain ⟨q, hk8, hkm⟩ : ∃ q : Nat, q < 8 ∧ Int.tmod pc 8 = (q : Int) := ⟨(pc % 8).toNat, by omega, by rw [Int.tmod_eq_emod_of_nonneg p0]; omega⟩
  have hix : ix pc = q := by unfold ix; rw [Int.tmod_eq_emod_of_nonneg p0] at hkm; omega
  rw [hix] at hs
  have hk8' : (q : Int) < (x.S.length : Int) := by have := HO.out.Sl; omega
  have hk0' : 0 ≤ (q : Int) := by omega
  obtain ⟨gg, o, rfl, hgl, hcc⟩ := (HS.out.fr HF3.out) (by have := HO.out.Sl; omega)
  have hsl := slot_at hcc q (by have := HO.out.Sl; omega)
  have hcl := HO.out.Cl
  rw [hs] at hsl
  obtain ⟨d0, d1, d2, d3⟩ := hsl
  simp only at d0 d1 d2 d3
  clear hcc hix hs
  go_wp2_with (go_at_call 73; refine (spec_l1Wrap _ _).mono ?_; rintro e w' ⟨rfl, rfl⟩)
  all_goals first | (exfalso; omega) | skip
  all_goals (go_ret; exact ⟨ret_int (by first | rfl | omega), HF3.out.trans (Fr.alloc _ _)⟩)
set_option maxRecDepth 8000 in
set_option maxHeartbeats 2000000 in
theorem l5Next_c1 (x : Gu) (aS aC : Option Addr) (cS cC : Nat) (pc m k d a b f n p t s : Int) (g : Bool) (w : World) (h : Src4 w x.S aS) (hc : Src w x.C.length (ivl x.C) aC) (ho : OkG x) (p0 : 0 ≤ pc) (p1 : pc < 65536) (n0 : -256 ≤ n) (n1 : n ≤ 511)
    (hr : ∀ w, Calls Tryd.prog 72 #[.int .i64 m] w fun e w' => e = .returned (.tuple #[.agg #[.int .i64 k, .int .i64 d, .int .i64 a, .int .i64 b, .int .i64 f, .int .i64 n], .bool g]) ∧ Fr w w') (hg : g = true) (hk : k = 8) (hd : (d == 0) = false) (hs : x.S.getD (ix pc) sl0 = ⟨true, pc, t, s⟩) (hs2 : 2 ≤ s) :
    Calls Tryd.prog 34 #[.agg #[.slice aS x.S.length cS, .slice aC x.C.length cC], .int .i64 pc, .int .i64 m] w fun e w' => e = .returned (.int .i64 (t)) ∧ Fr w w' := by
  have F1 := Fr.alloc w (.cells #[.slice aS x.S.length cS, .slice aC x.C.length cC] 30)
  have HF1 := Lib.hid F1
  have HB1 := Lib.hid (Box2.new w (.slice aS x.S.length cS) (.slice aC x.C.length cC) 30 _ rfl)
  have HS := Lib.hid h
  have HC := Lib.hid hc
  have HO := Lib.hid ho
  have HR := Lib.hid hr
  clear F1 h hc ho hr
  subst hg hk
  have hdn : ¬ d = 0 := by simpa using hd
  go_enter Tryd.func34, Tryd.ntmps34
  go_wp2_with fail
  generalize (w.alloc (.cells #[.slice aS x.S.length cS, .slice aC x.C.length cC] 30)) = u1 at *
  refine (HR.out _).mono ?_
  rintro e u2 ⟨rfl, f2⟩
  have HF2 := Lib.hid (HF1.out.trans f2)
  have HB2 := Lib.hid (HB1.out.fr f2)
  clear HF1 HB1 f2 HR
  go_upto_region 2 with fail
  have HI : Hid (Box (u2.alloc (.cells #[.int .i64 8, .int .i64 d, .int .i64 a, .int .i64 b, .int .i64 f, .int .i64 n] 43)) u2.heap.size 8 d a b f n) := Lib.hid ⟨(alloc_at u2 _ _ _ rfl 0).1, (alloc_at u2 _ _ _ rfl 1).1, (alloc_at u2 _ _ _ rfl 2).1, (alloc_at u2 _ _ _ rfl 3).1, (alloc_at u2 _ _ _ rfl 4).1, (alloc_at u2 _ _ _ rfl 5).1⟩
  have HF3 := Lib.hid (HF2.out.trans (Fr.alloc u2 (.cells #[.int .i64 8, .int .i64 d, .int .i64 a, .int .i64 b, .int .i64 f, .int .i64 n] 43)))
  have HB3 := Lib.hid (HB2.out.fr (Fr.alloc u2 (.cells #[.int .i64 8, .int .i64 d, .int .i64 a, .int .i64 b, .int .i64 f, .int .i64 n] 43)))
  clear HF2 HB2
  generalize (u2.alloc (.cells #[.int .i64 8, .int .i64 d, .int .i64 a, .int .i64 b, .int .i64 f, .int .i64 n] 43)) = u3 at *
  obtain ⟨_, c0, c1, _, _⟩ := HB3.out
  obtain ⟨i0, i1, i2, i3, i4, i5⟩ := HI.out
  obtain ⟨q, hk8, hkm⟩ : ∃ q : Nat, q < 8 ∧ Int.tmod pc 8 = (q : Int) := ⟨(pc % 8).toNat, by omega, by rw [Int.tmod_eq_emod_of_nonneg p0]; omega⟩
  have hix : ix pc = q := by unfold ix; rw [Int.tmod_eq_emod_of_nonneg p0] at hkm; omega
  rw [hix] at hs
  have hk8' : (q : Int) < (x.S.length : Int) := by have := HO.out.Sl; omega
  have hk0' : 0 ≤ (q : Int) := by omega
  obtain ⟨gg, o, rfl, hgl, hcc⟩ := (HS.out.fr HF3.out) (by have := HO.out.Sl; omega)
  have hsl := slot_at hcc q (by have := HO.out.Sl; omega)
  have hcl := HO.out.Cl
  rw [hs] at hsl
  obtain ⟨d0, d1, d2, d3⟩ := hsl
  simp only at d0 d1 d2 d3
  clear hcc hix hs
  go_wp2_with (go_at_call 73; refine (spec_l1Wrap _ _).mono ?_; rintro e w' ⟨rfl, rfl⟩)
  all_goals first | (exfalso; omega) | skip
  all_goals (go_ret; exact ⟨ret_int (by first | rfl | omega), HF3.out.trans (Fr.alloc _ _)⟩)
set_option maxRecDepth 8000 in
set_option maxHeartbeats 2000000 in
theorem l5Next_c2 (x : Gu) (aS aC : Option Addr) (cS cC : Nat) (pc m k d a b f n p t s : Int) (g : Bool) (w : World) (h : Src4 w x.S aS) (hc : Src w x.C.length (ivl x.C) aC) (ho : OkG x) (p0 : 0 ≤ pc) (p1 : pc < 65536) (n0 : -256 ≤ n) (n1 : n ≤ 511)
    (hr : ∀ w, Calls Tryd.prog 72 #[.int .i64 m] w fun e w' => e = .returned (.tuple #[.agg #[.int .i64 k, .int .i64 d, .int .i64 a, .int .i64 b, .int .i64 f, .int .i64 n], .bool g]) ∧ Fr w w') (hg : g = true) (hk : k = 8) (hd : (d == 0) = false) (hs : x.S.getD (ix pc) sl0 = ⟨true, pc, t, s⟩) (hs2 : ¬ 2 ≤ s) :
    Calls Tryd.prog 34 #[.agg #[.slice aS x.S.length cS, .slice aC x.C.length cC], .int .i64 pc, .int .i64 m] w fun e w' => e = .returned (.int .i64 ((pc + 1) % 65536)) ∧ Fr w w' := by
  have F1 := Fr.alloc w (.cells #[.slice aS x.S.length cS, .slice aC x.C.length cC] 30)
  have HF1 := Lib.hid F1
  have HB1 := Lib.hid (Box2.new w (.slice aS x.S.length cS) (.slice aC x.C.length cC) 30 _ rfl)
  have HS := Lib.hid h
  have HC := Lib.hid hc
  have HO := Lib.hid ho
  have HR := Lib.hid hr
  clear F1 h hc ho hr
  subst hg hk
  have hdn : ¬ d = 0 := by simpa using hd
  go_enter Tryd.func34, Tryd.ntmps34
  go_wp2_with fail
  generalize (w.alloc (.cells #[.slice aS x.S.length cS, .slice aC x.C.length cC] 30)) = u1 at *
  refine (HR.out _).mono ?_
  rintro e u2 ⟨rfl, f2⟩
  have HF2 := Lib.hid (HF1.out.trans f2)
  have HB2 := Lib.hid (HB1.out.fr f2)
  clear HF1 HB1 f2 HR
  go_upto_region 2 with fail
  have HI : Hid (Box (u2.alloc (.cells #[.int .i64 8, .int .i64 d, .int .i64 a, .int .i64 b, .int .i64 f, .int .i64 n] 43)) u2.heap.size 8 d a b f n) := Lib.hid ⟨(alloc_at u2 _ _ _ rfl 0).1, (alloc_at u2 _ _ _ rfl 1).1, (alloc_at u2 _ _ _ rfl 2).1, (alloc_at u2 _ _ _ rfl 3).1, (alloc_at u2 _ _ _ rfl 4).1, (alloc_at u2 _ _ _ rfl 5).1⟩
  have HF3 := Lib.hid (HF2.out.trans (Fr.alloc u2 (.cells #[.int .i64 8, .int .i64 d, .int .i64 a, .int .i64 b, .int .i64 f, .int .i64 n] 43)))
  have HB3 := Lib.hid (HB2.out.fr (Fr.alloc u2 (.cells #[.int .i64 8, .int .i64 d, .int .i64 a, .int .i64 b, .int .i64 f, .int .i64 n] 43)))
  clear HF2 HB2
  generalize (u2.alloc (.cells #[.int .i64 8, .int .i64 d, .int .i64 a, .int .i64 b, .int .i64 f, .int .i64 n] 43)) = u3 at *
  obtain ⟨_, c0, c1, _, _⟩ := HB3.out
  obtain ⟨i0, i1, i2, i3, i4, i5⟩ := HI.out
  obtain ⟨q, hk8, hkm⟩ : ∃ q : Nat, q < 8 ∧ Int.tmod pc 8 = (q : Int) := ⟨(pc % 8).toNat, by omega, by rw [Int.tmod_eq_emod_of_nonneg p0]; omega⟩
  have hix : ix pc = q := by unfold ix; rw [Int.tmod_eq_emod_of_nonneg p0] at hkm; omega
  rw [hix] at hs
  have hk8' : (q : Int) < (x.S.length : Int) := by have := HO.out.Sl; omega
  have hk0' : 0 ≤ (q : Int) := by omega
  obtain ⟨gg, o, rfl, hgl, hcc⟩ := (HS.out.fr HF3.out) (by have := HO.out.Sl; omega)
  have hsl := slot_at hcc q (by have := HO.out.Sl; omega)
  have hcl := HO.out.Cl
  rw [hs] at hsl
  obtain ⟨d0, d1, d2, d3⟩ := hsl
  simp only at d0 d1 d2 d3
  clear hcc hix hs
  go_wp2_with (go_at_call 73; refine (spec_l1Wrap _ _).mono ?_; rintro e w' ⟨rfl, rfl⟩)
  all_goals first | (exfalso; omega) | skip
  all_goals (go_ret; exact ⟨ret_int (by first | rfl | omega), HF3.out.trans (Fr.alloc _ _)⟩)
set_option maxRecDepth 8000 in
set_option maxHeartbeats 2000000 in
theorem l5Next_c3 (x : Gu) (aS aC : Option Addr) (cS cC : Nat) (pc m k d a b f n p t s : Int) (g : Bool) (w : World) (h : Src4 w x.S aS) (hc : Src w x.C.length (ivl x.C) aC) (ho : OkG x) (p0 : 0 ≤ pc) (p1 : pc < 65536) (n0 : -256 ≤ n) (n1 : n ≤ 511)
    (hr : ∀ w, Calls Tryd.prog 72 #[.int .i64 m] w fun e w' => e = .returned (.tuple #[.agg #[.int .i64 k, .int .i64 d, .int .i64 a, .int .i64 b, .int .i64 f, .int .i64 n], .bool g]) ∧ Fr w w') (hg : g = true) (hk : k = 8) (hd : (d == 0) = false) (hs : x.S.getD (ix pc) sl0 = ⟨true, p, t, s⟩) (hp : (p == pc) = false) :
    Calls Tryd.prog 34 #[.agg #[.slice aS x.S.length cS, .slice aC x.C.length cC], .int .i64 pc, .int .i64 m] w fun e w' => e = .returned (.int .i64 ((pc + 1) % 65536)) ∧ Fr w w' := by
  have F1 := Fr.alloc w (.cells #[.slice aS x.S.length cS, .slice aC x.C.length cC] 30)
  have HF1 := Lib.hid F1
  have HB1 := Lib.hid (Box2.new w (.slice aS x.S.length cS) (.slice aC x.C.length cC) 30 _ rfl)
  have HS := Lib.hid h
  have HC := Lib.hid hc
  have HO := Lib.hid ho
  have HR := Lib.hid hr
  clear F1 h hc ho hr
  subst hg hk
  have hdn : ¬ d = 0 := by simpa using hd
  go_enter Tryd.func34, Tryd.ntmps34
  go_wp2_with fail
  generalize (w.alloc (.cells #[.slice aS x.S.length cS, .slice aC x.C.length cC] 30)) = u1 at *
  refine (HR.out _).mono ?_
  rintro e u2 ⟨rfl, f2⟩
  have HF2 := Lib.hid (HF1.out.trans f2)
  have HB2 := Lib.hid (HB1.out.fr f2)
  clear HF1 HB1 f2 HR
  go_upto_region 2 with fail
  have HI : Hid (Box (u2.alloc (.cells #[.int .i64 8, .int .i64 d, .int .i64 a, .int .i64 b, .int .i64 f, .int .i64 n] 43)) u2.heap.size 8 d a b f n) := Lib.hid ⟨(alloc_at u2 _ _ _ rfl 0).1, (alloc_at u2 _ _ _ rfl 1).1, (alloc_at u2 _ _ _ rfl 2).1, (alloc_at u2 _ _ _ rfl 3).1, (alloc_at u2 _ _ _ rfl 4).1, (alloc_at u2 _ _ _ rfl 5).1⟩
  have HF3 := Lib.hid (HF2.out.trans (Fr.alloc u2 (.cells #[.int .i64 8, .int .i64 d, .int .i64 a, .int .i64 b, .int .i64 f, .int .i64 n] 43)))
  have HB3 := Lib.hid (HB2.out.fr (Fr.alloc u2 (.cells #[.int .i64 8, .int .i64 d, .int .i64 a, .int .i64 b, .int .i64 f, .int .i64 n] 43)))
  clear HF2 HB2
  generalize (u2.alloc (.cells #[.int .i64 8, .int .i64 d, .int .i64 a, .int .i64 b, .int .i64 f, .int .i64 n] 43)) = u3 at *
  obtain ⟨_, c0, c1, _, _⟩ := HB3.out
  obtain ⟨i0, i1, i2, i3, i4, i5⟩ := HI.out
  obtain ⟨q, hk8, hkm⟩ : ∃ q : Nat, q < 8 ∧ Int.tmod pc 8 = (q : Int) := ⟨(pc % 8).toNat, by omega, by rw [Int.tmod_eq_emod_of_nonneg p0]; omega⟩
  have hix : ix pc = q := by unfold ix; rw [Int.tmod_eq_emod_of_nonneg p0] at hkm; omega
  rw [hix] at hs
  have hk8' : (q : Int) < (x.S.length : Int) := by have := HO.out.Sl; omega
  have hk0' : 0 ≤ (q : Int) := by omega
  obtain ⟨gg, o, rfl, hgl, hcc⟩ := (HS.out.fr HF3.out) (by have := HO.out.Sl; omega)
  have hsl := slot_at hcc q (by have := HO.out.Sl; omega)
  have hcl := HO.out.Cl
  rw [hs] at hsl
  obtain ⟨d0, d1, d2, d3⟩ := hsl
  simp only at d0 d1 d2 d3
  clear hcc hix hs
  have hpn : ¬ p = pc := by simpa using hp
  go_wp2_with (go_at_call 73; refine (spec_l1Wrap _ _).mono ?_; rintro e w' ⟨rfl, rfl⟩)
  all_goals first | (exfalso; omega) | skip
  all_goals (go_ret; exact ⟨ret_int (by first | rfl | omega), HF3.out.trans (Fr.alloc _ _)⟩)
set_option maxRecDepth 8000 in
set_option maxHeartbeats 2000000 in
theorem l5Next_c4 (x : Gu) (aS aC : Option Addr) (cS cC : Nat) (pc m k d a b f n p t s : Int) (g : Bool) (w : World) (h : Src4 w x.S aS) (hc : Src w x.C.length (ivl x.C) aC) (ho : OkG x) (p0 : 0 ≤ pc) (p1 : pc < 65536) (n0 : -256 ≤ n) (n1 : n ≤ 511)
    (hr : ∀ w, Calls Tryd.prog 72 #[.int .i64 m] w fun e w' => e = .returned (.tuple #[.agg #[.int .i64 k, .int .i64 d, .int .i64 a, .int .i64 b, .int .i64 f, .int .i64 n], .bool g]) ∧ Fr w w') (hg : g = true) (hk : k = 8) (hd : (d == 0) = false) (hs : x.S.getD (ix pc) sl0 = ⟨false, p, t, s⟩) :
    Calls Tryd.prog 34 #[.agg #[.slice aS x.S.length cS, .slice aC x.C.length cC], .int .i64 pc, .int .i64 m] w fun e w' => e = .returned (.int .i64 ((pc + 1) % 65536)) ∧ Fr w w' := by
  have F1 := Fr.alloc w (.cells #[.slice aS x.S.length cS, .slice aC x.C.length cC] 30)
  have HF1 := Lib.hid F1
  have HB1 := Lib.hid (Box2.new w (.slice aS x.S.length cS) (.slice aC x.C.length cC) 30 _ rfl)
  have HS := Lib.hid h
  have HC := Lib.hid hc
  have HO := Lib.hid ho
  have HR := Lib.hid hr
  clear F1 h hc ho hr
  subst hg hk
  have hdn : ¬ d = 0 := by simpa using hd
  go_enter Tryd.func34, Tryd.ntmps34
  go_wp2_with fail
  generalize (w.alloc (.cells #[.slice aS x.S.length cS, .slice aC x.C.length cC] 30)) = u1 at *
  refine (HR.out _).mono ?_
  rintro e u2 ⟨rfl, f2⟩
  have HF2 := Lib.hid (HF1.out.trans f2)
  have HB2 := Lib.hid (HB1.out.fr f2)
  clear HF1 HB1 f2 HR
  go_upto_region 2 with fail
  have HI : Hid (Box (u2.alloc (.cells #[.int .i64 8, .int .i64 d, .int .i64 a, .int .i64 b, .int .i64 f, .int .i64 n] 43)) u2.heap.size 8 d a b f n) := Lib.hid ⟨(alloc_at u2 _ _ _ rfl 0).1, (alloc_at u2 _ _ _ rfl 1).1, (alloc_at u2 _ _ _ rfl 2).1, (alloc_at u2 _ _ _ rfl 3).1, (alloc_at u2 _ _ _ rfl 4).1, (alloc_at u2 _ _ _ rfl 5).1⟩
  have HF3 := Lib.hid (HF2.out.trans (Fr.alloc u2 (.cells #[.int .i64 8, .int .i64 d, .int .i64 a, .int .i64 b, .int .i64 f, .int .i64 n] 43)))
  have HB3 := Lib.hid (HB2.out.fr (Fr.alloc u2 (.cells #[.int .i64 8, .int .i64 d, .int .i64 a, .int .i64 b, .int .i64 f, .int .i64 n] 43)))
  clear HF2 HB2
  generalize (u2.alloc (.cells #[.int .i64 8, .int .i64 d, .int .i64 a, .int .i64 b, .int .i64 f, .int .i64 n] 43)) = u3 at *
  obtain ⟨_, c0, c1, _, _⟩ := HB3.out
  obtain ⟨i0, i1, i2, i3, i4, i5⟩ := HI.out
  obtain ⟨q, hk8, hkm⟩ : ∃ q : Nat, q < 8 ∧ Int.tmod pc 8 = (q : Int) := ⟨(pc % 8).toNat, by omega, by rw [Int.tmod_eq_emod_of_nonneg p0]; omega⟩
  have hix : ix pc = q := by unfold ix; rw [Int.tmod_eq_emod_of_nonneg p0] at hkm; omega
  rw [hix] at hs
  have hk8' : (q : Int) < (x.S.length : Int) := by have := HO.out.Sl; omega
  have hk0' : 0 ≤ (q : Int) := by omega
  obtain ⟨gg, o, rfl, hgl, hcc⟩ := (HS.out.fr HF3.out) (by have := HO.out.Sl; omega)
  have hsl := slot_at hcc q (by have := HO.out.Sl; omega)
  have hcl := HO.out.Cl
  rw [hs] at hsl
  obtain ⟨d0, d1, d2, d3⟩ := hsl
  simp only at d0 d1 d2 d3
  clear hcc hix hs
  go_wp2_with (go_at_call 73; refine (spec_l1Wrap _ _).mono ?_; rintro e w' ⟨rfl, rfl⟩)
  all_goals first | (exfalso; omega) | skip
  all_goals (go_ret; exact ⟨ret_int (by first | rfl | omega), HF3.out.trans (Fr.alloc _ _)⟩)
set_option maxRecDepth 8000 in
set_option maxHeartbeats 2000000 in
theorem l5Next_d1 (x : Gu) (aS aC : Option Addr) (cS cC : Nat) (pc m k d a b f n p t s : Int) (g : Bool) (w : World) (h : Src4 w x.S aS) (hc : Src w x.C.length (ivl x.C) aC) (ho : OkG x) (p0 : 0 ≤ pc) (p1 : pc < 65536) (n0 : -256 ≤ n) (n1 : n ≤ 511)
    (hr : ∀ w, Calls Tryd.prog 72 #[.int .i64 m] w fun e w' => e = .returned (.tuple #[.agg #[.int .i64 k, .int .i64 d, .int .i64 a, .int .i64 b, .int .i64 f, .int .i64 n], .bool g]) ∧ Fr w w') (hg : g = true) (hk : k = 8) (hd : d = 0) (h0 : x.C.length = 0) (hs : x.S.getD (ix pc) sl0 = ⟨true, pc, t, s⟩) (hs2 : 2 ≤ s) :
    Calls Tryd.prog 34 #[.agg #[.slice aS x.S.length cS, .slice aC x.C.length cC], .int .i64 pc, .int .i64 m] w fun e w' => e = .returned (.int .i64 (t)) ∧ Fr w w' := by
  have F1 := Fr.alloc w (.cells #[.slice aS x.S.length cS, .slice aC x.C.length cC] 30)
  have HF1 := Lib.hid F1
  have HB1 := Lib.hid (Box2.new w (.slice aS x.S.length cS) (.slice aC x.C.length cC) 30 _ rfl)
  have HS := Lib.hid h
  have HC := Lib.hid hc
  have HO := Lib.hid ho
  have HR := Lib.hid hr
  clear F1 h hc ho hr
  subst hg hk hd
  have h00 : ¬ (0 : Int) < (x.C.length : Int) := by omega
  clear h0
  go_enter Tryd.func34, Tryd.ntmps34
  go_wp2_with fail
  generalize (w.alloc (.cells #[.slice aS x.S.length cS, .slice aC x.C.length cC] 30)) = u1 at *
  refine (HR.out _).mono ?_
  rintro e u2 ⟨rfl, f2⟩
  have HF2 := Lib.hid (HF1.out.trans f2)
  have HB2 := Lib.hid (HB1.out.fr f2)
  clear HF1 HB1 f2 HR
  go_upto_region 2 with fail
  have HI : Hid (Box (u2.alloc (.cells #[.int .i64 8, .int .i64 0, .int .i64 a, .int .i64 b, .int .i64 f, .int .i64 n] 43)) u2.heap.size 8 0 a b f n) := Lib.hid ⟨(alloc_at u2 _ _ _ rfl 0).1, (alloc_at u2 _ _ _ rfl 1).1, (alloc_at u2 _ _ _ rfl 2).1, (alloc_at u2 _ _ _ rfl 3).1, (alloc_at u2 _ _ _ rfl 4).1, (alloc_at u2 _ _ _ rfl 5).1⟩
  have HF3 := Lib.hid (HF2.out.trans (Fr.alloc u2 (.cells #[.int .i64 8, .int .i64 0, .int .i64 a, .int .i64 b, .int .i64 f, .int .i64 n] 43)))
  have HB3 := Lib.hid (HB2.out.fr (Fr.alloc u2 (.cells #[.int .i64 8, .int .i64 0, .int .i64 a, .int .i64 b, .int .i64 f, .int .i64 n] 43)))
  clear HF2 HB2
  generalize (u2.alloc (.cells #[.int .i64 8, .int .i64 0, .int .i64 a, .int .i64 b, .int .i64 f, .int .i64 n] 43)) = u3 at *
  obtain ⟨_, c0, c1, _, _⟩ := HB3.out
  obtain ⟨i0, i1, i2, i3, i4, i5⟩ := HI.out
  obtain ⟨q, hk8, hkm⟩ : ∃ q : Nat, q < 8 ∧ Int.tmod pc 8 = (q : Int) := ⟨(pc % 8).toNat, by omega, by rw [Int.tmod_eq_emod_of_nonneg p0]; omega⟩
  have hix : ix pc = q := by unfold ix; rw [Int.tmod_eq_emod_of_nonneg p0] at hkm; omega
  rw [hix] at hs
  have hk8' : (q : Int) < (x.S.length : Int) := by have := HO.out.Sl; omega
  have hk0' : 0 ≤ (q : Int) := by omega
  obtain ⟨gg, o, rfl, hgl, hcc⟩ := (HS.out.fr HF3.out) (by have := HO.out.Sl; omega)
  have hsl := slot_at hcc q (by have := HO.out.Sl; omega)
  have hcl := HO.out.Cl
  rw [hs] at hsl
  obtain ⟨d0, d1, d2, d3⟩ := hsl
  simp only at d0 d1 d2 d3
  clear hcc hix hs
  go_wp2_with (go_at_call 73; refine (spec_l1Wrap _ _).mono ?_; rintro e w' ⟨rfl, rfl⟩)
  all_goals first | (exfalso; omega) | skip
  all_goals (go_ret; exact ⟨ret_int (by first | rfl | omega), HF3.out.trans (Fr.alloc _ _)⟩)
set_option maxRecDepth 8000 in
set_option maxHeartbeats 2000000 in
theorem l5Next_d2 (x : Gu) (aS aC : Option Addr) (cS cC : Nat) (pc m k d a b f n p t s : Int) (g : Bool) (w : World) (h : Src4 w x.S aS) (hc : Src w x.C.length (ivl x.C) aC) (ho : OkG x) (p0 : 0 ≤ pc) (p1 : pc < 65536) (n0 : -256 ≤ n) (n1 : n ≤ 511)
    (hr : ∀ w, Calls Tryd.prog 72 #[.int .i64 m] w fun e w' => e = .returned (.tuple #[.agg #[.int .i64 k, .int .i64 d, .int .i64 a, .int .i64 b, .int .i64 f, .int .i64 n], .bool g]) ∧ Fr w w') (hg : g = true) (hk : k = 8) (hd : d = 0) (h0 : x.C.length = 0) (hs : x.S.getD (ix pc) sl0 = ⟨true, pc, t, s⟩) (hs2 : ¬ 2 ≤ s) :
    Calls Tryd.prog 34 #[.agg #[.slice aS x.S.length cS, .slice aC x.C.length cC], .int .i64 pc, .int .i64 m] w fun e w' => e = .returned (.int .i64 ((pc + 1) % 65536)) ∧ Fr w w' := by
  have F1 := Fr.alloc w (.cells #[.slice aS x.S.length cS, .slice aC x.C.length cC] 30)
  have HF1 := Lib.hid F1
  have HB1 := Lib.hid (Box2.new w (.slice aS x.S.length cS) (.slice aC x.C.length cC) 30 _ rfl)
  have HS := Lib.hid h
  have HC := Lib.hid hc
  have HO := Lib.hid ho
  have HR := Lib.hid hr
  clear F1 h hc ho hr
  subst hg hk hd
  have h00 : ¬ (0 : Int) < (x.C.length : Int) := by omega
  clear h0
  go_enter Tryd.func34, Tryd.ntmps34
  go_wp2_with fail
  generalize (w.alloc (.cells #[.slice aS x.S.length cS, .slice aC x.C.length cC] 30)) = u1 at *
  refine (HR.out _).mono ?_
  rintro e u2 ⟨rfl, f2⟩
  have HF2 := Lib.hid (HF1.out.trans f2)
  have HB2 := Lib.hid (HB1.out.fr f2)
  clear HF1 HB1 f2 HR
  go_upto_region 2 with fail
  have HI : Hid (Box (u2.alloc (.cells #[.int .i64 8, .int .i64 0, .int .i64 a, .int .i64 b, .int .i64 f, .int .i64 n] 43)) u2.heap.size 8 0 a b f n) := Lib.hid ⟨(alloc_at u2 _ _ _ rfl 0).1, (alloc_at u2 _ _ _ rfl 1).1, (alloc_at u2 _ _ _ rfl 2).1, (alloc_at u2 _ _ _ rfl 3).1, (alloc_at u2 _ _ _ rfl 4).1, (alloc_at u2 _ _ _ rfl 5).1⟩
  have HF3 := Lib.hid (HF2.out.trans (Fr.alloc u2 (.cells #[.int .i64 8, .int .i64 0, .int .i64 a, .int .i64 b, .int .i64 f, .int .i64 n] 43)))
  have HB3 := Lib.hid (HB2.out.fr (Fr.alloc u2 (.cells #[.int .i64 8, .int .i64 0, .int .i64 a, .int .i64 b, .int .i64 f, .int .i64 n] 43)))
  clear HF2 HB2
  generalize (u2.alloc (.cells #[.int .i64 8, .int .i64 0, .int .i64 a, .int .i64 b, .int .i64 f, .int .i64 n] 43)) = u3 at *
  obtain ⟨_, c0, c1, _, _⟩ := HB3.out
  obtain ⟨i0, i1, i2, i3, i4, i5⟩ := HI.out
  obtain ⟨q, hk8, hkm⟩ : ∃ q : Nat, q < 8 ∧ Int.tmod pc 8 = (q : Int) := ⟨(pc % 8).toNat, by omega, by rw [Int.tmod_eq_emod_of_nonneg p0]; omega⟩
  have hix : ix pc = q := by unfold ix; rw [Int.tmod_eq_emod_of_nonneg p0] at hkm; omega
  rw [hix] at hs
  have hk8' : (q : Int) < (x.S.length : Int) := by have := HO.out.Sl; omega
  have hk0' : 0 ≤ (q : Int) := by omega
  obtain ⟨gg, o, rfl, hgl, hcc⟩ := (HS.out.fr HF3.out) (by have := HO.out.Sl; omega)
  have hsl := slot_at hcc q (by have := HO.out.Sl; omega)
  have hcl := HO.out.Cl
  rw [hs] at hsl
  obtain ⟨d0, d1, d2, d3⟩ := hsl
  simp only at d0 d1 d2 d3
  clear hcc hix hs
  go_wp2_with (go_at_call 73; refine (spec_l1Wrap _ _).mono ?_; rintro e w' ⟨rfl, rfl⟩)
  all_goals first | (exfalso; omega) | skip
  all_goals (go_ret; exact ⟨ret_int (by first | rfl | omega), HF3.out.trans (Fr.alloc _ _)⟩)
set_option maxRecDepth 8000 in
set_option maxHeartbeats 2000000 in
theorem l5Next_d3 (x : Gu) (aS aC : Option Addr) (cS cC : Nat) (pc m k d a b f n p t s : Int) (g : Bool) (w : World) (h : Src4 w x.S aS) (hc : Src w x.C.length (ivl x.C) aC) (ho : OkG x) (p0 : 0 ≤ pc) (p1 : pc < 65536) (n0 : -256 ≤ n) (n1 : n ≤ 511)
    (hr : ∀ w, Calls Tryd.prog 72 #[.int .i64 m] w fun e w' => e = .returned (.tuple #[.agg #[.int .i64 k, .int .i64 d, .int .i64 a, .int .i64 b, .int .i64 f, .int .i64 n], .bool g]) ∧ Fr w w') (hg : g = true) (hk : k = 8) (hd : d = 0) (h0 : x.C.length = 0) (hs : x.S.getD (ix pc) sl0 = ⟨true, p, t, s⟩) (hp : (p == pc) = false) :
    Calls Tryd.prog 34 #[.agg #[.slice aS x.S.length cS, .slice aC x.C.length cC], .int .i64 pc, .int .i64 m] w fun e w' => e = .returned (.int .i64 ((pc + 1) % 65536)) ∧ Fr w w' := by
  have F1 := Fr.alloc w (.cells #[.slice aS x.S.length cS, .slice aC x.C.length cC] 30)
  have HF1 := Lib.hid F1
  have HB1 := Lib.hid (Box2.new w (.slice aS x.S.length cS) (.slice aC x.C.length cC) 30 _ rfl)
  have HS := Lib.hid h
  have HC := Lib.hid hc
  have HO := Lib.hid ho
  have HR := Lib.hid hr
  clear F1 h hc ho hr
  subst hg hk hd
  have h00 : ¬ (0 : Int) < (x.C.length : Int) := by omega
  clear h0
  go_enter Tryd.func34, Tryd.ntmps34
  go_wp2_with fail
  generalize (w.alloc (.cells #[.slice aS x.S.length cS, .slice aC x.C.length cC] 30)) = u1 at *
  refine (HR.out _).mono ?_
  rintro e u2 ⟨rfl, f2⟩
  have HF2 := Lib.hid (HF1.out.trans f2)
  have HB2 := Lib.hid (HB1.out.fr f2)
  clear HF1 HB1 f2 HR
  go_upto_region 2 with fail
  have HI : Hid (Box (u2.alloc (.cells #[.int .i64 8, .int .i64 0, .int .i64 a, .int .i64 b, .int .i64 f, .int .i64 n] 43)) u2.heap.size 8 0 a b f n) := Lib.hid ⟨(alloc_at u2 _ _ _ rfl 0).1, (alloc_at u2 _ _ _ rfl 1).1, (alloc_at u2 _ _ _ rfl 2).1, (alloc_at u2 _ _ _ rfl 3).1, (alloc_at u2 _ _ _ rfl 4).1, (alloc_at u2 _ _ _ rfl 5).1⟩
  have HF3 := Lib.hid (HF2.out.trans (Fr.alloc u2 (.cells #[.int .i64 8, .int .i64 0, .int .i64 a, .int .i64 b, .int .i64 f, .int .i64 n] 43)))
  have HB3 := Lib.hid (HB2.out.fr (Fr.alloc u2 (.cells #[.int .i64 8, .int .i64 0, .int .i64 a, .int .i64 b, .int .i64 f, .int .i64 n] 43)))
  clear HF2 HB2
  generalize (u2.alloc (.cells #[.int .i64 8, .int .i64 0, .int .i64 a, .int .i64 b, .int .i64 f, .int .i64 n] 43)) = u3 at *
  obtain ⟨_, c0, c1, _, _⟩ := HB3.out
  obtain ⟨i0, i1, i2, i3, i4, i5⟩ := HI.out
  obtain ⟨q, hk8, hkm⟩ : ∃ q : Nat, q < 8 ∧ Int.tmod pc 8 = (q : Int) := ⟨(pc % 8).toNat, by omega, by rw [Int.tmod_eq_emod_of_nonneg p0]; omega⟩
  have hix : ix pc = q := by unfold ix; rw [Int.tmod_eq_emod_of_nonneg p0] at hkm; omega
  rw [hix] at hs
  have hk8' : (q : Int) < (x.S.length : Int) := by have := HO.out.Sl; omega
  have hk0' : 0 ≤ (q : Int) := by omega
  obtain ⟨gg, o, rfl, hgl, hcc⟩ := (HS.out.fr HF3.out) (by have := HO.out.Sl; omega)
  have hsl := slot_at hcc q (by have := HO.out.Sl; omega)
  have hcl := HO.out.Cl
  rw [hs] at hsl
  obtain ⟨d0, d1, d2, d3⟩ := hsl
  simp only at d0 d1 d2 d3
  clear hcc hix hs
  have hpn : ¬ p = pc := by simpa using hp
  go_wp2_with (go_at_call 73; refine (spec_l1Wrap _ _).mono ?_; rintro e w' ⟨rfl, rfl⟩)
  all_goals first | (exfalso; omega) | skip
  all_goals (go_ret; exact ⟨ret_int (by first | rfl | omega), HF3.out.trans (Fr.alloc _ _)⟩)
set_option maxRecDepth 8000 in
set_option maxHeartbeats 2000000 in
theorem l5Next_d4 (x : Gu) (aS aC : Option Addr) (cS cC : Nat) (pc m k d a b f n p t s : Int) (g : Bool) (w : World) (h : Src4 w x.S aS) (hc : Src w x.C.length (ivl x.C) aC) (ho : OkG x) (p0 : 0 ≤ pc) (p1 : pc < 65536) (n0 : -256 ≤ n) (n1 : n ≤ 511)
    (hr : ∀ w, Calls Tryd.prog 72 #[.int .i64 m] w fun e w' => e = .returned (.tuple #[.agg #[.int .i64 k, .int .i64 d, .int .i64 a, .int .i64 b, .int .i64 f, .int .i64 n], .bool g]) ∧ Fr w w') (hg : g = true) (hk : k = 8) (hd : d = 0) (h0 : x.C.length = 0) (hs : x.S.getD (ix pc) sl0 = ⟨false, p, t, s⟩) :
    Calls Tryd.prog 34 #[.agg #[.slice aS x.S.length cS, .slice aC x.C.length cC], .int .i64 pc, .int .i64 m] w fun e w' => e = .returned (.int .i64 ((pc + 1) % 65536)) ∧ Fr w w' := by
  have F1 := Fr.alloc w (.cells #[.slice aS x.S.length cS, .slice aC x.C.length cC] 30)
  have HF1 := Lib.hid F1
  have HB1 := Lib.hid (Box2.new w (.slice aS x.S.length cS) (.slice aC x.C.length cC) 30 _ rfl)
  have HS := Lib.hid h
  have HC := Lib.hid hc
  have HO := Lib.hid ho
  have HR := Lib.hid hr
  clear F1 h hc ho hr
  subst hg hk hd
  have h00 : ¬ (0 : Int) < (x.C.length : Int) := by omega
  clear h0
  go_enter Tryd.func34, Tryd.ntmps34
  go_wp2_with fail
  generalize (w.alloc (.cells #[.slice aS x.S.length cS, .slice aC x.C.length cC] 30)) = u1 at *
  refine (HR.out _).mono ?_
  rintro e u2 ⟨rfl, f2⟩
  have HF2 := Lib.hid (HF1.out.trans f2)
  have HB2 := Lib.hid (HB1.out.fr f2)
  clear HF1 HB1 f2 HR
  go_upto_region 2 with fail
  have HI : Hid (Box (u2.alloc (.cells #[.int .i64 8, .int .i64 0, .int .i64 a, .int .i64 b, .int .i64 f, .int .i64 n] 43)) u2.heap.size 8 0 a b f n) := Lib.hid ⟨(alloc_at u2 _ _ _ rfl 0).1, (alloc_at u2 _ _ _ rfl 1).1, (alloc_at u2 _ _ _ rfl 2).1, (alloc_at u2 _ _ _ rfl 3).1, (alloc_at u2 _ _ _ rfl 4).1, (alloc_at u2 _ _ _ rfl 5).1⟩
  have HF3 := Lib.hid (HF2.out.trans (Fr.alloc u2 (.cells #[.int .i64 8, .int .i64 0, .int .i64 a, .int .i64 b, .int .i64 f, .int .i64 n] 43)))
  have HB3 := Lib.hid (HB2.out.fr (Fr.alloc u2 (.cells #[.int .i64 8, .int .i64 0, .int .i64 a, .int .i64 b, .int .i64 f, .int .i64 n] 43)))
  clear HF2 HB2
  generalize (u2.alloc (.cells #[.int .i64 8, .int .i64 0, .int .i64 a, .int .i64 b, .int .i64 f, .int .i64 n] 43)) = u3 at *
  obtain ⟨_, c0, c1, _, _⟩ := HB3.out
  obtain ⟨i0, i1, i2, i3, i4, i5⟩ := HI.out
  obtain ⟨q, hk8, hkm⟩ : ∃ q : Nat, q < 8 ∧ Int.tmod pc 8 = (q : Int) := ⟨(pc % 8).toNat, by omega, by rw [Int.tmod_eq_emod_of_nonneg p0]; omega⟩
  have hix : ix pc = q := by unfold ix; rw [Int.tmod_eq_emod_of_nonneg p0] at hkm; omega
  rw [hix] at hs
  have hk8' : (q : Int) < (x.S.length : Int) := by have := HO.out.Sl; omega
  have hk0' : 0 ≤ (q : Int) := by omega
  obtain ⟨gg, o, rfl, hgl, hcc⟩ := (HS.out.fr HF3.out) (by have := HO.out.Sl; omega)
  have hsl := slot_at hcc q (by have := HO.out.Sl; omega)
  have hcl := HO.out.Cl
  rw [hs] at hsl
  obtain ⟨d0, d1, d2, d3⟩ := hsl
  simp only at d0 d1 d2 d3
  clear hcc hix hs
  go_wp2_with (go_at_call 73; refine (spec_l1Wrap _ _).mono ?_; rintro e w' ⟨rfl, rfl⟩)
  all_goals first | (exfalso; omega) | skip
  all_goals (go_ret; exact ⟨ret_int (by first | rfl | omega), HF3.out.trans (Fr.alloc _ _)⟩)
theorem gd_kK {m : Int} (h : gd m = false) : kK m = 0 := rI_f h
theorem spec_l5Next (x : Gu) (aS aC : Option Addr) (cS cC : Nat) (pc m : Int) (w : World) (h : Src4 w x.S aS) (hc : Src w x.C.length (ivl x.C) aC) (ho : OkG x) (p0 : 0 ≤ pc) (p1 : pc < 65536) :
    Calls Tryd.prog 34 #[.agg #[.slice aS x.S.length cS, .slice aC x.C.length cC], .int .i64 pc, .int .i64 m] w fun e w' => e = .returned (.int .i64 (nextG x pc m)) ∧ Fr w w' := by
  have hN : -256 ≤ rI m (rdv m 4) ∧ rI m (rdv m 4) ≤ 511 := kN_bd m
  have hr := fun w => spec_CodRead m w
  have hK0 : gd m = false → rI m (m / 4096) = 0 := fun h => gd_kK (m := m) h
  simp only [rV] at hr
  unfold nextG kK kD kN
  generalize rI m (m / 4096) = k at *
  generalize rI m (rdv m 0) = d at *
  generalize rI m (rdv m 4) = n at *
  generalize rI m (rdv m 1) = a at *
  generalize rI m (rdv m 2) = b at *
  generalize rI m (rdv m 3) = f at *
  generalize gd m = g at *
  obtain ⟨xx, hx⟩ : ∃ xx, x.S.getD (ix pc) sl0 = xx := ⟨_, rfl⟩
  unfold nextK
  rw [hx]
  obtain ⟨u, p, t, s⟩ := xx
  have slot : ∀ (Q : Int → Prop), topP x.C k d = (0, false) → tgtP pc k n = (0, false) → (u = true → p = pc → 2 ≤ s → Q t) → (u = true → p = pc → ¬ 2 ≤ s → Q ((pc + 1) % 65536)) → (u = true → ¬ p = pc → Q ((pc + 1) % 65536)) → (u = false → Q ((pc + 1) % 65536)) → Q (if (orP (orP (topP x.C k d) (tgtP pc k n)) (prdP ⟨u, p, t, s⟩ pc)).2 = true then (orP (orP (topP x.C k d) (tgtP pc k n)) (prdP ⟨u, p, t, s⟩ pc)).1 else (pc + 1) % 65536) := by
    intro Q e1 e2 q1 q2 q3 q4
    rw [e1, e2]
    cases u
    · simpa [orP, prdP] using q4 rfl
    · by_cases hp : p = pc
      · by_cases hs : 2 ≤ s
        · simpa [orP, prdP, hp, hs] using q1 rfl hp hs
        · simpa [orP, prdP, hp, hs] using q2 rfl hp hs
      · simpa [orP, prdP, hp] using q3 rfl hp
  cases g
  · have hk := hK0 rfl
    refine slot (fun z => Calls Tryd.prog 34 #[.agg #[.slice aS x.S.length cS, .slice aC x.C.length cC], .int .i64 pc, .int .i64 m] w fun e w' => e = .returned (.int .i64 z) ∧ Fr w w') (if_neg (by omega)) (if_neg (by omega)) ?_ ?_ ?_ ?_
    · rintro rfl rfl hs
      exact l5Next_a1 x aS aC cS cC _ m k d a b f n p t s false w h hc ho p0 p1 hN.1 hN.2 hr rfl hx hs
    · rintro rfl rfl hs
      exact l5Next_a2 x aS aC cS cC _ m k d a b f n p t s false w h hc ho p0 p1 hN.1 hN.2 hr rfl hx hs
    · rintro rfl hp
      exact l5Next_a3 x aS aC cS cC _ m k d a b f n p t s false w h hc ho p0 p1 hN.1 hN.2 hr rfl hx (by simpa using hp)
    · rintro rfl
      exact l5Next_a4 x aS aC cS cC _ m k d a b f n p t s false w h hc ho p0 p1 hN.1 hN.2 hr rfl hx
  · by_cases hk7 : k = 7
    · have e1 : topP x.C k d = (0, false) := if_neg (by omega)
      have e2 : tgtP pc k n = ((pc + 1 + n) % 65536, true) := if_pos hk7
      rw [e1, e2]
      simp only [orP, if_true, if_false, Bool.false_eq_true]
      exact l5Next_jmp x aS aC cS cC pc m k d a b f n true w h hc ho p0 p1 hN.1 hN.2 hr rfl hk7
    · by_cases hk8 : k = 8
      · by_cases hd : d = 0
        · by_cases h0 : 0 < x.C.length
          · have e1 : topP x.C k d = (x.C.getD (x.C.length - 1) 0, true) := if_pos ⟨hk8, hd, h0⟩
            rw [e1]
            simp only [orP, if_true]
            exact l5Next_top x aS aC cS cC pc m k d a b f n true w h hc ho p0 p1 hN.1 hN.2 hr rfl hk8 hd h0
          · refine slot (fun z => Calls Tryd.prog 34 #[.agg #[.slice aS x.S.length cS, .slice aC x.C.length cC], .int .i64 pc, .int .i64 m] w fun e w' => e = .returned (.int .i64 z) ∧ Fr w w') (if_neg (fun h => h0 h.2.2)) (if_neg hk7) ?_ ?_ ?_ ?_
            · rintro rfl rfl hs
              exact l5Next_d1 x aS aC cS cC _ m k d a b f n p t s true w h hc ho p0 p1 hN.1 hN.2 hr rfl hk8 hd (by omega) hx hs
            · rintro rfl rfl hs
              exact l5Next_d2 x aS aC cS cC _ m k d a b f n p t s true w h hc ho p0 p1 hN.1 hN.2 hr rfl hk8 hd (by omega) hx hs
            · rintro rfl hp
              exact l5Next_d3 x aS aC cS cC _ m k d a b f n p t s true w h hc ho p0 p1 hN.1 hN.2 hr rfl hk8 hd (by omega) hx (by simpa using hp)
            · rintro rfl
              exact l5Next_d4 x aS aC cS cC _ m k d a b f n p t s true w h hc ho p0 p1 hN.1 hN.2 hr rfl hk8 hd (by omega) hx
        · refine slot (fun z => Calls Tryd.prog 34 #[.agg #[.slice aS x.S.length cS, .slice aC x.C.length cC], .int .i64 pc, .int .i64 m] w fun e w' => e = .returned (.int .i64 z) ∧ Fr w w') (if_neg (fun h => hd h.2.1)) (if_neg hk7) ?_ ?_ ?_ ?_
          · rintro rfl rfl hs
            exact l5Next_c1 x aS aC cS cC _ m k d a b f n p t s true w h hc ho p0 p1 hN.1 hN.2 hr rfl hk8 (by simpa using hd) hx hs
          · rintro rfl rfl hs
            exact l5Next_c2 x aS aC cS cC _ m k d a b f n p t s true w h hc ho p0 p1 hN.1 hN.2 hr rfl hk8 (by simpa using hd) hx hs
          · rintro rfl hp
            exact l5Next_c3 x aS aC cS cC _ m k d a b f n p t s true w h hc ho p0 p1 hN.1 hN.2 hr rfl hk8 (by simpa using hd) hx (by simpa using hp)
          · rintro rfl
            exact l5Next_c4 x aS aC cS cC _ m k d a b f n p t s true w h hc ho p0 p1 hN.1 hN.2 hr rfl hk8 (by simpa using hd) hx
      · refine slot (fun z => Calls Tryd.prog 34 #[.agg #[.slice aS x.S.length cS, .slice aC x.C.length cC], .int .i64 pc, .int .i64 m] w fun e w' => e = .returned (.int .i64 z) ∧ Fr w w') (if_neg (fun h => hk8 h.1)) (if_neg hk7) ?_ ?_ ?_ ?_
        · rintro rfl rfl hs
          exact l5Next_b1 x aS aC cS cC _ m k d a b f n p t s true w h hc ho p0 p1 hN.1 hN.2 hr rfl (by simpa using hk8) (by simpa using hk7) hx hs
        · rintro rfl rfl hs
          exact l5Next_b2 x aS aC cS cC _ m k d a b f n p t s true w h hc ho p0 p1 hN.1 hN.2 hr rfl (by simpa using hk8) (by simpa using hk7) hx hs
        · rintro rfl hp
          exact l5Next_b3 x aS aC cS cC _ m k d a b f n p t s true w h hc ho p0 p1 hN.1 hN.2 hr rfl (by simpa using hk8) (by simpa using hk7) hx (by simpa using hp)
        · rintro rfl
          exact l5Next_b4 x aS aC cS cC _ m k d a b f n p t s true w h hc ho p0 p1 hN.1 hN.2 hr rfl (by simpa using hk8) (by simpa using hk7) hx
set_option maxRecDepth 8000 in
set_option maxHeartbeats 1000000 in
theorem spec_GueNext_ok (x : Gu) (aS aC : Option Addr) (cS cC : Nat) (pc m : Int) (w : World) (h : Src4 w x.S aS) (hc : Src w x.C.length (ivl x.C) aC) (ho : OkG x) (hp : okB pc = true) (hm : okB m = true) :
    Calls Tryd.prog 9 #[.agg #[.slice aS x.S.length cS, .slice aC x.C.length cC], .int .i64 pc, .int .i64 m] w fun e w' => e = .returned (.int .i64 (nextG x pc m)) ∧ Fr w w' := by
  have hb := okB_true hp
  have F1 := Fr.alloc w (.cells #[.slice aS x.S.length cS, .slice aC x.C.length cC] 30)
  have HF1 := Lib.hid F1
  have HB1 := Lib.hid (Box2.new w (.slice aS x.S.length cS) (.slice aC x.C.length cC) 30 _ rfl)
  have E1 := spec_GueOk x aS aC cS cC _ (h.fr F1) (hc.fr F1) (by have := ho.Sl; omega) (by have := ho.Cl; omega)
  rw [(okG_iff x).2 ho] at E1
  have W1 := fun w => spec_WrdOk pc w
  have W2 := fun w => spec_WrdOk m w
  rw [hp] at W1
  rw [hm] at W2
  have EN := fun u (fu : Fr w u) => spec_l5Next x aS aC cS cC pc m u (h.fr fu) (hc.fr fu) ho hb.1 hb.2
  generalize nextG x pc m = z at *
  have HE1 := Lib.hid E1
  have HW1 := Lib.hid W1
  have HW2 := Lib.hid W2
  have HEN := Lib.hid EN
  clear E1 W1 W2 EN F1 h hc ho hp hm hb
  go_enter Tryd.func9, Tryd.ntmps9
  go_upto_region 1 with fail
  generalize (w.alloc (.cells #[.slice aS x.S.length cS, .slice aC x.C.length cC] 30)) = u2 at *
  obtain ⟨_, c0, c1, _, _⟩ := HB1.out
  go_wp2_with fail
  refine HE1.out.mono ?_
  rintro e u3 ⟨rfl, f3⟩
  have HF3 := Lib.hid (HF1.out.trans f3)
  have HB3 := Lib.hid (HB1.out.fr f3)
  clear HF1 HB1 f3 c0 c1 HE1
  obtain ⟨_, c0, c1, _, _⟩ := HB3.out
  go_wp2_with fail
  refine (HW1.out _).mono ?_
  rintro e u3' ⟨rfl, rfl⟩
  go_wp2_with fail
  refine (HW2.out _).mono ?_
  rintro e u3' ⟨rfl, rfl⟩
  go_wp2_with fail
  refine (HEN.out _ HF3.out).mono ?_
  rintro e u4 ⟨rfl, f4⟩
  have HF4 := Lib.hid (HF3.out.trans f4)
  clear HF3 f4
  go_wp2_with fail
  go_ret
  exact ⟨rfl, HF4.out⟩
theorem impl_GueNext (x : Gu) (aS aC : Option Addr) (cS cC : Nat) (pc m : Int) (w : World) (hT : Tabs w) (h : Src4 w x.S aS) (hc : Src w x.C.length (ivl x.C) aC) (hS : x.S.length ≤ 100000000) (hC : x.C.length ≤ 100000000) :
    Calls Tryd.prog 11 #[.agg #[.slice aS x.S.length cS, .slice aC x.C.length cC], .int .i64 pc, .int .i64 m] w fun e w' => e = .returned (.int .i64 (nextA x pc m)) ∧ Fr w w' := by
  unfold nextA
  cases h1 : okG x
  · exact impl_GueNext_n1 x aS aC cS cC pc m w h hc hS hC h1
  · cases h2 : okB pc
    · exact impl_GueNext_n2 x aS aC cS cC pc m w h hc hS hC h1 h2
    · cases h3 : okB m
      · exact impl_GueNext_n3 x aS aC cS cC pc m w h hc hS hC h1 h2 h3
      · exact impl_GueNext_ok x aS aC cS cC pc m w hT h hc ((okG_iff x).1 h1) h2 h3
theorem spec_GueNext (x : Gu) (aS aC : Option Addr) (cS cC : Nat) (pc m : Int) (w : World) (h : Src4 w x.S aS) (hc : Src w x.C.length (ivl x.C) aC) (hS : x.S.length ≤ 100000000) (hC : x.C.length ≤ 100000000) :
    Calls Tryd.prog 9 #[.agg #[.slice aS x.S.length cS, .slice aC x.C.length cC], .int .i64 pc, .int .i64 m] w fun e w' => e = .returned (.int .i64 (nextA x pc m)) ∧ Fr w w' := by
  unfold nextA
  cases h1 : okG x
  · exact spec_GueNext_n1 x aS aC cS cC pc m w h hc hS hC h1
  · cases h2 : okB pc
    · exact spec_GueNext_n2 x aS aC cS cC pc m w h hc hS hC h1 h2
    · cases h3 : okB m
      · exact spec_GueNext_n3 x aS aC cS cC pc m w h hc hS hC h1 h2 h3
      · exact spec_GueNext_ok x aS aC cS cC pc m w h hc ((okG_iff x).1 h1) h2 h3

end Go.Proofs.YtpdlcjjmhcfkjaaDoor
