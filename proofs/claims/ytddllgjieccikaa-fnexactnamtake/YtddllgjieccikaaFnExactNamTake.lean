/- For all places and every register, NamTake of the program returns what NamTake of the model returns, writes into no argument, and its answer owns its memory (no condition). -/
import Derived.Test.YtddllgjieccikaaRows
import Derived.Test.YtddllgjieccikaaN15
import Derived.Test.YtddllgjieccikaaNh2
import Derived.Test.YtddllgjieccikaaNres
import Derived.Test.YtddllgjieccikaaRegion4
import Derived.WalkKit
import Derived.ProofKit
import Derived.OpenShut
import Derived.ShutString
import Derived.ChangeOld
import Derived.Below
namespace Go.Proofs.Ytddllgjieccikaa.fnExactNamTake
open Go.ChangeShapes Go.WideShapes Go.ChangeAt Go.RowKit
set_option linter.unusedVariables false
set_option linter.unusedSimpArgs false

theorem own : ownKnob Try.prog.godebug = none := by kernel_rfl
theorem laidOut : laidOutB Try.prog = true := by kernel_rfl

set_option maxRecDepth 8000 in
set_option maxHeartbeats 4000000 in
theorem walk (s0 : Nm) (aM0 aF0 aV0 aH0 : Option Addr) (cM0 cF0 cV0 cH0 : Nat) (x1 : Int) (w : World) (h0 : SrcN w s0 aM0 aF0 aV0 aH0) (m0 : BigN s0) (wf1 : (Lit.int .i64 x1).wf = true) :
    Calls Try.prog 5 #[.agg #[.slice aM0 s0.M.length cM0, .slice aF0 s0.F.length cF0, .slice aV0 s0.V.length cV0, .slice aH0 s0.H.length cH0], .int .i64 x1] w fun e w' => e = .returned (.bool true) ∧ Below w.heap.size w w' := by
  have HS0 := Lib.hid h0
  have HM0 := Lib.hid m0
  have HF0 := Lib.hid (Fr.alloc w (.cells #[.slice aM0 s0.M.length cM0, .slice aF0 s0.F.length cF0, .slice aV0 s0.V.length cV0, .slice aH0 s0.H.length cH0] 30))
  have HA0 := Lib.hid (Box4.new w (.slice aM0 s0.M.length cM0) (.slice aF0 s0.F.length cF0) (.slice aV0 s0.V.length cV0) (.slice aH0 s0.H.length cH0) 30 _ rfl)
  clear h0 m0
  go_enter Try.func5, Try.ntmps5
  go_wp2_with fail
  generalize (w.alloc (.cells #[.slice aM0 s0.M.length cM0, .slice aF0 s0.F.length cF0, .slice aV0 s0.V.length cV0, .slice aH0 s0.H.length cH0] 30)) = u0 at *
  refine (laws_szNam s0 _ _ _ _ _ _ _ _ 1048576 u0 HM0.out (by omega) (by omega)).mono ?_
  rintro e u1 ⟨⟨r, rfl, hr⟩, f1⟩
  rcases hr with ⟨r0, hn⟩ | rfl
  · have hr0 : ¬ r < 0 := by omega
    have HW6 := Lib.hid hn.few6
    have F_1 := Lib.hid (HF0.out.trans f1)
    have HA_2 := Lib.hid (HA0.out.fr f1)
    clear HF0 HA0 f1 HM0
    have hw1 := F_1.out.size
    have hwA := HA_2.out.lt
    obtain ⟨t, ht⟩ : ∃ t, (takeT s0 x1).1 = t := ⟨_, rfl⟩
    have HT : Hid (FewN t) := by rw [← ht]; exact few_take _ _ hn
    obtain ⟨mr0, hm0⟩ : ∃ v, (takeT s0 x1).2.1 = v := ⟨_, rfl⟩
    have hq0 : (mr0 != mr0) = false := by simp
    obtain ⟨mr1, hm1⟩ : ∃ v, (takeT s0 x1).2.2.1 = v := ⟨_, rfl⟩
    have hq1 : (mr1 != mr1) = false := by simp
    obtain ⟨mr2, hm2⟩ : ∃ v, (takeT s0 x1).2.2.2 = v := ⟨_, rfl⟩
    have hq2 : (mr2 != mr2) = false := by simp
    obtain ⟨_, a0, a1, a2, a3, _, _, _, _⟩ := HA_2.out
    go_wp2_with fail
    refine (laws_toNam s0 _ _ _ _ _ _ _ _ _ (HS0.out.fr F_1.out) hn).mono ?_
    rintro e yw ⟨y1, y2, y3, y4, rfl, yV, yf⟩
    clear a0 a1 a2 a3
    have yKB := Lib.hid yV.blk
    have F_3 := Lib.hid (Fr.trans F_1.out yf)
    have HA_3 := Lib.hid (HA_2.out.fr yf)
    clear F_1 HA_2
    have VY_4 := Lib.hid (yV)
    have ys := yf.size
    clear yV yf
    go_wp2_with fail
    refine (spec_NamTake s0 _ _ _ _ _ _ _ _ x1 _ (VcNm.src VY_4.out) HW6.out).mono ?_
    rintro e ku hk
    rw [ht, hm0, hm1, hm2] at hk
    obtain ⟨kM, kF, kV, kH, kcM, kcF, kcV, kcH, rfl, kV, kf⟩ := hk
    have kB := kV.blk
    have kz := kf.size
    clear VY_4
    have F_5 := Lib.hid (Fr.trans F_3.out kf)
    have HA_5 := Lib.hid (HA_3.out.fr kf)
    clear F_3 HA_3
    have VW_6 := Lib.hid (kV)
    clear kV kf
    obtain ⟨_, a0, a1, a2, a3, _, _, _, _⟩ := HA_5.out
    have nA : ¬ w.heap.size = ku.heap.size := by omega
    have nB : ¬ ku.heap.size = w.heap.size := by omega
    go_wp2_with fail
    clear a0 a1 a2 a3
    clear nA nB
    have F_7 := Lib.hid (Fr.trans F_5.out (Fr.alloc ku (.cells #[.slice kM t.M.length kcM, .slice kF t.F.length kcF, .slice kV t.V.length kcV, .slice kH t.H.length kcH] 25)))
    have HA_7 := Lib.hid (HA_5.out.fr (Fr.alloc ku (.cells #[.slice kM t.M.length kcM, .slice kF t.F.length kcF, .slice kV t.V.length kcV, .slice kH t.H.length kcH] 25)))
    have VW_7 := Lib.hid (VW_6.out.fr (Fr.alloc ku (.cells #[.slice kM t.M.length kcM, .slice kF t.F.length kcF, .slice kV t.V.length kcV, .slice kH t.H.length kcH] 25)))
    clear F_5 HA_5 VW_6
    have HW_8 := Lib.hid (Box4.new ku (.slice kM t.M.length kcM) (.slice kF t.F.length kcF) (.slice kV t.V.length kcV) (.slice kH t.H.length kcH) 25 _ rfl)
    have ks : ku.heap.size < (ku.alloc (.cells #[.slice kM t.M.length kcM, .slice kF t.F.length kcF, .slice kV t.V.length kcV, .slice kH t.H.length kcH] 25)).heap.size := by simp
    generalize (ku.alloc (.cells #[.slice kM t.M.length kcM, .slice kF t.F.length kcF, .slice kV t.V.length kcV, .slice kH t.H.length kcH] 25)) = kv at *
    refine (laws_toNam s0 _ _ _ _ _ _ _ _ _ (HS0.out.fr F_7.out) hn).mono ?_
    rintro e qw ⟨q1, q2, q3, q4, rfl, qV, qf⟩
    have qKB := Lib.hid qV.blk
    have F_9 := Lib.hid (Fr.trans F_7.out qf)
    have HA_9 := Lib.hid (HA_7.out.fr qf)
    have VW_9 := Lib.hid (VW_7.out.fr qf)
    have HW_9 := Lib.hid (HW_8.out.fr qf)
    clear F_7 HA_7 VW_7 HW_8
    have HV_10 := Lib.hid (qV)
    have qs := qf.size
    clear qV qf
    go_wp2_with fail
    have F_11 := Lib.hid (Fr.trans F_9.out (Fr.alloc qw (.cells #[.slice (some ⟨q1, 0, none⟩) s0.M.length s0.M.length, .slice (some ⟨q2, 0, none⟩) s0.F.length s0.F.length, .slice (some ⟨q3, 0, none⟩) s0.V.length s0.V.length, .slice (some ⟨q4, 0, none⟩) s0.H.length s0.H.length] 25)))
    have HA_11 := Lib.hid (HA_9.out.fr (Fr.alloc qw (.cells #[.slice (some ⟨q1, 0, none⟩) s0.M.length s0.M.length, .slice (some ⟨q2, 0, none⟩) s0.F.length s0.F.length, .slice (some ⟨q3, 0, none⟩) s0.V.length s0.V.length, .slice (some ⟨q4, 0, none⟩) s0.H.length s0.H.length] 25)))
    have VW_11 := Lib.hid (VW_9.out.fr (Fr.alloc qw (.cells #[.slice (some ⟨q1, 0, none⟩) s0.M.length s0.M.length, .slice (some ⟨q2, 0, none⟩) s0.F.length s0.F.length, .slice (some ⟨q3, 0, none⟩) s0.V.length s0.V.length, .slice (some ⟨q4, 0, none⟩) s0.H.length s0.H.length] 25)))
    have HW_11 := Lib.hid (HW_9.out.fr (Fr.alloc qw (.cells #[.slice (some ⟨q1, 0, none⟩) s0.M.length s0.M.length, .slice (some ⟨q2, 0, none⟩) s0.F.length s0.F.length, .slice (some ⟨q3, 0, none⟩) s0.V.length s0.V.length, .slice (some ⟨q4, 0, none⟩) s0.H.length s0.H.length] 25)))
    have HV_11 := Lib.hid (HV_10.out.fr (Fr.alloc qw (.cells #[.slice (some ⟨q1, 0, none⟩) s0.M.length s0.M.length, .slice (some ⟨q2, 0, none⟩) s0.F.length s0.F.length, .slice (some ⟨q3, 0, none⟩) s0.V.length s0.V.length, .slice (some ⟨q4, 0, none⟩) s0.H.length s0.H.length] 25)))
    clear F_9 HA_9 VW_9 HW_9 HV_10
    have HX_12 := Lib.hid (Box4.new qw (.slice (some ⟨q1, 0, none⟩) s0.M.length s0.M.length) (.slice (some ⟨q2, 0, none⟩) s0.F.length s0.F.length) (.slice (some ⟨q3, 0, none⟩) s0.V.length s0.V.length) (.slice (some ⟨q4, 0, none⟩) s0.H.length s0.H.length) 25 _ rfl)
    have v2s : qw.heap.size < (qw.alloc (.cells #[.slice (some ⟨q1, 0, none⟩) s0.M.length s0.M.length, .slice (some ⟨q2, 0, none⟩) s0.F.length s0.F.length, .slice (some ⟨q3, 0, none⟩) s0.V.length s0.V.length, .slice (some ⟨q4, 0, none⟩) s0.H.length s0.H.length] 25)).heap.size := by simp
    generalize (qw.alloc (.cells #[.slice (some ⟨q1, 0, none⟩) s0.M.length s0.M.length, .slice (some ⟨q2, 0, none⟩) s0.F.length s0.F.length, .slice (some ⟨q3, 0, none⟩) s0.V.length s0.V.length, .slice (some ⟨q4, 0, none⟩) s0.H.length s0.H.length] 25)) = v2 at *
    refine (impl_NamTake s0 _ _ _ _ _ _ _ _ x1 _ (VcNm.src HV_11.out) HW6.out).mono ?_
    rintro e gu hg
    rw [ht, hm0, hm1, hm2] at hg
    obtain ⟨gM, gF, gV, gH, gcM, gcF, gcV, gcH, rfl, gV, gf⟩ := hg
    have gB := gV.blk
    have gz := gf.size
    have F_13 := Lib.hid (Fr.trans F_11.out gf)
    have HA_13 := Lib.hid (HA_11.out.fr gf)
    have VW_13 := Lib.hid (VW_11.out.fr gf)
    have HW_13 := Lib.hid (HW_11.out.fr gf)
    have HV_13 := Lib.hid (HV_11.out.fr gf)
    have HX_13 := Lib.hid (HX_12.out.fr gf)
    clear F_11 HA_11 VW_11 HW_11 HV_11 HX_12
    have VG_14 := Lib.hid (gV)
    clear gV gf
    obtain ⟨_, b0, b1, b2, b3, _, _, _, _⟩ := HW_13.out
    have nA : ¬ ku.heap.size = gu.heap.size := by omega
    have nB : ¬ gu.heap.size = ku.heap.size := by omega
    go_wp2_with fail
    clear b0 b1 b2 b3
    clear nA nB
    have F_15 := Lib.hid (Fr.trans F_13.out (Fr.alloc gu (.cells #[.slice gM t.M.length gcM, .slice gF t.F.length gcF, .slice gV t.V.length gcV, .slice gH t.H.length gcH] 25)))
    have HA_15 := Lib.hid (HA_13.out.fr (Fr.alloc gu (.cells #[.slice gM t.M.length gcM, .slice gF t.F.length gcF, .slice gV t.V.length gcV, .slice gH t.H.length gcH] 25)))
    have VW_15 := Lib.hid (VW_13.out.fr (Fr.alloc gu (.cells #[.slice gM t.M.length gcM, .slice gF t.F.length gcF, .slice gV t.V.length gcV, .slice gH t.H.length gcH] 25)))
    have HW_15 := Lib.hid (HW_13.out.fr (Fr.alloc gu (.cells #[.slice gM t.M.length gcM, .slice gF t.F.length gcF, .slice gV t.V.length gcV, .slice gH t.H.length gcH] 25)))
    have HV_15 := Lib.hid (HV_13.out.fr (Fr.alloc gu (.cells #[.slice gM t.M.length gcM, .slice gF t.F.length gcF, .slice gV t.V.length gcV, .slice gH t.H.length gcH] 25)))
    have HX_15 := Lib.hid (HX_13.out.fr (Fr.alloc gu (.cells #[.slice gM t.M.length gcM, .slice gF t.F.length gcF, .slice gV t.V.length gcV, .slice gH t.H.length gcH] 25)))
    have VG_15 := Lib.hid (VG_14.out.fr (Fr.alloc gu (.cells #[.slice gM t.M.length gcM, .slice gF t.F.length gcF, .slice gV t.V.length gcV, .slice gH t.H.length gcH] 25)))
    clear F_13 HA_13 VW_13 HW_13 HV_13 HX_13 VG_14
    have HG_16 := Lib.hid (Box4.new gu (.slice gM t.M.length gcM) (.slice gF t.F.length gcF) (.slice gV t.V.length gcV) (.slice gH t.H.length gcH) 25 _ rfl)
    have gs : gu.heap.size < (gu.alloc (.cells #[.slice gM t.M.length gcM, .slice gF t.F.length gcF, .slice gV t.V.length gcV, .slice gH t.H.length gcH] 25)).heap.size := by simp
    generalize (gu.alloc (.cells #[.slice gM t.M.length gcM, .slice gF t.F.length gcF, .slice gV t.V.length gcV, .slice gH t.H.length gcH] 25)) = gv at *
    refine (laws_eqNam_same _ t _ _ _ _ _ _ _ _ _ _ _ _ _ _ _ _ (VcNm.src VG_15.out) (VcNm.src VW_15.out) HT.out).mono ?_
    rintro e v4 ⟨rfl, v4f⟩
    have F_17 := Lib.hid (Fr.trans F_15.out v4f)
    have HA_17 := Lib.hid (HA_15.out.fr v4f)
    have VW_17 := Lib.hid (VW_15.out.fr v4f)
    have HW_17 := Lib.hid (HW_15.out.fr v4f)
    have HV_17 := Lib.hid (HV_15.out.fr v4f)
    have HX_17 := Lib.hid (HX_15.out.fr v4f)
    have VG_17 := Lib.hid (VG_15.out.fr v4f)
    have HG_17 := Lib.hid (HG_16.out.fr v4f)
    clear F_15 HA_15 VW_15 HW_15 HV_15 HX_15 VG_15 HG_16
    have v4s := v4f.size
    clear v4f
    go_wp2_with fail
    refine wp_region_lots 143 (fun i => []) (fun _ _ => True) (fun i v u => match i with | 0 => v = .agg #[.slice (some ⟨q1, 0, none⟩) s0.M.length s0.M.length, .slice (some ⟨q2, 0, none⟩) s0.F.length s0.F.length, .slice (some ⟨q3, 0, none⟩) s0.V.length s0.V.length, .slice (some ⟨q4, 0, none⟩) s0.H.length s0.H.length] | 1 => v = .agg #[.slice aM0 s0.M.length cM0, .slice aF0 s0.F.length cF0, .slice aV0 s0.V.length cV0, .slice aH0 s0.H.length cH0] | 2 => ToNH s0 v u | 3 => v = .bool true | _ => v = .bool false) ?mono (by kernel_rfl) (by kernel_rfl) rfl (by kernel_rfl) trivial ?step ?fin
    case mono =>
      intro i j v u u' hij hsz h hB
      rcases j with _ | _ | _ | _ | j
      · exact h
      · exact h
      · exact ToNH.but h hB
      · exact h
      · exact h
    case step =>
      intro i o ho
      rcases i with _ | _ | _ | _ | _ | i
      · cases ho
        intro fu act u hW hB hsz hL hdep
        replace hB := hB [] (fun j hj hd k hk => by
          cases hk)
        obtain ⟨ysl, ha, hy⟩ := hL.puts [65, 66, 67, 68, 69] (by kernel_rfl)
        clear hdep hL hy
        simp only [List.foldl, List.setIfInBounds_toArray, List.set_cons_succ, List.set_cons_zero] at ha
        subst ha
        obtain ⟨_, c0, c1, c2, c3, _, _, _, _⟩ := (HX_17.out.but hB (by simp))
        refine wpOp_step rfl (fun K hK => ?_)
        go_simp
        exact hK _ _ ⟨_, rfl, (fun h => by cases h), rfl, But.refl _ _, trivial⟩
      · cases ho
        intro fu act u hW hB hsz hL hdep
        replace hB := hB [] (fun j hj hd k hk => by
          cases hk)
        obtain ⟨ysl, ha, hy⟩ := hL.puts [65, 66, 67, 68, 69] (by kernel_rfl)
        clear hdep hL hy
        simp only [List.foldl, List.setIfInBounds_toArray, List.set_cons_succ, List.set_cons_zero] at ha
        subst ha
        obtain ⟨_, c0, c1, c2, c3, _, _, _, _⟩ := (HA_17.out.but hB (by simp))
        refine wpOp_step rfl (fun K hK => ?_)
        go_simp
        exact hK _ _ ⟨_, rfl, (fun h => by cases h), rfl, But.refl _ _, trivial⟩
      · cases ho
        intro fu act u hW hB hsz hL hdep
        replace hB := hB [] (fun j hj hd k hk => by
          cases hk)
        have d1 := hdep { on := 1, ground := .data } (by simp) rfl _ rfl
        obtain ⟨ysl, ha, hy⟩ := hL.puts [65, 66, 67, 68, 69] (by kernel_rfl)
        have e1 : ysl 66 = _ := (hy 66).symm.trans d1
        clear hdep hL hy d1
        simp only [List.foldl, List.setIfInBounds_toArray, List.set_cons_succ, List.set_cons_zero, e1] at ha
        subst ha
        clear e1
        refine wpOp_step rfl (fun K hK => ?_)
        go_simp
        refine (laws_toNam s0 _ _ _ _ _ _ _ _ u ((HS0.out.fr F_17.out).fr (fr_but (L := []) (Below.refl v4.heap.size v4) hB (fun k hk => by cases hk))) hn).mono ?_
        rintro e u' ⟨t1, t2, t3, t4, rfl, V, f⟩
        go_simp
        exact hK _ _ ⟨_, rfl, (fun h => by cases h), ⟨t1, t2, t3, t4, rfl, VcNm.src V⟩, But.of f, trivial⟩
      · cases ho
        intro fu act u hW hB hsz hL hdep
        replace hB := hB [] (fun j hj hd k hk => by
          cases hk)
        have d0 := hdep { on := 0, ground := .data } (by simp) rfl _ rfl
        have d2 := hdep { on := 2, ground := .data } (by simp) rfl _ rfl
        obtain ⟨ysl, ha, hy⟩ := hL.puts [65, 66, 67, 68, 69] (by kernel_rfl)
        have e0 : ysl 65 = _ := (hy 65).symm.trans d0
        obtain ⟨t1, t2, t3, t4, h2, V2⟩ := d2
        have e2 : ysl 67 = .agg #[.slice (some ⟨t1, 0, none⟩) s0.M.length s0.M.length, .slice (some ⟨t2, 0, none⟩) s0.F.length s0.F.length, .slice (some ⟨t3, 0, none⟩) s0.V.length s0.V.length, .slice (some ⟨t4, 0, none⟩) s0.H.length s0.H.length] := (hy 67).symm.trans h2
        clear hdep hL hy d0 h2
        simp only [List.foldl, List.setIfInBounds_toArray, List.set_cons_succ, List.set_cons_zero, e0, e2] at ha
        subst ha
        clear e0 e2
        refine wpOp_step rfl (fun K hK => ?_)
        go_simp
        refine (laws_eqNam_same u s0 _ _ _ _ _ _ _ _ _ _ _ _ _ _ _ _ (VcNm.src (HV_17.out.fr (fr_but (L := []) (Below.refl v4.heap.size v4) hB (fun k hk => by cases hk)))) V2 hn).mono ?_
        rintro e u' ⟨rfl, f⟩
        go_simp
        exact hK _ _ ⟨_, rfl, (fun h => by cases h), rfl, But.of f, trivial⟩
      · cases ho
        intro fu act u hW hB hsz hL hdep
        replace hB := hB [] (fun j hj hd k hk => by
          cases hk)
        have d3 := hdep { on := 3, ground := .data } (by simp) rfl _ rfl
        obtain ⟨ysl, ha, hy⟩ := hL.puts [65, 66, 67, 68, 69] (by kernel_rfl)
        have e3 : ysl 68 = _ := (hy 68).symm.trans d3
        clear hdep hL hy d3
        simp only [List.foldl, List.setIfInBounds_toArray, List.set_cons_succ, List.set_cons_zero, e3] at ha
        subst ha
        clear e3
        refine wpOp_step rfl (fun K hK => ?_)
        go_simp
        exact hK _ _ ⟨_, rfl, (fun h => by cases h), rfl, But.refl _ _, trivial⟩
      · exact absurd ho (by simp)
    case fin =>
      intro act u hW hsz hB hL hsf
      replace hB := hB [] (fun j k hk => by
        cases hk)
      have d4 := hsf 4 _ rfl
      obtain ⟨ysl, ha, hy⟩ := hL.puts [65, 66, 67, 68, 69] (by kernel_rfl)
      have e4 : ysl 69 = _ := (hy 69).symm.trans d4
      clear hL hsf hy d4
      simp only [List.foldl, List.setIfInBounds_toArray, List.set_cons_succ, List.set_cons_zero, e4] at ha
      subst ha
      clear e4
      have fB : Fr v4 u := (fr_but (L := []) (Below.refl v4.heap.size v4) hB (fun k hk => by cases hk))
      clear hB hW
      have F_18 := Lib.hid (Fr.trans F_17.out fB)
      have HA_18 := Lib.hid (HA_17.out.fr fB)
      have VW_18 := Lib.hid (VW_17.out.fr fB)
      have HW_18 := Lib.hid (HW_17.out.fr fB)
      have HV_18 := Lib.hid (HV_17.out.fr fB)
      have HX_18 := Lib.hid (HX_17.out.fr fB)
      have VG_18 := Lib.hid (VG_17.out.fr fB)
      have HG_18 := Lib.hid (HG_17.out.fr fB)
      clear F_17 HA_17 VW_17 HW_17 HV_17 HX_17 VG_17 HG_17
      clear fB
      obtain ⟨_, a0, a1, a2, a3, _, _, _, _⟩ := HX_18.out
      go_wp2_with fail
      refine (laws_markNam _ s0 _ _ _ _ _ _ _ _ 1 u HV_18.out (by omega) hn (by omega) (by omega)).mono ?_
      rintro e v5 ⟨rfl, _, m5, l5⟩
      clear a0 a1 a2 a3
      clear HV_18
      have F_19 := Lib.hid (Below.trans F_18.out (l5.mono (by omega)))
      have HA_19 := Lib.hid (HA_18.out.but m5 (fun hm => by have := qKB.out _ hm; omega))
      have VW_19 := Lib.hid (VW_18.out.but m5 (fun j hj hm => by have := kB j hj; have := qKB.out _ hm; omega))
      have HW_19 := Lib.hid (HW_18.out.but m5 (fun hm => by have := qKB.out _ hm; omega))
      have HX_19 := Lib.hid (HX_18.out.but m5 (fun hm => by have := qKB.out _ hm; omega))
      have VG_19 := Lib.hid (VG_18.out.but m5 (fun j hj hm => by have := gB j hj; have := qKB.out _ hm; omega))
      have HG_19 := Lib.hid (HG_18.out.but m5 (fun hm => by have := qKB.out _ hm; omega))
      clear F_18 HA_18 VW_18 HW_18 HX_18 VG_18 HG_18
      have v5s := m5.size
      clear m5 l5
      clear HX_19
      have hk5 : ¬ (1 : Int) + s0.M.length + s0.F.length + s0.V.length + s0.H.length < 0 := by omega
      obtain ⟨_, a0, a1, a2, a3, _, _, _, _⟩ := HG_19.out
      obtain ⟨_, b0, b1, b2, b3, _, _, _, _⟩ := HW_19.out
      go_wp2_with fail
      refine (laws_eqNam_same _ t _ _ _ _ _ _ _ _ _ _ _ _ _ _ _ _ (VcNm.src VG_19.out) (VcNm.src VW_19.out) HT.out).mono ?_
      rintro e v6 ⟨rfl, v6f⟩
      clear a0 a1 a2 a3
      clear b0 b1 b2 b3
      have F_20 := Lib.hid (Fr.trans F_19.out v6f)
      have HA_20 := Lib.hid (HA_19.out.fr v6f)
      have VW_20 := Lib.hid (VW_19.out.fr v6f)
      have HW_20 := Lib.hid (HW_19.out.fr v6f)
      have VG_20 := Lib.hid (VG_19.out.fr v6f)
      have HG_20 := Lib.hid (HG_19.out.fr v6f)
      clear F_19 HA_19 VW_19 HW_19 VG_19 HG_19
      have v6s := v6f.size
      clear v6f
      obtain ⟨_, a0, a1, a2, a3, _, _, _, _⟩ := HG_20.out
      go_wp2_with fail
      refine (laws_markNam _ t _ _ _ _ _ _ _ _ 1 v6 VG_20.out (by omega) HT.out (by omega) (by omega)).mono ?_
      rintro e v7 ⟨rfl, K7, m7, l7⟩
      clear a0 a1 a2 a3
      clear VG_20
      have F_21 := Lib.hid (Below.trans F_20.out (l7.mono (by omega)))
      have HA_21 := Lib.hid (HA_20.out.but m7 (fun hm => by have := gB _ hm; omega))
      have VW_21 := Lib.hid (VW_20.out.but m7 (fun j hj hm => by have := gB _ hm; have := kB j hj; omega))
      have HW_21 := Lib.hid (HW_20.out.but m7 (fun hm => by have := gB _ hm; omega))
      have HG_21 := Lib.hid (HG_20.out.but m7 (fun hm => by have := gB _ hm; omega))
      clear F_20 HA_20 VW_20 HW_20 HG_20
      have KG_22 := Lib.hid (K7)
      have v7s := m7.size
      clear m7 l7 K7
      have h1 := HT.out.M
      have h2 := HT.out.F
      have h3 := HT.out.V
      have h4 := HT.out.H
      have hk7 : ¬ (1 : Int) + t.M.length + t.F.length + t.V.length + t.H.length < 0 := by omega
      obtain ⟨_, a0, a1, a2, a3, _, _, _, _⟩ := HG_21.out
      go_wp2_with fail
      refine (laws_heldNam _ t _ _ _ _ _ _ _ _ 1 _ KG_22.out HT.out (by omega) (by omega)).mono ?_
      rintro e v8 ⟨rfl, v8f⟩
      clear a0 a1 a2 a3
      have F_23 := Lib.hid (Fr.trans F_21.out v8f)
      have HA_23 := Lib.hid (HA_21.out.fr v8f)
      have VW_23 := Lib.hid (VW_21.out.fr v8f)
      have HW_23 := Lib.hid (HW_21.out.fr v8f)
      have HG_23 := Lib.hid (HG_21.out.fr v8f)
      have KG_23 := Lib.hid (KG_22.out.fr v8f)
      clear F_21 HA_21 VW_21 HW_21 HG_21 KG_22
      clear v8f
      obtain ⟨_, a0, a1, a2, a3, _, _, _, _⟩ := HA_23.out
      go_wp2_with fail
      refine (laws_toNam s0 _ _ _ _ _ _ _ _ _ (HS0.out.fr F_23.out) hn).mono ?_
      rintro e zw ⟨z1, z2, z3, z4, rfl, zV, zf⟩
      clear a0 a1 a2 a3
      have zKB := Lib.hid zV.blk
      have F_24 := Lib.hid (Fr.trans F_23.out zf)
      have HA_24 := Lib.hid (HA_23.out.fr zf)
      have VW_24 := Lib.hid (VW_23.out.fr zf)
      have HW_24 := Lib.hid (HW_23.out.fr zf)
      have HG_24 := Lib.hid (HG_23.out.fr zf)
      have KG_24 := Lib.hid (KG_23.out.fr zf)
      clear F_23 HA_23 VW_23 HW_23 HG_23 KG_23
      have VZ_25 := Lib.hid (zV)
      have zs := zf.size
      clear zV zf
      go_wp2_with fail
      refine (impl_NamTake s0 _ _ _ _ _ _ _ _ x1 _ (VcNm.src VZ_25.out) HW6.out).mono ?_
      rintro e pu hp
      rw [ht, hm0, hm1, hm2] at hp
      obtain ⟨pM, pF, pV, pH, pcM, pcF, pcV, pcH, rfl, pV, pf⟩ := hp
      have pB := pV.blk
      have pz := pf.size
      clear VZ_25
      have F_26 := Lib.hid (Fr.trans F_24.out pf)
      have HA_26 := Lib.hid (HA_24.out.fr pf)
      have VW_26 := Lib.hid (VW_24.out.fr pf)
      have HW_26 := Lib.hid (HW_24.out.fr pf)
      have HG_26 := Lib.hid (HG_24.out.fr pf)
      have KG_26 := Lib.hid (KG_24.out.fr pf)
      clear F_24 HA_24 VW_24 HW_24 HG_24 KG_24
      have VP_27 := Lib.hid (pV)
      clear pV pf
      obtain ⟨_, b0, b1, b2, b3, _, _, _, _⟩ := HW_26.out
      have nA : ¬ ku.heap.size = pu.heap.size := by omega
      have nB : ¬ pu.heap.size = ku.heap.size := by omega
      go_wp2_with fail
      clear b0 b1 b2 b3
      clear nA nB
      have F_28 := Lib.hid (Fr.trans F_26.out (Fr.alloc pu (.cells #[.slice pM t.M.length pcM, .slice pF t.F.length pcF, .slice pV t.V.length pcV, .slice pH t.H.length pcH] 25)))
      have HA_28 := Lib.hid (HA_26.out.fr (Fr.alloc pu (.cells #[.slice pM t.M.length pcM, .slice pF t.F.length pcF, .slice pV t.V.length pcV, .slice pH t.H.length pcH] 25)))
      have VW_28 := Lib.hid (VW_26.out.fr (Fr.alloc pu (.cells #[.slice pM t.M.length pcM, .slice pF t.F.length pcF, .slice pV t.V.length pcV, .slice pH t.H.length pcH] 25)))
      have HW_28 := Lib.hid (HW_26.out.fr (Fr.alloc pu (.cells #[.slice pM t.M.length pcM, .slice pF t.F.length pcF, .slice pV t.V.length pcV, .slice pH t.H.length pcH] 25)))
      have HG_28 := Lib.hid (HG_26.out.fr (Fr.alloc pu (.cells #[.slice pM t.M.length pcM, .slice pF t.F.length pcF, .slice pV t.V.length pcV, .slice pH t.H.length pcH] 25)))
      have KG_28 := Lib.hid (KG_26.out.fr (Fr.alloc pu (.cells #[.slice pM t.M.length pcM, .slice pF t.F.length pcF, .slice pV t.V.length pcV, .slice pH t.H.length pcH] 25)))
      have VP_28 := Lib.hid (VP_27.out.fr (Fr.alloc pu (.cells #[.slice pM t.M.length pcM, .slice pF t.F.length pcF, .slice pV t.V.length pcV, .slice pH t.H.length pcH] 25)))
      clear F_26 HA_26 VW_26 HW_26 HG_26 KG_26 VP_27
      have HP_29 := Lib.hid (Box4.new pu (.slice pM t.M.length pcM) (.slice pF t.F.length pcF) (.slice pV t.V.length pcV) (.slice pH t.H.length pcH) 25 _ rfl)
      have ps : pu.heap.size < (pu.alloc (.cells #[.slice pM t.M.length pcM, .slice pF t.F.length pcF, .slice pV t.V.length pcV, .slice pH t.H.length pcH] 25)).heap.size := by simp
      generalize (pu.alloc (.cells #[.slice pM t.M.length pcM, .slice pF t.F.length pcF, .slice pV t.V.length pcV, .slice pH t.H.length pcH] 25)) = pv at *
      refine (laws_eqNam_same _ t _ _ _ _ _ _ _ _ _ _ _ _ _ _ _ _ (VcNm.src VP_28.out) (VcNm.src VW_28.out) HT.out).mono ?_
      rintro e v9 ⟨rfl, v9f⟩
      have F_30 := Lib.hid (Fr.trans F_28.out v9f)
      have HA_30 := Lib.hid (HA_28.out.fr v9f)
      have VW_30 := Lib.hid (VW_28.out.fr v9f)
      have HW_30 := Lib.hid (HW_28.out.fr v9f)
      have HG_30 := Lib.hid (HG_28.out.fr v9f)
      have KG_30 := Lib.hid (KG_28.out.fr v9f)
      have VP_30 := Lib.hid (VP_28.out.fr v9f)
      have HP_30 := Lib.hid (HP_29.out.fr v9f)
      clear F_28 HA_28 VW_28 HW_28 HG_28 KG_28 VP_28 HP_29
      clear v9f
      obtain ⟨_, a0, a1, a2, a3, _, _, _, _⟩ := HG_30.out
      go_wp2_with fail
      refine (laws_heldNam _ t _ _ _ _ _ _ _ _ 1 _ KG_30.out HT.out (by omega) (by omega)).mono ?_
      rintro e v10 ⟨rfl, v10f⟩
      clear a0 a1 a2 a3
      have F_31 := Lib.hid (Fr.trans F_30.out v10f)
      have HA_31 := Lib.hid (HA_30.out.fr v10f)
      have VW_31 := Lib.hid (VW_30.out.fr v10f)
      have HW_31 := Lib.hid (HW_30.out.fr v10f)
      have HG_31 := Lib.hid (HG_30.out.fr v10f)
      have KG_31 := Lib.hid (KG_30.out.fr v10f)
      have VP_31 := Lib.hid (VP_30.out.fr v10f)
      have HP_31 := Lib.hid (HP_30.out.fr v10f)
      clear F_30 HA_30 VW_30 HW_30 HG_30 KG_30 VP_30 HP_30
      clear v10f
      go_wp2_with fail
      go_ret
      exact ⟨rfl, F_31.out⟩
  · go_wp2_with fail
    go_ret
    exact ⟨rfl, HF0.out.trans f1⟩

set_option maxRecDepth 100000 in
theorem lifted (os : Os) (started : os.Started) (H : Type) (enc : TypeId × Value → H) :
    ReturnsInHanded {} Try.checked os 5 .any (Rows.fnExactNamTakeSpec.pre6 enc Try.prog Try.f5 Rows.fnExactNamTakeRow.domain false) (Rows.fnExactNamTakeSpec.post enc Try.prog Try.f5 false true false false) := by
  refine returnsInHanded_of_change (C := Try.checked) own started (by kernel_rfl) Try.func5
    (ChangeSpec.witness6 (enc := enc) (C := Try.checked) false ⟨#[], #[.agg #[.slice none 0 0, .slice none 0 0, .slice none 0 0, .slice none 0 0], .int .i64 0], []⟩ 8 (by kernel_rfl) (by kernel_rfl) (by kernel_rfl) (by kernel_rfl)) ?_
  intro W base args ds gs before hval0 hW hcnd _
  have hval : ∀ (j : Nat) t v, Try.f5.params[j]? = some t → args[j]? = some v → Value.okWide Try.prog W .any base t v := hval0
  have hW' := hW
  obtain ⟨p, q, hA0, hV, rfl, hfz, hnd⟩ := hW
  have hA : DataW.TrodAll enc Try.prog W 0 (fun _ => true) true Try.f5.params.toList args.toList ds p := hA0
  rw [Try.params5] at hA hval
  obtain ⟨v0, vs0, d0, ds0, p0, q0, hargs, rfl, rfl, h0, r0⟩ := trodAll_cons hA
  obtain ⟨v1, vs1, d1, ds1, p1, q1, rfl, rfl, rfl, h1, r1⟩ := trodAll_cons r0
  obtain ⟨rfl, rfl, rfl⟩ := trodAll_nil r1
  obtain rfl : args = #[v0, v1] := by cases args; simp_all
  obtain ⟨rfl, rfl⟩ := trodVars_none hV
  have k0 := h0
  have lt0 : ∀ x ∈ p0, x.block < W.heap.size := by obtain ⟨m, hm⟩ := k0; exact DataW.trod_lt m _ _ _ hm
  obtain ⟨s0, aM0, aF0, aV0, aH0, cM0, cF0, cV0, cH0, rfl, hs0, hb0⟩ := open_nam (hval 0 30 v0 rfl rfl) h0
  have k1 := h1
  have lt1 : ∀ x ∈ p1, x.block < W.heap.size := by obtain ⟨m, hm⟩ := k1; exact DataW.trod_lt m _ _ _ hm
  obtain ⟨x1, rfl, rfl, rfl, wf1⟩ := open_int Try.underlying3 (hval 1 3 v1 rfl rfl) h1
  clear hA0 hval0
  refine (walk s0 aM0 aF0 aV0 aH0 cM0 cF0 cV0 cH0 x1 W hs0 hb0 wf1).mono fun e W' ⟨he, bel⟩ => ?_
  subst he
  exact ⟨_, rfl, _, _, _, [], _, [], hW', trodAll_mk1 (shut_bool Try.underlying4 _), (trodAll_cons_mk (Below.trod laidOut (by kernel_rfl) (of_decide_eq_true (by kernel_rfl)) k0 bel lt0) (trodAll_cons_mk (Below.trod laidOut (by kernel_rfl) (of_decide_eq_true (by kernel_rfl)) k1 bel lt1) trodAll_mk0)), rfl, bel.frame _, fun h => by cases h⟩

theorem over : Rows.fnExactNamTakeRow.holds Try.pinned (OpenSpec.ofChange Rows.fnExactNamTakeSpec) :=
  OpenClaim.holds_of_wide 5 Try.f5 rfl rfl rfl rfl rfl rfl rfl ⟨rfl, rfl, rfl, rfl, rfl⟩ rfl rfl rfl rfl rfl (by kernel_rfl) Try.func5 (by kernel_rfl)
    (of_decide_eq_true (by kernel_rfl)) (by unfold Func.isWrapper; first | (rw [if_pos (by decide +kernel)]; kernel_rfl) | (rw [if_neg (by decide +kernel)]; exact ⟨rfl, rfl⟩))
    (fun os started H enc _ => lifted os started H enc)

/-- THE STATEMENT. -/
theorem proved : Rows.FnExactNamTakeSaid := over
#print axioms proved
end Go.Proofs.Ytddllgjieccikaa.fnExactNamTake
