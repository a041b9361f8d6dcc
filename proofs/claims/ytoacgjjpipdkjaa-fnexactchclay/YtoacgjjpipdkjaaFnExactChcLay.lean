/- For every cache and every int and int, ChcLay of the program returns what ChcLay of the model returns, writes into no argument, and its answer owns its memory (no condition). -/
import Derived.Test.YtoacgjjpipdkjaaRows
import Derived.Test.YtoacgjjpipdkjaaK25
import Derived.Test.YtoacgjjpipdkjaaK36
import Derived.WalkKit
import Derived.ProofKit
import Derived.OpenShut
import Derived.ShutString
import Derived.ChangeOld
import Derived.Below
namespace Go.Proofs.Ytoacgjjpipdkjaa.fnExactChcLay
open Go.ChangeShapes Go.WideShapes Go.ChangeAt Go.RowKit
set_option linter.unusedVariables false
set_option linter.unusedSimpArgs false

theorem own : ownKnob Try.prog.godebug = none := by kernel_rfl
theorem laidOut : laidOutB Try.prog = true := by kernel_rfl

set_option maxRecDepth 8000 in
set_option maxHeartbeats 4000000 in
theorem walk (M0 : List Int) (X0 : List La) (aM0 aL0 : Option Addr) (cM0 cL0 : Nat) (x1 : Int) (x2 : Int) (w : World) (h0 : SrcC w M0 X0 aM0 aL0) (m0 : BigC M0 X0) (l0 : M0.length ≤ cM0) (wf1 : (Lit.int .i64 x1).wf = true) (wf2 : (Lit.int .i64 x2).wf = true) :
    Calls Try.prog 6 #[.agg #[.slice aM0 M0.length cM0, .slice aL0 X0.length cL0], .int .i64 x1, .int .i64 x2] w fun e w' => e = .returned (.bool true) ∧ Below w.heap.size w w' := by
  have HS0 := Lib.hid h0
  have HB0 := Lib.hid m0
  have HF0 := Lib.hid (Fr.alloc w (.cells #[.slice aM0 M0.length cM0, .slice aL0 X0.length cL0] 25))
  have HA0 := Lib.hid (Box2.new w (.slice aM0 M0.length cM0) (.slice aL0 X0.length cL0) 25 _ rfl)
  clear h0 m0
  go_enter Try.func6, Try.ntmps6
  go_wp2_with fail
  generalize (w.alloc (.cells #[.slice aM0 M0.length cM0, .slice aL0 X0.length cL0] 25)) = u0 at *
  refine (laws_szChc M0 X0 aM0 aL0 cM0 cL0 1048576 u0 (HS0.out.fr HF0.out) HB0.out (by omega) (by omega)).mono ?_
  rintro e u1 ⟨⟨r, rfl, hr⟩, f1⟩
  rcases hr with ⟨r0, hn⟩ | rfl
  · have hr0 : ¬ r < 0 := by omega
    have HN := Lib.hid hn
    have FC := Lib.hid hn.few
    clear hn
    have F_1 := Lib.hid (HF0.out.trans f1)
    have HA_2 := Lib.hid (HA0.out.fr f1)
    clear HF0 HA0 f1 HB0
    have hok := okA_lay ⟨M0, lns X0⟩ x1 x2
    generalize ht : layA ⟨M0, lns X0⟩ x1 x2 = t at *
    obtain ⟨_, a0, a1, _, _⟩ := HA_2.out
    go_wp2_with fail
    clear a0 a1
    refine (laws_toChc M0 X0 aM0 aL0 cM0 cL0 _ (HS0.out.fr F_1.out) FC.out).mono ?_
    rintro e yw ⟨y1, y2, yY, rfl, yH, yV, yf⟩
    unfold caV
    have yl : yY.length = X0.length := by have e1 := congrArg List.length yH; simpa [lns] using e1
    have yE := Lib.hid yH
    have yB := yV.bl
    clear yH
    have F_3 := Lib.hid (Fr.trans F_1.out yf)
    have HA_3 := Lib.hid (HA_2.out.fr yf)
    clear F_1 HA_2
    have Vy_4 := Lib.hid (yV)
    have ys := yf.size
    clear yV yf
    go_wp2_with fail
    have yC := spec_ChcLay M0 yY (some ⟨y1, 0, none⟩) (some ⟨y2, 0, none⟩) M0.length X0.length x1 x2 yw Vy_4.out.src (few_lns HN.out yE.out.symm).few
    unfold caV at yC
    rw [yl, yE.out, ht] at yC
    refine (yC).mono ?_
    rintro e ku ⟨kM, kX, ka, kb, kc, kd, rfl, kH, kV, kq, kf⟩
    unfold caV
    have kz := kf.size
    have kB := kV.bl
    have HT : Hid (FewT kM kX) := Lib.hid (okA_few hok kH)
    have HH := Lib.hid kH
    clear kH
    clear yC
    clear Vy_4
    have F_5 := Lib.hid (Fr.trans F_3.out kf)
    have HA_5 := Lib.hid (HA_3.out.fr kf)
    clear F_3 HA_3
    have Vk_6 := Lib.hid (kV)
    clear kV kf
    have nL := HA_5.out.lt
    obtain ⟨_, a0, a1, _, _⟩ := HA_5.out
    have nA : ¬ ku.heap.size = w.heap.size := by omega
    have nB : ¬ w.heap.size = ku.heap.size := fun e => nA e.symm
    go_wp2_with fail
    clear a0 a1 nA nB nL
    have F_7 := Lib.hid (Fr.trans F_5.out (Fr.alloc ku (.cells #[.slice ka kM.length kc, .slice kb kX.length kd] 30)))
    have HA_7 := Lib.hid (HA_5.out.fr (Fr.alloc ku (.cells #[.slice ka kM.length kc, .slice kb kX.length kd] 30)))
    have Vk_7 := Lib.hid (Vk_6.out.fr (Fr.alloc ku (.cells #[.slice ka kM.length kc, .slice kb kX.length kd] 30)))
    clear F_5 HA_5 Vk_6
    have Hk_8 := Lib.hid (Box2.new ku (.slice ka kM.length kc) (.slice kb kX.length kd) 30 _ rfl)
    have ks : ku.heap.size < (ku.alloc (.cells #[.slice ka kM.length kc, .slice kb kX.length kd] 30)).heap.size := by simp
    generalize (ku.alloc (.cells #[.slice ka kM.length kc, .slice kb kX.length kd] 30)) = kv at *
    refine (laws_toChc M0 X0 aM0 aL0 cM0 cL0 _ (HS0.out.fr F_7.out) FC.out).mono ?_
    rintro e qw ⟨q1, q2, qY, rfl, qH, qV, qf⟩
    unfold caV
    have ql : qY.length = X0.length := by have e1 := congrArg List.length qH; simpa [lns] using e1
    have qE := Lib.hid qH
    have qB := qV.bl
    clear qH
    have F_9 := Lib.hid (Fr.trans F_7.out qf)
    have HA_9 := Lib.hid (HA_7.out.fr qf)
    have Vk_9 := Lib.hid (Vk_7.out.fr qf)
    have Hk_9 := Lib.hid (Hk_8.out.fr qf)
    clear F_7 HA_7 Vk_7 Hk_8
    have HV_10 := Lib.hid (qV)
    have qs := qf.size
    clear qV qf
    go_wp2_with fail
    have F_11 := Lib.hid (Fr.trans F_9.out (Fr.alloc qw (.cells #[.slice (some ⟨q1, 0, none⟩) M0.length M0.length, .slice (some ⟨q2, 0, none⟩) X0.length X0.length] 30)))
    have HA_11 := Lib.hid (HA_9.out.fr (Fr.alloc qw (.cells #[.slice (some ⟨q1, 0, none⟩) M0.length M0.length, .slice (some ⟨q2, 0, none⟩) X0.length X0.length] 30)))
    have Vk_11 := Lib.hid (Vk_9.out.fr (Fr.alloc qw (.cells #[.slice (some ⟨q1, 0, none⟩) M0.length M0.length, .slice (some ⟨q2, 0, none⟩) X0.length X0.length] 30)))
    have Hk_11 := Lib.hid (Hk_9.out.fr (Fr.alloc qw (.cells #[.slice (some ⟨q1, 0, none⟩) M0.length M0.length, .slice (some ⟨q2, 0, none⟩) X0.length X0.length] 30)))
    have HV_11 := Lib.hid (HV_10.out.fr (Fr.alloc qw (.cells #[.slice (some ⟨q1, 0, none⟩) M0.length M0.length, .slice (some ⟨q2, 0, none⟩) X0.length X0.length] 30)))
    clear F_9 HA_9 Vk_9 Hk_9 HV_10
    have HX_12 := Lib.hid (Box2.new qw (.slice (some ⟨q1, 0, none⟩) M0.length M0.length) (.slice (some ⟨q2, 0, none⟩) X0.length X0.length) 30 _ rfl)
    have v2s : qw.heap.size < (qw.alloc (.cells #[.slice (some ⟨q1, 0, none⟩) M0.length M0.length, .slice (some ⟨q2, 0, none⟩) X0.length X0.length] 30)).heap.size := by simp
    generalize (qw.alloc (.cells #[.slice (some ⟨q1, 0, none⟩) M0.length M0.length, .slice (some ⟨q2, 0, none⟩) X0.length X0.length] 30)) = v2 at *
    have qC := impl_ChcLay M0 qY (some ⟨q1, 0, none⟩) (some ⟨q2, 0, none⟩) M0.length X0.length x1 x2 v2 HV_11.out.src (few_lns HN.out qE.out.symm).few (Nat.le_refl _)
    unfold caV at qC
    rw [ql, qE.out, ht] at qC
    refine (qC).mono ?_
    rintro e gu ⟨gM, gX, ga, gb, gc, gd, rfl, gH, gV, gq, gf⟩
    unfold caV
    have gz := gf.size
    have gB := gV.bl
    obtain ⟨ge, gE0⟩ := ch_inj HH.out gH
    subst ge
    have gE := Lib.hid gE0.symm
    have gT := Lib.hid (few_lns HT.out gE0)
    clear gH gE0
    clear qC
    have F_13 := Lib.hid (Fr.trans F_11.out gf)
    have HA_13 := Lib.hid (HA_11.out.fr gf)
    have Vk_13 := Lib.hid (Vk_11.out.fr gf)
    have Hk_13 := Lib.hid (Hk_11.out.fr gf)
    have HV_13 := Lib.hid (HV_11.out.fr gf)
    have HX_13 := Lib.hid (HX_12.out.fr gf)
    clear F_11 HA_11 Vk_11 Hk_11 HV_11 HX_12
    have Vg_14 := Lib.hid (gV)
    clear gV gf
    obtain ⟨_, b0, b1, _, _⟩ := Hk_13.out
    have nA : ¬ ku.heap.size = gu.heap.size := by omega
    have nB : ¬ gu.heap.size = ku.heap.size := by omega
    go_wp2_with fail
    clear b0 b1 nA nB
    have F_15 := Lib.hid (Fr.trans F_13.out (Fr.alloc gu (.cells #[.slice ga kM.length gc, .slice gb gX.length gd] 30)))
    have HA_15 := Lib.hid (HA_13.out.fr (Fr.alloc gu (.cells #[.slice ga kM.length gc, .slice gb gX.length gd] 30)))
    have Vk_15 := Lib.hid (Vk_13.out.fr (Fr.alloc gu (.cells #[.slice ga kM.length gc, .slice gb gX.length gd] 30)))
    have Hk_15 := Lib.hid (Hk_13.out.fr (Fr.alloc gu (.cells #[.slice ga kM.length gc, .slice gb gX.length gd] 30)))
    have HV_15 := Lib.hid (HV_13.out.fr (Fr.alloc gu (.cells #[.slice ga kM.length gc, .slice gb gX.length gd] 30)))
    have HX_15 := Lib.hid (HX_13.out.fr (Fr.alloc gu (.cells #[.slice ga kM.length gc, .slice gb gX.length gd] 30)))
    have Vg_15 := Lib.hid (Vg_14.out.fr (Fr.alloc gu (.cells #[.slice ga kM.length gc, .slice gb gX.length gd] 30)))
    clear F_13 HA_13 Vk_13 Hk_13 HV_13 HX_13 Vg_14
    have Hg_16 := Lib.hid (Box2.new gu (.slice ga kM.length gc) (.slice gb gX.length gd) 30 _ rfl)
    have gs : gu.heap.size < (gu.alloc (.cells #[.slice ga kM.length gc, .slice gb gX.length gd] 30)).heap.size := by simp
    generalize (gu.alloc (.cells #[.slice ga kM.length gc, .slice gb gX.length gd] 30)) = gv at *
    refine (laws_eqChc_same kM gX kX _ _ _ _ _ _ _ _ _ Vg_15.out.src Vk_15.out.src gE.out gT.out.few).mono ?_
    rintro e v4 ⟨rfl, v4f⟩
    have F_17 := Lib.hid (Fr.trans F_15.out v4f)
    have HA_17 := Lib.hid (HA_15.out.fr v4f)
    have Vk_17 := Lib.hid (Vk_15.out.fr v4f)
    have Hk_17 := Lib.hid (Hk_15.out.fr v4f)
    have HV_17 := Lib.hid (HV_15.out.fr v4f)
    have HX_17 := Lib.hid (HX_15.out.fr v4f)
    have Vg_17 := Lib.hid (Vg_15.out.fr v4f)
    have Hg_17 := Lib.hid (Hg_16.out.fr v4f)
    clear F_15 HA_15 Vk_15 Hk_15 HV_15 HX_15 Vg_15 Hg_16
    have v4s := v4f.size
    clear v4f
    go_wp2_with fail
    have KT := Lib.hid (fun v (f : Fr v4 v) => laws_toChc M0 X0 aM0 aL0 cM0 cL0 v (HS0.out.fr (Fr.trans F_17.out f)) FC.out)
    have KE := Lib.hid (fun v (f : Fr v4 v) => (HV_17.out.fr f).src)
    obtain ⟨_, c0, c1, _, _⟩ := HX_17.out
    obtain ⟨_, d0, d1, _, _⟩ := HA_17.out
    go_region_held3 (fun v => v.cell? ⟨qw.heap.size, 0, none⟩ = some (.slice (some ⟨q1, 0, none⟩) M0.length M0.length) ∧ v.cell? ⟨qw.heap.size, 1, none⟩ = some (.slice (some ⟨q2, 0, none⟩) X0.length X0.length) ∧ v.cell? ⟨w.heap.size, 0, none⟩ = some (.slice aM0 M0.length cM0) ∧ v.cell? ⟨w.heap.size, 1, none⟩ = some (.slice aL0 X0.length cL0))
      (first | (go_keep; done))
      (first
        | (go_at_call 20; refine (KT.out _ (Below.drew (Below.refl _ _))).mono ?_; rintro e v5a ⟨t1, t2, tY, rfl, tH, tV, tf⟩; unfold caV; have tE := Lib.hid tH; have tl : tY.length = X0.length := by {have e1 := congrArg List.length tH; simpa [lns] using e1}; rw [tl]; have FT := Lib.hid (show Fr v4 v5a from Fr.trans (Below.drew (Below.refl _ _)) tf); have VT := Lib.hid tV; have XT := Lib.hid (HX_17.out.fr FT.out); have AT := Lib.hid (HA_17.out.fr FT.out); obtain ⟨_, e0, e1, _, _⟩ := XT.out; obtain ⟨_, g0, g1, _, _⟩ := AT.out; clear tH tV tf)
        | (go_at_call 22; have KQ := laws_eqChc_same M0 qY tY (some ⟨q1, 0, none⟩) (some ⟨q2, 0, none⟩) (some ⟨t1, 0, none⟩) (some ⟨t2, 0, none⟩) M0.length X0.length M0.length X0.length _ (KE.out _ FT.out) VT.out.src (qE.out.trans tE.out.symm) (few_lns HN.out qE.out.symm).few; unfold caV at KQ; rw [ql, tl] at KQ; refine KQ.mono ?_; rintro e v5 ⟨rfl, tg⟩; clear KQ; have FS := Lib.hid (show Fr v4 v5 from Fr.trans FT.out tg); have XT2 := Lib.hid (HX_17.out.fr FS.out); have AT2 := Lib.hid (HA_17.out.fr FS.out); obtain ⟨_, i0, i1, _, _⟩ := XT2.out; obtain ⟨_, j0, j1, _, _⟩ := AT2.out; clear tg))
    clear KT KE c0 c1 d0 d1 XT AT XT2 AT2 e0 e1 g0 g1 i0 i1 j0 j1
    have F_18 := Lib.hid (Fr.trans F_17.out FS.out)
    have HA_18 := Lib.hid (HA_17.out.fr FS.out)
    have Vk_18 := Lib.hid (Vk_17.out.fr FS.out)
    have Hk_18 := Lib.hid (Hk_17.out.fr FS.out)
    have HV_18 := Lib.hid (HV_17.out.fr FS.out)
    have HX_18 := Lib.hid (HX_17.out.fr FS.out)
    have Vg_18 := Lib.hid (Vg_17.out.fr FS.out)
    have Hg_18 := Lib.hid (Hg_17.out.fr FS.out)
    clear F_17 HA_17 Vk_17 Hk_17 HV_17 HX_17 Vg_17 Hg_17
    
    obtain ⟨_, a0, a1, _, _⟩ := HX_18.out
    go_wp2_with fail
    have v5s := FS.out.size
    have qT := few_lns HN.out qE.out.symm
    have mC := laws_markChc _ M0 qY (some ⟨q1, 0, none⟩) (some ⟨q2, 0, none⟩) M0.length X0.length 1 v5 HV_18.out (by omega) qT (by omega) (by omega)
    unfold caV at mC
    rw [ql] at mC
    refine mC.mono ?_
    rintro e v6 ⟨rfl, K6, m6⟩
    clear a0 a1 mC K6
    clear HV_18 HX_18
    have F_19 := Lib.hid (fr_but F_18.out m6 (fun m hm => by have := qB _ hm; omega))
    have HA_19 := Lib.hid (HA_18.out.but m6 (fun hm => by have := qB _ hm; omega))
    have Vk_19 := Lib.hid (Vk_18.out.apart m6 (fun m hm hx => by have := qB _ hx; have := kB _ hm; omega))
    have Hk_19 := Lib.hid (Hk_18.out.but m6 (fun hm => by have := qB _ hm; omega))
    have Vg_19 := Lib.hid (Vg_18.out.apart m6 (fun m hm hx => by have := qB _ hx; have := gB _ hm; omega))
    have Hg_19 := Lib.hid (Hg_18.out.but m6 (fun hm => by have := qB _ hm; omega))
    clear F_18 HA_18 Vk_18 Hk_18 Vg_18 Hg_18
    have v6s := m6.size
    clear m6
    have hk6 : ¬ (1 : Int) + M0.length + 3 * X0.length + sumW qY X0.length < 0 := by omega
    obtain ⟨_, a0, a1, _, _⟩ := Hg_19.out
    obtain ⟨_, b0, b1, _, _⟩ := Hk_19.out
    go_wp2_with fail
    refine (laws_eqChc_same kM gX kX _ _ _ _ _ _ _ _ _ Vg_19.out.src Vk_19.out.src gE.out gT.out.few).mono ?_
    rintro e v7e ⟨rfl, v7ef⟩
    clear a0 a1 b0 b1
    have F_20 := Lib.hid (Fr.trans F_19.out v7ef)
    have HA_20 := Lib.hid (HA_19.out.fr v7ef)
    have Vk_20 := Lib.hid (Vk_19.out.fr v7ef)
    have Hk_20 := Lib.hid (Hk_19.out.fr v7ef)
    have Vg_20 := Lib.hid (Vg_19.out.fr v7ef)
    have Hg_20 := Lib.hid (Hg_19.out.fr v7ef)
    clear F_19 HA_19 Vk_19 Hk_19 Vg_19 Hg_19
    have v7es := v7ef.size
    clear v7ef
    obtain ⟨_, a0, a1, _, _⟩ := Hg_20.out
    go_wp2_with fail
    refine (laws_markChc _ kM gX _ _ _ _ 1 _ Vg_20.out (by omega) gT.out (by omega) (by omega)).mono ?_
    rintro e v7 ⟨rfl, K7, m7⟩
    clear a0 a1
    clear Vg_20
    have F_21 := Lib.hid (fr_but F_20.out m7 (fun m hm => by have := gB _ hm; omega))
    have HA_21 := Lib.hid (HA_20.out.but m7 (fun hm => by have := gB _ hm; omega))
    have Vk_21 := Lib.hid (Vk_20.out.apart m7 (fun m hm hx => by have := gB _ hx; have := kB _ hm; omega))
    have Hk_21 := Lib.hid (Hk_20.out.but m7 (fun hm => by have := gB _ hm; omega))
    have Hg_21 := Lib.hid (Hg_20.out.but m7 (fun hm => by have := gB _ hm; omega))
    clear F_20 HA_20 Vk_20 Hk_20 Hg_20
    have KG_22 := Lib.hid (K7)
    have v7s := m7.size
    clear m7 K7
    have hk7 : ¬ (1 : Int) + kM.length + 3 * gX.length + sumW gX gX.length < 0 := by omega
    obtain ⟨_, a0, a1, _, _⟩ := Hg_21.out
    go_wp2_with fail
    refine (laws_heldChc _ kM gX _ _ _ _ 1 _ KG_22.out gT.out (by omega) (by omega)).mono ?_
    rintro e v8 ⟨rfl, v8f⟩
    clear a0 a1
    have v8s := v8f.size
    have F_23 := Lib.hid (Fr.trans F_21.out v8f)
    have HA_23 := Lib.hid (HA_21.out.fr v8f)
    have Vk_23 := Lib.hid (Vk_21.out.fr v8f)
    have Hk_23 := Lib.hid (Hk_21.out.fr v8f)
    have Hg_23 := Lib.hid (Hg_21.out.fr v8f)
    have KG_23 := Lib.hid (KG_22.out.fr v8f)
    clear F_21 HA_21 Vk_21 Hk_21 Hg_21 KG_22
    clear v8f
    obtain ⟨_, a0, a1, _, _⟩ := HA_23.out
    go_wp2_with fail
    clear a0 a1
    refine (laws_toChc M0 X0 aM0 aL0 cM0 cL0 _ (HS0.out.fr F_23.out) FC.out).mono ?_
    rintro e ow ⟨o1, o2, oY, rfl, oH, oV, of⟩
    unfold caV
    have ol : oY.length = X0.length := by have e1 := congrArg List.length oH; simpa [lns] using e1
    have oE := Lib.hid oH
    have oB := oV.bl
    clear oH
    have F_24 := Lib.hid (Fr.trans F_23.out of)
    have HA_24 := Lib.hid (HA_23.out.fr of)
    have Vk_24 := Lib.hid (Vk_23.out.fr of)
    have Hk_24 := Lib.hid (Hk_23.out.fr of)
    have Hg_24 := Lib.hid (Hg_23.out.fr of)
    have KG_24 := Lib.hid (KG_23.out.fr of)
    clear F_23 HA_23 Vk_23 Hk_23 Hg_23 KG_23
    have Vo_25 := Lib.hid (oV)
    have os := of.size
    clear oV of
    go_wp2_with fail
    have oC := impl_ChcLay M0 oY (some ⟨o1, 0, none⟩) (some ⟨o2, 0, none⟩) M0.length X0.length x1 x2 ow Vo_25.out.src (few_lns HN.out oE.out.symm).few (Nat.le_refl _)
    unfold caV at oC
    rw [ol, oE.out, ht] at oC
    refine (oC).mono ?_
    rintro e pu ⟨pM, pX, pa, pb, pc, pd, rfl, pH, pV, pq, pf⟩
    unfold caV
    have pz := pf.size
    have pB := pV.bl
    obtain ⟨pe, pE0⟩ := ch_inj HH.out pH
    subst pe
    have pE := Lib.hid pE0.symm
    have pT := Lib.hid (few_lns HT.out pE0)
    clear pH pE0
    clear oC
    clear Vo_25
    have F_26 := Lib.hid (Fr.trans F_24.out pf)
    have HA_26 := Lib.hid (HA_24.out.fr pf)
    have Vk_26 := Lib.hid (Vk_24.out.fr pf)
    have Hk_26 := Lib.hid (Hk_24.out.fr pf)
    have Hg_26 := Lib.hid (Hg_24.out.fr pf)
    have KG_26 := Lib.hid (KG_24.out.fr pf)
    clear F_24 HA_24 Vk_24 Hk_24 Hg_24 KG_24
    have Vp_27 := Lib.hid (pV)
    clear pV pf
    obtain ⟨_, b0, b1, _, _⟩ := Hk_26.out
    have nA : ¬ ku.heap.size = pu.heap.size := by omega
    have nB : ¬ pu.heap.size = ku.heap.size := by omega
    go_wp2_with fail
    clear b0 b1 nA nB
    have F_28 := Lib.hid (Fr.trans F_26.out (Fr.alloc pu (.cells #[.slice pa kM.length pc, .slice pb pX.length pd] 30)))
    have HA_28 := Lib.hid (HA_26.out.fr (Fr.alloc pu (.cells #[.slice pa kM.length pc, .slice pb pX.length pd] 30)))
    have Vk_28 := Lib.hid (Vk_26.out.fr (Fr.alloc pu (.cells #[.slice pa kM.length pc, .slice pb pX.length pd] 30)))
    have Hk_28 := Lib.hid (Hk_26.out.fr (Fr.alloc pu (.cells #[.slice pa kM.length pc, .slice pb pX.length pd] 30)))
    have Hg_28 := Lib.hid (Hg_26.out.fr (Fr.alloc pu (.cells #[.slice pa kM.length pc, .slice pb pX.length pd] 30)))
    have KG_28 := Lib.hid (KG_26.out.fr (Fr.alloc pu (.cells #[.slice pa kM.length pc, .slice pb pX.length pd] 30)))
    have Vp_28 := Lib.hid (Vp_27.out.fr (Fr.alloc pu (.cells #[.slice pa kM.length pc, .slice pb pX.length pd] 30)))
    clear F_26 HA_26 Vk_26 Hk_26 Hg_26 KG_26 Vp_27
    have Hp_29 := Lib.hid (Box2.new pu (.slice pa kM.length pc) (.slice pb pX.length pd) 30 _ rfl)
    have ps : pu.heap.size < (pu.alloc (.cells #[.slice pa kM.length pc, .slice pb pX.length pd] 30)).heap.size := by simp
    generalize (pu.alloc (.cells #[.slice pa kM.length pc, .slice pb pX.length pd] 30)) = pv at *
    refine (laws_eqChc_same kM pX kX _ _ _ _ _ _ _ _ _ Vp_28.out.src Vk_28.out.src pE.out pT.out.few).mono ?_
    rintro e v9 ⟨rfl, v9f⟩
    have F_30 := Lib.hid (Fr.trans F_28.out v9f)
    have HA_30 := Lib.hid (HA_28.out.fr v9f)
    have Vk_30 := Lib.hid (Vk_28.out.fr v9f)
    have Hk_30 := Lib.hid (Hk_28.out.fr v9f)
    have Hg_30 := Lib.hid (Hg_28.out.fr v9f)
    have KG_30 := Lib.hid (KG_28.out.fr v9f)
    have Vp_30 := Lib.hid (Vp_28.out.fr v9f)
    have Hp_30 := Lib.hid (Hp_29.out.fr v9f)
    clear F_28 HA_28 Vk_28 Hk_28 Hg_28 KG_28 Vp_28 Hp_29
    have v9s := v9f.size
    clear v9f
    obtain ⟨_, a0, a1, _, _⟩ := Hg_30.out
    go_wp2_with fail
    refine (laws_heldChc _ kM gX _ _ _ _ 1 _ KG_30.out gT.out (by omega) (by omega)).mono ?_
    rintro e v10 ⟨rfl, v10f⟩
    clear a0 a1
    have v10s := v10f.size
    have F_31 := Lib.hid (Fr.trans F_30.out v10f)
    have HA_31 := Lib.hid (HA_30.out.fr v10f)
    have Vk_31 := Lib.hid (Vk_30.out.fr v10f)
    have Hk_31 := Lib.hid (Hk_30.out.fr v10f)
    have Hg_31 := Lib.hid (Hg_30.out.fr v10f)
    have KG_31 := Lib.hid (KG_30.out.fr v10f)
    have Vp_31 := Lib.hid (Vp_30.out.fr v10f)
    have Hp_31 := Lib.hid (Hp_30.out.fr v10f)
    clear F_30 HA_30 Vk_30 Hk_30 Hg_30 KG_30 Vp_30 Hp_30
    clear v10f
    go_wp2_with fail
    go_ret
    exact ⟨rfl, F_31.out⟩
  · go_wp2_with fail
    go_ret
    exact ⟨rfl, HF0.out.trans f1⟩

set_option maxRecDepth 100000 in
theorem lifted (os : Os) (started : os.Started) (H : Type) (enc : TypeId × Value → H) :
    ReturnsInHanded {} Try.checked os 6 .any (Rows.fnExactChcLaySpec.pre6 enc Try.prog Try.f6 Rows.fnExactChcLayRow.domain false) (Rows.fnExactChcLaySpec.post enc Try.prog Try.f6 false true false false) := by
  refine returnsInHanded_of_change (C := Try.checked) own started (by kernel_rfl) Try.func6
    (ChangeSpec.witness6 (enc := enc) (C := Try.checked) false ⟨#[], #[.agg #[.slice none 0 0, .slice none 0 0], .int .i64 0, .int .i64 0], []⟩ 8 (by kernel_rfl) (by kernel_rfl) (by kernel_rfl) (by kernel_rfl)) ?_
  intro W base args ds gs before hval0 hW hcnd _
  have hval : ∀ (j : Nat) t v, Try.f6.params[j]? = some t → args[j]? = some v → Value.okWide Try.prog W .any base t v := hval0
  have hW' := hW
  obtain ⟨p, q, hA0, hV, rfl, hfz, hnd⟩ := hW
  have hA : DataW.TrodAll enc Try.prog W 0 (fun _ => true) true Try.f6.params.toList args.toList ds p := hA0
  rw [Try.params6] at hA hval
  obtain ⟨v0, vs0, d0, ds0, p0, q0, hargs, rfl, rfl, h0, r0⟩ := trodAll_cons hA
  obtain ⟨v1, vs1, d1, ds1, p1, q1, rfl, rfl, rfl, h1, r1⟩ := trodAll_cons r0
  obtain ⟨v2, vs2, d2, ds2, p2, q2, rfl, rfl, rfl, h2, r2⟩ := trodAll_cons r1
  obtain ⟨rfl, rfl, rfl⟩ := trodAll_nil r2
  obtain rfl : args = #[v0, v1, v2] := by cases args; simp_all
  obtain ⟨rfl, rfl⟩ := trodVars_none hV
  have k0 := h0
  have lt0 : ∀ x ∈ p0, x.block < W.heap.size := by obtain ⟨m, hm⟩ := k0; exact DataW.trod_lt m _ _ _ hm
  obtain ⟨M0, X0, aM0, aL0, cM0, cL0, rfl, hs0, hb0, hc0⟩ := open_chc (hval 0 25 v0 rfl rfl) h0
  have k1 := h1
  have lt1 : ∀ x ∈ p1, x.block < W.heap.size := by obtain ⟨m, hm⟩ := k1; exact DataW.trod_lt m _ _ _ hm
  obtain ⟨x1, rfl, rfl, rfl, wf1⟩ := open_int Try.underlying3 (hval 1 3 v1 rfl rfl) h1
  have k2 := h2
  have lt2 : ∀ x ∈ p2, x.block < W.heap.size := by obtain ⟨m, hm⟩ := k2; exact DataW.trod_lt m _ _ _ hm
  obtain ⟨x2, rfl, rfl, rfl, wf2⟩ := open_int Try.underlying3 (hval 2 3 v2 rfl rfl) h2
  clear hA0 hval0
  refine (walk M0 X0 aM0 aL0 cM0 cL0 x1 x2 W hs0 hb0 hc0 wf1 wf2).mono fun e W' ⟨he, bel⟩ => ?_
  subst he
  exact ⟨_, rfl, _, _, _, [], _, [], hW', trodAll_mk1 (shut_bool Try.underlying4 _), (trodAll_cons_mk (Below.trod laidOut (by kernel_rfl) (of_decide_eq_true (by kernel_rfl)) k0 bel lt0) (trodAll_cons_mk (Below.trod laidOut (by kernel_rfl) (of_decide_eq_true (by kernel_rfl)) k1 bel lt1) (trodAll_cons_mk (Below.trod laidOut (by kernel_rfl) (of_decide_eq_true (by kernel_rfl)) k2 bel lt2) trodAll_mk0))), rfl, bel.frame _, fun h => by cases h⟩

theorem over : Rows.fnExactChcLayRow.holds Try.pinned (OpenSpec.ofChange Rows.fnExactChcLaySpec) :=
  OpenClaim.holds_of_wide 6 Try.f6 rfl rfl rfl rfl rfl rfl rfl ⟨rfl, rfl, rfl, rfl, rfl⟩ rfl rfl rfl rfl rfl (by kernel_rfl) Try.func6 (by kernel_rfl)
    (of_decide_eq_true (by kernel_rfl)) (by unfold Func.isWrapper; first | (rw [if_pos (by decide +kernel)]; kernel_rfl) | (rw [if_neg (by decide +kernel)]; exact ⟨rfl, rfl⟩))
    (fun os started H enc _ => lifted os started H enc)

/-- THE STATEMENT. -/
theorem proved : Rows.FnExactChcLaySaid := over
#print axioms proved
end Go.Proofs.Ytoacgjjpipdkjaa.fnExactChcLay
